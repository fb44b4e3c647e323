import Derived.Test.YtmhgaggpdggbeaaGreatDoorWayP
import Derived.Test.YtmhgaggpdggbeaaGreatDoorCls2
import Derived.Test.YtmhgaggpdggbeaaGreatDoorDMark
import Derived.Test.YtmhgaggpdggbeaaGreatDoorBi
import Derived.Test.YtmhgaggpdggbeaaGreatDoorTClass
namespace Go.Proofs.YtmhgaggpdggbeaaGreatDoor
open Go.RowKit
set_option maxRecDepth 20000
set_option linter.unusedVariables false

theorem tx_ne {a b:ByteArray} (h:a ≠ b):(a.toList == b.toList)=false:=by
 rw [ByteArray.toList_eq,ByteArray.toList_eq,beq_eq_false_iff_ne]
 exact fun e=>h (WideShapes.bytes_inj e)
theorem tx_eq {a b:ByteArray} (h:a=b):(a.toList == b.toList)=true:=by rw [h];simp

abbrev nmC (c:CTup):ByteArray:=c.1
abbrev suC (c:CTup):ByteArray:=c.2.1
abbrev fiC (c:CTup):Bool:=c.2.2.1
abbrev abC (c:CTup):Bool:=c.2.2.2.1
abbrev fsC (c:CTup):List FieldD:=c.2.2.2.2.1
abbrev msC (c:CTup):List MTup:=c.2.2.2.2.2
def tE:ByteArray:=⟨#[]⟩
def initN:ByteArray:=⟨#[60,105,110,105,116,62]⟩
def initD:ByteArray:=⟨#[40,41,86]⟩
def biC1 (n:ByteArray):CTup:=if n=objN then (n,tE,false,false,[],[]) else if n=errN then (n,objN,false,false,[],[]) else (n,errN,true,false,[],[])
def biC:List CTup:=biN.map biC1
def allC (L:List CTup):List CTup:=biC ++ L

theorem biC1_nm (n:ByteArray):nmC (biC1 n)=n:=by unfold biC1;split;rfl;split<;>rfl
theorem biC_nm:biC.map nmC=biN:=by
 unfold biC
 rw [List.map_map]
 conv=>rhs;rw [← List.map_id biN]
 exact List.map_congr_left fun n _=>biC1_nm n
theorem biC_empty:∀ b ∈ biC,fsC b=[]∧msC b=[]∧abC b=false:=by
 intro b hb
 obtain ⟨n,hn,rfl⟩:=List.mem_map.1 hb
 unfold biC1
 split
 ·exact⟨rfl,rfl,rfl⟩
 ·split<;>exact⟨rfl,rfl,rfl⟩

theorem outD_res (s:ByteArray) {m:Nat} (hs:s.size≤m):(outD s).2.1.size≤m:=by
 unfold outD
 split
 ·exact Nat.zero_le _
 ·rcases hr:rdD s with k | ⟨ps,q⟩
  ·exact Nat.zero_le _
  ·unfold rdD rdFrom at hr
   split at hr
   ·rcases hp:rdPs s 8 1 [] with e | ⟨j,qs⟩
    ·rw [hp] at hr;cases hr
    ·rw [hp] at hr
     simp only [rdRs] at hr
     split at hr
     ·split at hr
      ·cases hr;simp only;rw [ByteArray.size_extract];omega
      ·cases hr
     ·cases hr
   ·cases hr

def fixG {α:Type} (nm:α→ByteArray) (A:List α) (n:ByteArray):Option Nat:=A.findIdx? fun c=>decide (nm c=n)
def ixI:Option Nat→Int
 | some i=>(i:Int)
 | none=>-1

theorem fix_some {α:Type} {nm:α→ByteArray} {A:List α} {n:ByteArray} {i:Nat} (h:fixG nm A n=some i):∃ hi:i<A.length,nm A[i]=n∧lkG nm A n=some A[i]∧∀ j (hj:j<A.length),j<i→nm A[j] ≠ n:=by
 unfold fixG at h
 rw [List.findIdx?_eq_some_iff_getElem] at h
 obtain ⟨hi,h1,h2⟩:=h
 refine ⟨hi,by simpa using h1,?_,fun j hj hji=>by simpa using h2 j hji⟩
 unfold lkG
 rw [List.find?_eq_some_iff_getElem]
 exact⟨h1,i,hi,rfl,fun j hj=>by simpa using h2 j hj⟩
theorem fix_none {α:Type} {nm:α→ByteArray} {A:List α} {n:ByteArray} (h:fixG nm A n=none):lkG nm A n=none:=by
 unfold fixG at h
 rw [List.findIdx?_eq_none_iff] at h
 rw [lkG_none]
 intro c hc
 simpa using h c hc
theorem fix_at {α:Type} {nm:α→ByteArray} {A:List α} {n:ByteArray} {i:Nat} (hi:i<A.length) (h1:nm A[i]=n) (h2:∀ j (hj:j<A.length),j<i→nm A[j] ≠ n):fixG nm A n=some i:=by
 unfold fixG
 rw [List.findIdx?_eq_some_iff_getElem]
 exact⟨hi,by simpa using h1,fun j hj=>by simpa using h2 j (by omega) hj⟩
theorem fix_no {α:Type} {nm:α→ByteArray} {A:List α} {n:ByteArray} (h2:∀ j (hj:j<A.length),nm A[j] ≠ n):fixG nm A n=none:=by
 unfold fixG
 rw [List.findIdx?_eq_none_iff]
 intro c hc
 obtain ⟨i,hi,rfl⟩:=List.mem_iff_getElem.1 hc
 simpa using h2 i hi
theorem fix_cases {α:Type} (nm:α→ByteArray) (A:List α) (n:ByteArray):(fixG nm A n=none∧lkG nm A n=none) ∨ ∃ i,∃ hi:i<A.length,fixG nm A n=some i∧nm A[i]=n∧lkG nm A n=some A[i]:=by
 cases h:fixG nm A n with
 | none=>exact .inl ⟨rfl,fix_none h⟩
 | some i =>
  obtain ⟨hi,h1,h2,_⟩:=fix_some h
  exact .inr ⟨i,hi,rfl,h1,h2⟩

def knB (L:List CTup) (n:ByteArray):Bool:=(lkG nmC (allC L) n).isSome
def spS (L:List CTup) (n:ByteArray):ByteArray:=match lkG nmC (allC L) n with
 | some c=>suC c
 | none=>tE
def tyK (L:List CTup) (t:ByteArray):Bool:=decide (clS t=tE) || knB L (clS t)
def deK (L:List CTup) (d:ByteArray):Bool:=(outD d).1.all (tyK L) && tyK L (outD d).2.1
def tsK (L:List CTup) (c:CTup):Bool:=(fsC c).all (fun f=>tyK L f.2.1) && (msC c).all (fun m=>deK L m.2.1)
def mFixL (ms:List MTup) (n d:ByteArray):Option Nat:=ms.findIdx? fun m=>decide ((mD m).name=n) && decide ((mD m).desc=d)

theorem lk_all (L:List CTup) (n:ByteArray):lkG nmC (allC L) n=(lkG nmC biC n).or (lkG nmC L n):=lkG_app biC L n
theorem lk_bi (n:ByteArray):lkG nmC biC n=(fixG id biN n).map fun i=>biC1 (biN.getD i tE):=by
 rcases fix_cases (id:ByteArray→ByteArray) biN n with ⟨h1,h2⟩ | ⟨i,hi,h1,h2,h3⟩
 ·rw [h1]
  show _=none
  rw [lkG_none] at h2 ⊢
  intro c hc
  obtain ⟨m,hm,rfl⟩:=List.mem_map.1 hc
  rw [biC1_nm]
  exact h2 m hm
 ·rw [h1]
  show _=some (biC1 (biN.getD i tE))
  have e:biN.getD i tE=n:=by rw [List.getD_eq_getElem?_getD,List.getElem?_eq_getElem hi];exact h2
  rw [e]
  have hn:(biC.map nmC).Nodup:=by rw [biC_nm];decide
  have hm:biC1 n ∈ biC:=List.mem_map.2 ⟨n,h2 ▸ List.getElem_mem hi,rfl⟩
  have:=lkG_mem hn hm
  rw [biC1_nm] at this
  exact this
end Go.Proofs.YtmhgaggpdggbeaaGreatDoor
