import Derived.Test.YtmhgaggpdggbeaaGreatDoorOpF
import Derived.Test.YtmhgaggpdggbeaaGreatDoorDLaw
import Derived.Deep.RegionWith
namespace Go.Proofs.YtmhgaggpdggbeaaGreatDoor
open Go.RowKit
set_option maxRecDepth 20000
set_option linter.unusedVariables false

def mkL:Nat→Nat→ByteArray→ByteArray
 | 0,_,out=>out
 | f+1,k,out=>if k=0 then out else mkL f (k / 10) (strOfNums [48+((k % 10:Nat):Int)] ++ out)

def mkT (k:Nat):ByteArray:=⟨#[109]⟩ ++ mkL k k ⟨#[]⟩

set_option maxHeartbeats 1000000 in
theorem lawMark (k:Nat) (w:World) (h1:1≤k) (h2:k≤70368744177664) :
  Calls Tryz.prog 46 #[.int .i64 (k:Int)] w fun e w'=>e = .returned (.string (mkT k))∧Below w.heap.size w w':=by
 have d0:decide ((k:Int)≤0)=false:=by simp;omega
 go_enter Tryz.func46,Tryz.ntmps46
 go_wp2_with fail
 go_loopw [0,3] (fun j0 j3 wr=>∃ (m f:Nat) (out:ByteArray),j0 = .int .i64 (m:Int)∧j3 = .string out∧m≤f∧mkL f m out=mkL k k ⟨#[]⟩∧out.size+m≤k∧Below w.heap.size w wr) (fun j0 _ _=>(intOf j0).toNat)
 case atStart=>exact⟨k,k,⟨#[]⟩,rfl,rfl,Nat.le_refl _,rfl,by simp [ByteArray.size],Below.refl _ _⟩
 case round =>
  obtain ⟨m,f,out,rfl,rfl,hf,hrun,hsz,hb⟩:=hrel
  have HB:Hid (Below w.heap.size w wr):=hb
  have HR:Hid (mkL f m out=mkL k k ⟨#[]⟩):=hrun
  clear hb hrun
  by_cases hm:0<m
  ·obtain ⟨d,hd⟩:∃ d,d=m % 10:=⟨_,rfl⟩
   obtain ⟨n,hn⟩:∃ n,n=m / 10:=⟨_,rfl⟩
   have hc:=convLit wr [48+(d:Int)]
   simp only [List.length_cons,List.length_nil,List.map_cons,List.map_nil] at hc
   have e1:(m:Int).tmod 10=(d:Int):=by rw [Int.tmod_eq_emod_of_nonneg (by omega)];omega
   have e2:(m:Int).tdiv 10=(n:Int):=by rw [Int.tdiv_eq_ediv_of_nonneg (by omega)];omega
   have hd9:d≤9:=by omega
   have hnm:n+1≤m:=by omega
   have hs1:(strOfNums [48+(d:Int)]).size=1:=by rw [strOfNums_size];rfl
   obtain ⟨f',hf'⟩:∃ f',f=f'+1:=⟨f - 1,by omega⟩
   have HX:Hid (mkL f' n (strOfNums [48+(d:Int)] ++ out)=mkL k k ⟨#[]⟩):=by
    show _=_
    rw [← HR.out,hf',mkL,if_neg (by omega),← hd,← hn]
   have hdb:(48+(d:Int)) % 256=48+(d:Int):=by omega
   clear hd hn HR
   generalize strOfNums [48+(d:Int)]=y at *
   go_wp2
   go_roundw
   case rel=>exact⟨n,f',y ++ out,rfl,rfl,by omega,HX.out,by rw [ByteArray.size_append];omega,HB.out.alloc HB.out.size _⟩
   case measure=>simp [intOf];omega
  ·have HX:Hid (⟨#[109]⟩ ++ out=mkT k):=by
    show _=_
    unfold mkT
    rw [← HR.out]
    obtain rfl:m=0:=by omega
    cases f<;>rfl
   clear HR
   obtain rfl:m=0:=by omega
   go_wp2
   go_ret
   exact⟨rS HX.out,HB.out⟩
structure But (g:Nat) (w w':World):Prop where
 os:w'.os=w.os
 tape:w'.tape=w.tape
 output:w'.output=w.output
 size:w.heap.size≤w'.heap.size
 block:∀ b,b<w.heap.size→b ≠ g→w'.heap[b]?=w.heap[b]?

theorem But.refl (g:Nat) (w:World):But g w w:=⟨rfl,rfl,rfl,Nat.le_refl _,fun _ _ _=>rfl⟩
theorem But.on {g:Nat} {a b c:World} (h:But g a b) (k:Below b.heap.size b c):But g a c :=
 ⟨k.os.trans h.os,k.tape.trans h.tape,k.output.trans h.output,Nat.le_trans h.size k.size,fun i hi hg=>(k.block i (Nat.lt_of_lt_of_le hi h.size)).trans (h.block i hi hg)⟩
theorem But.set {g:Nat} {a b:World} (h:But g a b) (j:Nat) (v:Value):But g a (b.setCell ⟨g,j,none⟩ v) :=
 ⟨h.os,h.tape,h.output,by simpa using h.size,fun i hi hg=>(Below.heap_setCell _ _ _ _ hg).trans (h.block i hi hg)⟩
theorem But.cell {g:Nat} {w w':World} {p:Addr} {v:Option Value} (h:But g w w') (hp:p.block<w.heap.size) (hg:p.block ≠ g) (hc:w.cell? p=v):w'.cell? p=v :=
 (World.cell?_of_block (h.block _ hp hg)).trans hc
theorem But.below {g B:Nat} {w0 w w':World} (h:But g w w') (h0:Below B w0 w) (hB:B≤g) (hw:B≤w0.heap.size):Below B w0 w' :=
 ⟨h.os.trans h0.os,h.tape.trans h0.tape,h.output.trans h0.output,Nat.le_trans h0.size h.size,fun k hk=>(h.block k (by have:=h0.size;omega) (by omega)).trans (h0.block k hk)⟩

def mkF (k n:Nat) (f:Nat→Value) (i:Nat):Value:=if i<n then .string (mkT (k+i)) else f i

end Go.Proofs.YtmhgaggpdggbeaaGreatDoor
