import Derived.Test.YtmhgaggpdggbeaaGreatDoorWd0
import Derived.Test.YtmhgaggpdggbeaaGreatDoorSplit
namespace Go.Proofs.YtmhgaggpdggbeaaGreatDoor
open Go.RowKit
set_option maxRecDepth 20000
set_option linter.unusedVariables false

theorem classAt {w:World} {b o i:Nat} {d:CTup} (h:classR.At w ⟨b,o,none⟩ i d) :
  ∃ vc vh,w.cell? ⟨b,o+i * 6,none⟩=some (.string (nmC d))∧w.cell? ⟨b,o+i * 6+1,none⟩=some (.string (suC d))∧w.cell? ⟨b,o+i * 6+2,none⟩=some (.bool (fiC d))∧w.cell? ⟨b,o+i * 6+3,none⟩=some (.bool (abC d)) ∧
   w.cell? ⟨b,o+i * 6+4,none⟩=some vc∧w.cell? ⟨b,o+i * 6+5,none⟩=some vh∧(nmC d).size≤maxLen∧(suC d).size≤maxLen∧fieldR.slice.In w [vc] (fsC d)∧methR.slice.In w [vh] (msC d):=by
 obtain ⟨cs,hc,hin⟩:=h
 obtain ⟨vc,vh,rfl,s0,s1,h4,h5⟩:=classR_in hin
 have hk:classR.k=6:=rfl
 rw [hk] at hc
 have g0:=hc 0 (by omega)
 have g1:=hc 1 (by omega)
 have g2:=hc 2 (by omega)
 have g3:=hc 3 (by omega)
 have g4:=hc 4 (by omega)
 have g5:=hc 5 (by omega)
 simp only [List.getElem?_cons_zero,List.getElem?_cons_succ,plain_add,← Nat.add_assoc,Nat.add_zero] at g0 g1 g2 g3 g4 g5
 exact⟨vc,vh,g0,g1,g2,g3,g4,g5,s0,s1,h4,h5⟩

set_option maxRecDepth 100000 in
set_option maxHeartbeats 2000000 in
theorem specBuilt (n:ByteArray) (w:World) :
  Calls Tryz.prog 65 #[.string n] w fun e w'=>e = .returned (.int .i64 (ixI (fixG id biN n)))∧Below w.heap.size w w':=by
 have HN:Hid ((∀ j (hj:j<biN.length),biN[j] ≠ n)→-1=ixI (fixG id biN n)):=fun h=>by rw [fix_no h];rfl
 have HY:Hid (∀ i (hi:i<biN.length),biN[i]=n→(∀ j (hj:j<biN.length),j<i→biN[j] ≠ n)→(i:Int)=ixI (fixG id biN n)):=fun i hi h1 h2=>by rw [fix_at (nm:=id) hi h1 h2];rfl
 have h8:biN.length=8:=rfl
 have HBI:Hid (Calls Tryz.prog 96 #[] w fun e w'=>Below w.heap.size w w'∧∃ v,e = .returned v∧w'.ownsRow w.heap.size 9 1 v biN.length (sC biN)):=specBuiltIn w
 generalize ixI (fixG id biN n)=res at *
 generalize biN=B at *
 go_enter Tryz.func65,Tryz.ntmps65
 go_wp2_with fail
 refine Calls.mono HBI.out ?_
 rintro e w1 ⟨hb1,v,rfl,ho⟩
 obtain ⟨g,cp,ev,hg1,hg2⟩:=ho.form (by omega)
 subst ev
 have HB1:Hid (Below w.heap.size w w1):=hb1
 have HC:Hid (∀ i (h:i<B.length),w1.cell? ⟨g,i,none⟩=some (.string B[i])):=fun i h=>by rw [ho.cellAt i (by omega),sC,List.getElem?_map,List.getElem?_eq_getElem h];rfl
 clear hb1 ho HBI
 go_wp2_with fail
 go_loopw [4] (fun j4 wr=>∃ i:Nat,i≤B.length∧j4 = .int .i64 (i:Int)∧wr=w1∧∀ j (hj:j<B.length),j<i→B[j] ≠ n) (fun j4 _=>B.length - (intOf j4).toNat)
 case atStart=>exact⟨0,Nat.zero_le _,rfl,rfl,fun j _ h=>absurd h (by omega)⟩
 case round =>
  obtain ⟨i,hi,rfl,rfl,hno⟩:=hrel
  by_cases hlt:i<B.length
  ·have hc:=HC.out i hlt
   have HNo:=(show Hid (∀ j (hj:j<B.length),j<i→B[j] ≠ n) from hno)
   clear hno
   by_cases e:B[i]=n
   ·have HZ:Hid ((i:Int)=res):=HY.out i hlt e HNo.out
    have d:(B[i].toList == n.toList)=true:=tx_eq e
    clear HNo
    generalize B[i]=t at *
    go_wp2
    go_ret
    exact⟨rI HZ.out,HB1.out⟩
   ·have HZ:Hid (∀ j (hj:j<B.length),j<i+1→B[j] ≠ n):=fun j hj hji=>by
     by_cases e2:j=i
     ·subst e2;exact e
     ·exact HNo.out j hj (by omega)
    have d:(B[i].toList == n.toList)=false:=tx_ne e
    clear HNo
    generalize B[i]=t at *
    go_wp2
    go_roundw
    case rel=>exact⟨i+1,by omega,by go_num,by first | rfl | trivial,HZ.out⟩
    case measure=>simp [intOf];omega
  ·obtain rfl:i=B.length:=by omega
   have HZ:Hid (-1=res):=HN.out fun j hj=>hno j hj hj
   clear hno
   go_wp2
   go_ret
   exact⟨rI HZ.out,HB1.out⟩
set_option maxRecDepth 100000 in
set_option maxHeartbeats 2000000 in
theorem specFind (L:List CTup) (v:Value) (n:ByteArray) (w:World) (h:classR.slice.In w [v] L) :
  Calls Tryz.prog 66 #[v,.string n] w fun e w'=>e = .returned (.int .i64 (ixI (fixG nmC L n)))∧w'=w:=by
 obtain ⟨a,cap,rfl,hn,hcap,hat⟩:=slice_open (by decide) h
 unfold maxLen at hcap
 have HA:Hid (∀ i (h:i<L.length),∃ b o,a=some ⟨b,o,none⟩∧classR.At w ⟨b,o,none⟩ i L[i]):=hat
 clear hat h
 have HN:Hid ((∀ j (hj:j<L.length),nmC L[j] ≠ n)→-1=ixI (fixG nmC L n)):=fun h=>by rw [fix_no h];rfl
 have HY:Hid (∀ i (hi:i<L.length),nmC L[i]=n→(∀ j (hj:j<L.length),j<i→nmC L[j] ≠ n)→(i:Int)=ixI (fixG nmC L n)):=fun i hi h1 h2=>by rw [fix_at (nm:=nmC) hi h1 h2];rfl
 generalize ixI (fixG nmC L n)=res at *
 go_enter Tryz.func66,Tryz.ntmps66
 go_wp2_with fail
 go_loopw [5] (fun j5 wr=>∃ i:Nat,i≤L.length∧j5 = .int .i64 (i:Int)∧wr=w∧∀ j (hj:j<L.length),j<i→nmC L[j] ≠ n) (fun j5 _=>L.length - (intOf j5).toNat)
 case atStart=>exact⟨0,Nat.zero_le _,rfl,rfl,fun j _ h=>absurd h (by omega)⟩
 case round =>
  obtain ⟨i,hi,rfl,rfl,hno⟩:=hrel
  by_cases hlt:i<L.length
  ·obtain ⟨b,o,rfl,hx⟩:=HA.out i hlt
   obtain ⟨_,_,g0,_⟩:=classAt hx
   have HNo:=(show Hid (∀ j (hj:j<L.length),j<i→nmC L[j] ≠ n) from hno)
   clear hno hx
   by_cases e:nmC L[i]=n
   ·have HZ:Hid ((i:Int)=res):=HY.out i hlt e HNo.out
    have d:((nmC L[i]).toList == n.toList)=true:=tx_eq e
    clear HNo
    generalize nmC L[i]=t at *
    go_wp2
    go_ret
    exact⟨rI HZ.out,rfl⟩
   ·have HZ:Hid (∀ j (hj:j<L.length),j<i+1→nmC L[j] ≠ n):=fun j hj hji=>by
     by_cases e2:j=i
     ·subst e2;exact e
     ·exact HNo.out j hj (by omega)
    have d:((nmC L[i]).toList == n.toList)=false:=tx_ne e
    clear HNo
    generalize nmC L[i]=t at *
    go_wp2
    go_roundw
    case rel=>exact⟨i+1,by omega,by go_num,by first | rfl | trivial,HZ.out⟩
    case measure=>simp [intOf];omega
  ·obtain rfl:i=L.length:=by omega
   have HZ:Hid (-1=res):=HN.out fun j hj=>hno j hj hj
   clear hno
   go_wp2
   go_ret
   exact⟨rI HZ.out,rfl⟩
theorem kn_cases (L:List CTup) (n:ByteArray):(∃ i:Nat,ixI (fixG id biN n)=(i:Int)∧knB L n=true) ∨ (ixI (fixG id biN n) = -1∧((∃ i:Nat,ixI (fixG nmC L n)=(i:Int)∧knB L n=true) ∨ (ixI (fixG nmC L n) = -1∧knB L n=false))):=by
 unfold knB
 rw [lk_all,lk_bi]
 rcases fix_cases (id:ByteArray→ByteArray) biN n with ⟨h1,_⟩ | ⟨i,_,h1,_,_⟩
 ·rw [h1]
  refine .inr ⟨rfl,?_⟩
  rcases fix_cases nmC L n with ⟨k1,k2⟩ | ⟨i,_,k1,_,k2⟩
  ·rw [k1,k2];exact .inr ⟨rfl,rfl⟩
  ·rw [k1,k2];exact .inl ⟨i,rfl,rfl⟩
 ·rw [h1]
  exact .inl ⟨i,rfl,rfl⟩
set_option maxRecDepth 100000 in
set_option maxHeartbeats 1000000 in
theorem specKnown (L:List CTup) (v:Value) (n:ByteArray) (w:World) (h:classR.slice.In w [v] L) :
  Calls Tryz.prog 53 #[v,.string n] w fun e w'=>e = .returned (.bool (knB L n))∧Below w.heap.size w w':=by
 have HB:Hid (Calls Tryz.prog 65 #[.string n] w fun e w'=>e = .returned (.int .i64 (ixI (fixG id biN n)))∧Below w.heap.size w w'):=specBuilt n w
 have HF:Hid (∀ w',Below w.heap.size w w'→Calls Tryz.prog 66 #[v,.string n] w' fun e w2=>e = .returned (.int .i64 (ixI (fixG nmC L n)))∧w2=w'):=fun w' hb=>specFind L v n w' (classR.slice.mono _ _ _ _ hb h)
 obtain ⟨a,ca,rfl⟩:=slice_form h
 clear h
 rcases kn_cases L n with ⟨i,e1,e2⟩ | ⟨e1,⟨i,e2,e3⟩ | ⟨e2,e3⟩⟩
 ·rw [e1] at HB
  rw [e2]
  clear e1 e2 HF
  have d:decide ((0:Int)≤(i:Int))=true:=by simp
  go_enter Tryz.func53,Tryz.ntmps53
  go_wp2_with fail
  refine Calls.mono HB.out ?_
  rintro e w1 ⟨rfl,hb1⟩
  have HB1:Hid (Below w.heap.size w w1):=hb1
  clear hb1 HB
  go_wp2
  go_ret
  exact⟨rfl,HB1.out⟩
 ·rw [e1] at HB
  rw [e2] at HF
  rw [e3]
  clear e1 e2 e3
  have d:decide ((0:Int)≤(i:Int))=true:=by simp
  go_enter Tryz.func53,Tryz.ntmps53
  go_wp2_with fail
  refine Calls.mono HB.out ?_
  rintro e w1 ⟨rfl,hb1⟩
  have HB1:Hid (Below w.heap.size w w1):=hb1
  clear hb1 HB
  go_wp2_with fail
  refine Calls.mono (HF.out _ HB1.out) ?_
  rintro e w2 ⟨rfl,hw2⟩
  subst w2
  go_wp2
  go_ret
  exact⟨rfl,HB1.out⟩
 ·rw [e1] at HB
  rw [e2] at HF
  rw [e3]
  clear e1 e2 e3
  go_enter Tryz.func53,Tryz.ntmps53
  go_wp2_with fail
  refine Calls.mono HB.out ?_
  rintro e w1 ⟨rfl,hb1⟩
  have HB1:Hid (Below w.heap.size w w1):=hb1
  clear hb1 HB
  go_wp2_with fail
  refine Calls.mono (HF.out _ HB1.out) ?_
  rintro e w2 ⟨rfl,hw2⟩
  subst w2
  go_wp2
  go_ret
  exact⟨rfl,HB1.out⟩
theorem sp_cases (L:List CTup) (n:ByteArray):(ixI (fixG id biN n)=0∧spS L n=⟨#[]⟩) ∨ (ixI (fixG id biN n)=1∧spS L n=objN) ∨ (∃ i:Nat,1<i∧ixI (fixG id biN n)=(i:Int)∧spS L n=errN) ∨ (ixI (fixG id biN n) = -1∧((∃ i:Nat,∃ hi:i<L.length,ixI (fixG nmC L n)=(i:Int)∧spS L n=suC L[i]) ∨ (ixI (fixG nmC L n) = -1∧spS L n=⟨#[]⟩))):=by
 unfold spS
 rw [lk_all,lk_bi]
 rcases fix_cases (id:ByteArray→ByteArray) biN n with ⟨h1,_⟩ | ⟨i,hi,h1,_,_⟩
 ·rw [h1]
  refine .inr (.inr (.inr ⟨rfl,?_⟩))
  rcases fix_cases nmC L n with ⟨k1,k2⟩ | ⟨i,hi,k1,_,k2⟩
  ·rw [k1,k2];exact .inr ⟨rfl,rfl⟩
  ·rw [k1,k2];exact .inl ⟨i,hi,rfl,rfl⟩
 ·rw [h1]
  have h8:biN.length=8:=rfl
  rw [h8] at hi
  match i,hi with
  | 0,_=>exact .inl ⟨rfl,by show suC (biC1 (biN.getD 0 tE))=_;decide⟩
  | 1,_=>exact .inr (.inl ⟨rfl,by show suC (biC1 (biN.getD 1 tE))=_;decide⟩)
  | 2,_=>exact .inr (.inr (.inl ⟨2,by omega,rfl,by show suC (biC1 (biN.getD 2 tE))=_;decide⟩))
  | 3,_=>exact .inr (.inr (.inl ⟨3,by omega,rfl,by show suC (biC1 (biN.getD 3 tE))=_;decide⟩))
  | 4,_=>exact .inr (.inr (.inl ⟨4,by omega,rfl,by show suC (biC1 (biN.getD 4 tE))=_;decide⟩))
  | 5,_=>exact .inr (.inr (.inl ⟨5,by omega,rfl,by show suC (biC1 (biN.getD 5 tE))=_;decide⟩))
  | 6,_=>exact .inr (.inr (.inl ⟨6,by omega,rfl,by show suC (biC1 (biN.getD 6 tE))=_;decide⟩))
  | 7,_=>exact .inr (.inr (.inl ⟨7,by omega,rfl,by show suC (biC1 (biN.getD 7 tE))=_;decide⟩))
set_option maxRecDepth 100000 in
set_option maxHeartbeats 1000000 in
theorem specSuper (L:List CTup) (v:Value) (n:ByteArray) (w:World) (h:classR.slice.In w [v] L) :
  Calls Tryz.prog 69 #[v,.string n] w fun e w'=>e = .returned (.string (spS L n))∧Below w.heap.size w w':=by
 have HB:Hid (Calls Tryz.prog 65 #[.string n] w fun e w'=>e = .returned (.int .i64 (ixI (fixG id biN n)))∧Below w.heap.size w w'):=specBuilt n w
 have HF:Hid (∀ w',Below w.heap.size w w'→Calls Tryz.prog 66 #[v,.string n] w' fun e w2=>e = .returned (.int .i64 (ixI (fixG nmC L n)))∧w2=w'):=fun w' hb=>specFind L v n w' (classR.slice.mono _ _ _ _ hb h)
 obtain ⟨a,cap,rfl,hn,hcap,hat⟩:=slice_open (by decide) h
 unfold maxLen at hcap
 have HA:Hid (∀ i (h:i<L.length),∃ b o,a=some ⟨b,o,none⟩∧classR.At w ⟨b,o,none⟩ i L[i]):=hat
 clear hat h
 rcases sp_cases L n with ⟨e1,e2⟩ | ⟨e1,e2⟩ | ⟨i,hi,e1,e2⟩ | ⟨e1,⟨i,hi,e2,e3⟩ | ⟨e2,e3⟩⟩
 ·rw [e1] at HB
  rw [e2]
  clear e1 e2 HF HA
  go_enter Tryz.func69,Tryz.ntmps69
  go_wp2_with fail
  refine Calls.mono HB.out ?_
  rintro e w1 ⟨rfl,hb1⟩
  have HB1:Hid (Below w.heap.size w w1):=hb1
  clear hb1 HB
  go_wp2
  go_ret
  exact⟨rfl,HB1.out⟩
 ·rw [e1] at HB
  rw [e2]
  clear e1 e2 HF HA
  go_enter Tryz.func69,Tryz.ntmps69
  go_wp2_with fail
  refine Calls.mono HB.out ?_
  rintro e w1 ⟨rfl,hb1⟩
  have HB1:Hid (Below w.heap.size w w1):=hb1
  clear hb1 HB
  go_wp2
  go_ret
  exact⟨rfl,HB1.out⟩
 ·rw [e1] at HB
  rw [e2]
  clear e1 e2 HF HA
  have d0:((i:Int) == 0)=false:=by simp;omega
  have d1:((i:Int) == 1)=false:=by simp;omega
  have d2:decide ((1:Int)<(i:Int))=true:=by simp;omega
  go_enter Tryz.func69,Tryz.ntmps69
  go_wp2_with fail
  refine Calls.mono HB.out ?_
  rintro e w1 ⟨rfl,hb1⟩
  have HB1:Hid (Below w.heap.size w w1):=hb1
  clear hb1 HB
  go_wp2
  go_ret
  exact⟨rfl,HB1.out⟩
 ·rw [e1] at HB
  rw [e2] at HF
  rw [e3]
  obtain ⟨b,o,rfl,hx⟩:=HA.out i hi
  obtain ⟨_,_,_,g1,_⟩:=classAt hx
  have hbz:b<w.heap.size:=World.block_lt_of_cell? _ _ g1
  clear e1 e2 e3 HA hx
  generalize suC L[i]=t at *
  have d0:decide ((i:Int)<0)=false:=by simp
  go_enter Tryz.func69,Tryz.ntmps69
  go_wp2_with fail
  refine Calls.mono HB.out ?_
  rintro e w1 ⟨rfl,hb1⟩
  have HB1:Hid (Below w.heap.size w w1):=hb1
  replace g1:=carry hb1 hbz g1
  clear hb1 HB
  go_wp2_with fail
  refine Calls.mono (HF.out _ HB1.out) ?_
  rintro e w2 ⟨rfl,hw2⟩
  subst w2
  go_wp2
  go_ret
  exact⟨rfl,HB1.out⟩
 ·rw [e1] at HB
  rw [e2] at HF
  rw [e3]
  clear e1 e2 e3 HA
  go_enter Tryz.func69,Tryz.ntmps69
  go_wp2_with fail
  refine Calls.mono HB.out ?_
  rintro e w1 ⟨rfl,hb1⟩
  have HB1:Hid (Below w.heap.size w w1):=hb1
  clear hb1 HB
  go_wp2_with fail
  refine Calls.mono (HF.out _ HB1.out) ?_
  rintro e w2 ⟨rfl,hw2⟩
  subst w2
  go_wp2
  go_ret
  exact⟨rfl,HB1.out⟩
end Go.Proofs.YtmhgaggpdggbeaaGreatDoor

namespace Go.Proofs.YtmhgaggpdggbeaaGreatDoor
open Go.RowKit
set_option linter.unusedVariables false

def mIs (n d:ByteArray) (m:MTup):Prop:=(mD m).name=n∧(mD m).desc=d
theorem mFix_at {ms:List MTup} {n d:ByteArray} {i:Nat} (hi:i<ms.length) (h1:mIs n d ms[i]) (h2:∀ j (hj:j<ms.length),j<i→¬ mIs n d ms[j]):mFixL ms n d=some i:=by
 unfold mFixL
 rw [List.findIdx?_eq_some_iff_getElem]
 exact⟨hi,by simpa [mIs] using h1,fun j hj=>by simpa [mIs] using h2 j (by omega) hj⟩
theorem mFix_no {ms:List MTup} {n d:ByteArray} (h2:∀ j (hj:j<ms.length),¬ mIs n d ms[j]):mFixL ms n d=none:=by
 unfold mFixL
 rw [List.findIdx?_eq_none_iff]
 intro c hc
 obtain ⟨i,hi,rfl⟩:=List.mem_iff_getElem.1 hc
 simpa [mIs] using h2 i hi
theorem mFix_some {ms:List MTup} {n d:ByteArray} {i:Nat} (h:mFixL ms n d=some i):∃ hi:i<ms.length,mIs n d ms[i]∧∀ j (hj:j<ms.length),j<i→¬ mIs n d ms[j]:=by
 unfold mFixL at h
 rw [List.findIdx?_eq_some_iff_getElem] at h
 obtain ⟨hi,h1,h2⟩:=h
 exact⟨hi,by simpa [mIs] using h1,fun j hj hji=>by simpa [mIs] using h2 j hji⟩
theorem mFix_none {ms:List MTup} {n d:ByteArray} (h:mFixL ms n d=none):∀ j (hj:j<ms.length),¬ mIs n d ms[j]:=by
 unfold mFixL at h
 rw [List.findIdx?_eq_none_iff] at h
 intro j hj
 simpa [mIs] using h ms[j] (List.getElem_mem hj)

set_option maxRecDepth 100000 in
set_option maxHeartbeats 2000000 in
theorem specMethod (m:ClsD) (vc vh:Value) (n d:ByteArray) (w:World) (hc:fieldR.slice.In w [vc] m.fields) (hh:methR.slice.In w [vh] m.meths) :
  Calls Tryz.prog 92 #[clsV m vc vh,.string n,.string d] w fun e w'=>e = .returned (.int .i64 (ixI (mFixL m.meths n d)))∧Below w.heap.size w w':=by
 obtain ⟨a0,ca,rfl⟩:=slice_form hc
 obtain ⟨a,cap,rfl,hn,hcap,hat⟩:=slice_open (by decide) hh
 unfold maxLen at hcap
 obtain ⟨nm,su,fi,ab,fs,ms⟩:=m
 simp only at *
 have HA:Hid (∀ i (h:i<ms.length),∃ b o,a=some ⟨b,o,none⟩∧methR.At w ⟨b,o,none⟩ i ms[i]):=hat
 clear hat hh hc
 have HN:Hid ((∀ j (hj:j<ms.length),¬ mIs n d ms[j])→-1=ixI (mFixL ms n d)):=fun h=>by rw [mFix_no h];rfl
 have HY:Hid (∀ i (hi:i<ms.length),mIs n d ms[i]→(∀ j (hj:j<ms.length),j<i→¬ mIs n d ms[j])→(i:Int)=ixI (mFixL ms n d)):=fun i hi h1 h2=>by rw [mFix_at hi h1 h2];rfl
 generalize ixI (mFixL ms n d)=res at *
 unfold clsV
 simp only
 go_enter Tryz.func92,Tryz.ntmps92
 go_wp2_with fail
 have x5:(w.alloc (.cells #[.string nm,.string su,.bool fi,.bool ab,.slice a0 fs.length ca,.slice a ms.length cap] 51)).cell? ⟨w.heap.size,5,none⟩=some (.slice a ms.length cap):=by simp [go_sem]
 have HB:Hid (Below w.heap.size w (w.alloc (.cells #[.string nm,.string su,.bool fi,.bool ab,.slice a0 fs.length ca,.slice a ms.length cap] 51))):=(Below.refl _ _).alloc (Nat.le_refl _) _
 generalize w.alloc (.cells #[.string nm,.string su,.bool fi,.bool ab,.slice a0 fs.length ca,.slice a ms.length cap] 51)=W at *
 go_loopw [7] (fun j7 wr=>∃ i:Nat,i≤ms.length∧j7 = .int .i64 (i:Int)∧wr=W∧∀ j (hj:j<ms.length),j<i→¬ mIs n d ms[j]) (fun j7 _=>ms.length - (intOf j7).toNat)
 case atStart=>exact⟨0,Nat.zero_le _,rfl,rfl,fun j _ h=>absurd h (by omega)⟩
 case round =>
  obtain ⟨i,hi,rfl,hwr,hno⟩:=hrel
  subst wr
  by_cases hlt:i<ms.length
  ·obtain ⟨b,o,rfl,hx⟩:=HA.out i hlt
   obtain ⟨_,_,g0,g1,_⟩:=methAt (hx.mono HB.out)
   have HNo:=(show Hid (∀ j (hj:j<ms.length),j<i→¬ mIs n d ms[j]) from hno)
   clear hno hx
   have HZ0:Hid (mIs n d ms[i]→(i:Int)=res):=fun e=>HY.out i hlt e HNo.out
   have HZ1:Hid (¬ mIs n d ms[i]→∀ j (hj:j<ms.length),j<i+1→¬ mIs n d ms[j]):=fun e j hj hji=>by
     by_cases e2:j=i
     ·subst e2;exact e
     ·exact HNo.out j hj (by omega)
   unfold mIs at HZ0
   have HZ2:Hid (¬ ((mD ms[i]).name=n∧(mD ms[i]).desc=d)→∀ j (hj:j<ms.length),j<i+1→¬ mIs n d ms[j]):=HZ1.out
   clear HNo HZ1
   generalize (mD ms[i]).name=t0 at *
   generalize (mD ms[i]).desc=t1 at *
   by_cases e:t0=n
   ·by_cases e':t1=d
    ·have HZ:Hid ((i:Int)=res):=HZ0.out ⟨e,e'⟩
     have d0:=tx_eq e
     have d1:=tx_eq e'
     clear HZ0 HZ2 e e'
     go_wp2
     go_ret
     exact⟨rI HZ.out,HB.out⟩
    ·have HZ:Hid (∀ j (hj:j<ms.length),j<i+1→¬ mIs n d ms[j]):=HZ2.out fun k=>e' k.2
     have d0:=tx_eq e
     have d1:=tx_ne e'
     clear HZ0 HZ2 e e'
     go_wp2
     go_roundw
     case rel=>exact⟨i+1,by omega,by go_num,by first | rfl | trivial,HZ.out⟩
     case measure=>simp [intOf];omega
   ·have HZ:Hid (∀ j (hj:j<ms.length),j<i+1→¬ mIs n d ms[j]):=HZ2.out fun k=>e k.1
    have d0:=tx_ne e
    clear HZ0 HZ2 e
    go_wp2
    go_roundw
    case rel=>exact⟨i+1,by omega,by go_num,by first | rfl | trivial,HZ.out⟩
    case measure=>simp [intOf];omega
  ·obtain rfl:i=ms.length:=by omega
   have HZ:Hid (-1=res):=HN.out fun j hj=>hno j hj hj
   clear hno
   go_wp2
   go_ret
   exact⟨rI HZ.out,HB.out⟩
theorem empty_cases (c:ByteArray):(c=tE∧c.toList=[]) ∨ (c ≠ tE∧¬ c.toList=[]):=by
 by_cases h:c=tE
 ·exact .inl ⟨h,by rw [h,ByteArray.toList_eq];rfl⟩
 ·refine .inr ⟨h,fun e=>h ?_⟩
  rw [ByteArray.toList_eq] at e
  exact WideShapes.bytes_inj (by rw [e];decide)
set_option maxRecDepth 100000 in
set_option maxHeartbeats 1000000 in
theorem specType (L:List CTup) (v:Value) (t:ByteArray) (w:World) (h:classR.slice.In w [v] L) (hs:t.size≤maxLen) :
  Calls Tryz.prog 97 #[v,.string t] w fun e w'=>e = .returned (.bool (tyK L t))∧Below w.heap.size w w':=by
 have HC:Hid (Calls Tryz.prog 122 #[.string t] w fun e w'=>e = .returned (.string (clS t))∧w'=w):=specTypeClass t w hs
 have HK:Hid (Calls Tryz.prog 53 #[v,.string (clS t)] w fun e w'=>e = .returned (.bool (knB L (clS t)))∧Below w.heap.size w w'):=specKnown L v (clS t) w h
 obtain ⟨a,ca,rfl⟩:=slice_form h
 clear h hs
 unfold tyK
 rcases empty_cases (clS t) with ⟨h1,h2⟩ | ⟨h1,h2⟩
 ·have HZ:Hid (true=(decide (clS t=tE) || knB L (clS t))):=by show _=_;rw [decide_eq_true h1];rfl
  generalize (decide (clS t=tE) || knB L (clS t))=res at *
  generalize clS t=c at *
  clear h1 HK
  go_enter Tryz.func97,Tryz.ntmps97
  go_wp2_with fail
  refine Calls.mono HC.out ?_
  rintro e w1 ⟨rfl,hw1⟩
  subst w1
  go_wp2
  go_ret
  exact⟨rB HZ.out,Below.refl _ _⟩
 ·have HZ:Hid (knB L (clS t)=(decide (clS t=tE) || knB L (clS t))):=by show _=_;rw [decide_eq_false h1];rfl
  have h3:(clS t).toList.isEmpty=false:=by cases h:(clS t).toList with | nil=>exact absurd h h2 | cons a l=>rfl
  generalize (decide (clS t=tE) || knB L (clS t))=res at *
  generalize clS t=c at *
  generalize knB L c=q at *
  clear h1
  go_enter Tryz.func97,Tryz.ntmps97
  go_wp2_with fail
  refine Calls.mono HC.out ?_
  rintro e w1 ⟨rfl,hw1⟩
  subst w1
  go_wp2_with fail
  refine Calls.mono HK.out ?_
  rintro e w2 ⟨rfl,hb2⟩
  have HB2:Hid (Below w.heap.size w w2):=hb2
  clear hb2
  go_wp2
  go_ret
  exact⟨rB HZ.out,HB2.out⟩
theorem fieldDesc0 (v q x y:Value) (w:World):(Instr.field 159 (.agg #[v,q,x,y]) 0).run Tryz.prog w = .ok (.agg #[v,q]) w:=by kernel_rfl
set_option maxRecDepth 100000 in
set_option maxHeartbeats 2000000 in
theorem specDescK (L:List CTup) (v:Value) (t:ByteArray) (w:World) (h:classR.slice.In w [v] L) (hs:t.size≤maxLen) :
  Calls Tryz.prog 98 #[v,.string t] w fun e w'=>e = .returned (.bool (deK L t))∧Below w.heap.size w w':=by
 have HD:Hid (Calls Tryz.prog 118 #[.string t] w fun e w'=>(∃ a cap,e = .returned (outV (.slice a (outD t).1.length cap) (outD t).2.1 (outD t).2.2.1 (outD t).2.2.2)∧w'.ownsRow w.heap.size 9 1 (.slice a (outD t).1.length cap) (outD t).1.length (cellsOfS (outD t).1))∧Below w.heap.size w w') :=
   (specDescRead t w hs).mono fun e w' ⟨h1,h2⟩=>⟨dvOut_one h1,h2⟩
 obtain ⟨h8,hsz⟩:=outD_all t
 have HSZ:Hid (∀ p ∈ (outD t).1,p.size≤maxLen):=fun p hp=>Nat.le_trans (hsz p hp) hs
 have hsq:(outD t).2.1.size≤maxLen:=outD_res t hs
 have HT:Hid (∀ w' s,Below w.heap.size w w'→s.size≤maxLen→Calls Tryz.prog 97 #[v,.string s] w' fun e w2=>e = .returned (.bool (tyK L s))∧Below w'.heap.size w' w2):=fun w' s hb hs=>specType L v s w' (classR.slice.mono _ _ _ _ hb h) hs
 obtain ⟨a,ca,rfl⟩:=slice_form h
 have HN:Hid (∀ i (hi:i<(outD t).1.length),tyK L (outD t).1[i]=false→false=deK L t):=fun i hi e=>by
  show _=_
  unfold deK
  have:(outD t).1.all (tyK L)=false:=List.all_eq_false.2 ⟨_,List.getElem_mem hi,by rw [e];simp⟩
  rw [this];rfl
 have HY:Hid ((∀ i (hi:i<(outD t).1.length),tyK L (outD t).1[i]=true)→tyK L (outD t).2.1=deK L t):=fun e=>by
  show _=_
  unfold deK
  have:(outD t).1.all (tyK L)=true:=List.all_eq_true.2 fun x hx=>by
   obtain ⟨i,hi,rfl⟩:=List.mem_iff_getElem.1 hx
   exact e i hi
  rw [this];rfl
 generalize deK L t=res at *
 generalize outD t=D at *
 obtain ⟨xs,q,A,C⟩:=D
 simp only at *
 clear h hs hsz
 go_enter Tryz.func98,Tryz.ntmps98
 go_wp2_with fail
 refine Calls.mono HD.out ?_
 rintro e w1 ⟨⟨a1,c1,rfl,ho1⟩,hb1⟩
 have HB1:Hid (Below w.heap.size w w1):=hb1
 have HS1:=(show Hid (Strs w1 a1 c1 xs) from owns_strs ho1 HSZ.out)
 clear hb1 ho1 HD HSZ
 unfold outV
 have fd:=fieldDesc0 (.slice a1 xs.length c1) (.string q) (.int .i64 A) (.int .i64 C)
 go_wp2_with fail
 have x0:(w1.alloc (.cells #[.slice a1 xs.length c1,.string q] 157)).cell? ⟨w1.heap.size,0,none⟩=some (.slice a1 xs.length c1):=by simp [go_sem]
 have x1:(w1.alloc (.cells #[.slice a1 xs.length c1,.string q] 157)).cell? ⟨w1.heap.size,1,none⟩=some (.string q):=by simp [go_sem]
 have hz:w1.heap.size<(w1.alloc (.cells #[.slice a1 xs.length c1,.string q] 157)).heap.size:=by simp
 have HBW:Hid (Below w.heap.size w (w1.alloc (.cells #[.slice a1 xs.length c1,.string q] 157))):=HB1.out.alloc HB1.out.size _
 have HS2:=(show Hid (Strs (w1.alloc (.cells #[.slice a1 xs.length c1,.string q] 157)) a1 c1 xs) from HS1.out.mono (below_al _ _))
 generalize w1.alloc (.cells #[.slice a1 xs.length c1,.string q] 157)=W at *
 generalize w1.heap.size=B1 at *
 clear HB1 HS1
 go_loopw [6] (fun j6 wr=>∃ i:Nat,i≤xs.length∧j6 = .int .i64 (i:Int)∧Below W.heap.size W wr∧∀ j (hj:j<xs.length),j<i→tyK L xs[j]=true) (fun j6 _=>xs.length - (intOf j6).toNat)
 case atStart=>exact⟨0,Nat.zero_le _,rfl,Below.refl _ _,fun j _ h=>absurd h (by omega)⟩
 case round =>
  obtain ⟨i,hi,rfl,hb,hgood⟩:=hrel
  have HG:=(show Hid (∀ j (hj:j<xs.length),j<i→tyK L xs[j]=true) from hgood)
  have HBr:Hid (Below w.heap.size w wr):=HBW.out.trans (hb.mono HBW.out.size)
  have HBo:Hid (Below W.heap.size W wr):=hb
  replace x0:=carry hb hz x0
  replace x1:=carry hb hz x1
  have HSr:=(show Hid (Strs wr a1 c1 xs) from HS2.out.mono hb)
  clear hb hgood
  by_cases hlt:i<xs.length
  ·obtain ⟨x,rfl,hc⟩:=HSr.out.cell i hlt
   have hsz:=HSr.out.at_size i
   have eg:xs.getD i ByteArray.empty=xs[i]:=by rw [List.getD_eq_getElem?_getD,List.getElem?_eq_getElem hlt];rfl
   rw [eg] at hc hsz
   have HT1:Hid (Calls Tryz.prog 97 #[.slice a L.length ca,.string xs[i]] wr fun e w2=>e = .returned (.bool (tyK L xs[i]))∧Below wr.heap.size wr w2):=HT.out wr xs[i] HBr.out hsz
   have HE:Hid (tyK L xs[i]=false→false=res):=HN.out i hlt
   have HE2:Hid (tyK L xs[i]=true→∀ j (hj:j<xs.length),j<i+1→tyK L xs[j]=true):=fun e j hj hji=>by
    by_cases e2:j=i
    ·subst e2;exact e
    ·exact HG.out j hj (by omega)
   clear HG eg hsz HSr
   generalize tyK L xs[i]=b at *
   generalize xs[i]=y at *
   go_wp2_with fail
   refine Calls.mono HT1.out ?_
   rintro e w2 ⟨rfl,hb2⟩
   have HB2:Hid (Below w.heap.size w w2):=HBr.out.trans (hb2.mono HBr.out.size)
   have HB2o:Hid (Below W.heap.size W w2):=HBo.out.trans (hb2.mono HBo.out.size)
   clear hb2
   cases b
   ·go_wp2
    go_ret
    exact⟨rB (HE.out (by first | rfl | trivial)),HB2.out⟩
   ·go_wp2
    go_roundw
    case rel=>exact⟨i+1,by omega,by go_num,HB2o.out,HE2.out (by first | rfl | trivial)⟩
    case measure=>simp [intOf];omega
  ·obtain rfl:i=xs.length:=by omega
   have HZ:Hid (tyK L q=res):=HY.out fun j hj=>HG.out j hj hj
   have HT1:Hid (Calls Tryz.prog 97 #[.slice a L.length ca,.string q] wr fun e w2=>e = .returned (.bool (tyK L q))∧Below wr.heap.size wr w2):=HT.out wr q HBr.out hsq
   clear HG HSr
   generalize tyK L q=b at *
   go_wp2_with fail
   refine Calls.mono HT1.out ?_
   rintro e w2 ⟨rfl,hb2⟩
   have HB2:Hid (Below w.heap.size w w2):=HBr.out.trans (hb2.mono HBr.out.size)
   clear hb2
   go_wp2
   go_ret
   exact⟨rB HZ.out,HB2.out⟩
set_option maxRecDepth 100000 in
set_option maxHeartbeats 2000000 in
theorem specTypes (L:List CTup) (v:Value) (c:CTup) (vc vh:Value) (w:World) (h:classR.slice.In w [v] L) (hc:fieldR.slice.In w [vc] (fsC c)) (hh:methR.slice.In w [vh] (msC c)) :
  Calls Tryz.prog 67 #[v,clsV (cD c) vc vh] w fun e w'=>e = .returned (.bool (tsK L c))∧Below w.heap.size w w':=by
 have HT:Hid (∀ w' s,Below w.heap.size w w'→s.size≤maxLen→Calls Tryz.prog 97 #[v,.string s] w' fun e w2=>e = .returned (.bool (tyK L s))∧Below w'.heap.size w' w2):=fun w' s hb hs=>specType L v s w' (classR.slice.mono _ _ _ _ hb h) hs
 have HD:Hid (∀ w' s,Below w.heap.size w w'→s.size≤maxLen→Calls Tryz.prog 98 #[v,.string s] w' fun e w2=>e = .returned (.bool (deK L s))∧Below w'.heap.size w' w2):=fun w' s hb hs=>specDescK L v s w' (classR.slice.mono _ _ _ _ hb h) hs
 have HN1:Hid (∀ i (hi:i<(fsC c).length),tyK L (fsC c)[i].2.1=false→false=tsK L c):=fun i hi e=>by
  show _=_
  unfold tsK
  have:(fsC c).all (fun f=>tyK L f.2.1)=false:=List.all_eq_false.2 ⟨_,List.getElem_mem hi,by rw [e];simp⟩
  rw [this];rfl
 have HN2:Hid (∀ i (hi:i<(msC c).length),deK L (mD (msC c)[i]).desc=false→false=tsK L c):=fun i hi e=>by
  show _=_
  unfold tsK
  have:(msC c).all (fun m=>deK L m.2.1)=false:=List.all_eq_false.2 ⟨_,List.getElem_mem hi,by show ¬ deK L (mD (msC c)[i]).desc=true;rw [e];simp⟩
  rw [this,Bool.and_false]
 have HY:Hid ((∀ i (hi:i<(fsC c).length),tyK L (fsC c)[i].2.1=true)→(∀ i (hi:i<(msC c).length),deK L (mD (msC c)[i]).desc=true)→true=tsK L c):=fun e1 e2=>by
  show _=_
  unfold tsK
  have h1:(fsC c).all (fun f=>tyK L f.2.1)=true:=List.all_eq_true.2 fun x hx=>by
   obtain ⟨i,hi,rfl⟩:=List.mem_iff_getElem.1 hx
   exact e1 i hi
  have h2:(msC c).all (fun m=>deK L m.2.1)=true:=List.all_eq_true.2 fun x hx=>by
   obtain ⟨i,hi,rfl⟩:=List.mem_iff_getElem.1 hx
   exact e2 i hi
  rw [h1,h2];rfl
 generalize tsK L c=res at *
 obtain ⟨a,ca,rfl⟩:=slice_form h
 obtain ⟨nm,su,fi,ab,fs,ms⟩:=c
 simp only [fsC,msC,cD] at *
 obtain ⟨fa,fc,rfl,fn,fcap,fat⟩:=slice_open (by decide) hc
 obtain ⟨ma,mc,rfl,mn,mcap,mat⟩:=slice_open (by decide) hh
 unfold maxLen at fcap mcap
 have HF:Hid (∀ i (h:i<fs.length),∃ b o,fa=some ⟨b,o,none⟩∧fieldR.At w ⟨b,o,none⟩ i fs[i]):=fat
 have HM:Hid (∀ i (h:i<ms.length),∃ b o,ma=some ⟨b,o,none⟩∧methR.At w ⟨b,o,none⟩ i ms[i]):=mat
 clear h hc hh fat mat
 unfold clsV
 simp only
 go_enter Tryz.func67,Tryz.ntmps67
 go_wp2_with fail
 have x4:(w.alloc (.cells #[.string nm,.string su,.bool fi,.bool ab,.slice fa fs.length fc,.slice ma ms.length mc] 51)).cell? ⟨w.heap.size,4,none⟩=some (.slice fa fs.length fc):=by simp [go_sem]
 have x5:(w.alloc (.cells #[.string nm,.string su,.bool fi,.bool ab,.slice fa fs.length fc,.slice ma ms.length mc] 51)).cell? ⟨w.heap.size,5,none⟩=some (.slice ma ms.length mc):=by simp [go_sem]
 have hz:w.heap.size<(w.alloc (.cells #[.string nm,.string su,.bool fi,.bool ab,.slice fa fs.length fc,.slice ma ms.length mc] 51)).heap.size:=by simp
 have HBW:Hid (Below w.heap.size w (w.alloc (.cells #[.string nm,.string su,.bool fi,.bool ab,.slice fa fs.length fc,.slice ma ms.length mc] 51))):=below_al _ _
 generalize w.alloc (.cells #[.string nm,.string su,.bool fi,.bool ab,.slice fa fs.length fc,.slice ma ms.length mc] 51)=W at *
 go_loopw [5] (fun j5 wr=>∃ i:Nat,i≤fs.length∧j5 = .int .i64 (i:Int)∧Below W.heap.size W wr∧∀ j (hj:j<fs.length),j<i→tyK L fs[j].2.1=true) (fun j5 _=>fs.length - (intOf j5).toNat)
 case atStart=>exact⟨0,Nat.zero_le _,rfl,Below.refl _ _,fun j _ h=>absurd h (by omega)⟩
 case round =>
  obtain ⟨i,hi,rfl,hb,hgood⟩:=hrel
  have HG:=(show Hid (∀ j (hj:j<fs.length),j<i→tyK L fs[j].2.1=true) from hgood)
  have HBr:Hid (Below w.heap.size w wr):=HBW.out.trans (hb.mono HBW.out.size)
  have HBo:Hid (Below W.heap.size W wr):=hb
  replace x4:=carry hb hz x4
  replace x5:=carry hb hz x5
  clear hb hgood
  by_cases hlt:i<fs.length
  ·obtain ⟨b,o,rfl,hx⟩:=HF.out i hlt
   obtain ⟨_,g1,_,_,s1⟩:=fieldAt (hx.mono HBr.out)
   have HT1:Hid (Calls Tryz.prog 97 #[.slice a L.length ca,.string fs[i].2.1] wr fun e w2=>e = .returned (.bool (tyK L fs[i].2.1))∧Below wr.heap.size wr w2):=HT.out wr _ HBr.out s1
   have HE:Hid (tyK L fs[i].2.1=false→false=res):=HN1.out i hlt
   have HE2:Hid (tyK L fs[i].2.1=true→∀ j (hj:j<fs.length),j<i+1→tyK L fs[j].2.1=true):=fun e j hj hji=>by
    by_cases e2:j=i
    ·subst e2;exact e
    ·exact HG.out j hj (by omega)
   clear HG s1 hx
   generalize tyK L fs[i].2.1=q at *
   generalize fs[i].2.1=y at *
   go_wp2_with fail
   refine Calls.mono HT1.out ?_
   rintro e w2 ⟨rfl,hb2⟩
   have HB2:Hid (Below w.heap.size w w2):=HBr.out.trans (hb2.mono HBr.out.size)
   have HB2o:Hid (Below W.heap.size W w2):=HBo.out.trans (hb2.mono HBo.out.size)
   clear hb2
   cases q
   ·go_wp2
    go_ret
    exact⟨rB (HE.out (by first | rfl | trivial)),HB2.out⟩
   ·go_wp2
    go_roundw
    case rel=>exact⟨i+1,by omega,by go_num,HB2o.out,HE2.out (by first | rfl | trivial)⟩
    case measure=>simp [intOf];omega
  ·obtain rfl:i=fs.length:=by omega
   have HG1:Hid (∀ j (hj:j<fs.length),tyK L fs[j].2.1=true):=fun j hj=>HG.out j hj hj
   clear HG HF
   generalize wr=wo at *
   have hz2:w.heap.size<wo.heap.size:=Nat.lt_of_lt_of_le hz HBo.out.size
   go_wp2_with fail
   go_loopw [6] (fun j6 wr=>∃ i:Nat,i≤ms.length∧j6 = .int .i64 (i:Int)∧Below wo.heap.size wo wr∧∀ j (hj:j<ms.length),j<i→deK L (mD ms[j]).desc=true) (fun j6 _=>ms.length - (intOf j6).toNat)
   case atStart=>exact⟨0,Nat.zero_le _,rfl,Below.refl _ _,fun j _ h=>absurd h (by omega)⟩
   case round =>
    obtain ⟨i,hi,rfl,hb,hgood⟩:=hrel
    have HG:=(show Hid (∀ j (hj:j<ms.length),j<i→deK L (mD ms[j]).desc=true) from hgood)
    have HBq:Hid (Below w.heap.size w wr):=HBr.out.trans (hb.mono HBr.out.size)
    have HBp:Hid (Below wo.heap.size wo wr):=hb
    replace x5:=carry hb hz2 x5
    clear hb hgood
    by_cases hlt:i<ms.length
    ·obtain ⟨b,o,rfl,hx⟩:=HM.out i hlt
     obtain ⟨_,_,_,g1,_,_,_,_,_,_,_,_,s1,_⟩:=methAt (hx.mono HBq.out)
     have HT1:Hid (Calls Tryz.prog 98 #[.slice a L.length ca,.string (mD ms[i]).desc] wr fun e w2=>e = .returned (.bool (deK L (mD ms[i]).desc))∧Below wr.heap.size wr w2):=HD.out wr _ HBq.out s1
     have HE:Hid (deK L (mD ms[i]).desc=false→false=res):=HN2.out i hlt
     have HE2:Hid (deK L (mD ms[i]).desc=true→∀ j (hj:j<ms.length),j<i+1→deK L (mD ms[j]).desc=true):=fun e j hj hji=>by
      by_cases e2:j=i
      ·subst e2;exact e
      ·exact HG.out j hj (by omega)
     clear HG s1 hx
     generalize deK L (mD ms[i]).desc=q at *
     generalize (mD ms[i]).desc=y at *
     go_wp2_with fail
     refine Calls.mono HT1.out ?_
     rintro e w2 ⟨rfl,hb2⟩
     have HB2:Hid (Below w.heap.size w w2):=HBq.out.trans (hb2.mono HBq.out.size)
     have HB2o:Hid (Below wo.heap.size wo w2):=HBp.out.trans (hb2.mono HBp.out.size)
     clear hb2
     cases q
     ·go_wp2
      go_ret
      exact⟨rB (HE.out (by first | rfl | trivial)),HB2.out⟩
     ·go_wp2
      go_roundw
      case rel=>exact⟨i+1,by omega,by go_num,HB2o.out,HE2.out (by first | rfl | trivial)⟩
      case measure=>simp [intOf];omega
    ·obtain rfl:i=ms.length:=by omega
     have HZ:Hid (true=res):=HY.out HG1.out fun j hj=>HG.out j hj hj
     clear HG
     go_wp2
     go_ret
     exact⟨rB HZ.out,HBq.out⟩
end Go.Proofs.YtmhgaggpdggbeaaGreatDoor
