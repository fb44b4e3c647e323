import Derived.Test.YtmhgaggpdggbeaaGreatDoorWd3
import Derived.Test.YtmhgaggpdggbeaaGreatDoorCR1
namespace Go.Proofs.YtmhgaggpdggbeaaGreatDoor
open Go.RowKit
set_option maxRecDepth 20000
set_option linter.unusedVariables false

theorem p0_cases {L:List CTup} {i:Nat} (hi:i<L.length):(∃ b:Nat,ixI (fixG id biN (nmC L[i]))=(b:Int)∧knB (L.take i) (nmC L[i])=true) ∨
  (ixI (fixG id biN (nmC L[i])) = -1∧∃ j:Nat,ixI (fixG nmC L (nmC L[i]))=(j:Int)∧((j<i∧knB (L.take i) (nmC L[i])=true) ∨ (j=i∧knB (L.take i) (nmC L[i])=false))):=by
 rcases fix_cases (id:ByteArray→ByteArray) biN (nmC L[i]) with ⟨h1,h1'⟩ | ⟨b,hb,h1,h2,_⟩
 ·refine .inr ⟨by rw [h1];rfl,?_⟩
  rcases hf:fixG nmC L (nmC L[i]) with _ | j
  ·exact absurd rfl (lkG_none.1 (fix_none hf) L[i] (List.getElem_mem hi))
  ·obtain ⟨hj,h2,h3,h4⟩:=fix_some hf
   refine ⟨j,rfl,?_⟩
   by_cases e:j<i
   ·refine .inl ⟨e,?_⟩
    cases hk:knB (L.take i) (nmC L[i])
    ·exact absurd h2 ((knB_false.1 hk).2 L[j] (List.mem_take_iff_getElem.2 ⟨j,by omega,rfl⟩))
    ·rfl
   ·have:¬ i<j:=fun hlt=>h4 i hi hlt rfl
    refine .inr ⟨by omega,knB_false.2 ⟨fun b hb e2=>?_,fun c hc e2=>?_⟩⟩
    ·have hm:nmC b ∈ biN:=by rw [← biC_nm];exact List.mem_map.2 ⟨b,hb,rfl⟩
     exact lkG_none.1 h1' (nmC b) hm e2
    ·obtain ⟨k,hk,rfl⟩:=List.mem_take_iff_getElem.1 hc
     exact h4 k (by omega) (by omega) e2
 ·refine .inl ⟨b,by rw [h1];rfl,?_⟩
  cases hk:knB (L.take i) (nmC L[i])
  ·have hm:biC1 biN[b] ∈ biC:=List.mem_map.2 ⟨_,List.getElem_mem hb,rfl⟩
   exact absurd (by rw [biC1_nm];exact h2) ((knB_false.1 hk).1 _ hm)
  ·rfl

theorem p1_cases {L:List CTup} (hp:Part L L.length) (c:CTup):(ixI (fixG nmC L (suC c)) = -1∧knB L (suC c)=false∧cd1 L c=8) ∨
  (knB L (suC c)=true∧((∃ b:Nat,ixI (fixG id biN (suC c))=(b:Int)∧((1<b∧cd1 L c=14) ∨ (¬ 1<b∧ixI (fixG nmC L (suC c)) = -1∧cd1 L c=0))) ∨
   (ixI (fixG id biN (suC c)) = -1∧∃ j,∃ hj:j<L.length,ixI (fixG nmC L (suC c))=(j:Int)∧cd1 L c=if fiC L[j] then 14 else 0))):=by
 unfold knB cd1
 rw [lk_all,lk_bi]
 rcases fix_cases (id:ByteArray→ByteArray) biN (suC c) with ⟨h1,h1'⟩ | ⟨b,hb,h1,h2,_⟩
 ·rcases fix_cases nmC L (suC c) with ⟨k1,k2⟩ | ⟨j,hj,k1,k2,k3⟩
  ·rw [h1,k1,k2]
   exact .inl ⟨rfl,rfl,rfl⟩
  ·rw [h1,k1,k3]
   exact .inr ⟨rfl,.inr ⟨rfl,j,hj,rfl,rfl⟩⟩
 ·rw [h1]
  refine .inr ⟨rfl,.inl ⟨b,rfl,?_⟩⟩
  have hno:fixG nmC L (suC c)=none:=fix_no fun j hj e=>by
   have hm:biC1 biN[b] ∈ biC:=List.mem_map.2 ⟨_,List.getElem_mem hb,rfl⟩
   exact hp.ap j hj hj _ hm (by rw [biC1_nm,e];exact h2.symm)
  rw [hno]
  have h8:biN.length=8:=rfl
  rw [h8] at hb
  match b,hb with
  | 0,_=>exact .inr ⟨by omega,rfl,by show (if fiC (biC1 (biN.getD 0 tE))=true then (14:Int) else 0)=_;decide⟩
  | 1,_=>exact .inr ⟨by omega,rfl,by show (if fiC (biC1 (biN.getD 1 tE))=true then (14:Int) else 0)=_;decide⟩
  | 2,_=>exact .inl ⟨by omega,by show (if fiC (biC1 (biN.getD 2 tE))=true then (14:Int) else 0)=_;decide⟩
  | 3,_=>exact .inl ⟨by omega,by show (if fiC (biC1 (biN.getD 3 tE))=true then (14:Int) else 0)=_;decide⟩
  | 4,_=>exact .inl ⟨by omega,by show (if fiC (biC1 (biN.getD 4 tE))=true then (14:Int) else 0)=_;decide⟩
  | 5,_=>exact .inl ⟨by omega,by show (if fiC (biC1 (biN.getD 5 tE))=true then (14:Int) else 0)=_;decide⟩
  | 6,_=>exact .inl ⟨by omega,by show (if fiC (biC1 (biN.getD 6 tE))=true then (14:Int) else 0)=_;decide⟩
  | 7,_=>exact .inl ⟨by omega,by show (if fiC (biC1 (biN.getD 7 tE))=true then (14:Int) else 0)=_;decide⟩

set_option maxHeartbeats 8000000 in
theorem specWorldCheckIf (L:List CTup) (v:Value) (w:World) (h:classR.slice.In w [v] L)
  (hacc:Past L 4→∀ c vc vh w',c ∈ L→Below w.heap.size w w'→fieldR.slice.In w' [vc] (fsC c)→methR.slice.In w' [vh] (msC c)→Calls Tryz.prog 68 #[v,.agg #[.string (nmC c),.string (suC c),.bool (fiC c),.bool (abC c),vc,vh]] w' fun e w2=>e = .returned (.bool (accB L c))∧Below w'.heap.size w' w2) :
  Calls Tryz.prog 28 #[v] w fun e w'=>e = .returned (.agg #[.int .i64 (wOut L).1,.int .i64 (wOut L).2])∧Below w.heap.size w w':=by
 have HBu:Hid (∀ w' n,Calls Tryz.prog 65 #[.string n] w' fun e w2=>e = .returned (.int .i64 (ixI (fixG id biN n)))∧Below w'.heap.size w' w2):=fun w' n=>specBuilt n w'
 have HFi:Hid (∀ w' n,Below w.heap.size w w'→Calls Tryz.prog 66 #[v,.string n] w' fun e w2=>e = .returned (.int .i64 (ixI (fixG nmC L n)))∧w2=w'):=fun w' n hb=>specFind L v n w' (classR.slice.mono _ _ _ _ hb h)
 have HKn:Hid (∀ w' n,Below w.heap.size w w'→Calls Tryz.prog 53 #[v,.string n] w' fun e w2=>e = .returned (.bool (knB L n))∧Below w'.heap.size w' w2):=fun w' n hb=>specKnown L v n w' (classR.slice.mono _ _ _ _ hb h)
 have HCR:Hid (∀ c vc vh w',(nmC c).size≤maxLen→(suC c).size≤maxLen→fieldR.slice.In w' [vc] (fsC c)→methR.slice.In w' [vh] (msC c)→Calls Tryz.prog 64 #[.agg #[.string (nmC c),.string (suC c),.bool (fiC c),.bool (abC c),vc,vh]] w' fun e w2=>e = .returned (.bool (clsOk (cD c)))∧Below w'.heap.size w' w2):=fun c vc vh w' h1 h2 h3 h4=>specClassRight (cD c) vc vh w' h1 h2 h3 h4
 have HTy:Hid (∀ c vc vh w',Below w.heap.size w w'→fieldR.slice.In w' [vc] (fsC c)→methR.slice.In w' [vh] (msC c)→Calls Tryz.prog 67 #[v,.agg #[.string (nmC c),.string (suC c),.bool (fiC c),.bool (abC c),vc,vh]] w' fun e w2=>e = .returned (.bool (tsK L c))∧Below w'.heap.size w' w2):=fun c vc vh w' hb h3 h4=>specTypes L v c vc vh w' (classR.slice.mono _ _ _ _ hb h) h3 h4
 have HAc:=(show Hid _ from hacc)
 clear hacc
 obtain ⟨a,cap,rfl,hn,hcap,hat⟩:=slice_open (by decide) h
 unfold maxLen at hcap
 have HA:Hid (∀ i (h:i<L.length),∃ b o,a=some ⟨b,o,none⟩∧classR.At w ⟨b,o,none⟩ i L[i]):=hat
 clear hat h
 by_cases h400:400<L.length
 ·have HZ:Hid (wOut L=(0,2)):=wOut_big h400
  generalize wOut L=res at *
  clear HBu HFi HKn HCR HTy HAc HA
  have d:decide ((400:Int)<L.length)=true:=by simp;omega
  go_enter Tryz.func28,Tryz.ntmps28
  go_wp2
  exact bodyPost_ret (v:=.agg #[.int .i64 res.1,.int .i64 res.2]) (by rw [HZ.out];simp [results,Tryz.results28,go_sem]) rfl ⟨rfl,(Below.refl _ _).alloc (Nat.le_refl _) _⟩
 have d400:decide ((400:Int)<L.length)=false:=by simp;omega
 by_cases h10:10<L.length
 ·have HZ:Hid (wOut L=(10,1)):=wOut_many h400 h10
  generalize wOut L=res at *
  clear HBu HFi HKn HCR HTy HAc HA
  have d:decide ((10:Int)<L.length)=true:=by simp;omega
  go_enter Tryz.func28,Tryz.ntmps28
  go_wp2
  exact bodyPost_ret (v:=.agg #[.int .i64 res.1,.int .i64 res.2]) (by rw [HZ.out];simp [results,Tryz.results28,go_sem]) rfl ⟨rfl,(Below.refl _ _).alloc (Nat.le_refl _) _⟩
 have d10:decide ((10:Int)<L.length)=false:=by simp;omega
 have hl:L.length≤10:=by omega
 have HAt:Hid (∀ p i,p<5→Past L p→i<L.length→(∀ j,j<i→cdP L p j=0)→∀ x:Int,cdP L p i=x→x ≠ 0→wOut L=((i:Int),x)):=fun p i h1 h2 h3 h4 x h5 h6=>by rw [← h5];exact wOut_at hl h1 h2 h3 h4 (by rw [h5];exact h6)
 have HOk:Hid (Past L 5→wOut L=(0,0)):=wOut_ok hl
 generalize wOut L=res at *
 have HNx:Hid (∀ p i,(∀ j,j<i→cdP L p j=0)→cdP L p i=0→∀ j,j<i+1→cdP L p j=0):=fun p i h1 h2 j hj=>by
  by_cases e:j=i
  ·subst e;exact h2
  ·exact h1 j (by omega)
 have HCv:Hid (∀ w',Below (w.alloc (.cells #[.int .i64 0,.int .i64 0] 47)).heap.size (w.alloc (.cells #[.int .i64 0,.int .i64 0] 47)) w'→Below w.heap.size w w'):=fun w' hb=>(below_al w _).trans (hb.mono (by simp))
 replace HFi:=(show Hid (∀ w' n,Below (w.alloc (.cells #[.int .i64 0,.int .i64 0] 47)).heap.size (w.alloc (.cells #[.int .i64 0,.int .i64 0] 47)) w'→Calls Tryz.prog 66 #[.slice a L.length cap,.string n] w' fun e w2=>e = .returned (.int .i64 (ixI (fixG nmC L n)))∧w2=w') from fun w' n hb=>HFi.out w' n (HCv.out w' hb))
 replace HKn:=(show Hid (∀ w' n,Below (w.alloc (.cells #[.int .i64 0,.int .i64 0] 47)).heap.size (w.alloc (.cells #[.int .i64 0,.int .i64 0] 47)) w'→Calls Tryz.prog 53 #[.slice a L.length cap,.string n] w' fun e w2=>e = .returned (.bool (knB L n))∧Below w'.heap.size w' w2) from fun w' n hb=>HKn.out w' n (HCv.out w' hb))
 replace HTy:=(show Hid (∀ c vc vh w',Below (w.alloc (.cells #[.int .i64 0,.int .i64 0] 47)).heap.size (w.alloc (.cells #[.int .i64 0,.int .i64 0] 47)) w'→fieldR.slice.In w' [vc] (fsC c)→methR.slice.In w' [vh] (msC c)→Calls Tryz.prog 67 #[.slice a L.length cap,.agg #[.string (nmC c),.string (suC c),.bool (fiC c),.bool (abC c),vc,vh]] w' fun e w2=>e = .returned (.bool (tsK L c))∧Below w'.heap.size w' w2) from fun c vc vh w' hb=>HTy.out c vc vh w' (HCv.out w' hb))
 replace HAc:=(show Hid (Past L 4→∀ c vc vh w',c ∈ L→Below (w.alloc (.cells #[.int .i64 0,.int .i64 0] 47)).heap.size (w.alloc (.cells #[.int .i64 0,.int .i64 0] 47)) w'→fieldR.slice.In w' [vc] (fsC c)→methR.slice.In w' [vh] (msC c)→Calls Tryz.prog 68 #[.slice a L.length cap,.agg #[.string (nmC c),.string (suC c),.bool (fiC c),.bool (abC c),vc,vh]] w' fun e w2=>e = .returned (.bool (accB L c))∧Below w'.heap.size w' w2) from fun hp c vc vh w' hc hb=>HAc.out hp c vc vh w' hc (HCv.out w' hb))
 replace HA:=(show Hid (∀ i (h:i<L.length),∃ b o,a=some ⟨b,o,none⟩∧classR.At (w.alloc (.cells #[.int .i64 0,.int .i64 0] 47)) ⟨b,o,none⟩ i L[i]) from fun i hi=>by
  obtain ⟨b,o,e,hx⟩:=HA.out i hi
  exact⟨b,o,e,hx.mono (below_al _ _)⟩)
 go_enter Tryz.func28,Tryz.ntmps28
 go_wp2_with fail
 have r0:(w.alloc (.cells #[.int .i64 0,.int .i64 0] 47)).cell? ⟨w.heap.size,0,none⟩=some (.int .i64 0):=by simp [go_sem]
 have r1:(w.alloc (.cells #[.int .i64 0,.int .i64 0] 47)).cell? ⟨w.heap.size,1,none⟩=some (.int .i64 0):=by simp [go_sem]
 have fr:∀ j,(w.alloc (.cells #[.int .i64 0,.int .i64 0] 47)).frozen? ⟨w.heap.size,j,none⟩=false:=fun j=>by simp [go_sem]
 have hRW:w.heap.size<(w.alloc (.cells #[.int .i64 0,.int .i64 0] 47)).heap.size:=by simp
 have HRR:=(show Hid (_∧_∧(∀ j,_)∧_) from ⟨r0,r1,fr,hRW⟩)
 clear r0 r1 fr
 generalize w.alloc (.cells #[.int .i64 0,.int .i64 0] 47)=W at *
 go_loopw [3] (fun j wr=>∃ i:Nat,i≤L.length∧j = .int .i64 (i:Int)∧Below W.heap.size W wr∧∀ j,j<i→cdP L 0 j=0) (fun j _=>L.length - (intOf j).toNat)
 case atStart=>exact⟨0,Nat.zero_le _,rfl,Below.refl _ _,fun j h=>absurd h (by omega)⟩
 case round =>
  obtain ⟨i,hi,rfl,hb,hgood⟩:=hrel
  have HG:=(show Hid (∀ j,j<i→cdP L 0 j=0) from hgood)
  have HBr:Hid (Below W.heap.size W wr):=hb
  clear hb hgood
  by_cases hlt:i<L.length
  ·obtain ⟨b,o,rfl,hx⟩:=HA.out i hlt
   obtain ⟨vc,vh,g0,g1,g2,g3,g4,g5,s0,s1,h4,h5⟩:=classAt (hx.mono HBr.out)
   have hcd:=cdP0 hlt
   clear hx
   have HR1:Hid (Calls Tryz.prog 64 #[.agg #[.string (nmC L[i]),.string (suC L[i]),.bool (fiC L[i]),.bool (abC L[i]),vc,vh]] wr fun e w2=>e = .returned (.bool (clsOk (cD L[i])))∧Below wr.heap.size wr w2):=HCR.out L[i] vc vh wr s0 s1 h4 h5
   have hbz:b<wr.heap.size:=World.block_lt_of_cell? _ _ g0
   obtain ⟨av,cv,rfl⟩:=slice_form h4
   obtain ⟨ah,ch,rfl⟩:=slice_form h5
   unfold cd0 at hcd
   have hpc:=p0_cases hlt
   clear h4 h5 s0 s1
   generalize clsOk (cD L[i])=q at *
   cases q
   ·have HZ:Hid (res=((i:Int),1)):=HAt.out 0 i (by omega) (fun q hq=>by omega) hlt HG.out 1 (by rw [hcd];rfl) (by omega)
    clear hpc hcd HG
    generalize L[i]=c at *
    go_wp2_with fail
    refine Calls.mono HR1.out ?_
    rintro e w2 ⟨rfl,hb2⟩
    have HB2:Hid (Below W.heap.size W w2):=HBr.out.trans (hb2.mono HBr.out.size)
    clear hb2 g0 g1 g2 g3 g4 g5
    have q0:=carry HB2.out hRW HRR.out.1
    have q1:=carry HB2.out hRW HRR.out.2.1
    have fq:=fun j=>carryF HB2.out hRW (HRR.out.2.2.1 j)
    go_wp2
    exact bodyPost_ret (v:=.agg #[.int .i64 res.1,.int .i64 res.2]) (by rw [HZ.out];simp [results,Tryz.results28,go_sem,q0,q1]) rfl ⟨rfl,((HCv.out _ HB2.out).setCell (by simp) _).setCell (by simp) _⟩
   ·rcases hpc with ⟨bx,e1,e2⟩ | ⟨e1,jx,e2,⟨e3,e4⟩ | ⟨e3,e4⟩⟩
    ·have HZ:Hid (res=((i:Int),7)):=HAt.out 0 i (by omega) (fun q hq=>by omega) hlt HG.out 7 (by rw [hcd,e2];rfl) (by omega)
     have HB1:Hid (∀ w',Calls Tryz.prog 65 #[.string (nmC L[i])] w' fun e w2=>e = .returned (.int .i64 (bx:Int))∧Below w'.heap.size w' w2):=fun w'=>e1 ▸ HBu.out w' (nmC L[i])
     have dd:decide ((0:Int)≤(bx:Int))=true:=by simp
     clear e1 e2 hcd HG
     generalize L[i]=c at *
     go_wp2_with fail
     refine Calls.mono HR1.out ?_
     rintro e w2 ⟨rfl,hb2⟩
     have HB2:Hid (Below W.heap.size W w2):=HBr.out.trans (hb2.mono HBr.out.size)
     replace g0:=carry hb2 hbz g0
     clear hb2 g1 g2 g3 g4 g5
     go_wp2_with fail
     refine Calls.mono (HB1.out _) ?_
     rintro e w3 ⟨rfl,hb3⟩
     have HB3:Hid (Below W.heap.size W w3):=HB2.out.trans (hb3.mono HB2.out.size)
     clear hb3 g0
     have q0:=carry HB3.out hRW HRR.out.1
     have q1:=carry HB3.out hRW HRR.out.2.1
     have fq:=fun j=>carryF HB3.out hRW (HRR.out.2.2.1 j)
     go_wp2
     exact bodyPost_ret (v:=.agg #[.int .i64 res.1,.int .i64 res.2]) (by rw [HZ.out];simp [results,Tryz.results28,go_sem,q0,q1]) rfl ⟨rfl,((HCv.out _ HB3.out).setCell (by simp) _).setCell (by simp) _⟩
    ·have HZ:Hid (res=((i:Int),7)):=HAt.out 0 i (by omega) (fun q hq=>by omega) hlt HG.out 7 (by rw [hcd,e4];rfl) (by omega)
     have HB1:Hid (∀ w',Calls Tryz.prog 65 #[.string (nmC L[i])] w' fun e w2=>e = .returned (.int .i64 (-1))∧Below w'.heap.size w' w2):=fun w'=>e1 ▸ HBu.out w' (nmC L[i])
     have HF1:Hid (∀ w',Below W.heap.size W w'→Calls Tryz.prog 66 #[.slice (some ⟨b,o,none⟩) L.length cap,.string (nmC L[i])] w' fun e w2=>e = .returned (.int .i64 (jx:Int))∧w2=w'):=fun w' hb=>e2 ▸ HFi.out w' (nmC L[i]) hb
     have dd:decide ((jx:Int)<(i:Int))=true:=by simp;omega
     clear e1 e2 e4 hcd HG
     generalize L[i]=c at *
     go_wp2_with fail
     refine Calls.mono HR1.out ?_
     rintro e w2 ⟨rfl,hb2⟩
     have HB2:Hid (Below W.heap.size W w2):=HBr.out.trans (hb2.mono HBr.out.size)
     replace g0:=carry hb2 hbz g0
     have hbz2:b<w2.heap.size:=Nat.lt_of_lt_of_le hbz hb2.size
     clear hb2 g1 g2 g3 g4 g5
     go_wp2_with fail
     refine Calls.mono (HB1.out _) ?_
     rintro e w3 ⟨rfl,hb3⟩
     have HB3:Hid (Below W.heap.size W w3):=HB2.out.trans (hb3.mono HB2.out.size)
     replace g0:=carry hb3 hbz2 g0
     clear hb3
     go_wp2_with fail
     refine Calls.mono (HF1.out _ HB3.out) ?_
     rintro e w4 ⟨rfl,hw4⟩
     subst w4
     have q0:=carry HB3.out hRW HRR.out.1
     have q1:=carry HB3.out hRW HRR.out.2.1
     have fq:=fun j=>carryF HB3.out hRW (HRR.out.2.2.1 j)
     go_wp2
     exact bodyPost_ret (v:=.agg #[.int .i64 res.1,.int .i64 res.2]) (by rw [HZ.out];simp [results,Tryz.results28,go_sem,q0,q1]) rfl ⟨rfl,((HCv.out _ HB3.out).setCell (by simp) _).setCell (by simp) _⟩
    ·have HZ:Hid (∀ j,j<i+1→cdP L 0 j=0):=HNx.out 0 i HG.out (by rw [hcd,e4];rfl)
     have HB1:Hid (∀ w',Calls Tryz.prog 65 #[.string (nmC L[i])] w' fun e w2=>e = .returned (.int .i64 (-1))∧Below w'.heap.size w' w2):=fun w'=>e1 ▸ HBu.out w' (nmC L[i])
     have HF1:Hid (∀ w',Below W.heap.size W w'→Calls Tryz.prog 66 #[.slice (some ⟨b,o,none⟩) L.length cap,.string (nmC L[i])] w' fun e w2=>e = .returned (.int .i64 (jx:Int))∧w2=w'):=fun w' hb=>e2 ▸ HFi.out w' (nmC L[i]) hb
     have dd:decide ((jx:Int)<(i:Int))=false:=by simp;omega
     clear e1 e2 e4 hcd HG
     generalize L[i]=c at *
     go_wp2_with fail
     refine Calls.mono HR1.out ?_
     rintro e w2 ⟨rfl,hb2⟩
     have HB2:Hid (Below W.heap.size W w2):=HBr.out.trans (hb2.mono HBr.out.size)
     replace g0:=carry hb2 hbz g0
     have hbz2:b<w2.heap.size:=Nat.lt_of_lt_of_le hbz hb2.size
     clear hb2 g1 g2 g3 g4 g5
     go_wp2_with fail
     refine Calls.mono (HB1.out _) ?_
     rintro e w3 ⟨rfl,hb3⟩
     have HB3:Hid (Below W.heap.size W w3):=HB2.out.trans (hb3.mono HB2.out.size)
     replace g0:=carry hb3 hbz2 g0
     clear hb3
     go_wp2_with fail
     refine Calls.mono (HF1.out _ HB3.out) ?_
     rintro e w4 ⟨rfl,hw4⟩
     subst w4
     go_wp2
     go_roundw
     case rel=>exact⟨i+1,by omega,by go_num,HB3.out,HZ.out⟩
     case measure=>simp [intOf];omega
  ·obtain rfl:i=L.length:=by omega
   have HP1:Hid (Past L 1):=Past.next (fun q hq=>by omega) HG.out
   have HPt:=(show Hid (Part L L.length) from HP1.out.part (by omega))
   have HBe:Hid (Below W.heap.size W wr):=HBr.out
   clear HG HBr
   go_wp2_with fail
   go_loopw [4] (fun j wr=>∃ i:Nat,i≤L.length∧j = .int .i64 (i:Int)∧Below W.heap.size W wr∧∀ j,j<i→cdP L 1 j=0) (fun j _=>L.length - (intOf j).toNat)
   case atStart=>exact⟨0,Nat.zero_le _,rfl,HBe.out,fun j h=>absurd h (by omega)⟩
   case round =>
    obtain ⟨i,hi,rfl,hb,hgood⟩:=hrel
    have HG:=(show Hid (∀ j,j<i→cdP L 1 j=0) from hgood)
    have HBr:Hid (Below W.heap.size W wr):=hb
    clear hb hgood
    by_cases hlt:i<L.length
    ·obtain ⟨b,o,rfl,hx⟩:=HA.out i hlt
     obtain ⟨vc,vh,g0,g1,g2,g3,g4,g5,s0,s1,h4,h5⟩:=classAt (hx.mono HBr.out)
     have hcd:=cdP1 hlt
     clear hx
     have hbz:b<wr.heap.size:=World.block_lt_of_cell? _ _ g0
     have hpc:=p1_cases HPt.out L[i]
     clear h4 h5 s0 s1 g0 g2 g3 g4 g5
     rcases hpc with ⟨e1,e2,e3⟩ | ⟨e0,⟨bx,e1,⟨e2,e3⟩ | ⟨e2,e3,e4⟩⟩ | ⟨e1,jx,hjx,e2,e3⟩⟩
     ·have HZ:Hid (res=((i:Int),8)):=HAt.out 1 i (by omega) HP1.out hlt HG.out 8 (by rw [hcd,e3]) (by omega)
      have HF1:Hid (∀ w',Below W.heap.size W w'→Calls Tryz.prog 66 #[.slice (some ⟨b,o,none⟩) L.length cap,.string (suC L[i])] w' fun e w2=>e = .returned (.int .i64 (-1))∧w2=w'):=fun w' hb=>e1 ▸ HFi.out w' (suC L[i]) hb
      have HK1:Hid (∀ w',Below W.heap.size W w'→Calls Tryz.prog 53 #[.slice (some ⟨b,o,none⟩) L.length cap,.string (suC L[i])] w' fun e w2=>e = .returned (.bool false)∧Below w'.heap.size w' w2):=fun w' hb=>e2 ▸ HKn.out w' (suC L[i]) hb
      clear e1 e2 e3 hcd HG
      generalize L[i]=c at *
      go_wp2_with fail
      refine Calls.mono (HF1.out _ HBr.out) ?_
      rintro e w2 ⟨rfl,hw2⟩
      subst w2
      go_wp2_with fail
      refine Calls.mono (HK1.out _ HBr.out) ?_
      rintro e w3 ⟨rfl,hb3⟩
      have HB3:Hid (Below W.heap.size W w3):=HBr.out.trans (hb3.mono HBr.out.size)
      clear hb3
      have q0:=carry HB3.out hRW HRR.out.1
      have q1:=carry HB3.out hRW HRR.out.2.1
      have fq:=fun j=>carryF HB3.out hRW (HRR.out.2.2.1 j)
      go_wp2
      exact bodyPost_ret (v:=.agg #[.int .i64 res.1,.int .i64 res.2]) (by rw [HZ.out];simp [results,Tryz.results28,go_sem,q0,q1]) rfl ⟨rfl,((HCv.out _ HB3.out).setCell (by simp) _).setCell (by simp) _⟩
     ·have HZ:Hid (res=((i:Int),14)):=HAt.out 1 i (by omega) HP1.out hlt HG.out 14 (by rw [hcd,e3]) (by omega)
      have HF1:Hid (∀ w',Below W.heap.size W w'→Calls Tryz.prog 66 #[.slice (some ⟨b,o,none⟩) L.length cap,.string (suC L[i])] w' fun e w2=>e = .returned (.int .i64 (ixI (fixG nmC L (suC L[i]))))∧w2=w'):=fun w' hb=>HFi.out w' (suC L[i]) hb
      have HK1:Hid (∀ w',Below W.heap.size W w'→Calls Tryz.prog 53 #[.slice (some ⟨b,o,none⟩) L.length cap,.string (suC L[i])] w' fun e w2=>e = .returned (.bool true)∧Below w'.heap.size w' w2):=fun w' hb=>e0 ▸ HKn.out w' (suC L[i]) hb
      have HB1:Hid (∀ w',Calls Tryz.prog 65 #[.string (suC L[i])] w' fun e w2=>e = .returned (.int .i64 (bx:Int))∧Below w'.heap.size w' w2):=fun w'=>e1 ▸ HBu.out w' (suC L[i])
      have dd:decide ((1:Int)<(bx:Int))=true:=by simp;omega
      clear e0 e1 e3 hcd HG
      generalize ixI (fixG nmC L (suC L[i]))=kx at *
      generalize L[i]=c at *
      go_wp2_with fail
      refine Calls.mono (HF1.out _ HBr.out) ?_
      rintro e w2 ⟨rfl,hw2⟩
      subst w2
      go_wp2_with fail
      refine Calls.mono (HK1.out _ HBr.out) ?_
      rintro e w3 ⟨rfl,hb3⟩
      have HB3:Hid (Below W.heap.size W w3):=HBr.out.trans (hb3.mono HBr.out.size)
      replace g1:=carry hb3 hbz g1
      clear hb3
      go_wp2_with fail
      refine Calls.mono (HB1.out _) ?_
      rintro e w4 ⟨rfl,hb4⟩
      have HB4:Hid (Below W.heap.size W w4):=HB3.out.trans (hb4.mono HB3.out.size)
      clear hb4
      have q0:=carry HB4.out hRW HRR.out.1
      have q1:=carry HB4.out hRW HRR.out.2.1
      have fq:=fun j=>carryF HB4.out hRW (HRR.out.2.2.1 j)
      go_wp2
      exact bodyPost_ret (v:=.agg #[.int .i64 res.1,.int .i64 res.2]) (by rw [HZ.out];simp [results,Tryz.results28,go_sem,q0,q1]) rfl ⟨rfl,((HCv.out _ HB4.out).setCell (by simp) _).setCell (by simp) _⟩
     ·have HZ:Hid (∀ j,j<i+1→cdP L 1 j=0):=HNx.out 1 i HG.out (by rw [hcd,e4])
      have HF1:Hid (∀ w',Below W.heap.size W w'→Calls Tryz.prog 66 #[.slice (some ⟨b,o,none⟩) L.length cap,.string (suC L[i])] w' fun e w2=>e = .returned (.int .i64 (-1))∧w2=w'):=fun w' hb=>e3 ▸ HFi.out w' (suC L[i]) hb
      have HK1:Hid (∀ w',Below W.heap.size W w'→Calls Tryz.prog 53 #[.slice (some ⟨b,o,none⟩) L.length cap,.string (suC L[i])] w' fun e w2=>e = .returned (.bool true)∧Below w'.heap.size w' w2):=fun w' hb=>e0 ▸ HKn.out w' (suC L[i]) hb
      have HB1:Hid (∀ w',Calls Tryz.prog 65 #[.string (suC L[i])] w' fun e w2=>e = .returned (.int .i64 (bx:Int))∧Below w'.heap.size w' w2):=fun w'=>e1 ▸ HBu.out w' (suC L[i])
      have dd:decide ((1:Int)<(bx:Int))=false:=by simp;omega
      clear e0 e1 e3 e4 hcd HG
      generalize L[i]=c at *
      go_wp2_with fail
      refine Calls.mono (HF1.out _ HBr.out) ?_
      rintro e w2 ⟨rfl,hw2⟩
      subst w2
      go_wp2_with fail
      refine Calls.mono (HK1.out _ HBr.out) ?_
      rintro e w3 ⟨rfl,hb3⟩
      have HB3:Hid (Below W.heap.size W w3):=HBr.out.trans (hb3.mono HBr.out.size)
      replace g1:=carry hb3 hbz g1
      clear hb3
      go_wp2_with fail
      refine Calls.mono (HB1.out _) ?_
      rintro e w4 ⟨rfl,hb4⟩
      have HB4:Hid (Below W.heap.size W w4):=HB3.out.trans (hb4.mono HB3.out.size)
      clear hb4
      go_wp2
      go_roundw
      case rel=>exact⟨i+1,by omega,by go_num,HB4.out,HZ.out⟩
      case measure=>simp [intOf];omega
     ·have HF1:Hid (∀ w',Below W.heap.size W w'→Calls Tryz.prog 66 #[.slice (some ⟨b,o,none⟩) L.length cap,.string (suC L[i])] w' fun e w2=>e = .returned (.int .i64 (jx:Int))∧w2=w'):=fun w' hb=>e2 ▸ HFi.out w' (suC L[i]) hb
      have HK1:Hid (∀ w',Below W.heap.size W w'→Calls Tryz.prog 53 #[.slice (some ⟨b,o,none⟩) L.length cap,.string (suC L[i])] w' fun e w2=>e = .returned (.bool true)∧Below w'.heap.size w' w2):=fun w' hb=>e0 ▸ HKn.out w' (suC L[i]) hb
      have HB1:Hid (∀ w',Calls Tryz.prog 65 #[.string (suC L[i])] w' fun e w2=>e = .returned (.int .i64 (-1))∧Below w'.heap.size w' w2):=fun w'=>e1 ▸ HBu.out w' (suC L[i])
      have dd:decide ((0:Int)≤(jx:Int))=true:=by simp
      obtain ⟨b',o',eb,hx'⟩:=HA.out jx hjx
      cases eb
      obtain ⟨_,_,_,_,k2,_⟩:=classAt (hx'.mono HBr.out)
      have HZ1:Hid (fiC L[jx]=true→res=((i:Int),14)):=fun e=>HAt.out 1 i (by omega) HP1.out hlt HG.out 14 (by rw [hcd,e3,e];rfl) (by omega)
      have HZ0:Hid (fiC L[jx]=false→∀ j,j<i+1→cdP L 1 j=0):=fun e=>HNx.out 1 i HG.out (by rw [hcd,e3,e];rfl)
      clear e0 e1 e2 e3 hcd HG hx'
      generalize fiC L[jx]=fx at *
      generalize L[i]=c at *
      go_wp2_with fail
      refine Calls.mono (HF1.out _ HBr.out) ?_
      rintro e w2 ⟨rfl,hw2⟩
      subst w2
      go_wp2_with fail
      refine Calls.mono (HK1.out _ HBr.out) ?_
      rintro e w3 ⟨rfl,hb3⟩
      have HB3:Hid (Below W.heap.size W w3):=HBr.out.trans (hb3.mono HBr.out.size)
      replace g1:=carry hb3 hbz g1
      replace k2:=carry hb3 hbz k2
      have hbz3:b<w3.heap.size:=Nat.lt_of_lt_of_le hbz hb3.size
      clear hb3
      go_wp2_with fail
      refine Calls.mono (HB1.out _) ?_
      rintro e w4 ⟨rfl,hb4⟩
      have HB4:Hid (Below W.heap.size W w4):=HB3.out.trans (hb4.mono HB3.out.size)
      replace k2:=carry hb4 hbz3 k2
      clear hb4 g1
      cases fx
      ·go_wp2
       go_roundw
       case rel=>exact⟨i+1,by omega,by go_num,HB4.out,HZ0.out (by first | rfl | trivial)⟩
       case measure=>simp [intOf];omega
      ·have q0:=carry HB4.out hRW HRR.out.1
       have q1:=carry HB4.out hRW HRR.out.2.1
       have fq:=fun j=>carryF HB4.out hRW (HRR.out.2.2.1 j)
       go_wp2
       exact bodyPost_ret (v:=.agg #[.int .i64 res.1,.int .i64 res.2]) (by rw [HZ1.out (by first | rfl | trivial)];simp [results,Tryz.results28,go_sem,q0,q1]) rfl ⟨rfl,((HCv.out _ HB4.out).setCell (by simp) _).setCell (by simp) _⟩
    ·obtain rfl:i=L.length:=by omega
     have HP2:Hid (Past L 2):=HP1.out.next HG.out
     have HBe:Hid (Below W.heap.size W wr):=HBr.out
     clear HG HBr
     go_wp2_with fail
     go_loopw [6] (fun j wr=>∃ i:Nat,i≤L.length∧j = .int .i64 (i:Int)∧Below W.heap.size W wr∧∀ j,j<i→cdP L 2 j=0) (fun j _=>L.length - (intOf j).toNat)
     case atStart=>exact⟨0,Nat.zero_le _,rfl,HBe.out,fun j h=>absurd h (by omega)⟩
     case round =>
      obtain ⟨i,hi,rfl,hb,hgood⟩:=hrel
      have HG:=(show Hid (∀ j,j<i→cdP L 2 j=0) from hgood)
      have HBr:Hid (Below W.heap.size W wr):=hb
      clear hb hgood
      by_cases hlt:i<L.length
      ·obtain ⟨b,o,rfl,hx⟩:=HA.out i hlt
       obtain ⟨vc,vh,g0,g1,g2,g3,g4,g5,s0,s1,h4,h5⟩:=classAt (hx.mono HBr.out)
       have hcd:=cdP2 hlt
       clear hx
       have HT1:Hid (Calls Tryz.prog 67 #[.slice (some ⟨b,o,none⟩) L.length cap,.agg #[.string (nmC L[i]),.string (suC L[i]),.bool (fiC L[i]),.bool (abC L[i]),vc,vh]] wr fun e w2=>e = .returned (.bool (tsK L L[i]))∧Below wr.heap.size wr w2):=HTy.out L[i] vc vh wr HBr.out h4 h5
       obtain ⟨av,cv,rfl⟩:=slice_form h4
       obtain ⟨ah,ch,rfl⟩:=slice_form h5
       unfold cd2 at hcd
       have HZ1:Hid (tsK L L[i]=false→res=((i:Int),6)):=fun e=>HAt.out 2 i (by omega) HP2.out hlt HG.out 6 (by rw [hcd,e];rfl) (by omega)
       have HZ0:Hid (tsK L L[i]=true→∀ j,j<i+1→cdP L 2 j=0):=fun e=>HNx.out 2 i HG.out (by rw [hcd,e];rfl)
       clear h4 h5 s0 s1 hcd HG
       generalize tsK L L[i]=q at *
       generalize L[i]=c at *
       go_wp2_with fail
       refine Calls.mono HT1.out ?_
       rintro e w2 ⟨rfl,hb2⟩
       have HB2:Hid (Below W.heap.size W w2):=HBr.out.trans (hb2.mono HBr.out.size)
       clear hb2 g0 g1 g2 g3 g4 g5
       cases q
       ·have q0:=carry HB2.out hRW HRR.out.1
        have q1:=carry HB2.out hRW HRR.out.2.1
        have fq:=fun j=>carryF HB2.out hRW (HRR.out.2.2.1 j)
        go_wp2
        exact bodyPost_ret (v:=.agg #[.int .i64 res.1,.int .i64 res.2]) (by rw [HZ1.out (by first | rfl | trivial)];simp [results,Tryz.results28,go_sem,q0,q1]) rfl ⟨rfl,((HCv.out _ HB2.out).setCell (by simp) _).setCell (by simp) _⟩
       ·go_wp2
        go_roundw
        case rel=>exact⟨i+1,by omega,by go_num,HB2.out,HZ0.out (by first | rfl | trivial)⟩
        case measure=>simp [intOf];omega
      ·obtain rfl:i=L.length:=by omega
       have HP3:Hid (Past L 3):=HP2.out.next HG.out
       have HBe:Hid (Below W.heap.size W wr):=HBr.out
       clear HG HBr
       go_wp2_with fail
       go_loopw [7] (fun j wr=>∃ i:Nat,i≤L.length∧j = .int .i64 (i:Int)∧Below W.heap.size W wr∧∀ j,j<i→cdP L 3 j=0) (fun j _=>L.length - (intOf j).toNat)
       case atStart=>exact⟨0,Nat.zero_le _,rfl,HBe.out,fun j h=>absurd h (by omega)⟩
       case round =>
        obtain ⟨i,hi,rfl,hb,hgood⟩:=hrel
        have HG:=(show Hid (∀ j,j<i→cdP L 3 j=0) from hgood)
        have HBr:Hid (Below W.heap.size W wr):=hb
        clear hb hgood
        by_cases hlt:i<L.length
        ·obtain ⟨b,o,rfl,hx⟩:=HA.out i hlt
         obtain ⟨vc,vh,g0,g1,g2,g3,g4,g5,s0,s1,h4,h5⟩:=classAt (hx.mono HBr.out)
         have hcd:=cdP3 hlt
         clear hx
         have HCy:Hid (nmC L[i] ∈ (chG nmC suC L (L.length+1) (suC L[i])).map nmC→res=((i:Int),9)):=fun e=>HAt.out 3 i (by omega) HP3.out hlt HG.out 9 (by rw [hcd];unfold cd3;exact @if_pos _ (Classical.propDecidable _) ((cyc_bound HPt.out.nodup (List.getElem_mem hlt)).2 e) _ _ _) (by omega)
         have HNc:Hid (nmC L[i] ∉ (chG nmC suC L (L.length+1) (suC L[i])).map nmC→∀ j,j<i+1→cdP L 3 j=0):=fun e=>HNx.out 3 i HG.out (by rw [hcd];unfold cd3;exact @if_neg _ (Classical.propDecidable _) (fun k=>e ((cyc_bound HPt.out.nodup (List.getElem_mem hlt)).1 k)) _ _ _)
         have HF1:Hid (∀ n,Calls Tryz.prog 66 #[.slice (some ⟨b,o,none⟩) L.length cap,.string n] wr fun e w2=>e = .returned (.int .i64 (ixI (fixG nmC L n)))∧w2=wr):=fun n=>HFi.out wr n HBr.out
         have HCl:Hid (∀ k (hk:k<L.length),wr.cell? ⟨b,o+k * 6+1,none⟩=some (.string (suC L[k]))):=fun k hk=>by
          obtain ⟨b',o',eb,hx'⟩:=HA.out k hk
          cases eb
          obtain ⟨_,_,_,k1,_⟩:=classAt (hx'.mono HBr.out)
          exact k1
         have HIn:Hid (∀ n,(fixG nmC L n=none∧∀ f,chG nmC suC L f n=[]) ∨ ∃ k,∃ hk:k<L.length,fixG nmC L n=some k∧nmC L[k]=n∧∀ f,chG nmC suC L (f+1) n=L[k] :: chG nmC suC L f (suC L[k])):=fun n=>by
          rcases fix_cases nmC L n with ⟨k1,k2⟩ | ⟨k,hk,k1,k2,k3⟩
          ·exact .inl ⟨k1,fun f=>chG_none k2 f⟩
          ·exact .inr ⟨k,hk,k1,k2,fun f=>chG_some k3 f⟩
         have HUq:Hid (∀ k (hk:k<L.length),nmC L[k]=nmC L[i]→k=i):=fun k hk e=>by
          have hp:=List.pairwise_iff_getElem.1 HPt.out.nodup
          by_cases e1:k<i
          ·exact absurd (by rw [List.getElem_map,List.getElem_map];exact e) (hp k i (by simpa using hk) (by simpa using hlt) e1)
          ·by_cases e2:i<k
           ·exact absurd (by rw [List.getElem_map,List.getElem_map];exact e.symm) (hp i k (by simpa using hlt) (by simpa using hk) e2)
           ·omega
         clear h4 h5 s0 s1 hcd HG g0 g2 g3 g4 g5
         go_wp2_with fail
         refine Calls.mono (HF1.out _) ?_
         rintro e w2 ⟨rfl,hw2⟩
         subst w2
         generalize wr=wo at *
         go_wp2_with fail
         go_loopw [8,9] (fun j8 j9 wr=>∃ (s:Nat) (n:ByteArray) (pre:List CTup),s≤L.length+1∧j9 = .int .i64 (s:Int)∧j8 = .int .i64 (ixI (fixG nmC L n))∧wr=wo∧chG nmC suC L (L.length+1) (suC L[i])=pre ++ chG nmC suC L (L.length+1 - s) n∧nmC L[i] ∉ pre.map nmC) (fun _ j9 _=>L.length+1 - (intOf j9).toNat)
         case atStart=>exact⟨0,suC L[i],[],by omega,rfl,rfl,rfl,rfl,by simp⟩
         case round =>
          obtain ⟨s,n,pre,hs,rfl,rfl,hwr,hch,hpre⟩:=hrel
          subst wr
          by_cases hsl:s≤L.length
          case neg =>
           have HZ:Hid (∀ j,j<i+1→cdP L 3 j=0):=HNc.out (by rw [hch,show L.length+1 - s=0 by omega,chG_zero,List.append_nil];exact hpre)
           have dd:decide ((s:Int)≤(L.length:Int))=false:=by simp;omega
           clear hch hpre
           go_wp2
           go_roundw
           case rel=>exact⟨i+1,by omega,by go_num,HBr.out,HZ.out⟩
           case measure=>simp [intOf];omega
          have dd:decide ((s:Int)≤(L.length:Int))=true:=by simp;omega
          rcases HIn.out n with ⟨k1,k2⟩ | ⟨k,hk,k1,k2,k3⟩
          ·have HZ:Hid (∀ j,j<i+1→cdP L 3 j=0):=HNc.out (by rw [hch,k2,List.append_nil];exact hpre)
           have ex:ixI (fixG nmC L n) = -1:=by rw [k1];rfl
           rw [ex]
           clear hch hpre k1 k2 ex
           go_wp2
           go_roundw
           case rel=>exact⟨i+1,by omega,by go_num,HBr.out,HZ.out⟩
           case measure=>simp [intOf];omega
          ·have ex:ixI (fixG nmC L n)=(k:Int):=by rw [k1];rfl
           rw [ex]
           have d0:decide ((0:Int)≤(k:Int))=true:=by simp
           have hch2:chG nmC suC L (L.length+1) (suC L[i])=pre ++ (L[k] :: chG nmC suC L (L.length+1 - (s+1)) (suC L[k])):=by
            rw [hch,show L.length+1 - s=(L.length+1 - (s+1))+1 by omega,k3]
           by_cases eki:k=i
           ·subst eki
            have HZ:Hid (res=((k:Int),9)):=HCy.out (by rw [hch2,List.map_append];exact List.mem_append.2 (.inr (by rw [List.map_cons];exact List.mem_cons_self)))
            have d1:((k:Int) == (k:Int))=true:=by simp
            clear hch hch2 hpre k1 k2 k3 ex HCy HNc
            have q0:=carry HBr.out hRW HRR.out.1
            have q1:=carry HBr.out hRW HRR.out.2.1
            have fq:=fun j=>carryF HBr.out hRW (HRR.out.2.2.1 j)
            go_wp2
            exact bodyPost_ret (v:=.agg #[.int .i64 res.1,.int .i64 res.2]) (by rw [HZ.out];simp [results,Tryz.results28,go_sem,q0,q1]) rfl ⟨rfl,((HCv.out _ HBr.out).setCell (by simp) _).setCell (by simp) _⟩
           ·have d1:((k:Int) == (i:Int))=false:=by simp;omega
            have gk:=HCl.out k hk
            have HRel:Hid (chG nmC suC L (L.length+1) (suC L[i])=(pre ++ [L[k]]) ++ chG nmC suC L (L.length+1 - (s+1)) (suC L[k])∧nmC L[i] ∉ (pre ++ [L[k]]).map nmC):=⟨by rw [hch2];simp,fun hm=>by
             rw [List.map_append] at hm
             rcases List.mem_append.1 hm with hm | hm
             ·exact hpre hm
             ·simp at hm;exact eki (HUq.out k hk hm.symm)⟩
            clear hch hch2 hpre k1 k2 k3 ex
            go_wp2_with fail
            refine Calls.mono (HF1.out _) ?_
            rintro e w2 ⟨rfl,hw2⟩
            subst w2
            go_wp2
            go_roundw
            case rel=>exact⟨s+1,suC L[k],pre ++ [L[k]],by omega,by go_num,rfl,by first | rfl | trivial,HRel.out⟩
            case measure=>simp [intOf];omega
        ·obtain rfl:i=L.length:=by omega
         have HP4:Hid (Past L 4):=HP3.out.next HG.out
         have HBe:Hid (Below W.heap.size W wr):=HBr.out
         clear HG HBr
         go_wp2_with fail
         go_loopw [10] (fun j wr=>∃ i:Nat,i≤L.length∧j = .int .i64 (i:Int)∧Below W.heap.size W wr∧∀ j,j<i→cdP L 4 j=0) (fun j _=>L.length - (intOf j).toNat)
         case atStart=>exact⟨0,Nat.zero_le _,rfl,HBe.out,fun j h=>absurd h (by omega)⟩
         case round =>
          obtain ⟨i,hi,rfl,hb,hgood⟩:=hrel
          have HG:=(show Hid (∀ j,j<i→cdP L 4 j=0) from hgood)
          have HBr:Hid (Below W.heap.size W wr):=hb
          clear hb hgood
          by_cases hlt:i<L.length
          ·obtain ⟨b,o,rfl,hx⟩:=HA.out i hlt
           obtain ⟨vc,vh,g0,g1,g2,g3,g4,g5,s0,s1,h4,h5⟩:=classAt (hx.mono HBr.out)
           have hcd:=cdP4 hlt
           clear hx
           have HT1:Hid (Calls Tryz.prog 68 #[.slice (some ⟨b,o,none⟩) L.length cap,.agg #[.string (nmC L[i]),.string (suC L[i]),.bool (fiC L[i]),.bool (abC L[i]),vc,vh]] wr fun e w2=>e = .returned (.bool (accB L L[i]))∧Below wr.heap.size wr w2):=HAc.out HP4.out L[i] vc vh wr (List.getElem_mem hlt) HBr.out h4 h5
           obtain ⟨av,cv,rfl⟩:=slice_form h4
           obtain ⟨ah,ch,rfl⟩:=slice_form h5
           unfold cd4 at hcd
           have HZ1:Hid (accB L L[i]=false→res=((i:Int),14)):=fun e=>HAt.out 4 i (by omega) HP4.out hlt HG.out 14 (by rw [hcd];exact @if_neg _ (Classical.propDecidable _) (fun k=>by rw [← accB_yes k] at e;cases e) _ _ _) (by omega)
           have HZ0:Hid (accB L L[i]=true→∀ j,j<i+1→cdP L 4 j=0):=fun e=>HNx.out 4 i HG.out (by rw [hcd];exact @if_pos _ (Classical.propDecidable _) (Classical.byContradiction fun k=>by rw [← accB_no k] at e;cases e) _ _ _)
           clear h4 h5 s0 s1 hcd HG
           generalize accB L L[i]=q at *
           generalize L[i]=c at *
           go_wp2_with fail
           refine Calls.mono HT1.out ?_
           rintro e w2 ⟨rfl,hb2⟩
           have HB2:Hid (Below W.heap.size W w2):=HBr.out.trans (hb2.mono HBr.out.size)
           clear hb2 g0 g1 g2 g3 g4 g5
           cases q
           ·have q0:=carry HB2.out hRW HRR.out.1
            have q1:=carry HB2.out hRW HRR.out.2.1
            have fq:=fun j=>carryF HB2.out hRW (HRR.out.2.2.1 j)
            go_wp2
            exact bodyPost_ret (v:=.agg #[.int .i64 res.1,.int .i64 res.2]) (by rw [HZ1.out (by first | rfl | trivial)];simp [results,Tryz.results28,go_sem,q0,q1]) rfl ⟨rfl,((HCv.out _ HB2.out).setCell (by simp) _).setCell (by simp) _⟩
           ·go_wp2
            go_roundw
            case rel=>exact⟨i+1,by omega,by go_num,HB2.out,HZ0.out (by first | rfl | trivial)⟩
            case measure=>simp [intOf];omega
          ·obtain rfl:i=L.length:=by omega
           have HZ:Hid (res=(0,0)):=HOk.out (HP4.out.next HG.out)
           clear HG
           have q0:=carry HBr.out hRW HRR.out.1
           have q1:=carry HBr.out hRW HRR.out.2.1
           have fq:=fun j=>carryF HBr.out hRW (HRR.out.2.2.1 j)
           go_wp2
           exact bodyPost_ret (v:=.agg #[.int .i64 res.1,.int .i64 res.2]) (by rw [HZ.out];simp [results,Tryz.results28,go_sem,q0,q1]) rfl ⟨rfl,((HCv.out _ HBr.out).setCell (by simp) _).setCell (by simp) _⟩
end Go.Proofs.YtmhgaggpdggbeaaGreatDoor
