import Derived.Test.YtmhgaggpdggbeaaGreatDoorWi14
import Derived.Test.YtmhgaggpdggbeaaGreatDoorWdM
import Derived.Test.YtmhgaggpdggbeaaGreatDoorWfI
import Derived.Deep.RegionHeld3
import Derived.Deep.CutBlock
import Derived.Test.YtmhgaggpdggbeaaGreatDoorTRight
import Derived.Test.YtmhgaggpdggbeaaGreatDoorReadI
namespace Go.Proofs.YtmhgaggpdggbeaaGreatDoor
open Go.RowKit
set_option maxRecDepth 20000
set_option linter.unusedVariables false
theorem set_self {w:World} {p:Addr} {v:Value} (h:w.cell? p=some v):w.setCell p v=w:=by
 unfold World.setCell
 unfold World.cell? at h
 split at h<;>rename_i hh
 ·simp only [Option.ite_none_left_eq_some] at h
  obtain ⟨hs,h⟩:=h
  rename_i c t f
  have hc:∀ c:Array Value,c[p.off]?=some v→c.setIfInBounds p.off v=c:=fun c h=>by
   apply Array.ext_getElem?
   intro i
   rw [Array.getElem?_setIfInBounds]
   split
   ·next e =>
    subst e
    rw [h]
    split
    ·rfl
    ·next hn=>rw [Array.getElem?_eq_none (by omega)] at h;cases h
   ·rfl
  congr 1
  apply Array.ext_getElem?
  intro i
  rw [Array.getElem?_modify]
  split
  ·next e=>subst e;rw [hh];simp [hc _ h]
  ·rfl
 ·cases h
noncomputable def foV (L:List CTup) (n:ByteArray):List FieldD:=if n.size≤20000∧rtB L=true then fldL L n else []
theorem bi_fs:∀ b ∈ biC,fsC b=[]:=by decide
theorem cls_f8 {L:List CTup} (hR:Right L):∀ c ∈ allC L,(fsC c).length≤8:=fun c hc=>by
 rcases List.mem_append.1 hc with h | h
 ·rw [bi_fs c h];simp
 ·obtain ⟨i,hi,rfl⟩:=List.mem_iff_getElem.1 h
  exact (hR.part.ok i hi hi).fl
theorem fs_tie {E:List WE} {L:List CTup} (hR:Right L) (h:E.map WE.c=allC L) (n:ByteArray):fsW (wyG E n)=fldL L n:=by
 obtain ⟨tl,h1,h2⟩:=wyS hR h n
 have e:fsW (wyG E n)=((wyG E n).map WE.c).reverse.flatMap ownF:=by unfold fsW;rw [← List.map_reverse,List.flatMap_map]
 have e2:tl.reverse.flatMap ownF=[]:=by
  rw [List.flatMap_eq_nil_iff]
  intro b hb
  unfold ownF
  rw [bi_fs b (h2 b (List.mem_reverse.1 hb))]
  rfl
 rw [e,h1,List.reverse_append,List.flatMap_append,e2]
 rfl
theorem fld_long {L:List CTup} (hR:Right L) {n:ByteArray} (h:20<n.size):fldL L n=[]:=by
 apply fldL_none
 unfold lkG
 rw [List.find?_eq_none]
 intro c hc
 have:=all_size hR.part c (List.mem_append_right _ hc)
 simp only [decide_eq_true_eq]
 intro e
 rw [e] at this
 omega
set_option maxHeartbeats 2000000 in
theorem specFieldsOf (L:List CTup) (v:Value) (n:ByteArray) (w:World) (h:classR.slice.In w [v] L) (hn:n.size≤maxLen) :
  Calls Tryz.prog 10 #[v,.string n] w fun e w'=>Below w.heap.size w w'∧∃ u,e = .returned u∧w'.ownsRow w.heap.size 61 3 u (foV L n).length ((foV L n).flatMap cFd):=by
 have HRt:Hid (Calls Tryz.prog 38 #[v] w fun e w2=>e = .returned (.bool (rtB L))∧Below w.heap.size w w2):=specRight L v w h
 have HFm:Hid (rtB L=true→∀ w',Below w.heap.size w w'→Calls Tryz.prog 39 #[v,.string n] w' fun e w2=>Below w'.heap.size w' w2∧∃ u,e = .returned u∧w2.ownsRow w'.heap.size 61 3 u (fldL L n).length ((fldL L n).flatMap cFd)):=fun hr w' hb =>
  have hR:=rt_right hr
  specFieldsL L v (Past.acyL fun q hq=>hR.2 q (by omega)) (by have:=hR.1;omega) (fun c hc=>cls_f8 hR c (List.mem_append_right _ hc)) _ n w' (classR.slice.mono _ _ _ _ hb h) (Nat.lt_succ_self _)
 obtain ⟨va,vcap,rfl,hvn,hvc,_⟩:=slice_open (by decide) h
 unfold maxLen at hn hvc
 clear h
 by_cases k1:20000<n.size
 ·have HZ:Hid (foV L n=[]):=by unfold foV;exact if_neg (by omega)
  have c1:decide ((20000:Int)<(n.size:Int))=true:=by simp;omega
  have HO:Hid (Below w.heap.size w (w.alloc (.cells #[] 61))∧(w.alloc (.cells #[] 61)).ownsRow w.heap.size 61 3 (.slice (some ⟨w.heap.size,0,none⟩) 0 0) 0 []):=⟨(Below.refl _ _).alloc (Nat.le_refl _) _,World.ownsRow_lit w #[] 0 (Nat.le_refl _) (by unfold maxLen;omega) rfl⟩
  clear HRt HFm
  go_enter Tryz.func10,Tryz.ntmps10
  go_wp2
  go_ret
  rw [HZ.out]
  exact⟨HO.out.1,_,rfl,HO.out.2⟩
 have c1:decide ((20000:Int)<(n.size:Int))=false:=by simp;omega
 cases hr:rtB L with
 | false =>
  rw [hr] at HRt
  have HZ:Hid (foV L n=[]):=by unfold foV;exact if_neg (by simp [hr])
  clear HFm
  go_enter Tryz.func10,Tryz.ntmps10
  go_wp2_with fail
  refine Calls.mono HRt.out ?_
  rintro e w1 ⟨rfl,hb1⟩
  have HO:Hid (Below w.heap.size w (w1.alloc (.cells #[] 61))∧(w1.alloc (.cells #[] 61)).ownsRow w.heap.size 61 3 (.slice (some ⟨w1.heap.size,0,none⟩) 0 0) 0 []):=⟨hb1.alloc hb1.size _,World.ownsRow_lit w1 #[] 0 hb1.size (by unfold maxLen;omega) rfl⟩
  clear hb1
  go_wp2
  go_ret
  rw [HZ.out]
  exact⟨HO.out.1,_,rfl,HO.out.2⟩
 | true =>
  rw [hr] at HRt
  have HZ:Hid (foV L n=fldL L n):=by unfold foV;exact if_pos ⟨by omega,hr⟩
  have HF:=(show Hid _ from HFm.out hr)
  clear HFm
  go_enter Tryz.func10,Tryz.ntmps10
  go_wp2_with fail
  refine Calls.mono HRt.out ?_
  rintro e w1 ⟨rfl,hb1⟩
  have HB1:Hid (Below w.heap.size w w1):=hb1
  clear hb1
  go_wp2_with fail
  refine Calls.mono (HF.out _ HB1.out) ?_
  rintro e w2 ⟨hb2,u,rfl,hown⟩
  obtain ⟨up,uc,rfl⟩:=own_sl3 hown
  have HX:Hid (Below w.heap.size w w2∧w2.ownsRow w.heap.size 61 3 (.slice up (fldL L n).length uc) (fldL L n).length ((fldL L n).flatMap cFd)):=⟨HB1.out.trans (hb2.mono HB1.out.size),own_low3 hown HB1.out.size⟩
  clear hb2 hown
  go_wp2
  go_ret
  rw [HZ.out]
  exact⟨HX.out.1,_,rfl,HX.out.2⟩
theorem _root_.Go.World.ownsRow.blocks3 {w w':World} {B e s n:Nat} {v:Value} {xs:List Value} (hh:w.ownsRow B e s v n xs) (hb:∀ k,k<w.heap.size→w'.heap[k]?=w.heap[k]?):w'.ownsRow B e s v n xs:=by
 refine ⟨hh.1,?_⟩
 rcases hh.2 with hn | ⟨g,cap,cur,rfl,hB,hgg,rest⟩
 ·exact .inl hn
 ·exact .inr ⟨g,cap,cur,rfl,hB,(hb g (Array.getElem?_eq_some_iff.1 hgg).1).trans hgg,rest⟩
theorem fs_cells {w:World} {B e g uc k:Nat} {fs:List FieldD} (h:w.ownsRow B e 3 (.slice (some ⟨g,0,none⟩) fs.length uc) fs.length (fs.flatMap cFd)) (hk:k<fs.length) :
  w.cell? ⟨g,k * 3,none⟩=some (.string fs[k].1)∧w.cell? ⟨g,k * 3+1,none⟩=some (.string fs[k].2.1)∧w.cell? ⟨g,k * 3+2,none⟩=some (.bool fs[k].2.2):=by
 have go:∀ (xs:List FieldD) (i:Nat) (hi:i<xs.length) (j:Nat),j<3→(xs.flatMap cFd)[i * 3+j]?=(cFd xs[i])[j]?:=by
  intro xs
  induction xs with
  | nil=>intro i hi;simp at hi
  | cons x xs ih =>
   intro i hi j hj
   rw [List.flatMap_cons]
   cases i with
   | zero=>rw [Nat.zero_mul,Nat.zero_add,List.getElem?_append_left (by simpa [cFd] using hj)];rfl
   | succ i =>
    rw [List.getElem?_append_right (by simp [cFd];omega)]
    have e:(i+1) * 3+j - (cFd x).length=i * 3+j:=by simp [cFd];omega
    rw [e]
    exact ih i (by simpa using hi) j hj
 have c:∀ j,j<3→w.cell? ⟨g,k * 3+j,none⟩=(cFd fs[k])[j]?:=fun j hj=>by rw [h.cellAt (k * 3+j) (by omega),go fs k hk j hj]
 exact⟨c 0 (by omega),c 1 (by omega),c 2 (by omega)⟩
theorem fs_froz {w:World} {B e g uc n:Nat} {xs:List Value} (h:w.ownsRow B e 3 (.slice (some ⟨g,0,none⟩) n uc) n xs):∀ j,w.frozen? ⟨g,j,none⟩=false:=fun j=>by
 rcases h.2 with ⟨h1,_⟩ | ⟨g',cap,cur,h1,hB,hgg,_⟩
 ·cases h1
 ·cases h1
  simp [World.frozen?,hgg]
theorem fld_small {L:List CTup} (hR:Right L) {n:ByteArray}:∀ d ∈ fldL L n,d.1.size≤23∧d.2.1.size≤23∧d.2.2=false:=fun d hd=>by
 unfold fldL at hd
 obtain ⟨c,hc,hd⟩:=List.mem_flatMap.1 hd
 have hcL:=CH_sub c (List.mem_reverse.1 hc)
 obtain ⟨i,hi,rfl⟩:=List.mem_iff_getElem.1 hcL
 unfold ownF at hd
 obtain ⟨h1,h2⟩:=List.mem_filter.1 hd
 obtain ⟨j,hj,rfl⟩:=List.mem_iff_getElem.1 h1
 have hg:=(hR.part.ok i hi hi).fg j hj
 unfold fGood at hg
 rw [Bool.and_eq_true] at hg
 exact⟨Nat.le_trans (nameB_le hg.1) (by omega),tyB_size _ hg.2,by simpa using h2⟩
set_option maxHeartbeats 4000000 in
theorem implFieldsOf (L:List CTup) (v:Value) (n:ByteArray) (w:World) (h:classR.slice.In w [v] L) (ht:Tab w) (hg:Glob w) (hn:n.size≤maxLen) :
  Calls Tryz.prog 12 #[v,.string n] w fun e w'=>Below w.heap.size w w'∧∃ u,e = .returned u∧w'.ownsRow w.heap.size 61 3 u (foV L n).length ((foV L n).flatMap cFd):=by
 obtain ⟨va,vcap,rfl,_⟩:=slice_open (by decide) h
 rcases implMake2 L _ w h ht hg with ⟨hr,hm⟩ | ⟨hr,hR,hm⟩
 ·have HZ:Hid (foV L n=[]):=by unfold foV;exact if_neg (by simp [hr])
  have HM:=(show Hid _ from hm)
  clear hm hr h ht hg
  generalize (wOut L).1=o1 at *
  generalize (wOut L).2=o2 at *
  go_enter Tryz.func12,Tryz.ntmps12
  go_wp2_with fail
  refine Calls.mono HM.out ?_
  rintro e w1 ⟨hb1,rfl⟩
  have HB1:Hid (Below w.heap.size w w1):=hb1
  clear hb1
  go_wp2_with fail
  refine Calls.mono (implFieldsG (.slice none 0 0) none [] n _ (by simp) ⟨_,_,_,rfl⟩ (fun w' hb=>(implWayUp0 n hn w').mono fun e w2 h=>⟨h.2,_,h.1,World.ownsRow_nil _ _ _ _⟩) (fun x hx=>by cases hx)) ?_
  rintro e w2 ⟨hb2,u,rfl,hown⟩
  obtain ⟨up,uc,rfl⟩:=own_sl3 hown
  have HB2:Hid (Below w.heap.size w w2):=((HB1.out.alloc HB1.out.size _).alloc (by have:=HB1.out.size;simp;omega) _).trans (hb2.mono (by have:=HB1.out.size;simp;omega))
  have HO:=(show Hid (w2.ownsRow w.heap.size 61 3 (.slice up 0 uc) 0 []) from own_low3 hown (by have:=HB1.out.size;simp;omega))
  clear hb2 hown
  rw [show (fsW []).length=0 from rfl]
  go_wp2_with fail
  go_loopw [20] (fun j wr=>j = .int .i64 0∧wr=w2) (fun _ _=>0)
  case atStart=>exact⟨rfl,rfl⟩
  case round =>
   obtain ⟨rfl,rfl⟩:=hrel
   go_wp2
   go_ret
   rw [HZ.out]
   exact⟨HB2.out,_,rfl,HO.out⟩
 ·have HM:=(show Hid _ from hm)
  have hZ:foV L n=fldL L n:=by
   unfold foV
   by_cases hb:n.size≤20000
   ·exact if_pos ⟨hb,hr⟩
   ·rw [if_neg (by omega),fld_long hR (by omega)]
  have HSM:=(show Hid (∀ d ∈ fldL L n,d.1.size≤23∧d.2.1.size≤23∧d.2.2=false) from fld_small hR)
  have HL8:(fldL L n).length≤80:=by have:=fldL_len (Past.acyL fun q hq=>hR.2 q (by omega)) (fun c hc=>cls_f8 hR c (List.mem_append_right _ hc)) n;have:=hR.1;omega
  have HFW:Hid (∀ (r:Nat) (E:List WE) (es:Array MapEntry) (ck:Nat) w',WmIs w' r E es ck→E.map WE.c=allC L→Calls Tryz.prog 42 #[.agg #[.slice va L.length vcap,.map (some r)],.string n] w' fun e w2=>Below w'.heap.size w' w2∧∃ u,e = .returned u∧w2.ownsRow w'.heap.size 61 3 u (fldL L n).length ((fldL L n).flatMap cFd)):=fun r E es ck w' hw hE=>by
   have:=implFieldsW (.slice va L.length vcap) r E es ck n w' hw hn ⟨_,_,_,rfl⟩ (all_len' hE hR) (fun x hx=>cls_f8 hR _ (by rw [← hE];exact List.mem_map_of_mem hx))
   rw [fs_tie hR hE] at this
   exact this
  rw [hZ]
  clear hm hr h ht hg hZ hR
  generalize (wOut L).1=o1 at *
  generalize (wOut L).2=o2 at *
  go_enter Tryz.func12,Tryz.ntmps12
  go_wp2_with fail
  refine Calls.mono HM.out ?_
  rintro e w1 ⟨hb1,r,E,es,ck,rfl,hwm,hE⟩
  have HB1:Hid (Below w.heap.size w w1):=hb1
  unfold wdV
  go_wp2_with fail
  refine Calls.mono (HFW.out r E es ck _ (hwm.below (below_al2 _ _ _)) hE) ?_
  rintro e w2 ⟨hb2,u,rfl,hown⟩
  obtain ⟨up,uc,rfl⟩:=own_sl3 hown
  have HB2:Hid (Below w.heap.size w w2):=((HB1.out.alloc HB1.out.size _).alloc (by have:=HB1.out.size;simp;omega) _).trans (hb2.mono (by have:=HB1.out.size;simp;omega))
  have HO2:=(show Hid (w2.ownsRow w.heap.size 61 3 (.slice up (fldL L n).length uc) (fldL L n).length ((fldL L n).flatMap cFd)) from own_low3 hown (by have:=HB1.out.size;simp;omega))
  obtain ⟨fs,hfs⟩:∃ fs,fldL L n=fs:=⟨_,rfl⟩
  rw [hfs] at HSM HL8 HO2 ⊢
  have HFS:Hid (fldL L n=fs):=hfs
  clear hfs
  clear hb1 hb2 hown hwm hE HFW HM
  go_wp2_with fail
  go_loopw [20] (fun j wr=>∃ k:Nat,k≤fs.length∧j = .int .i64 (k:Int)∧Below w2.heap.size w2 wr∧wr.ownsRow w.heap.size 61 3 (.slice up fs.length uc) fs.length (fs.flatMap cFd)) (fun j _=>100 - (intOf j).toNat)
  case atStart=>exact⟨0,by omega,rfl,Below.refl _ _,HO2.out⟩
  case round =>
   obtain ⟨k,hk,rfl,hb,hown⟩:=hrel
   have HB:=(show Hid (Below w2.heap.size w2 wr) from hb)
   clear hb HO2
   by_cases hlt:k<fs.length
   ·obtain ⟨g,rfl⟩:∃ g,up=some ⟨g,0,none⟩:=by
     rcases hown.2 with ⟨h1,h0⟩ | ⟨g,cap,cur,h1,_⟩
     ·omega
     ·injection h1 with e1 e2 e3;exact⟨g,e1⟩
    have HO:=(show Hid (wr.ownsRow w.heap.size 61 3 (.slice (some ⟨g,0,none⟩) fs.length uc) fs.length (fs.flatMap cFd)) from hown)
    obtain ⟨c0,c1,c2⟩:=fs_cells hown hlt
    obtain ⟨q0,q1,hst⟩:=HSM.out _ (List.getElem_mem hlt)
    obtain ⟨d,hd⟩:∃ d,fs[k]=d:=⟨_,rfl⟩
    rw [hd] at c0 c1 c2 q0 q1 hst
    rw [hst] at c2
    have hki:(k:Int)<fs.length:=by omega
    clear hown
    go_upto_region 6 with fail
    have HS6:Hid (∀ w',Below (wr.alloc (.cells #[.string d.1,.string d.2.1,.bool false] 61)).heap.size (wr.alloc (.cells #[.string d.1,.string d.2.1,.bool false] 61)) w'→(w'.cell? ⟨wr.heap.size,0,none⟩=some (.string d.1)∧w'.cell? ⟨wr.heap.size,1,none⟩=some (.string d.2.1))∧Below wr.heap.size wr w'):=fun w' hb=>⟨⟨carry hb (by simp) (by simp [go_sem]),carry hb (by simp) (by simp [go_sem])⟩,((Below.refl _ _).alloc (Nat.le_refl _) _).trans (hb.mono (by simp))⟩
    refine wp_region_held_drew (S:=fun w'=>w'.cell? ⟨wr.heap.size,0,none⟩=some (.string d.1)∧w'.cell? ⟨wr.heap.size,1,none⟩=some (.string d.2.1)) (by kernel_rfl) ((HS6.out _ (Below.refl _ _).drew).1) (fun hHeld=>?_)
    refine wpAnyH_take (i:=0) rfl (by kernel_rfl) (by kernel_rfl) (by kernel_rfl) (fun _ _ _ h=>h) (.inl ⟨by kernel_rfl,by intro w hSw;(try dsimp only at hSw);go_simp;try with_reducible rfl⟩) hHeld ?_
    (try simp only [Act.put,List.getElem_toArray,List.getElem_cons_zero,List.setIfInBounds_toArray,List.set_cons_zero,List.set_cons_succ])
    refine wpAnyH_take (i:=1) rfl (by kernel_rfl) (by kernel_rfl) (by kernel_rfl) (fun _ _ _ h=>h) (.inl ⟨by kernel_rfl,by intro w hSw;(try dsimp only at hSw);go_simp;try with_reducible rfl⟩) hHeld ?_
    (try simp only [Act.put,List.getElem_toArray,List.getElem_cons_zero,List.getElem_cons_succ,List.setIfInBounds_toArray,List.set_cons_zero,List.set_cons_succ])
    refine wpAnyH_take (i:=2) rfl (by kernel_rfl) (by kernel_rfl) (by kernel_rfl) (fun _ _ _ h=>h) (.inl ⟨by kernel_rfl,by intro w hSw;(try dsimp only at hSw);go_simp;try with_reducible rfl⟩) hHeld ?_
    (try simp only [Act.put,List.getElem_toArray,List.getElem_cons_zero,List.getElem_cons_succ,List.setIfInBounds_toArray,List.set_cons_zero,List.set_cons_succ])
    refine wpAnyH_take (i:=3) rfl (by kernel_rfl) (by kernel_rfl) (by kernel_rfl) (fun _ _ _ h=>h) (.inl ⟨by kernel_rfl,by intro w hSw;(try dsimp only at hSw);go_simp;try with_reducible rfl⟩) hHeld ?_
    (try simp only [Act.put,List.getElem_toArray,List.getElem_cons_zero,List.getElem_cons_succ,List.setIfInBounds_toArray,List.set_cons_zero,List.set_cons_succ])
    refine wpAnyH_take (i:=5) rfl (by kernel_rfl) (by kernel_rfl) (by kernel_rfl) (fun _ _ _ h=>h) (.inl ⟨by kernel_rfl,by intro w hSw;(try dsimp only at hSw);go_simp;try with_reducible rfl⟩) hHeld ?_
    (try simp only [Act.put,List.getElem_toArray,List.getElem_cons_zero,List.getElem_cons_succ,List.setIfInBounds_toArray,List.set_cons_zero,List.set_cons_succ])
    refine wpAnyH_take (i:=6) rfl (by kernel_rfl) (by kernel_rfl) (by kernel_rfl) (fun _ _ _ h=>h) (.inl ⟨by kernel_rfl,by intro w hSw;(try dsimp only at hSw);go_simp;try with_reducible rfl⟩) hHeld ?_
    (try simp only [Act.put,List.getElem_toArray,List.getElem_cons_zero,List.getElem_cons_succ,List.setIfInBounds_toArray,List.set_cons_zero,List.set_cons_succ])
    refine wpAnyH_ready (rs:=[4]) (by kernel_rfl) (by simp) ?_
    refine AllReadyH.cons rfl (fun K hK=>?_) AllReadyH.nil
    simp only [List.getElem_toArray,List.getElem_cons_zero,List.getElem_cons_succ]
    go_simp
    refine Calls.mono (libClone d.1 _ (by omega)) ?_
    rintro e u1 ⟨rfl,hu1⟩
    have HU1:Hid (Below (wr.alloc (.cells #[.string d.1,.string d.2.1,.bool false] 61)).heap.size (wr.alloc (.cells #[.string d.1,.string d.2.1,.bool false] 61)) u1):=(Below.refl _ _).drew.trans hu1
    clear hu1
    refine hK.out _ _ ((HS6.out _ HU1.out).1) (fun hHeld=>?_)
    clear hK K
    (try simp only [Act.put,List.getElem_toArray,List.getElem_cons_zero,List.getElem_cons_succ,List.setIfInBounds_toArray,List.set_cons_zero,List.set_cons_succ])
    refine wpAnyH_ready (rs:=[7]) (by kernel_rfl) (by simp) ?_
    refine AllReadyH.cons rfl (fun K hK=>?_) AllReadyH.nil
    simp only [List.getElem_toArray,List.getElem_cons_zero,List.getElem_cons_succ]
    go_simp
    refine Calls.mono (libClone d.2.1 _ (by omega)) ?_
    rintro e u2 ⟨rfl,hu2⟩
    have HU2:Hid (Below wr.heap.size wr u2):=(HS6.out _ (HU1.out.trans (hu2.mono HU1.out.size))).2
    have HSU:=(show Hid _ from (HS6.out _ (HU1.out.trans (hu2.mono HU1.out.size))).1)
    clear hu2
    refine hK.out _ _ HSU.out (fun hHeld=>?_)
    clear hK K
    (try simp only [Act.put,List.getElem_toArray,List.getElem_cons_zero,List.getElem_cons_succ,List.setIfInBounds_toArray,List.set_cons_zero,List.set_cons_succ])
    refine wpAnyH_take (i:=8) rfl (by kernel_rfl) (by kernel_rfl) (by kernel_rfl) (fun _ _ _ h=>h) (.inl ⟨by kernel_rfl,by intro w hSw;(try dsimp only at hSw);go_simp;try with_reducible rfl⟩) hHeld ?_
    (try simp only [Act.put,List.getElem_toArray,List.getElem_cons_zero,List.getElem_cons_succ,List.setIfInBounds_toArray,List.set_cons_zero,List.set_cons_succ])
    refine wpAnyH_take (i:=9) rfl (by kernel_rfl) (by kernel_rfl) (by kernel_rfl) (fun _ _ _ h=>h) (.inl ⟨by kernel_rfl,by intro w hSw;(try dsimp only at hSw);go_simp;try with_reducible rfl⟩) hHeld ?_
    (try simp only [Act.put,List.getElem_toArray,List.getElem_cons_zero,List.getElem_cons_succ,List.setIfInBounds_toArray,List.set_cons_zero,List.set_cons_succ])
    have HOu:=(show Hid (u2.ownsRow w.heap.size 61 3 (.slice (some ⟨g,0,none⟩) fs.length uc) fs.length (fs.flatMap cFd)) from HO.out.blocks3 fun k hk=>HU2.out.block k hk)
    obtain ⟨b0,b1,b2⟩:=fs_cells HOu.out hlt
    have bz:=fs_froz HOu.out
    rw [hd,hst] at b2
    rw [hd] at b0 b1
    refine wpAnyH_ready (rs:=[10]) (by kernel_rfl) (by simp) ?_
    refine AllReadyH.cons rfl (fun K hK=>?_) AllReadyH.nil
    simp only [List.getElem_toArray,List.getElem_cons_zero,List.getElem_cons_succ]
    go_simp
    rw [set_self (w:=u2) b0,set_self (w:=u2) b1,set_self (w:=u2) b2]
    refine hK.out _ _ HSU.out (fun hHeld=>?_)
    clear hK K
    (try simp only [Act.put,List.getElem_toArray,List.getElem_cons_zero,List.getElem_cons_succ,List.setIfInBounds_toArray,List.set_cons_zero,List.set_cons_succ])
    refine wpAnyH_done (by kernel_rfl) ?_ _
    go_wp2
    go_roundw
    case rel=>exact⟨k+1,by omega,by congr 1,HB.out.trans (HU2.out.mono HB.out.size),HOu.out⟩
    case measure=>simp [intOf];omega
   ·obtain rfl:k=fs.length:=by omega
    have HO:=(show Hid (wr.ownsRow w.heap.size 61 3 (.slice up fs.length uc) fs.length (fs.flatMap cFd)) from hown)
    clear hown
    go_wp2
    go_ret
    rw [HFS.out]
    exact⟨HB2.out.trans (HB.out.mono HB2.out.size),_,rfl,HO.out⟩
theorem fo_all (L:List CTup) (n:ByteArray):(foV L n).length≤80∧∀ d ∈ foV L n,d.1.size≤maxLen∧d.2.1.size≤maxLen:=by
 by_cases h:n.size≤20000∧rtB L=true
 ·have hR:=rt_right h.2
  rw [show foV L n=fldL L n from if_pos h]
  refine ⟨?_,fun d hd=>?_⟩
  ·have:=fldL_len (Past.acyL fun q hq=>hR.2 q (by omega)) (fun c hc=>cls_f8 hR c (List.mem_append_right _ hc)) n
   have:=hR.1
   omega
  ·have:=fld_small hR d hd
   unfold maxLen
   omega
 ·rw [show foV L n=[] from if_neg h]
  exact⟨Nat.zero_le _,fun d hd=>by cases hd⟩
end Go.Proofs.YtmhgaggpdggbeaaGreatDoor
