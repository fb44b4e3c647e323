import Derived.Test.YtnenhhlgabghfaaGreatDoorWrB
import Derived.Test.YtnenhhlgabghfaaGreatDoorReadI
/-
 PoolOf: of the model and of the program.
-/
namespace Go.Proofs.YtnenhhlgabghfaaGreatDoor
open Go.RowKit
set_option maxRecDepth 20000
set_option linter.unusedVariables false

noncomputable def poolT (m : ClsD) : List ByteArray := @ite _ (ClsP m ∧ (madeS m).1.length ≤ 200) (Classical.propDecidable _) (madeS m).1 []
theorem poolT_yes {m : ClsD} (h : ClsP m) (hl : (madeS m).1.length ≤ 200) : poolT m = (madeS m).1 := by unfold poolT; exact @if_pos _ (Classical.propDecidable _) ⟨h, hl⟩ _ _ _
theorem poolT_no {m : ClsD} (h : ¬ (ClsP m ∧ (madeS m).1.length ≤ 200)) : poolT m = [] := by unfold poolT; exact @if_neg _ (Classical.propDecidable _) h _ _ _
theorem owns_empty (w : World) (base : Nat) (hb : base ≤ w.heap.size) : (w.alloc (.cells #[] 9)).ownsRow base 9 1 (.slice (some ⟨w.heap.size, 0, none⟩) 0 0) 0 (sC []) := World.ownsRow_lit w #[] 0 hb (by unfold maxLen; omega) rfl
theorem owns_base {w : World} {base base' e : Nat} {v : Value} {n : Nat} {xs : List Value} (h : w.ownsRow base e 1 v n xs) (hb : base' ≤ base) : w.ownsRow base' e 1 v n xs := by
 refine ⟨h.1, ?_⟩
 rcases h.2 with k | ⟨g, cap, cur, h1, h2, h3⟩
 ·exact .inl k
 ·exact .inr ⟨g, cap, cur, h1, by omega, h3⟩

set_option maxHeartbeats 2000000 in
theorem specPoolOf (m : ClsD) (vc vh : Value) (w : World) (s0 : m.name.size ≤ maxLen) (s1 : m.super.size ≤ maxLen) (hc : fieldR.slice.In w [vc] m.fields) (hh : methR.slice.In w [vh] m.meths) :
  Calls Tryz.prog 7 #[clsV m vc vh] w fun e w' => Below w.heap.size w w' ∧ ∃ v, e = .returned v ∧ w'.ownsRow w.heap.size 9 1 v (poolT m).length (sC (poolT m)) := by
 have HR : Hid (∀ o, Calls Tryz.prog 6 #[clsV m vc vh] (w.alloc o) fun e w2 => e = .returned (.bool (clsOk m)) ∧ Below (w.alloc o).heap.size (w.alloc o) w2) := fun o => specClassRight m vc vh (w.alloc o) s0 s1 (fieldR.slice.mono _ _ _ _ (below_al _ _) hc) (methR.slice.mono _ _ _ _ (below_al _ _) hh)
 have HB0 : Hid (∀ o, Below w.heap.size w (w.alloc o)) := fun o => below_al _ _
 obtain ⟨a, ca, rfl⟩ := slice_form hc
 obtain ⟨b, cb, rfl⟩ := slice_form hh
 rcases clsOk_cases m with ⟨hq, hP⟩ | ⟨hq, hP⟩
 ·have HMd : Hid (∀ w1, Below w.heap.size w w1 → Calls Tryz.prog 15 #[clsV m (.slice a m.fields.length ca) (.slice b m.meths.length cb)] w1 fun e w' => Below w1.heap.size w1 w' ∧ ∃ mb F, e = .returned (.pointer (some ⟨mb, 0, none⟩)) ∧ w1.heap.size ≤ mb ∧ MkS mb w' (madeS m) F) := fun w1 hb => specMade m _ _ w1 hP (fieldR.slice.mono _ _ _ _ hb hc) (methR.slice.mono _ _ _ _ hb hh)
  have HT : Hid ((madeS m).1.length ≤ 200 → poolT m = (madeS m).1) := fun h => poolT_yes hP h
  have HN : Hid (200 < (madeS m).1.length → poolT m = []) := fun h => poolT_no fun k => by omega
  generalize madeS m = ss at *
  generalize poolT m = res at *
  rw [hq] at HR
  clear hc hh s0 s1 hP hq
  obtain ⟨nm, sup, fi, ab, fs, ms⟩ := m
  unfold clsV at *
  simp only at *
  go_enter Tryz.func7, Tryz.ntmps7
  go_wp2_with fail
  refine Calls.mono (HR.out _) ?_
  rintro e w1 ⟨rfl, hb1⟩
  have x0 := cC hb1 (w.heap.size) 0 (.string nm) (by simp) (by simp [go_sem])
  have x1 := cC hb1 (w.heap.size) 1 (.string sup) (by simp) (by simp [go_sem])
  have x2 := cC hb1 (w.heap.size) 2 (.bool fi) (by simp) (by simp [go_sem])
  have x3 := cC hb1 (w.heap.size) 3 (.bool ab) (by simp) (by simp [go_sem])
  have x4 := cC hb1 (w.heap.size) 4 (.slice a fs.length ca) (by simp) (by simp [go_sem])
  have x5 := cC hb1 (w.heap.size) 5 (.slice b ms.length cb) (by simp) (by simp [go_sem])
  have hz1 : w.heap.size < w1.heap.size := by have := hb1.size; simp at this; omega
  have HB1 : Hid (Below w.heap.size w w1) := (HB0.out _).trans (hb1.mono (by simp))
  clear hb1
  go_wp2_with fail
  refine Calls.mono (HMd.out _ HB1.out) ?_
  rintro e w2 ⟨hb2, mb, F2, rfl, hmb, hm2⟩
  have HB2 : Hid (Below w.heap.size w w2) := HB1.out.trans (hb2.mono HB1.out.size)
  clear hb2 x0 x1 x2 x3 x4 x5
  obtain ⟨vp, vb, hma, hF2⟩ := hm2
  obtain ⟨pa, pc, rfl⟩ := owns_slice hma.op
  have c0 := hma.c0
  have hw2 : w.heap.size ≤ w2.heap.size := HB2.out.size
  have HOw : Hid (w2.ownsRow w.heap.size 9 1 (.slice pa ss.1.length pc) ss.1.length (sC ss.1)) := owns_base hma.op (by omega)
  clear hma hF2
  by_cases h200 : 200 < ss.1.length
  ·have d : decide ((200 : Int) < (ss.1.length : Int)) = true := by simp; omega
   have HN2 := (show Hid _ from HN.out h200)
   go_wp2
   go_ret
   exact ⟨HB2.out.alloc hw2 _, _, rfl, by rw [HN2.out]; exact owns_empty w2 _ hw2⟩
  ·have d : decide ((200 : Int) < (ss.1.length : Int)) = false := by simp; omega
   have HT2 := (show Hid _ from HT.out (by omega))
   go_wp2
   go_ret
   exact ⟨HB2.out, _, rfl, by rw [HT2.out]; exact HOw.out⟩
 ·have HN : Hid (poolT m = []) := poolT_no fun k => hP k.1
  generalize poolT m = res at *
  rw [hq] at HR
  clear hc hh s0 s1 hP hq
  obtain ⟨nm, sup, fi, ab, fs, ms⟩ := m
  unfold clsV at *
  simp only at *
  go_enter Tryz.func7, Tryz.ntmps7
  go_wp2_with fail
  refine Calls.mono (HR.out _) ?_
  rintro e w1 ⟨rfl, hb1⟩
  have HB1 : Hid (Below w.heap.size w w1) := (HB0.out _).trans (hb1.mono (by simp))
  clear hb1
  have hw1 : w.heap.size ≤ w1.heap.size := HB1.out.size
  go_wp2
  go_ret
  exact ⟨HB1.out.alloc hw1 _, _, rfl, by rw [HN.out]; exact owns_empty w1 _ hw1⟩
set_option maxHeartbeats 2000000 in
theorem implPoolOf (m : ClsD) (vc vh : Value) (w : World) (s0 : m.name.size ≤ maxLen) (s1 : m.super.size ≤ maxLen) (hc : fieldR.slice.In w [vc] m.fields) (hh : methR.slice.In w [vh] m.meths) (ht : Tab w) (hg : Glob w) (hsz : ∀ p ∈ (madeS m).1, p.size ≤ 281474976710656) :
  Calls Tryz.prog 5 #[clsV m vc vh] w fun e w' => Below w.heap.size w w' ∧ ∃ v, e = .returned v ∧ w'.ownsRow w.heap.size 9 1 v (poolT m).length (sC (poolT m)) := by
 have HR : Hid (∀ o, Calls Tryz.prog 10 #[clsV m vc vh] (w.alloc o) fun e w' => Below (w.alloc o).heap.size (w.alloc o) w' ∧
   ((ClsP m ∧ (madeS m).1.length ≤ 200 ∧ ∃ mr mb F, e = .returned (.tuple #[.pointer (some ⟨mb, 0, none⟩), .bool true]) ∧ (w.alloc o).heap.size ≤ mr ∧ WrS mr mb w' (madeS m) F) ∨
    (¬ (ClsP m ∧ (madeS m).1.length ≤ 200) ∧ e = .returned (.tuple #[.pointer none, .bool false])))) := fun o => implWrite m vc vh (w.alloc o) s0 s1 (fieldR.slice.mono _ _ _ _ (below_al _ _) hc) (methR.slice.mono _ _ _ _ (below_al _ _) hh) (ht.mono (below_al _ _)) (hg.mono (below_al _ _))
 have HB0 : Hid (∀ o, Below w.heap.size w (w.alloc o)) := fun o => below_al _ _
 have HT : Hid (ClsP m → (madeS m).1.length ≤ 200 → poolT m = (madeS m).1) := fun h k => poolT_yes h k
 have HN : Hid (¬ (ClsP m ∧ (madeS m).1.length ≤ 200) → poolT m = []) := fun h => poolT_no h
 have HSz : Hid (∀ i (h : i < (madeS m).1.length), (madeS m).1[i].size ≤ 281474976710656) := fun i h => hsz _ (List.getElem_mem h)
 clear hsz
 obtain ⟨a, ca, rfl⟩ := slice_form hc
 obtain ⟨b, cb, rfl⟩ := slice_form hh
 generalize madeS m = ss at *
 generalize poolT m = res at *
 generalize ClsP m = prop at *
 clear hc hh s0 s1 ht hg
 obtain ⟨nm, sup, fi, ab, fs, ms⟩ := m
 unfold clsV at *
 simp only at *
 go_enter Tryz.func5, Tryz.ntmps5
 go_wp2_with fail
 refine Calls.mono (HR.out _) ?_
 rintro e w1 ⟨hb1, ⟨hP, h200, mr, mb, F, rfl, hmr, hws⟩ | ⟨hno, rfl⟩⟩
 case inr =>
  have HN2 := (show Hid _ from HN.out hno)
  have HB1 : Hid (Below w.heap.size w w1) := (HB0.out _).trans (hb1.mono (by simp))
  clear hb1 hno
  go_wp2
  go_ret
  exact ⟨HB1.out, _, rfl, by rw [HN2.out]; exact World.ownsRow_nil _ _ _ _⟩
 case inl =>
  have HB1 : Hid (Below w.heap.size w w1) := (HB0.out _).trans (hb1.mono (by simp))
  have HT2 : Hid (res = ss.1) := HT.out hP h200
  have hw1 : w.heap.size < w1.heap.size := by have := hb1.size; simp at this; omega
  have hmr2 : w.heap.size < mr := by simp at hmr; omega
  clear hb1 HT HN HR hP hmr
  obtain ⟨vp, vb, es, ck, hwa, hF⟩ := hws
  obtain ⟨pa, pc, rfl⟩ := owns_slice hwa.op
  have hml := hwa.buf.lt
  have hlt := hwa.lt
  have HO1 := (show Hid (w1.ownsRow (mb + 1) 9 1 (.slice pa ss.1.length pc) ss.1.length (sC ss.1)) from hwa.op)
  have c2 := hwa.c2
  clear hwa hF
  go_wp2_with fail
  go_loopw [19] (fun j19 wr => ∃ i : Nat, i ≤ ss.1.length ∧ j19 = .int .i64 (i : Int) ∧ Below w.heap.size w wr ∧ mb < wr.heap.size ∧ wr.cell? ⟨mb, 2, none⟩ = some (.slice pa ss.1.length pc) ∧ wr.ownsRow (mb + 1) 9 1 (.slice pa ss.1.length pc) ss.1.length (sC ss.1)) (fun j19 _ => ss.1.length - (intOf j19).toNat)
  case atStart => exact ⟨0, Nat.zero_le _, rfl, HB1.out, hml, c2, HO1.out⟩
  case round =>
   obtain ⟨i, hi, rfl, hb, hmr3, hc2, hown⟩ := hrel
   have HBr := (show Hid (Below w.heap.size w wr) from hb)
   clear hb
   by_cases hlt2 : i < ss.1.length
   ·obtain ⟨g, cp, e, hg1, hg2⟩ := hown.form (by omega)
    cases e
    have hx : (sC ss.1)[i]? = some (.string ss.1[i]) := by rw [sC, List.getElem?_map, List.getElem?_eq_getElem hlt2]; rfl
    have hcell : wr.cell? ⟨g, i, none⟩ = some (.string ss.1[i]) := by rw [hown.cellAt i (by omega), hx]
    have hcell2 : wr.cell? ⟨g, 0 + i, none⟩ = some (.string ss.1[i]) := by rw [Nat.zero_add]; exact hcell
    have hcell3 : wr.cell? ⟨g, 0 + i * 1, none⟩ = some (.string ss.1[i]) := by rw [Nat.mul_one]; exact hcell2
    have HSt : Hid (∀ w', Below wr.heap.size wr w' → (w'.setCell ⟨g, i, none⟩ (.string ss.1[i])).ownsRow (mb + 1) 9 1 (.slice (some ⟨g, 0, none⟩) ss.1.length pc) ss.1.length (sC ss.1)) := fun w' k => by
     have h1 := ((owns_below' hown k).stored i (.string ss.1[i])).1
     have h2 : (sC ss.1).set i (.string ss.1[i]) = sC ss.1 := by
      apply List.ext_getElem?
      intro j
      by_cases e : i = j
      ·subst e; rw [List.getElem?_set_self (by rw [sC, List.length_map]; exact hlt2), hx]
      ·rw [List.getElem?_set_ne e]
     rw [h2] at h1
     exact h1
    have HFz : Hid (∀ w', Below wr.heap.size wr w' → w'.frozen? ⟨g, i, none⟩ = false) := fun w' k => (owns_below' hown k).frozenAt i
    have HCl : Hid (∀ w, Calls Tryz.prog 11 #[.string ss.1[i]] w fun e w' => e = .returned (.string ss.1[i]) ∧ Below w.heap.size w w') := fun w => libClone ss.1[i] w (HSz.out i hlt2)
    clear hx hown
    generalize ss.1[i] = t at *
    go_wp2_with fail
    go_region_with (go_at_call 11; refine Calls.mono (HCl.out _) ?_; rintro e wa ⟨rfl, hba⟩; have hba' : Below wr.heap.size wr wa := (Below.refl _ _).drew.trans hba; have ca2 := carry hba' hmr3 hc2; have cag := carry hba' hg2 hcell; have fag := HFz.out _ hba'; have HSa := (show Hid _ from HSt.out _ hba'); have HBa : Hid (Below w.heap.size w wa) := HBr.out.trans (hba'.mono HBr.out.size); have hsa : wr.heap.size ≤ wa.heap.size := hba'.size; clear hba hba')
    all_goals
     go_wp2
     go_roundw
     case rel => exact ⟨i + 1, by omega, by go_num, HBa.out.setCell (by simp; omega) _, by simp [World.setCell]; omega, by rw [World.cell?_setCell_other _ _ _ _ (by intro e; cases e; omega)]; exact ca2, HSa.out⟩
     case measure => simp [intOf]; omega
   ·have HOr := (show Hid (wr.ownsRow (mb + 1) 9 1 (.slice pa ss.1.length pc) ss.1.length (sC ss.1)) from hown)
    clear hown
    go_wp2
    go_ret
    exact ⟨HBr.out, _, rfl, by rw [HT2.out]; exact owns_base HOr.out (by omega)⟩
end Go.Proofs.YtnenhhlgabghfaaGreatDoor
