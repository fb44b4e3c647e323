import Derived.Test.YtlfmedfclgabdaaGreatDoorLb
import Derived.Test.YtlfmedfclgabdaaGreatDoorLa
/-
 Below, of the model; TypeLe of the model.
-/
namespace Go.Proofs.YtlfmedfclgabdaaGreatDoor
open Go.RowKit
set_option maxRecDepth 20000
set_option linter.unusedVariables false
noncomputable def leT (L : List CTup) (a b : TyD) : Bool := tkT L a && (tkT L b && decide (lubT L a b = b))
set_option maxRecDepth 100000 in
set_option maxHeartbeats 4000000 in
theorem specL06Le (L : List CTup) (v : Value) (a b : TyD) (w : World) (h : classR.slice.In w [v] L) (hR : Right L) (ha : tkB L a.1 a.2.1 a.2.2 = true) (hb : tkB L b.1 b.2.1 b.2.2 = true) :
  Calls Tryz.prog 35 #[v, tvL a, tvL b] w fun e w' => e = .returned (.bool (sle L a b)) ∧ Below w.heap.size w w' := by
 have HSu : Hid (∀ w' (c d : ByteArray), Below w.heap.size w w' → knB L d = true → Calls Tryz.prog 66 #[v, .string c, .string d] w' fun e w2 => e = .returned (.bool (sbC L c d)) ∧ Below w'.heap.size w' w2) := fun w' c d h1 h2 => specSub L v c d w' (classR.slice.mono _ _ _ _ h1 h) hR h2
 obtain ⟨k, c, x⟩ := a
 obtain ⟨l, d, y⟩ := b
 have HB2 : Hid (∀ o1 o2, Below w.heap.size w ((w.alloc o1).alloc o2)) := fun o1 o2 => below_al2 w o1 o2
 have HB3 : Hid (∀ o1 o2 o3, Below w.heap.size w (((w.alloc o1).alloc o2).alloc o3)) := fun o1 o2 o3 => below_al3 w o1 o2 o3
 have hA := tk_cases ha
 have hB := tk_cases hb
 clear ha hb h
 simp only [tvL] at *
 have hcd : c.toList = d.toList → c = d := fun e => WideShapes.bytes_inj (by rw [← ByteArray.toList_eq, ← ByteArray.toList_eq, e])
 by_cases hab : k = l ∧ c = d ∧ x = y
 ·obtain ⟨rfl, rfl, rfl⟩ := hab
  have HZ : Hid (sle L (k, c, x) (k, c, x) = true) := by show _ = _; unfold sle; simp
  clear hA hB hcd
  go_enter Tryz.func35, Tryz.ntmps35
  go_wp2
  all_goals
   go_ret
   exact ⟨rB HZ.out.symm, HB2.out _ _⟩
 have hne : ¬ ((k, c, x) : TyD) = (l, d, y) := fun e => hab (by simpa using e)
 by_cases hl0 : l = 0
 ·subst hl0
  have HZ : Hid (sle L (k, c, x) (0, d, y) = true) := by show _ = _; unfold sle; simp
  clear hA hB hcd hab hne
  go_enter Tryz.func35, Tryz.ntmps35
  go_wp2
  all_goals
   go_ret
   exact ⟨rB HZ.out.symm, HB2.out _ _⟩
 by_cases hkl : k = l
 ·subst hkl
  have hc2 : (k = 3 ∨ k = 5) ∧ knB L d = true ∧ ¬ c = d ∨ k = 6 := by
   rcases hA with ⟨h1, h2, h3⟩ | ⟨h1, h2, h3⟩ | ⟨h1, h2, h3⟩ <;> rcases hB with ⟨g1, g2, g3⟩ | ⟨g1, g2, g3⟩ | ⟨g1, g2, g3⟩
   ·exact absurd ⟨rfl, h2.trans g2.symm, h3.trans g3.symm⟩ hab
   ·omega
   ·omega
   ·omega
   ·exact .inl ⟨h1, g2, fun e => hab ⟨rfl, e, h3.trans g3.symm⟩⟩
   ·omega
   ·omega
   ·omega
   ·exact .inr h1
  rcases hc2 with ⟨hk, hd, hcn⟩ | rfl
  ·have hcl : ¬ c.toList = d.toList := fun e => hcn (hcd e)
   have HK := (show Hid (knB L d = true) from hd)
   clear hA hB hcd hab hcn hd hl0
   have HZ : Hid (sle L (k, c, x) (k, d, y) = sbC L c d) := by
    show _ = _
    unfold sle
    rw [if_neg (by simp only [not_or]; exact ⟨hne, by show ¬ k = 0; omega⟩)]
    rcases hk with rfl | rfl <;> simp
   clear hne
   rcases hk with rfl | rfl
   all_goals
    go_enter Tryz.func35, Tryz.ntmps35
    go_wp2_with fail
    refine Calls.mono (HSu.out _ _ _ (HB2.out _ _) HK.out) ?_
    rintro e w1 ⟨rfl, hb1⟩
    have HB1 : Hid (Below w.heap.size w w1) := (HB2.out _ _).trans (hb1.mono (by simp; omega))
    clear hb1
    go_wp2
    go_ret
    exact ⟨rB HZ.out.symm, HB1.out⟩
  ·have HZ : Hid (sle L (6, c, x) (6, d, y) = false) := by
    show _ = _
    unfold sle
    rw [if_neg (by simp only [not_or]; exact ⟨hne, by simp⟩)]
    simp
   have hcx : c.toList = d.toList → ¬ x = y := fun e e2 => hab ⟨rfl, hcd e, e2⟩
   clear hA hB hcd hab hl0 hne HSu
   by_cases hcl : c.toList = d.toList
   ·have hxy := hcx hcl
    clear hcx
    go_enter Tryz.func35, Tryz.ntmps35
    go_wp2
    all_goals
     go_ret
     exact ⟨rB HZ.out.symm, by first | exact HB2.out _ _ | exact HB3.out _ _ _⟩
   ·clear hcx
    go_enter Tryz.func35, Tryz.ntmps35
    go_wp2
    all_goals
     go_ret
     exact ⟨rB HZ.out.symm, by first | exact HB2.out _ _ | exact HB3.out _ _ _⟩
 have HN := (show Hid (¬ ((k, c, x) : TyD) = (l, d, y)) from hne)
 have HL0 := (show Hid (¬ l = 0) from hl0)
 have d0 : (l == 0) = false := by simpa using hl0
 clear hA hB hcd hab hne HSu
 by_cases k2 : k = 2
 ·subst k2
  have HZ : Hid (sle L (2, c, x) (l, d, y) = decide (l = 3 ∨ l = 4 ∨ l = 5)) := by
   show _ = _
   unfold sle
   rw [if_neg (by simp only [not_or]; exact ⟨HN.out, HL0.out⟩)]
   simp
  by_cases l3 : l = 3
  ·subst l3
   go_enter Tryz.func35, Tryz.ntmps35
   go_wp2
   all_goals
    go_ret
    exact ⟨rB HZ.out.symm, by first | exact HB2.out _ _ | exact HB3.out _ _ _⟩
  by_cases l4 : l = 4
  ·subst l4
   go_enter Tryz.func35, Tryz.ntmps35
   go_wp2
   all_goals
    go_ret
    exact ⟨rB HZ.out.symm, by first | exact HB2.out _ _ | exact HB3.out _ _ _⟩
  by_cases l5 : l = 5
  ·subst l5
   go_enter Tryz.func35, Tryz.ntmps35
   go_wp2
   all_goals
    go_ret
    exact ⟨rB HZ.out.symm, by first | exact HB2.out _ _ | exact HB3.out _ _ _⟩
  have HY : Hid (sle L (2, c, x) (l, d, y) = false) := by show _ = _; rw [HZ.out]; simp [l3, l4, l5]
  clear HZ
  have HZ := HY
  go_enter Tryz.func35, Tryz.ntmps35
  go_wp2
  all_goals
   go_ret
   exact ⟨rB (by rw [HZ.out]; simp [l3, l4, l5]), by first | exact HB2.out _ _ | exact HB3.out _ _ _⟩
 by_cases hE : (k = 4 ∨ k = 5) ∧ l = 3
 ·obtain ⟨hk, rfl⟩ := hE
  have HZ : Hid (sle L (k, c, x) (3, d, y) = decide (d = objN)) := by
   show _ = _
   unfold sle
   rw [if_neg (by simp only [not_or]; exact ⟨HN.out, HL0.out⟩)]
   rcases hk with rfl | rfl <;> simp
  by_cases hd : d = objN
  ·subst hd
   have HY : Hid (sle L (k, c, x) (3, objN, y) = true) := by show _ = _; rw [HZ.out]; simp
   clear HZ
   have HZ := HY
   unfold objN at *
   rcases hk with rfl | rfl
   all_goals
    go_enter Tryz.func35, Tryz.ntmps35
    go_wp2
    all_goals
     go_ret
     exact ⟨rB HZ.out.symm, by first | exact HB2.out _ _ | exact HB3.out _ _ _⟩
  ·have HY : Hid (sle L (k, c, x) (3, d, y) = false) := by show _ = _; rw [HZ.out]; simp [hd]
   clear HZ
   have HZ := HY
   have hdl : ¬ d.toList = [79, 98, 106, 101, 99, 116] := fun e => hd (WideShapes.bytes_inj (by rw [← ByteArray.toList_eq, e]; rfl))
   clear hd
   rcases hk with rfl | rfl
   all_goals
    go_enter Tryz.func35, Tryz.ntmps35
    go_wp2
    all_goals
     go_ret
     exact ⟨rB (by rw [HZ.out]; simp [hdl]), by first | exact HB2.out _ _ | exact HB3.out _ _ _⟩
 have HZ : Hid (sle L (k, c, x) (l, d, y) = false) := by
  show _ = _
  unfold sle
  rw [if_neg (by simp only [not_or]; exact ⟨HN.out, HL0.out⟩)]
  simp only [k2, if_false]
  rw [if_neg (by omega), if_neg hE]
 by_cases k3 : k = 3
 ·subst k3
  have l3 : ¬ l = 3 := fun e => hkl e.symm
  clear hE
  go_enter Tryz.func35, Tryz.ntmps35
  go_wp2
  all_goals
   go_ret
   exact ⟨rB HZ.out.symm, by first | exact HB2.out _ _ | exact HB3.out _ _ _⟩
 by_cases k4 : k = 4
 ·subst k4
  have l3 : ¬ l = 3 := fun e => hE ⟨.inl rfl, e⟩
  clear hE
  go_enter Tryz.func35, Tryz.ntmps35
  go_wp2
  all_goals
   go_ret
   exact ⟨rB HZ.out.symm, by first | exact HB2.out _ _ | exact HB3.out _ _ _⟩
 by_cases k5 : k = 5
 ·subst k5
  have l3 : ¬ l = 3 := fun e => hE ⟨.inr rfl, e⟩
  have l5 : ¬ l = 5 := fun e => hkl e.symm
  clear hE
  go_enter Tryz.func35, Tryz.ntmps35
  go_wp2
  all_goals
   go_ret
   exact ⟨rB HZ.out.symm, by first | exact HB2.out _ _ | exact HB3.out _ _ _⟩
 clear hE
 go_enter Tryz.func35, Tryz.ntmps35
 go_wp2
 all_goals
  go_ret
  exact ⟨rB HZ.out.symm, by first | exact HB2.out _ _ | exact HB3.out _ _ _⟩
set_option maxHeartbeats 2000000 in
theorem specTypeLe (L : List CTup) (v : Value) (a b : TyD) (w : World) (h : classR.slice.In w [v] L) (ha : twL a) (hb : twL b) :
  Calls Tryz.prog 10 #[v, tvL a, tvL b] w fun e w' => e = .returned (.bool (leT L a b)) ∧ Below w.heap.size w w' := by
 have HK : Hid (∀ w', Below w.heap.size w w' → Calls Tryz.prog 33 #[v, tvL a] w' fun e w2 => e = .returned (.bool (tkT L a)) ∧ Below w'.heap.size w' w2) := fun w' hb => specTypeKnown L v a.1 a.2.2 a.2.1 w' (classR.slice.mono _ _ _ _ hb h) ha.c
 have HK2 : Hid (∀ w', Below w.heap.size w w' → Calls Tryz.prog 34 #[v, tvL b] w' fun e w2 => e = .returned (.bool (tkB L b.1 b.2.1 b.2.2)) ∧ Below w'.heap.size w' w2) := fun w' hb' => specL06Known L v b.1 b.2.2 b.2.1 w' (classR.slice.mono _ _ _ _ hb' h) hb.c
 have HL : Hid (Right L → tkB L a.1 a.2.1 a.2.2 = true → tkB L b.1 b.2.1 b.2.2 = true → ∀ w', Below w.heap.size w w' → Calls Tryz.prog 35 #[v, tvL a, tvL b] w' fun e w2 => e = .returned (.bool (sle L a b)) ∧ Below w'.heap.size w' w2) := fun hR h1 h2 w' hb => specL06Le L v a b w' (classR.slice.mono _ _ _ _ hb h) hR h1 h2
 have HE : Hid (Right L → tkB L a.1 a.2.1 a.2.2 = true → tkB L b.1 b.2.1 b.2.2 = true → sle L a b = decide (flub L a b = b)) := fun hR h1 h2 => le_eq hR h1 h2
 have HTa : Hid (tkT L a = (rtB L && tkB L a.1 a.2.1 a.2.2)) := rfl
 have HTb : Hid (tkT L b = (rtB L && tkB L b.1 b.2.1 b.2.2)) := rfl
 have HLt : Hid (lubT L a b = if (tkT L a && tkT L b) = true then flub L a b else zT) := rfl
 have HLe : Hid (leT L a b = (tkT L a && (tkT L b && decide (lubT L a b = b)))) := rfl
 obtain ⟨va, vcap, rfl, _⟩ := slice_open (by decide) h
 obtain ⟨k, c, x⟩ := a
 obtain ⟨l, d, y⟩ := b
 clear h ha hb
 simp only [tvL] at HK HK2 HL HE HTa HTb ⊢
 have HB2 : Hid (∀ o1 o2, Below w.heap.size w ((w.alloc o1).alloc o2)) := fun o1 o2 => below_al2 w o1 o2
 cases hka : tkT L (k, c, x)
 ·have HZ : Hid (leT L (k, c, x) (l, d, y) = false) := by show _ = _; rw [HLe.out, hka]; rfl
  rw [hka] at HK
  clear HLt HLe HTa HTb HL HK2 HE hka
  go_enter Tryz.func10, Tryz.ntmps10
  go_wp2_with fail
  refine Calls.mono (HK.out _ (HB2.out _ _)) ?_
  rintro e w1 ⟨rfl, hb1⟩
  have HB1 : Hid (Below w.heap.size w w1) := (HB2.out _ _).trans (hb1.mono (by simp; omega))
  clear hb1
  go_wp2
  go_ret
  exact ⟨rB HZ.out.symm, HB1.out⟩
 have hrt : rtB L = true ∧ tkB L k c x = true := by have := HTa.out; rw [hka] at this; simpa using this.symm
 rw [hka] at HK
 cases hkb : tkB L l d y
 ·have HZ : Hid (leT L (k, c, x) (l, d, y) = false) := by show _ = _; rw [HLe.out, HTb.out, hkb]; simp
  rw [hkb] at HK2
  clear HLt HLe HTa HTb HL HE hka hkb hrt
  go_enter Tryz.func10, Tryz.ntmps10
  go_wp2_with fail
  refine Calls.mono (HK.out _ (HB2.out _ _)) ?_
  rintro e w1 ⟨rfl, hb1⟩
  have b0 := cC hb1 (w.heap.size + 1) 0 (.int .i64 l) (by first | (simp; done) | (simp; omega)) (by simp [go_sem])
  have b1 := cC hb1 (w.heap.size + 1) 1 (.string d) (by first | (simp; done) | (simp; omega)) (by simp [go_sem])
  have b2 := cC hb1 (w.heap.size + 1) 2 (.int .i64 y) (by first | (simp; done) | (simp; omega)) (by simp [go_sem])
  have HB1 : Hid (Below w.heap.size w w1) := (HB2.out _ _).trans (hb1.mono (by simp; omega))
  clear hb1
  go_wp2_with fail
  refine Calls.mono (HK2.out _ HB1.out) ?_
  rintro e w2 ⟨rfl, hb2⟩
  have H2 : Hid (Below w.heap.size w w2) := HB1.out.trans (hb2.mono HB1.out.size)
  clear hb2 b0 b1 b2
  go_wp2
  go_ret
  exact ⟨rB HZ.out.symm, H2.out⟩
 have HZ : Hid (leT L (k, c, x) (l, d, y) = sle L (k, c, x) (l, d, y)) := by
  show _ = _
  rw [HLe.out, HE.out (rt_right hrt.1) hrt.2 hkb, HLt.out, hka, HTb.out, hkb, hrt.1]
  rfl
 rw [hkb] at HK2
 have HL1 := (show Hid _ from HL.out (rt_right hrt.1) hrt.2 hkb)
 clear HLt HLe HTa HTb HL HE hka hkb hrt
 generalize sle L (k, c, x) (l, d, y) = res at *
 go_enter Tryz.func10, Tryz.ntmps10
 go_wp2_with fail
 refine Calls.mono (HK.out _ (HB2.out _ _)) ?_
 rintro e w1 ⟨rfl, hb1⟩
 have a0 := cC hb1 (w.heap.size) 0 (.int .i64 k) (by first | (simp; done) | (simp; omega)) (by simp [go_sem])
 have a1 := cC hb1 (w.heap.size) 1 (.string c) (by first | (simp; done) | (simp; omega)) (by simp [go_sem])
 have a2 := cC hb1 (w.heap.size) 2 (.int .i64 x) (by first | (simp; done) | (simp; omega)) (by simp [go_sem])
 have b0 := cC hb1 (w.heap.size + 1) 0 (.int .i64 l) (by first | (simp; done) | (simp; omega)) (by simp [go_sem])
 have b1 := cC hb1 (w.heap.size + 1) 1 (.string d) (by first | (simp; done) | (simp; omega)) (by simp [go_sem])
 have b2 := cC hb1 (w.heap.size + 1) 2 (.int .i64 y) (by first | (simp; done) | (simp; omega)) (by simp [go_sem])
 have HB1 : Hid (Below w.heap.size w w1) := (HB2.out _ _).trans (hb1.mono (by simp; omega))
 have hz : w.heap.size + 1 < w1.heap.size := World.block_lt_of_cell? _ ⟨w.heap.size + 1, 0, none⟩ b0
 clear hb1
 go_wp2_with fail
 refine Calls.mono (HK2.out _ HB1.out) ?_
 rintro e w2 ⟨rfl, hb2⟩
 replace a0 := carry hb2 (by show w.heap.size < _; omega) a0
 replace a1 := carry hb2 (by show w.heap.size < _; omega) a1
 replace a2 := carry hb2 (by show w.heap.size < _; omega) a2
 replace b0 := carry hb2 hz b0
 replace b1 := carry hb2 hz b1
 replace b2 := carry hb2 hz b2
 have H2 : Hid (Below w.heap.size w w2) := HB1.out.trans (hb2.mono HB1.out.size)
 clear hb2
 go_wp2_with fail
 refine Calls.mono (HL1.out _ H2.out) ?_
 rintro e w3 ⟨rfl, hb3⟩
 have H3 : Hid (Below w.heap.size w w3) := H2.out.trans (hb3.mono H2.out.size)
 clear hb3
 go_wp2
 go_ret
 exact ⟨rB HZ.out.symm, H3.out⟩
end Go.Proofs.YtlfmedfclgabdaaGreatDoor
