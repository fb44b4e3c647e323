import Derived.Test.YtlfmedfclgabdaaGreatDoorWdT
/-
 TypeKnown of the model, and what a known type is.
-/
namespace Go.Proofs.YtlfmedfclgabdaaGreatDoor
open Go.RowKit
set_option maxRecDepth 20000
set_option linter.unusedVariables false

/-- Is a type known, in a right world? -/
def tkB (L : List CTup) (k : Int) (c : ByteArray) (a : Int) : Bool :=
 if k = 0 ∨ k = 1 ∨ k = 2 ∨ k = 4 ∨ k = 7 then decide (c = tE) && decide (a = 0)
 else if k = 3 ∨ k = 5 then knB L c && decide (a = 0)
 else if k = 6 then knB L c && (decide (0 ≤ a) && decide (a < 60)) else false
noncomputable def tkV (L : List CTup) (k : Int) (c : ByteArray) (a : Int) : Bool := rtB L && tkB L k c a
theorem tE_eq {c : ByteArray} (h : c = tE) : (c.toList == []) = true := by rw [h, ByteArray.toList_eq]; rfl
theorem tE_ne {c : ByteArray} (h : c ≠ tE) : (c.toList == []) = false := by
 rw [beq_eq_false_iff_ne, ByteArray.toList_eq]
 intro e
 exact h (WideShapes.bytes_inj (by rw [e]; rfl))
set_option maxRecDepth 100000 in
set_option maxHeartbeats 4000000 in
theorem specL06Known (L : List CTup) (v : Value) (k a : Int) (c : ByteArray) (w : World) (h : classR.slice.In w [v] L) (hc : c.size ≤ maxLen) :
  Calls Tryz.prog 34 #[v, .agg #[.int .i64 k, .string c, .int .i64 a]] w fun e w' => e = .returned (.bool (tkB L k c a)) ∧ Below w.heap.size w w' := by
 have HKn : Hid (∀ w', Below w.heap.size w w' → Calls Tryz.prog 64 #[v, .string c] w' fun e w2 => e = .returned (.bool (knB L c)) ∧ Below w'.heap.size w' w2) := fun w' hb => specKnown L v c w' (classR.slice.mono _ _ _ _ hb h)
 obtain ⟨va, vcap, rfl, _⟩ := slice_open (by decide) h
 unfold maxLen at hc
 clear h
 unfold tkB
 by_cases p1 : k = 0 ∨ k = 1 ∨ k = 2 ∨ k = 4 ∨ k = 7
 ·rw [if_pos p1]
  by_cases q1 : c = tE
  ·have dc := tE_eq q1
   rw [decide_eq_true q1]
   clear q1
   by_cases q2 : a = 0
   ·subst q2
    rcases p1 with rfl | rfl | rfl | rfl | rfl
    all_goals
     go_enter Tryz.func34, Tryz.ntmps34
     go_wp2_with fail
     try go_quiet (fail)
     go_wp2
     go_ret
     exact ⟨rfl, by first | exact below_al _ _ | exact below_drewN (below_al _ _) _⟩
   ·have da : (a == 0) = false := by simpa using q2
    rw [decide_eq_false q2]
    rcases p1 with rfl | rfl | rfl | rfl | rfl
    all_goals
     go_enter Tryz.func34, Tryz.ntmps34
     go_wp2_with fail
     try go_quiet (fail)
     go_wp2
     go_ret
     exact ⟨rfl, by first | exact below_al _ _ | exact below_drewN (below_al _ _) _⟩
  ·have dc := tE_ne q1
   rw [decide_eq_false q1]
   clear q1
   rcases p1 with rfl | rfl | rfl | rfl | rfl
   all_goals
    go_enter Tryz.func34, Tryz.ntmps34
    go_wp2_with fail
    try go_quiet (fail)
    go_wp2
    go_ret
    exact ⟨rfl, by first | exact below_al _ _ | exact below_drewN (below_al _ _) _⟩
 rw [if_neg p1]
 have n0 : (k == 0) = false := by simp; omega
 have n1 : (k == 1) = false := by simp; omega
 have n2 : (k == 2) = false := by simp; omega
 have n4 : (k == 4) = false := by simp; omega
 have n7 : (k == 7) = false := by simp; omega
 by_cases p2 : k = 3 ∨ k = 5
 ·rw [if_pos p2]
  clear p1 n0 n1 n2 n4 n7
  by_cases q2 : a = 0
  ·subst q2
   generalize knB L c = q at *
   cases q
   all_goals
    rcases p2 with rfl | rfl
    all_goals
     go_enter Tryz.func34, Tryz.ntmps34
     go_wp2_with fail
     refine Calls.mono (HKn.out _ (below_al _ _)) ?_
     rintro e w1 ⟨rfl, hb1⟩
     have c2 := cC hb1 (w.heap.size) 2 (.int .i64 0) (by simp) (by simp [go_sem])
     have HB1 : Hid (Below w.heap.size w w1) := (below_al _ _).trans (hb1.mono (by simp))
     clear hb1
     go_wp2
     go_ret
     exact ⟨rfl, HB1.out⟩
  ·have da : (a == 0) = false := by simpa using q2
   rw [decide_eq_false q2]
   clear q2
   generalize knB L c = q at *
   cases q
   all_goals
    rcases p2 with rfl | rfl
    all_goals
     go_enter Tryz.func34, Tryz.ntmps34
     go_wp2_with fail
     refine Calls.mono (HKn.out _ (below_al _ _)) ?_
     rintro e w1 ⟨rfl, hb1⟩
     have c2 := cC hb1 (w.heap.size) 2 (.int .i64 a) (by simp) (by simp [go_sem])
     have HB1 : Hid (Below w.heap.size w w1) := (below_al _ _).trans (hb1.mono (by simp))
     clear hb1
     go_wp2
     go_ret
     exact ⟨rfl, HB1.out⟩
 rw [if_neg p2]
 have n3 : (k == 3) = false := by simp; omega
 have n5 : (k == 5) = false := by simp; omega
 by_cases p3 : k = 6
 ·rw [if_pos p3]
  subst p3
  clear p1 p2 n0 n1 n2 n3 n4 n5 n7
  generalize knB L c = q at *
  cases q
  ·go_enter Tryz.func34, Tryz.ntmps34
   go_wp2_with fail
   refine Calls.mono (HKn.out _ (below_al _ _)) ?_
   rintro e w1 ⟨rfl, hb1⟩
   have HB1 : Hid (Below w.heap.size w w1) := (below_al _ _).trans (hb1.mono (by simp))
   clear hb1
   go_wp2
   go_ret
   exact ⟨rfl, HB1.out⟩
  ·by_cases a0 : 0 ≤ a
   ·have d0 : decide (0 ≤ a) = true := by simpa using a0
    by_cases a1 : a < 60
    ·have d1 : decide (a < 60) = true := by simpa using a1
     rw [d0, d1]
     go_enter Tryz.func34, Tryz.ntmps34
     go_wp2_with fail
     refine Calls.mono (HKn.out _ (below_al _ _)) ?_
     rintro e w1 ⟨rfl, hb1⟩
     have c2 := cC hb1 (w.heap.size) 2 (.int .i64 a) (by simp) (by simp [go_sem])
     have HB1 : Hid (Below w.heap.size w w1) := (below_al _ _).trans (hb1.mono (by simp))
     clear hb1
     go_wp2
     go_ret
     exact ⟨rfl, HB1.out⟩
    ·have d1 : decide (a < 60) = false := by simpa using a1
     rw [d0, d1]
     go_enter Tryz.func34, Tryz.ntmps34
     go_wp2_with fail
     refine Calls.mono (HKn.out _ (below_al _ _)) ?_
     rintro e w1 ⟨rfl, hb1⟩
     have c2 := cC hb1 (w.heap.size) 2 (.int .i64 a) (by simp) (by simp [go_sem])
     have HB1 : Hid (Below w.heap.size w w1) := (below_al _ _).trans (hb1.mono (by simp))
     clear hb1
     go_wp2
     go_ret
     exact ⟨rfl, HB1.out⟩
   ·have d0 : decide (0 ≤ a) = false := by simpa using a0
    rw [d0]
    go_enter Tryz.func34, Tryz.ntmps34
    go_wp2_with fail
    refine Calls.mono (HKn.out _ (below_al _ _)) ?_
    rintro e w1 ⟨rfl, hb1⟩
    have c2 := cC hb1 (w.heap.size) 2 (.int .i64 a) (by simp) (by simp [go_sem])
    have HB1 : Hid (Below w.heap.size w w1) := (below_al _ _).trans (hb1.mono (by simp))
    clear hb1
    go_wp2
    go_ret
    exact ⟨rfl, HB1.out⟩
 rw [if_neg p3]
 have n6 : (k == 6) = false := by simpa using p3
 clear p1 p2 p3
 go_enter Tryz.func34, Tryz.ntmps34
 go_wp2
 go_ret
 exact ⟨rfl, below_al _ _⟩
set_option maxHeartbeats 1000000 in
theorem specTypeKnown (L : List CTup) (v : Value) (k a : Int) (c : ByteArray) (w : World) (h : classR.slice.In w [v] L) (hc : c.size ≤ maxLen) :
  Calls Tryz.prog 33 #[v, .agg #[.int .i64 k, .string c, .int .i64 a]] w fun e w' => e = .returned (.bool (tkV L k c a)) ∧ Below w.heap.size w w' := by
 have HRt : Hid (∀ w', Below w.heap.size w w' → Calls Tryz.prog 56 #[v] w' fun e w2 => e = .returned (.bool (rtB L)) ∧ Below w'.heap.size w' w2) := fun w' hb => specRight L v w' (classR.slice.mono _ _ _ _ hb h)
 have HK : Hid (∀ w', Below w.heap.size w w' → Calls Tryz.prog 34 #[v, .agg #[.int .i64 k, .string c, .int .i64 a]] w' fun e w2 => e = .returned (.bool (tkB L k c a)) ∧ Below w'.heap.size w' w2) := fun w' hb => specL06Known L v k a c w' (classR.slice.mono _ _ _ _ hb h) hc
 obtain ⟨va, vcap, rfl, _⟩ := slice_open (by decide) h
 clear h
 unfold tkV
 generalize tkB L k c a = q at *
 generalize rtB L = r at *
 cases r
 ·go_enter Tryz.func33, Tryz.ntmps33
  go_wp2_with fail
  refine Calls.mono (HRt.out _ (below_al _ _)) ?_
  rintro e w1 ⟨rfl, hb1⟩
  have HB1 : Hid (Below w.heap.size w w1) := (below_al _ _).trans (hb1.mono (by simp))
  clear hb1
  go_wp2
  go_ret
  exact ⟨rfl, HB1.out⟩
 ·cases q
  all_goals
   go_enter Tryz.func33, Tryz.ntmps33
   go_wp2_with fail
   refine Calls.mono (HRt.out _ (below_al _ _)) ?_
   rintro e w1 ⟨rfl, hb1⟩
   have x0 := cC hb1 (w.heap.size) 0 (.int .i64 k) (by simp) (by simp [go_sem])
   have x1 := cC hb1 (w.heap.size) 1 (.string c) (by simp) (by simp [go_sem])
   have x2 := cC hb1 (w.heap.size) 2 (.int .i64 a) (by simp) (by simp [go_sem])
   have HB1 : Hid (Below w.heap.size w w1) := (below_al _ _).trans (hb1.mono (by simp))
   clear hb1
   go_wp2_with fail
   refine Calls.mono (HK.out _ HB1.out) ?_
   rintro e w2 ⟨rfl, hb2⟩
   have HB2 : Hid (Below w.heap.size w w2) := HB1.out.trans (hb2.mono HB1.out.size)
   clear hb2
   go_wp2
   go_ret
   exact ⟨rfl, HB2.out⟩
end Go.Proofs.YtlfmedfclgabdaaGreatDoor
