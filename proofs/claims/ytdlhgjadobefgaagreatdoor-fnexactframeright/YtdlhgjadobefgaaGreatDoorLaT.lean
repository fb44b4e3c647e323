import Derived.Test.YtdlhgjadobefgaaGreatDoorLa2
/-
 TypeKnown of the program.
-/
namespace Go.Proofs.YtdlhgjadobefgaaGreatDoor
open Go.RowKit
set_option maxRecDepth 20000
set_option linter.unusedVariables false
set_option maxHeartbeats 2000000 in
theorem implTypeKnown (L : List CTup) (v : Value) (t : TyD) (w : World) (h : classR.slice.In w [v] L) (ht : twL t) (htb : Tab w) (hg : Glob w) :
  Calls Tryz.prog 14 #[v, tvL t] w fun e w' => e = .returned (.bool (tkT L t)) ∧ Below w.heap.size w w' := by
 have HM : Hid (∀ w', Below w.heap.size w w' → Calls Tryz.prog 39 #[v] w' fun e w2 => Below w'.heap.size w' w2 ∧ ∃ lv rv m, w'.heap.size ≤ m ∧ e = .returned (.agg #[lv, rv, .bool (rtB L), .map (some m)]) ∧ LatV L lv rv m w2) := fun w' hb => implMakeLattice L v w' (classR.slice.mono _ _ _ _ hb h) (htb.mono hb) (hg.mono hb)
 have HT : Hid (∀ lv rv m w', LatV L lv rv m w' → Calls Tryz.prog 40 #[.agg #[lv, rv, .bool (rtB L), .map (some m)], tvL t] w' fun e w2 => e = .returned (.bool (tkT L t)) ∧ Below m w' w2) := fun lv rv m w' hv => (implTypeKnownV L lv rv m t w' hv ht).mono fun e w2 h => ⟨h.1, h.2.1⟩
 obtain ⟨va, vcap, rfl, _⟩ := slice_open (by decide) h
 obtain ⟨k, c, a⟩ := t
 simp only [tvL] at HT ⊢
 generalize tkT L (k, c, a) = res at *
 clear h ht htb hg
 go_enter Tryz.func14, Tryz.ntmps14
 go_wp2_with fail
 have x0 : (w.alloc (.cells #[.int .i64 k, .string c, .int .i64 a] 30)).cell? ⟨w.heap.size, 0, none⟩ = some (.int .i64 k) := by simp [go_sem]
 have x1 : (w.alloc (.cells #[.int .i64 k, .string c, .int .i64 a] 30)).cell? ⟨w.heap.size, 1, none⟩ = some (.string c) := by simp [go_sem]
 have x2 : (w.alloc (.cells #[.int .i64 k, .string c, .int .i64 a] 30)).cell? ⟨w.heap.size, 2, none⟩ = some (.int .i64 a) := by simp [go_sem]
 have HW : Hid (Below w.heap.size w (w.alloc (.cells #[.int .i64 k, .string c, .int .i64 a] 30))) := below_al _ _
 have hz : w.heap.size < (w.alloc (.cells #[.int .i64 k, .string c, .int .i64 a] 30)).heap.size := by simp
 generalize w.alloc (.cells #[.int .i64 k, .string c, .int .i64 a] 30) = W at *
 go_region_with (first
  | (go_at_call 39; refine (HM.out _ (by first | exact HW.out | exact HW.out.drew | exact below_drewN HW.out _)).mono ?_; rintro e w1 ⟨hb1, lv, rv, m, hmw, rfl, hv1⟩; have y0 : w1.cell? ⟨w.heap.size, 0, none⟩ = some (.int .i64 k) := carry hb1 hz x0; have y1 : w1.cell? ⟨w.heap.size, 1, none⟩ = some (.string c) := carry hb1 hz x1; have y2 : w1.cell? ⟨w.heap.size, 2, none⟩ = some (.int .i64 a) := carry hb1 hz x2; have HB1 : Hid (Below w.heap.size w w1) := HW.out.trans (((Below.refl _ _).drew.trans hb1).mono HW.out.size); have HMw : Hid (w.heap.size ≤ m) := Nat.le_trans HW.out.size hmw; have HV1 := (show Hid _ from hv1); clear hb1 hv1 hmw)
  | (go_at_call 40; refine (HT.out _ _ _ _ HV1.out).mono ?_; rintro e w2 ⟨rfl, hb2⟩; have HB2 : Hid (Below w.heap.size w w2) := HB1.out.trans (hb2.mono HMw.out); clear hb2))
 all_goals
  go_wp2
  go_ret
  exact ⟨rfl, HB2.out⟩
end Go.Proofs.YtdlhgjadobefgaaGreatDoor
