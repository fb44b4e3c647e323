/-
  Whatever the list of classes and the type, the law FnExactTypeKnown returns true: the program's TypeKnown answers as the model's does and leaves what it is handed as it was, and the arguments and the program's table read as they did before. The variables listed are errors.errorType and the program's table opTable, both tied to the program's text by the card.
-/
import Derived.Test.YtdlhgjadobefgaaGreatDoorRows
import Derived.Test.YtdlhgjadobefgaaGreatDoorCards
import Derived.Test.YtdlhgjadobefgaaGreatDoorTie
import Derived.WalkKit
import Derived.ProofKit
import Derived.OpenShut
import Derived.ShutString
import Derived.ChangeOld
import Derived.Below
import Derived.Carry
import Derived.OpenVars
import Derived.ChangeSame
import Derived.ChangeVars
import Derived.JoinedOf
import Derived.RowKit
import Derived.RowKitTokens
import Derived.LaidLaws
import Derived.LaidHandle
import Derived.LaidMore
import Derived.Stop.Joined
import Derived.SevenTiedAt
import Derived.Test.YtdlhgjadobefgaaGreatDoorLaT
import Derived.Test.YtdlhgjadobefgaaGreatDoorTyp
import Derived.Test.YtdlhgjadobefgaaGreatDoorWlaw
import Derived.Test.YtdlhgjadobefgaaGreatDoorWdT
namespace Go.Proofs.YtdlhgjadobefgaaGreatDoor.fnExactTypeKnown
open Go.ChangeShapes Go.WideShapes Go.ChangeAt Go.RowKit
open Go.ChangeMaps (open_string shut_string)
set_option linter.unusedVariables false
set_option maxHeartbeats 4000000 in
theorem walk (v : Value) (L : List CTup) (cs : Array Value) (x : Int × ByteArray × Int) (w : World) (hx : classR.slice.In w [v] L) (hy : typeR.In w cs.toList x) (ht : Tab w) (hg : Glob w) :
    Calls Tryz.prog 3 #[v, .agg cs] w fun e w' => e = .returned (.bool true) ∧ Below w.heap.size w w' := by
  obtain ⟨cs⟩ := cs
  obtain ⟨k, c, a⟩ := x
  obtain ⟨_, _, hcs, ⟨rfl, h0⟩, ⟨_, _, rfl, ⟨rfl, s2⟩, ⟨rfl, h3⟩⟩⟩ := hy
  simp only at hcs h0 s2 h3
  subst hcs
  have HSz : Hid (∀ w', Below w.heap.size w w' → Calls Tryz.prog 9 #[v, .int .i64 1048576] w' fun e w2 => e = .returned (.int .i64 (szB (L.length + cSum L L.length) 1048576)) ∧ Below w'.heap.size w' w2) := fun w' hb => lawSzClassS v L 1048576 w' (classR.slice.mono _ _ _ _ hb hx) (by omega)
  have HTo : Hid (¬ szB (L.length + cSum L L.length) 1048576 < 0 → ∀ w', Below w.heap.size w w' → Calls Tryz.prog 12 #[v] w' fun e w2 => ∃ a k c, e = .returned (.slice a k c) ∧ Below w'.heap.size w' w2 ∧ classR.slice.In w2 [.slice a k c] L) := fun h w' hb => by
    refine Calls.mono (lawToClassS v L w' (classR.slice.mono _ _ _ _ hb hx) (sz_lens h).1 (sz_lens h).2) ?_
    rintro e w2 ⟨u, rfl, h1, h2⟩
    obtain ⟨a, cap, rfl, _⟩ := slice_open (by decide) h2
    exact ⟨_, _, _, rfl, h1, h2⟩
  have HTy : Hid (∀ w, Calls Tryz.prog 13 #[.agg #[.int .i64 k, .string c, .int .i64 a]] w fun e w' => e = .returned (.agg #[.int .i64 k, .string c, .int .i64 a]) ∧ Below w.heap.size w w') := fun w => lawToType k a c w
  have HS : Hid (∀ w' u, classR.slice.In w' [u] L → Calls Tryz.prog 11 #[u, .agg #[.int .i64 k, .string c, .int .i64 a]] w' fun e w2 => e = .returned (.bool (tkV L k c a)) ∧ Below w'.heap.size w' w2) := fun w' u h => specTypeKnown L u k a c w' h s2
  have HI : Hid (∀ w' u, Below w.heap.size w w' → classR.slice.In w' [u] L → Calls Tryz.prog 14 #[u, .agg #[.int .i64 k, .string c, .int .i64 a]] w' fun e w2 => e = .returned (.bool (tkV L k c a)) ∧ Below w'.heap.size w' w2) := fun w' u hb h => implTypeKnown L u (k, c, a) w' h ⟨h0, s2, h3⟩ (ht.mono hb) (hg.mono hb)
  have HE : Hid (∀ w' u y, classR.slice.In w' [u] L → classR.slice.In w' [y] L → Calls Tryz.prog 15 #[u, y] w' fun e w2 => e = .returned (.bool true) ∧ Below w'.heap.size w' w2) := fun w' u y h1 h2 => lawEqClassS u y L w' h1 h2
  have HSt : Hid (∀ left w, 0 ≤ left ∧ left ≤ 1048576 → Calls Tryz.prog 10 #[.agg #[.int .i64 k, .string c, .int .i64 a], .int .i64 left] w fun e w' => e = .returned (.int .i64 (if left - (c.size : Int) < 0 then -1 else left - (c.size : Int))) ∧ Below w.heap.size w w') := fun left w h => lawSzType k a c left w s2 h
  have hle : szB (L.length + cSum L L.length) 1048576 ≤ 1048576 := by unfold szB; split <;> omega
  obtain ⟨va, vcap, rfl, _⟩ := slice_open (by decide) hx
  generalize tkV L k c a = q at *
  generalize szB (L.length + cSum L L.length) 1048576 = left at *
  have HB0 : Hid (∀ o, Below w.heap.size w (w.alloc o)) := fun o => below_al w o
  clear hx ht hg h0 s2 h3
  by_cases hl : left < 0
  · have dl : decide (left < 0) = true := by simpa using hl
    go_enter Tryz.func3, Tryz.ntmps3
    go_wp2_with fail
    refine Calls.mono (HSz.out _ (HB0.out _)) ?_
    rintro e w1 ⟨rfl, hb1⟩
    have HB1 : Hid (Below w.heap.size w w1) := (HB0.out _).trans (hb1.mono (by simp))
    clear hb1
    go_wp2
    go_ret
    exact ⟨rfl, HB1.out⟩
  have dl : decide (left < 0) = false := by simpa using hl
  have HT := (show Hid _ from HTo.out hl)
  have HS1 := (show Hid _ from HSt.out left)
  have hlr : 0 ≤ left ∧ left ≤ 1048576 := by omega
  have HLr := (show Hid _ from hlr)
  clear HTo HSt hl hlr hle
  by_cases hc : left - (c.size : Int) < 0
  · have HR : Hid ((if left - (c.size : Int) < 0 then -1 else left - (c.size : Int)) = -1) := if_pos hc
    clear hc
    go_enter Tryz.func3, Tryz.ntmps3
    go_wp2_with fail
    refine Calls.mono (HSz.out _ (HB0.out _)) ?_
    rintro e w1 ⟨rfl, hb1⟩
    have x0 : w1.cell? ⟨w.heap.size, 0, none⟩ = some (.int .i64 k) := carry hb1 (by simp) (by simp [go_sem])
    have x1 : w1.cell? ⟨w.heap.size, 1, none⟩ = some (.string c) := carry hb1 (by simp) (by simp [go_sem])
    have x2 : w1.cell? ⟨w.heap.size, 2, none⟩ = some (.int .i64 a) := carry hb1 (by simp) (by simp [go_sem])
    have HB1 : Hid (Below w.heap.size w w1) := (HB0.out _).trans (hb1.mono (by simp))
    clear hb1
    go_wp2_with fail
    refine Calls.mono (HS1.out _ HLr.out) ?_
    rintro e w2 ⟨rfl, hb2⟩
    rw [HR.out]
    have HB2 : Hid (Below w.heap.size w w2) := HB1.out.trans (hb2.mono HB1.out.size)
    clear hb2
    go_wp2
    go_ret
    exact ⟨rfl, HB2.out⟩
  have HR : Hid ((if left - (c.size : Int) < 0 then -1 else left - (c.size : Int)) = left - (c.size : Int)) := if_neg hc
  have dc : decide (left - (c.size : Int) < 0) = false := by simpa using hc
  clear hc
  have eq1 : (q == q) = true := by simp
  have eq2 : (q != q) = false := by simp
  go_enter Tryz.func3, Tryz.ntmps3
  go_wp2_with fail
  refine Calls.mono (HSz.out _ (HB0.out _)) ?_
  rintro e w1 ⟨rfl, hb1⟩
  have x0 : w1.cell? ⟨w.heap.size, 0, none⟩ = some (.int .i64 k) := carry hb1 (by simp) (by simp [go_sem])
  have x1 : w1.cell? ⟨w.heap.size, 1, none⟩ = some (.string c) := carry hb1 (by simp) (by simp [go_sem])
  have x2 : w1.cell? ⟨w.heap.size, 2, none⟩ = some (.int .i64 a) := carry hb1 (by simp) (by simp [go_sem])
  have hz1 : w.heap.size < w1.heap.size := by have := hb1.size; simp at this; omega
  have HB1 : Hid (Below w.heap.size w w1) := (HB0.out _).trans (hb1.mono (by simp))
  clear hb1
  go_wp2_with fail
  refine Calls.mono (HS1.out _ HLr.out) ?_
  rintro e w2 ⟨rfl, hb2⟩
  rw [HR.out]
  have HB2 : Hid (Below w.heap.size w w2) := HB1.out.trans (hb2.mono HB1.out.size)
  have hz2 : w.heap.size < w2.heap.size := Nat.lt_of_lt_of_le hz1 hb2.size
  replace x0 := carry hb2 hz1 x0
  replace x1 := carry hb2 hz1 x1
  replace x2 := carry hb2 hz1 x2
  clear hb2 hz1 HSz HS1 HR HLr
  go_wp2_with fail
  go_region_with (first
    | (go_at_call 12; refine (HT.out _ (by first | exact HB2.out | exact HB2.out.drew | exact below_drewN HB2.out _)).mono ?_; rintro e w3 ⟨a3, k3, c3, rfl, hb3, hin3⟩; have y0 : w3.cell? ⟨w.heap.size, 0, none⟩ = some (.int .i64 k) := carry hb3 hz2 x0; have y1 : w3.cell? ⟨w.heap.size, 1, none⟩ = some (.string c) := carry hb3 hz2 x1; have y2 : w3.cell? ⟨w.heap.size, 2, none⟩ = some (.int .i64 a) := carry hb3 hz2 x2; have HB3 : Hid (Below w.heap.size w w3) := HB2.out.trans (((Below.refl _ _).drew.trans hb3).mono HB2.out.size); have hz3 : w.heap.size < w3.heap.size := Nat.lt_of_lt_of_le hz2 hb3.size; have HI3 := (show Hid _ from hin3); clear hb3 hin3)
    | (go_at_call 13; refine (HTy.out _).mono ?_; rintro e w4 ⟨rfl, hb4⟩; have z0 : w4.cell? ⟨w.heap.size, 0, none⟩ = some (.int .i64 k) := carry hb4 hz3 y0; have z1 : w4.cell? ⟨w.heap.size, 1, none⟩ = some (.string c) := carry hb4 hz3 y1; have z2 : w4.cell? ⟨w.heap.size, 2, none⟩ = some (.int .i64 a) := carry hb4 hz3 y2; have HB4 : Hid (Below w.heap.size w w4) := HB3.out.trans (hb4.mono HB3.out.size); have hz4 : w.heap.size < w4.heap.size := Nat.lt_of_lt_of_le hz3 hb4.size; have HI4 := (show Hid _ from classR.slice.mono _ _ _ _ hb4 HI3.out); clear hb4)
    | (go_at_call 11; refine (HS.out _ _ HI4.out).mono ?_; rintro e w5 ⟨rfl, hb5⟩; have x0' : w5.cell? ⟨w.heap.size, 0, none⟩ = some (.int .i64 k) := carry hb5 hz4 z0; have x1' : w5.cell? ⟨w.heap.size, 1, none⟩ = some (.string c) := carry hb5 hz4 z1; have x2' : w5.cell? ⟨w.heap.size, 2, none⟩ = some (.int .i64 a) := carry hb5 hz4 z2; have HB5 : Hid (Below w.heap.size w w5) := HB4.out.trans (hb5.mono HB4.out.size); have hz5 : w.heap.size < w5.heap.size := Nat.lt_of_lt_of_le hz4 hb5.size; clear hb5))
  all_goals
    clear x0 x1 x2 y0 y1 y2 z0 z1 z2 hz2 hz3 hz4 HI3 HI4 HB2 HB3 HB4
    go_wp2_with fail
    refine Calls.mono (HT.out _ HB5.out) ?_
    rintro e w6 ⟨a6, k6, c6, rfl, hb6, hin6⟩
    have HB6 : Hid (Below w.heap.size w w6) := HB5.out.trans (hb6.mono HB5.out.size)
    have x0 := carry hb6 hz5 x0'
    have x1 := carry hb6 hz5 x1'
    have x2 := carry hb6 hz5 x2'
    have HI6 := (show Hid _ from hin6)
    clear hb6 hin6 x0' x1' x2'
    go_wp2_with fail
    refine Calls.mono (HTy.out _) ?_
    rintro e w7 ⟨rfl, hb7⟩
    have HB7 : Hid (Below w.heap.size w w7) := HB6.out.trans (hb7.mono HB6.out.size)
    have HI7 := (show Hid _ from classR.slice.mono _ _ _ _ hb7 HI6.out)
    clear hb7 x0 x1 x2 HI6
    go_wp2_with fail
    refine Calls.mono (HI.out _ _ HB7.out HI7.out) ?_
    rintro e w8 ⟨rfl, hb8⟩
    have HB8 : Hid (Below w.heap.size w w8) := HB7.out.trans (hb8.mono HB7.out.size)
    have HI8 := (show Hid _ from classR.slice.mono _ _ _ _ hb8 HI7.out)
    clear hb8 HI7
    cases q
    all_goals
      go_wp2_with fail
      refine Calls.mono (HT.out _ HB8.out) ?_
      rintro e w9 ⟨a9, k9, c9, rfl, hb9, hin9⟩
      have HB9 : Hid (Below w.heap.size w w9) := HB8.out.trans (hb9.mono HB8.out.size)
      have HI9 := (show Hid (_ ∧ _) from ⟨classR.slice.mono _ _ _ _ hb9 HI8.out, hin9⟩)
      clear hb9 hin9
      go_wp2_with fail
      refine Calls.mono (HE.out _ _ _ HI9.out.1 HI9.out.2) ?_
      rintro e w10 ⟨rfl, hb10⟩
      have HB10 : Hid (Below w.heap.size w w10) := HB9.out.trans (hb10.mono HB9.out.size)
      clear hb10
      go_wp2
      go_ret
      exact ⟨rfl, HB10.out⟩
end Go.Proofs.YtdlhgjadobefgaaGreatDoor.fnExactTypeKnown
