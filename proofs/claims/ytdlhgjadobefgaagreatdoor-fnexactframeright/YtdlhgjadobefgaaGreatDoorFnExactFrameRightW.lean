/-
  Whatever the list of classes and the frame, the law FnExactFrameRight returns true: the program's FrameRight answers as the model's does and leaves what it is handed as it was, and the arguments and the program's table read as they did before. The variables listed are errors.errorType and the program's table opTable, both tied to the program's text by the card.
-/
import Derived.Test.YtdlhgjadobefgaaGreatDoorRows
import Derived.Test.YtdlhgjadobefgaaGreatDoorCards
import Derived.Test.YtdlhgjadobefgaaGreatDoorTie
import Derived.WalkKit
import Derived.ProofKit
import Derived.OpenShut
import Derived.ShutString
import Derived.ChangeOld
import Derived.Below
import Derived.Carry
import Derived.OpenVars
import Derived.ChangeSame
import Derived.ChangeVars
import Derived.JoinedOf
import Derived.RowKit
import Derived.RowKitTokens
import Derived.LaidLaws
import Derived.LaidHandle
import Derived.LaidMore
import Derived.Stop.Joined
import Derived.SevenTiedAt
import Derived.Test.YtdlhgjadobefgaaGreatDoorRa
import Derived.Test.YtdlhgjadobefgaaGreatDoorWlaw
import Derived.Test.YtdlhgjadobefgaaGreatDoorWdT
namespace Go.Proofs.YtdlhgjadobefgaaGreatDoor.fnExactFrameRight
open Go.ChangeShapes Go.WideShapes Go.ChangeAt Go.RowKit
open Go.ChangeMaps (open_string shut_string)
set_option linter.unusedVariables false
set_option maxHeartbeats 8000000 in
theorem walk (v : Value) (L : List CTup) (cs : Array Value) (x : FrD) (w : World) (hx : classR.slice.In w [v] L) (hy : frameR.In w cs.toList x) (ht : Tab w) (hg : Glob w) :
    Calls Tryz.prog 6 #[v, .agg cs] w fun e w' => e = .returned (.bool true) ∧ Below w.heap.size w w' := by
  obtain ⟨cs⟩ := cs
  obtain ⟨S, Lc⟩ := x
  obtain ⟨vs, vl, hcs, hs, hl⟩ := frameR_in hy
  simp only at hcs hs hl
  subst hcs
  clear hy
  have HSz : Hid (∀ w', Below w.heap.size w w' → Calls Tryz.prog 9 #[v, .int .i64 1048576] w' fun e w2 => e = .returned (.int .i64 (szB (L.length + cSum L L.length) 1048576)) ∧ Below w'.heap.size w' w2) := fun w' hb => lawSzClassS v L 1048576 w' (classR.slice.mono _ _ _ _ hb hx) (by omega)
  have HTo : Hid (¬ szB (L.length + cSum L L.length) 1048576 < 0 → ∀ w', Below w.heap.size w w' → Calls Tryz.prog 12 #[v] w' fun e w2 => ∃ a k c, e = .returned (.slice a k c) ∧ Below w'.heap.size w' w2 ∧ classR.slice.In w2 [.slice a k c] L) := fun h w' hb => by
    refine Calls.mono (lawToClassS v L w' (classR.slice.mono _ _ _ _ hb hx) (sz_lens h).1 (sz_lens h).2) ?_
    rintro e w2 ⟨u, rfl, h1, h2⟩
    obtain ⟨a, cap, rfl, _⟩ := slice_open (by decide) h2
    exact ⟨_, _, _, rfl, h1, h2⟩
  have HSt : Hid (∀ left w', 0 ≤ left ∧ left ≤ 1048576 → Below w.heap.size w w' → Calls Tryz.prog 21 #[.agg #[vs, vl], .int .i64 left] w' fun e w2 => e = .returned (.int .i64 (szT (fyB S + fyB Lc) left)) ∧ Below w'.heap.size w' w2) := fun left w' h hb => lawSzFrame S Lc vs vl left w' (typeR.slice.mono _ _ _ _ hb hs) (typeR.slice.mono _ _ _ _ hb hl) h
  have HFo : Hid (S.length ≤ 1048576 → Lc.length ≤ 1048576 → ∀ w', Below w.heap.size w w' → Calls Tryz.prog 23 #[.agg #[vs, vl]] w' fun e w2 => ∃ b1 b2, e = .returned (.agg #[.slice (some ⟨b1, 0, none⟩) S.length S.length, .slice (some ⟨b2, 0, none⟩) Lc.length Lc.length]) ∧ Below w'.heap.size w' w2 ∧ typeR.slice.In w2 [.slice (some ⟨b1, 0, none⟩) S.length S.length] S ∧ typeR.slice.In w2 [.slice (some ⟨b2, 0, none⟩) Lc.length Lc.length] Lc) := fun h1 h2 w' hb => by
    refine (lawToFrame S Lc _ _ w' (typeR.slice.mono _ _ _ _ hb hs) (typeR.slice.mono _ _ _ _ hb hl) h1 h2).mono ?_
    rintro e w2 ⟨b1, b2, _, _, rfl, h1, h2, h3⟩
    exact ⟨b1, b2, rfl, h1, h2, h3⟩
  have HSp : Hid (∀ w' u us ul, classR.slice.In w' [u] L → typeR.slice.In w' [us] S → typeR.slice.In w' [ul] Lc → Calls Tryz.prog 22 #[u, .agg #[us, ul]] w' fun e w2 => e = .returned (.bool (frB L S Lc)) ∧ Below w'.heap.size w' w2) := fun w' u us ul h h1 h2 => specFrameRight L u S Lc us ul w' h h1 h2
  have HIm : Hid (∀ w' u us ul, Below w.heap.size w w' → classR.slice.In w' [u] L → typeR.slice.In w' [us] S → typeR.slice.In w' [ul] Lc → Calls Tryz.prog 24 #[u, .agg #[us, ul]] w' fun e w2 => e = .returned (.bool (frB L S Lc)) ∧ Below w'.heap.size w' w2) := fun w' u us ul hb h h1 h2 => implFrameRight L u S Lc us ul w' h h1 h2 (ht.mono hb) (hg.mono hb)
  have HE : Hid (∀ w' u y, classR.slice.In w' [u] L → classR.slice.In w' [y] L → Calls Tryz.prog 15 #[u, y] w' fun e w2 => e = .returned (.bool true) ∧ Below w'.heap.size w' w2) := fun w' u y h1 h2 => lawEqClassS u y L w' h1 h2
  have HEf : Hid (∀ w' us ul ys yl, typeR.slice.In w' [us] S → typeR.slice.In w' [ul] Lc → typeR.slice.In w' [ys] S → typeR.slice.In w' [yl] Lc → Calls Tryz.prog 25 #[.agg #[us, ul], .agg #[ys, yl]] w' fun e w2 => e = .returned (.bool true) ∧ Below w'.heap.size w' w2) := fun w' us ul ys yl h1 h2 h3 h4 => lawEqFrame S Lc us ul ys yl w' h1 h2 h3 h4
  have hle : szB (L.length + cSum L L.length) 1048576 ≤ 1048576 := by unfold szB; split <;> omega
  obtain ⟨va, vcap, rfl, _⟩ := slice_open (by decide) hx
  obtain ⟨aS, cS, rfl⟩ := ty_form hs
  obtain ⟨aL, cL, rfl⟩ := ty_form hl
  generalize frB L S Lc = q at *
  generalize szB (L.length + cSum L L.length) 1048576 = left at *
  have HB0 : Hid (∀ o, Below w.heap.size w (w.alloc o)) := fun o => below_al w o
  clear hx hs hl ht hg
  by_cases hlt : left < 0
  · have dl : decide (left < 0) = true := by simpa using hlt
    go_enter Tryz.func6, Tryz.ntmps6
    go_wp2_with fail
    refine Calls.mono (HSz.out _ (HB0.out _)) ?_
    rintro e w1 ⟨rfl, hb1⟩
    have HB1 : Hid (Below w.heap.size w w1) := (HB0.out _).trans (hb1.mono (by simp))
    clear hb1
    go_wp2
    go_ret
    exact ⟨rfl, HB1.out⟩
  have dl : decide (left < 0) = false := by simpa using hlt
  have HT := (show Hid _ from HTo.out hlt)
  have HS1 := (show Hid _ from fun w' => HSt.out left w' (by omega))
  by_cases hc : szT (fyB S + fyB Lc) left < 0
  · have dc : decide (szT (fyB S + fyB Lc) left < 0) = true := by simpa using hc
    generalize szT (fyB S + fyB Lc) left = left2 at *
    clear HTo HSt HFo
    go_enter Tryz.func6, Tryz.ntmps6
    go_wp2_with fail
    refine Calls.mono (HSz.out _ (HB0.out _)) ?_
    rintro e w1 ⟨rfl, hb1⟩
    have x0 : w1.cell? ⟨w.heap.size, 0, none⟩ = some (.slice aS S.length cS) := carry hb1 (by simp) (by simp [go_sem])
    have x1 : w1.cell? ⟨w.heap.size, 1, none⟩ = some (.slice aL Lc.length cL) := carry hb1 (by simp) (by simp [go_sem])
    have HB1 : Hid (Below w.heap.size w w1) := (HB0.out _).trans (hb1.mono (by simp))
    clear hb1
    go_wp2_with fail
    refine Calls.mono (HS1.out _ HB1.out) ?_
    rintro e w2 ⟨rfl, hb2⟩
    have HB2 : Hid (Below w.heap.size w w2) := HB1.out.trans (hb2.mono HB1.out.size)
    clear hb2
    go_wp2
    go_ret
    exact ⟨rfl, HB2.out⟩
  have dc : decide (szT (fyB S + fyB Lc) left < 0) = false := by simpa using hc
  have hz : fyB S + fyB Lc ≤ 1048576 := by
    unfold szT at hc
    split at hc <;> omega
  have HFr := (show Hid _ from HFo.out (by unfold fyB at hz; omega) (by unfold fyB at hz; omega))
  clear HTo HSt HFo hc hz hlt hle
  generalize szT (fyB S + fyB Lc) left = left2 at *
  go_enter Tryz.func6, Tryz.ntmps6
  go_wp2_with fail
  refine Calls.mono (HSz.out _ (HB0.out _)) ?_
  rintro e w1 ⟨rfl, hb1⟩
  have x0 : w1.cell? ⟨w.heap.size, 0, none⟩ = some (.slice aS S.length cS) := carry hb1 (by simp) (by simp [go_sem])
  have x1 : w1.cell? ⟨w.heap.size, 1, none⟩ = some (.slice aL Lc.length cL) := carry hb1 (by simp) (by simp [go_sem])
  have hz1 : w.heap.size < w1.heap.size := by have := hb1.size; simp at this; omega
  have HB1 : Hid (Below w.heap.size w w1) := (HB0.out _).trans (hb1.mono (by simp))
  clear hb1
  go_wp2_with fail
  refine Calls.mono (HS1.out _ HB1.out) ?_
  rintro e w2 ⟨rfl, hb2⟩
  have HB2 : Hid (Below w.heap.size w w2) := HB1.out.trans (hb2.mono HB1.out.size)
  have hz2 : w.heap.size < w2.heap.size := Nat.lt_of_lt_of_le hz1 hb2.size
  replace x0 := carry hb2 hz1 x0
  replace x1 := carry hb2 hz1 x1
  clear hb2 hz1 HSz HS1
  have HSX : Hid (∀ w', Below w2.heap.size w2 w' → w'.cell? ⟨w.heap.size, 0, none⟩ = some (.slice aS S.length cS) ∧ w'.cell? ⟨w.heap.size, 1, none⟩ = some (.slice aL Lc.length cL) ∧ Below w2.heap.size w2 w') := fun w' hb => ⟨carry hb hz2 x0, carry hb hz2 x1, hb⟩
  go_wp2_with fail
  go_region_held3 (fun w' => w'.cell? ⟨w.heap.size, 0, none⟩ = some (.slice aS S.length cS) ∧ w'.cell? ⟨w.heap.size, 1, none⟩ = some (.slice aL Lc.length cL) ∧ Below w2.heap.size w2 w')
    (first | exact HSX.out _ (Below.refl _ _) | exact HSX.out _ (Below.refl _ _).drew | (go_split_ands; first | exact HSX.out _ hB5x | exact HSX.out _ hB4x | exact HSX.out _ hB3x))
    (first
    | (go_at_call 12; refine Calls.mono (HT.out _ (HB2.out.trans ((Below.refl _ _).drew.mono HB2.out.size))) ?_; rintro e w3 ⟨a3, k3, c3, rfl, hb3, i3⟩; have hB3x : Below w2.heap.size w2 w3 := (Below.refl _ _).drew.trans hb3)
    | (go_at_call 23; refine Calls.mono (HFr.out _ (HB2.out.trans (hB3x.mono HB2.out.size))) ?_; rintro e w4 ⟨p1, p2, rfl, hb4, i4, j4⟩; have hB4x : Below w2.heap.size w2 w4 := hB3x.trans (hb4.mono hB3x.size))
    | (go_at_call 22; refine Calls.mono (HSp.out _ _ _ _ (classR.slice.mono _ _ _ _ hb4 i3) i4 j4) ?_; rintro e w5 ⟨rfl, hb5⟩; have hB5x : Below w2.heap.size w2 w5 := hB4x.trans (hb5.mono hB4x.size)))
  all_goals
    have HB5 : Hid (Below w.heap.size w w5) := HB2.out.trans (hB5x.mono HB2.out.size)
    have y0 := (HSX.out _ hB5x).1
    have y1 := (HSX.out _ hB5x).2.1
    have hz5 : w.heap.size < w5.heap.size := Nat.lt_of_lt_of_le hz2 hB5x.size
    clear HSX hB3x hB4x hB5x hb3 hb4 hb5 i3 i4 j4 x0 x1 hz2
    go_wp2_with fail
    refine Calls.mono (HT.out _ HB5.out) ?_
    rintro e w6 ⟨a6, k6, c6, rfl, hb6, hin6⟩
    have HB6 : Hid (Below w.heap.size w w6) := HB5.out.trans (hb6.mono HB5.out.size)
    have x0 := carry hb6 hz5 y0
    have x1 := carry hb6 hz5 y1
    have hz6 : w.heap.size < w6.heap.size := Nat.lt_of_lt_of_le hz5 hb6.size
    have HI6 := (show Hid (classR.slice.In w6 [.slice a6 k6 c6] L) from hin6)
    clear hb6 hin6 y0 y1
    go_wp2_with fail
    refine Calls.mono (HFr.out _ HB6.out) ?_
    rintro e w7 ⟨b3, b4, rfl, hb7, h1, h2⟩
    have HB7 : Hid (Below w.heap.size w w7) := HB6.out.trans (hb7.mono HB6.out.size)
    have hz7 : w.heap.size < w7.heap.size := Nat.lt_of_lt_of_le hz6 hb7.size
    have HIa : Hid (∀ o, classR.slice.In (w7.alloc o) [.slice a6 k6 c6] L ∧ typeR.slice.In (w7.alloc o) [.slice (some ⟨b3, 0, none⟩) S.length S.length] S ∧ typeR.slice.In (w7.alloc o) [.slice (some ⟨b4, 0, none⟩) Lc.length Lc.length] Lc) := fun o => ⟨classR.slice.mono _ _ _ _ (below_al w7 o) (classR.slice.mono _ _ _ _ hb7 HI6.out), typeR.slice.mono _ _ _ _ (below_al w7 o) h1, typeR.slice.mono _ _ _ _ (below_al w7 o) h2⟩
    replace x0 := carry hb7 hz6 x0
    replace x1 := carry hb7 hz6 x1
    have HX0 : Hid (∀ o, (w7.alloc o).cell? ⟨w.heap.size, 0, none⟩ = some (.slice aS S.length cS)) := fun o => carry (below_al w7 o) hz7 x0
    have HX1 : Hid (∀ o, (w7.alloc o).cell? ⟨w.heap.size, 1, none⟩ = some (.slice aL Lc.length cL)) := fun o => carry (below_al w7 o) hz7 x1
    clear hb7 h1 h2 x0 x1 HI6
    go_wp2_with fail
    refine Calls.mono (HIm.out _ _ _ _ (HB7.out.alloc (Nat.le_of_lt hz7) _) (HIa.out _).1 (HIa.out _).2.1 (HIa.out _).2.2) ?_
    rintro e w8 ⟨rfl, hb8⟩
    have HB8 : Hid (Below w.heap.size w w8) := (HB7.out.alloc (Nat.le_of_lt hz7) _).trans (hb8.mono (by simp; omega))
    have x0 : w8.cell? ⟨w.heap.size, 0, none⟩ = some (.slice aS S.length cS) := carry hb8 (by simp; omega) (HX0.out _)
    have x1 : w8.cell? ⟨w.heap.size, 1, none⟩ = some (.slice aL Lc.length cL) := carry hb8 (by simp; omega) (HX1.out _)
    have p0 : w8.cell? ⟨w7.heap.size, 0, none⟩ = some (.slice (some ⟨b3, 0, none⟩) S.length S.length) := carry hb8 (by simp) (by simp [go_sem])
    have p1 : w8.cell? ⟨w7.heap.size, 1, none⟩ = some (.slice (some ⟨b4, 0, none⟩) Lc.length Lc.length) := carry hb8 (by simp) (by simp [go_sem])
    have HI8 : Hid (classR.slice.In w8 [.slice a6 k6 c6] L ∧ typeR.slice.In w8 [.slice (some ⟨b3, 0, none⟩) S.length S.length] S ∧ typeR.slice.In w8 [.slice (some ⟨b4, 0, none⟩) Lc.length Lc.length] Lc) := ⟨classR.slice.mono _ _ _ _ hb8 (HIa.out _).1, typeR.slice.mono _ _ _ _ hb8 (HIa.out _).2.1, typeR.slice.mono _ _ _ _ hb8 (HIa.out _).2.2⟩
    have hz8 : w.heap.size < w8.heap.size := by have := hb8.size; simp at this; omega
    have hz78 : w7.heap.size < w8.heap.size := by have := hb8.size; simp at this; omega
    clear hb8 HX0 HX1 HIa
    cases q
    all_goals
      go_wp2_with fail
      refine Calls.mono (HT.out _ HB8.out) ?_
      rintro e w9 ⟨a9, k9, c9, rfl, hb9, hin9⟩
      have HB9 : Hid (Below w.heap.size w w9) := HB8.out.trans (hb9.mono HB8.out.size)
      have HI9 : Hid (classR.slice.In w9 [.slice a6 k6 c6] L ∧ classR.slice.In w9 [.slice a9 k9 c9] L ∧ typeR.slice.In w9 [.slice (some ⟨b3, 0, none⟩) S.length S.length] S ∧ typeR.slice.In w9 [.slice (some ⟨b4, 0, none⟩) Lc.length Lc.length] Lc) := ⟨classR.slice.mono _ _ _ _ hb9 HI8.out.1, hin9, typeR.slice.mono _ _ _ _ hb9 HI8.out.2.1, typeR.slice.mono _ _ _ _ hb9 HI8.out.2.2⟩
      have hz9 : w.heap.size < w9.heap.size := Nat.lt_of_lt_of_le hz8 hb9.size
      have hz79 : w7.heap.size < w9.heap.size := Nat.lt_of_lt_of_le hz78 hb9.size
      replace x0 := carry hb9 hz8 x0
      replace x1 := carry hb9 hz8 x1
      replace p0 := carry hb9 hz78 p0
      replace p1 := carry hb9 hz78 p1
      clear hb9 hin9 HI8
      go_wp2_with fail
      refine Calls.mono (HE.out _ _ _ HI9.out.1 HI9.out.2.1) ?_
      rintro e w10 ⟨rfl, hb10⟩
      have HB10 : Hid (Below w.heap.size w w10) := HB9.out.trans (hb10.mono HB9.out.size)
      have HI10 : Hid (typeR.slice.In w10 [.slice (some ⟨b3, 0, none⟩) S.length S.length] S ∧ typeR.slice.In w10 [.slice (some ⟨b4, 0, none⟩) Lc.length Lc.length] Lc) := ⟨typeR.slice.mono _ _ _ _ hb10 HI9.out.2.2.1, typeR.slice.mono _ _ _ _ hb10 HI9.out.2.2.2⟩
      have hz10 : w.heap.size < w10.heap.size := Nat.lt_of_lt_of_le hz9 hb10.size
      have hz710 : w7.heap.size < w10.heap.size := Nat.lt_of_lt_of_le hz79 hb10.size
      replace x0 := carry hb10 hz9 x0
      replace x1 := carry hb10 hz9 x1
      replace p0 := carry hb10 hz79 p0
      replace p1 := carry hb10 hz79 p1
      clear hb10 HI9
      have HSX : Hid (∀ w', Below w10.heap.size w10 w' → w'.cell? ⟨w.heap.size, 0, none⟩ = some (.slice aS S.length cS) ∧ w'.cell? ⟨w.heap.size, 1, none⟩ = some (.slice aL Lc.length cL) ∧ w'.cell? ⟨w7.heap.size, 0, none⟩ = some (.slice (some ⟨b3, 0, none⟩) S.length S.length) ∧ w'.cell? ⟨w7.heap.size, 1, none⟩ = some (.slice (some ⟨b4, 0, none⟩) Lc.length Lc.length) ∧ Below w10.heap.size w10 w') := fun w' hb => ⟨carry hb hz10 x0, carry hb hz10 x1, carry hb hz710 p0, carry hb hz710 p1, hb⟩
      go_wp2_with fail
      go_region_held3 (fun w' => w'.cell? ⟨w.heap.size, 0, none⟩ = some (.slice aS S.length cS) ∧ w'.cell? ⟨w.heap.size, 1, none⟩ = some (.slice aL Lc.length cL) ∧ w'.cell? ⟨w7.heap.size, 0, none⟩ = some (.slice (some ⟨b3, 0, none⟩) S.length S.length) ∧ w'.cell? ⟨w7.heap.size, 1, none⟩ = some (.slice (some ⟨b4, 0, none⟩) Lc.length Lc.length) ∧ Below w10.heap.size w10 w')
        (first | exact HSX.out _ (Below.refl _ _) | exact HSX.out _ (Below.refl _ _).drew | (go_split_ands; first | exact HSX.out _ hB12x | exact HSX.out _ hB11x))
        (first
        | (go_at_call 23; refine Calls.mono (HFr.out _ (HB10.out.trans ((Below.refl _ _).drew.mono HB10.out.size))) ?_; rintro e w11 ⟨b5, b6, rfl, hb11, i5, i6⟩; have hB11x : Below w10.heap.size w10 w11 := (Below.refl _ _).drew.trans hb11)
        | (go_at_call 25; refine Calls.mono (HEf.out _ _ _ _ _ (typeR.slice.mono _ _ _ _ hB11x HI10.out.1) (typeR.slice.mono _ _ _ _ hB11x HI10.out.2) i5 i6) ?_; rintro e w12 ⟨rfl, hb12⟩; have hB12x : Below w10.heap.size w10 w12 := hB11x.trans (hb12.mono hB11x.size)))
      all_goals
        have HB12 : Hid (Below w.heap.size w w12) := HB10.out.trans (hB12x.mono HB10.out.size)
        clear hb11 hb12 hB11x hB12x i5 i6 HSX
        go_wp2
        go_ret
        exact ⟨rfl, HB12.out⟩
end Go.Proofs.YtdlhgjadobefgaaGreatDoor.fnExactFrameRight
