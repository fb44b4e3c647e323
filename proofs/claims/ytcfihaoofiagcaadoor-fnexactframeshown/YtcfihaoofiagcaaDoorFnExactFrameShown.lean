/-
  Whatever the frame, the law FnExactFrameShown returns true: the program's FrameShown answers as the model's FrameShown does, and the argument reads as it did before. The variables listed are tables of the library (math/bits, internal/strconv), each tied to the library's text by the card.
-/
import Derived.Test.YtcfihaoofiagcaaDoorRows
import Derived.Test.YtcfihaoofiagcaaDoorCards
import Derived.Test.YtcfihaoofiagcaaDoorTie
import Derived.WalkKit
import Derived.ProofKit
import Derived.OpenShut
import Derived.ShutString
import Derived.ChangeOld
import Derived.Below
import Derived.Carry
import Derived.OpenVars
import Derived.ChangeSame
import Derived.ChangeVars
import Derived.JoinedOf
import Derived.RowKit
import Derived.RowKitTokens
import Derived.LaidLaws
import Derived.LaidHandle
import Derived.LaidMore
import Derived.Stop.Joined
import Derived.SevenTiedAt
import Derived.Lib.LaidTab
import Derived.Stop.LaidErr
import Derived.Test.YtcfihaoofiagcaaDoorFrJ
namespace Go.Proofs.YtcfihaoofiagcaaDoor.fnExactFrameShown
open Go.ChangeShapes Go.WideShapes Go.ChangeAt Go.RowKit
open Go.ChangeMaps (open_string shut_string)
set_option linter.unusedVariables false

theorem own : ownKnob Tryd.prog.godebug = none := by kernel_rfl
theorem laidOut : laidOutB Tryd.prog = true := by kernel_rfl
theorem pg : Tryd.prog.globalNamed "internal/strconv.uint64pow10" = some 1 := by kernel_rfl
theorem pgT : (Tryd.prog.globals[1]?).map (·.type) = some 75 := by kernel_rfl
theorem tab_datum {H : Type} : (Rows.laid_internal_strconv_uint64pow10 : DataW H) = Lib.tabData .u64 Lib.pow10Tab := by kernel_rfl
theorem pow_of_laid {W : World} (h : laidMetH Tryd.prog Rows.fnExactFrameShownRow.laid W) : Lib.TabIs Tryd.prog W "internal/strconv.uint64pow10" .u64 Lib.pow10Tab := by
  have h1 : laidMet Tryd.prog [("math/bits.deBruijn32tab", Rows.laid_math_bits_deBruijn32tab), ("math/bits.deBruijn64tab", Rows.laid_math_bits_deBruijn64tab), ("internal/strconv.uint64pow10", Rows.laid_internal_strconv_uint64pow10)] W := h
  replace h1 := h1.tail
  replace h1 := h1.tail
  rw [tab_datum] at h1
  exact Lib.tabIs_of_head pg pgT Tryd.underlying75 Tryd.underlying68 (by kernel_rfl) (by kernel_rfl) h1
theorem tab_lasts {W W1 : World} (h : Lib.TabIs Tryd.prog W "internal/strconv.uint64pow10" .u64 Lib.pow10Tab) (hb : Below W.heap.size W W1) : Lib.TabIs Tryd.prog W1 "internal/strconv.uint64pow10" .u64 Lib.pow10Tab := by
  unfold Lib.TabIs World.var? at h ⊢
  rw [pg] at h ⊢
  simp only [Option.bind_some] at h ⊢
  have hlt : 1 < W.heap.size := by
    rcases Nat.lt_or_ge 1 W.heap.size with k | k
    · exact k
    · rw [Array.getElem?_eq_none k] at h; simp at h
  rw [hb.block 1 hlt]
  exact h

noncomputable def laidWorld (os : Os) : World :=
  let w0 := World.holding Tryd.prog os ⟨#[], #[], []⟩
  { w0 with heap := (((w0.heap.modify 2 fun | .cells _ t frozen => .cells #[.int .u8 0, .int .u8 1, .int .u8 28, .int .u8 2, .int .u8 29, .int .u8 14, .int .u8 24, .int .u8 3, .int .u8 30, .int .u8 22, .int .u8 20, .int .u8 15, .int .u8 25, .int .u8 17, .int .u8 4, .int .u8 8, .int .u8 31, .int .u8 27, .int .u8 13, .int .u8 23, .int .u8 21, .int .u8 19, .int .u8 16, .int .u8 7, .int .u8 26, .int .u8 12, .int .u8 18, .int .u8 6, .int .u8 11, .int .u8 5, .int .u8 10, .int .u8 9] t frozen | o => o).modify 3 fun | .cells _ t frozen => .cells #[.int .u8 0, .int .u8 1, .int .u8 56, .int .u8 2, .int .u8 57, .int .u8 49, .int .u8 28, .int .u8 3, .int .u8 61, .int .u8 58, .int .u8 42, .int .u8 50, .int .u8 38, .int .u8 29, .int .u8 17, .int .u8 4, .int .u8 62, .int .u8 47, .int .u8 59, .int .u8 36, .int .u8 45, .int .u8 43, .int .u8 51, .int .u8 22, .int .u8 53, .int .u8 39, .int .u8 33, .int .u8 30, .int .u8 24, .int .u8 18, .int .u8 12, .int .u8 5, .int .u8 63, .int .u8 55, .int .u8 48, .int .u8 27, .int .u8 60, .int .u8 41, .int .u8 37, .int .u8 16, .int .u8 46, .int .u8 35, .int .u8 44, .int .u8 21, .int .u8 52, .int .u8 32, .int .u8 23, .int .u8 11, .int .u8 54, .int .u8 26, .int .u8 40, .int .u8 15, .int .u8 34, .int .u8 20, .int .u8 31, .int .u8 10, .int .u8 25, .int .u8 14, .int .u8 19, .int .u8 9, .int .u8 13, .int .u8 8, .int .u8 7, .int .u8 6] t frozen | o => o).modify 1 fun | .cells _ t frozen => .cells #[.int .u64 1, .int .u64 10, .int .u64 100, .int .u64 1000, .int .u64 10000, .int .u64 100000, .int .u64 1000000, .int .u64 10000000, .int .u64 100000000, .int .u64 1000000000, .int .u64 10000000000, .int .u64 100000000000, .int .u64 1000000000000, .int .u64 10000000000000, .int .u64 100000000000000, .int .u64 1000000000000000, .int .u64 10000000000000000, .int .u64 100000000000000000, .int .u64 1000000000000000000, .int .u64 10000000000000000000] t frozen | o => o) }
theorem laidWorld_met (os : Os) (args : Array Value) : laidMetH Tryd.prog Rows.fnExactFrameShownRow.laid ((laidWorld os).forCall (fun _ _ => 0) ⟨#[], args, []⟩).memory :=
  laidMetH_of_parts (laidMet_of_run' 8 (by kernel_rfl) (by kernel_rfl)) (by kernel_rfl)

set_option maxHeartbeats 2000000 in
theorem walk (cs : Array Value) (x : FrD) (w : World) (hx : frameR.In w cs.toList x) (ht : ∀ w', Below w.heap.size w w' → Lib.TabIs Tryd.prog w' "internal/strconv.uint64pow10" .u64 Lib.pow10Tab) :
    Calls Tryd.prog 3 #[.agg cs] w fun e w' => e = .returned (.bool true) ∧ Below w.heap.size w w' := by
  obtain ⟨cs⟩ := cs
  obtain ⟨S, L⟩ := x
  obtain ⟨vs, vl, hcs, hs, hl⟩ := frameR_in hx
  simp only at hcs hs hl
  subst hcs
  clear hx
  have HSz : Hid (∀ w', Below w.heap.size w w' → Calls Tryd.prog 4 #[.agg #[vs, vl], .int .i64 1048576] w' fun e w2 => e = .returned (.int .i64 (szT (tyB S + tyB L) 1048576)) ∧ Below w'.heap.size w' w2) := fun w' hb => lawSzFrame S L vs vl 1048576 w' (typeR.slice.mono _ _ _ _ hb hs) (typeR.slice.mono _ _ _ _ hb hl) (by omega)
  have HB0 : Hid (∀ o, Below w.heap.size w (w.alloc o)) := fun o => below_al w o
  obtain ⟨aS, cS, rfl⟩ := ty_form hs
  obtain ⟨aL, cL, rfl⟩ := ty_form hl
  by_cases hlt : szT (tyB S + tyB L) 1048576 < 0
  · have dl : decide (szT (tyB S + tyB L) 1048576 < 0) = true := by simpa using hlt
    clear hs hl ht
    generalize szT (tyB S + tyB L) 1048576 = left at *
    go_enter Tryd.func3, Tryd.ntmps3
    go_wp2_with fail
    refine Calls.mono (HSz.out _ (HB0.out _)) ?_
    rintro e w1 ⟨rfl, hb1⟩
    have HB1 : Hid (Below w.heap.size w w1) := (HB0.out _).trans (hb1.mono (by simp))
    clear hb1
    go_wp2
    go_ret
    exact ⟨rfl, HB1.out⟩
  have dl : decide (szT (tyB S + tyB L) 1048576 < 0) = false := by simpa using hlt
  have hz : tyB S + tyB L ≤ 1048576 := by
    unfold szT at hlt
    split at hlt <;> omega
  have hS : S.length ≤ 1048576 := by unfold tyB at hz; omega
  have hL : L.length ≤ 1048576 := by unfold tyB at hz; omega
  have HTo : Hid (∀ w', Below w.heap.size w w' → Calls Tryd.prog 6 #[.agg #[.slice aS S.length cS, .slice aL L.length cL]] w' fun e w2 => ∃ b1 b2, e = .returned (.agg #[.slice (some ⟨b1, 0, none⟩) S.length S.length, .slice (some ⟨b2, 0, none⟩) L.length L.length]) ∧ Below w'.heap.size w' w2 ∧ typeR.slice.In w2 [.slice (some ⟨b1, 0, none⟩) S.length S.length] S ∧ typeR.slice.In w2 [.slice (some ⟨b2, 0, none⟩) L.length L.length] L) := fun w' hb => by
    refine (lawToFrame S L _ _ w' (typeR.slice.mono _ _ _ _ hb hs) (typeR.slice.mono _ _ _ _ hb hl) hS hL).mono ?_
    rintro e w2 ⟨b1, b2, _, _, rfl, h1, h2, h3⟩
    exact ⟨b1, b2, rfl, h1, h2, h3⟩
  have HSp : Hid (∀ w' us ul, typeR.slice.In w' [us] S → typeR.slice.In w' [ul] L → Calls Tryd.prog 5 #[.agg #[us, ul]] w' fun e w2 => e = .returned (.string (frT S L)) ∧ Below w'.heap.size w' w2) := fun w' us ul h1 h2 => specFrameShown S L us ul w' h1 h2 hz
  have HIm : Hid (∀ w' us ul, Below w.heap.size w w' → typeR.slice.In w' [us] S → typeR.slice.In w' [ul] L → Calls Tryd.prog 7 #[.agg #[us, ul]] w' fun e w2 => e = .returned (.string (frT S L)) ∧ Below w'.heap.size w' w2) := fun w' us ul hb h1 h2 => implFrameShown S L us ul w' h1 h2 hz (fun w2 hb2 => ht w2 (hb.trans (hb2.mono hb.size)))
  have HE : Hid (∀ w' us ul ys yl, typeR.slice.In w' [us] S → typeR.slice.In w' [ul] L → typeR.slice.In w' [ys] S → typeR.slice.In w' [yl] L → Calls Tryd.prog 8 #[.agg #[us, ul], .agg #[ys, yl]] w' fun e w2 => e = .returned (.bool true) ∧ Below w'.heap.size w' w2) := fun w' us ul ys yl h1 h2 h3 h4 => lawEqFrame S L us ul ys yl w' h1 h2 h3 h4
  clear hs hl ht hlt hz hS hL
  generalize szT (tyB S + tyB L) 1048576 = left at *
  generalize frT S L = q at *
  have eq1 : (q.toList == q.toList) = true := by simp
  go_enter Tryd.func3, Tryd.ntmps3
  go_wp2_with fail
  refine Calls.mono (HSz.out _ (HB0.out _)) ?_
  rintro e w1 ⟨rfl, hb1⟩
  have x0 : w1.cell? ⟨w.heap.size, 0, none⟩ = some (.slice aS S.length cS) := carry hb1 (by simp) (by simp [go_sem])
  have x1 : w1.cell? ⟨w.heap.size, 1, none⟩ = some (.slice aL L.length cL) := carry hb1 (by simp) (by simp [go_sem])
  have hz1 : w.heap.size < w1.heap.size := by have := hb1.size; simp at this; omega
  have HB1 : Hid (Below w.heap.size w w1) := (HB0.out _).trans (hb1.mono (by simp))
  clear hb1
  go_wp2_with fail
  refine Calls.mono (HTo.out _ HB1.out) ?_
  rintro e w2 ⟨b1, b2, rfl, hb2, h1, h2⟩
  have HB2 : Hid (Below w.heap.size w w2) := HB1.out.trans (hb2.mono HB1.out.size)
  have HI2 := (show Hid (_ ∧ _) from ⟨h1, h2⟩)
  have hz2 : w.heap.size < w2.heap.size := Nat.lt_of_lt_of_le hz1 hb2.size
  replace x0 := carry hb2 hz1 x0
  replace x1 := carry hb2 hz1 x1
  clear hb2 h1 h2
  go_wp2_with fail
  refine Calls.mono (HSp.out _ _ _ HI2.out.1 HI2.out.2) ?_
  rintro e w3 ⟨rfl, hb3⟩
  have HB3 : Hid (Below w.heap.size w w3) := HB2.out.trans (hb3.mono HB2.out.size)
  have hz3 : w.heap.size < w3.heap.size := Nat.lt_of_lt_of_le hz2 hb3.size
  replace x0 := carry hb3 hz2 x0
  replace x1 := carry hb3 hz2 x1
  clear hb3 HI2
  go_wp2_with fail
  refine Calls.mono (HTo.out _ HB3.out) ?_
  rintro e w4 ⟨b3, b4, rfl, hb4, h1, h2⟩
  have HB4 : Hid (Below w.heap.size w w4) := HB3.out.trans (hb4.mono HB3.out.size)
  have HIa : Hid (∀ o, typeR.slice.In (w4.alloc o) [.slice (some ⟨b3, 0, none⟩) S.length S.length] S ∧ typeR.slice.In (w4.alloc o) [.slice (some ⟨b4, 0, none⟩) L.length L.length] L) := fun o => ⟨typeR.slice.mono _ _ _ _ (below_al w4 o) h1, typeR.slice.mono _ _ _ _ (below_al w4 o) h2⟩
  have hz4 : w.heap.size < w4.heap.size := Nat.lt_of_lt_of_le hz3 hb4.size
  replace x0 := carry hb4 hz3 x0
  replace x1 := carry hb4 hz3 x1
  have HX0 : Hid (∀ o, (w4.alloc o).cell? ⟨w.heap.size, 0, none⟩ = some (.slice aS S.length cS)) := fun o => carry (below_al w4 o) hz4 x0
  have HX1 : Hid (∀ o, (w4.alloc o).cell? ⟨w.heap.size, 1, none⟩ = some (.slice aL L.length cL)) := fun o => carry (below_al w4 o) hz4 x1
  clear hb4 h1 h2 x0 x1
  go_wp2_with fail
  refine Calls.mono (HIm.out _ _ _ (HB4.out.alloc (Nat.le_of_lt hz4) _) (HIa.out _).1 (HIa.out _).2) ?_
  rintro e w5 ⟨rfl, hb5⟩
  have HB5 : Hid (Below w.heap.size w w5) := (HB4.out.alloc (Nat.le_of_lt hz4) _).trans (hb5.mono (by simp; omega))
  have x0 : w5.cell? ⟨w.heap.size, 0, none⟩ = some (.slice aS S.length cS) := carry hb5 (by simp; omega) (HX0.out _)
  have x1 : w5.cell? ⟨w.heap.size, 1, none⟩ = some (.slice aL L.length cL) := carry hb5 (by simp; omega) (HX1.out _)
  have p0 : w5.cell? ⟨w4.heap.size, 0, none⟩ = some (.slice (some ⟨b3, 0, none⟩) S.length S.length) := carry hb5 (by simp) (by simp [go_sem])
  have p1 : w5.cell? ⟨w4.heap.size, 1, none⟩ = some (.slice (some ⟨b4, 0, none⟩) L.length L.length) := carry hb5 (by simp) (by simp [go_sem])
  have HI5 : Hid (typeR.slice.In w5 [.slice (some ⟨b3, 0, none⟩) S.length S.length] S ∧ typeR.slice.In w5 [.slice (some ⟨b4, 0, none⟩) L.length L.length] L) := ⟨typeR.slice.mono _ _ _ _ hb5 (HIa.out _).1, typeR.slice.mono _ _ _ _ hb5 (HIa.out _).2⟩
  have hz5 : w.heap.size < w5.heap.size := by have := hb5.size; simp at this; omega
  have hz45 : w4.heap.size < w5.heap.size := by have := hb5.size; simp at this; omega
  clear hb5 HX0 HX1 HIa
  have HSX : Hid (∀ w', Below w5.heap.size w5 w' → w'.cell? ⟨w.heap.size, 0, none⟩ = some (.slice aS S.length cS) ∧ w'.cell? ⟨w.heap.size, 1, none⟩ = some (.slice aL L.length cL) ∧ w'.cell? ⟨w4.heap.size, 0, none⟩ = some (.slice (some ⟨b3, 0, none⟩) S.length S.length) ∧ w'.cell? ⟨w4.heap.size, 1, none⟩ = some (.slice (some ⟨b4, 0, none⟩) L.length L.length) ∧ Below w5.heap.size w5 w') := fun w' hb => ⟨carry hb hz5 x0, carry hb hz5 x1, carry hb hz45 p0, carry hb hz45 p1, hb⟩
  go_wp2_with fail
  go_region_held3 (fun w' => w'.cell? ⟨w.heap.size, 0, none⟩ = some (.slice aS S.length cS) ∧ w'.cell? ⟨w.heap.size, 1, none⟩ = some (.slice aL L.length cL) ∧ w'.cell? ⟨w4.heap.size, 0, none⟩ = some (.slice (some ⟨b3, 0, none⟩) S.length S.length) ∧ w'.cell? ⟨w4.heap.size, 1, none⟩ = some (.slice (some ⟨b4, 0, none⟩) L.length L.length) ∧ Below w5.heap.size w5 w')
    (first | exact HSX.out _ (Below.refl _ _) | exact HSX.out _ (Below.refl _ _).drew | (go_split_ands; first | exact HSX.out _ hB7x | exact HSX.out _ hB6x))
    (first
    | (go_at_call 6; refine (HTo.out _ (HB5.out.trans ((Below.refl _ _).drew.mono HB5.out.size))).mono ?_; rintro e w6 ⟨b5, b6, rfl, hb6, i5, i6⟩; have hB6x : Below w5.heap.size w5 w6 := (Below.refl _ _).drew.trans hb6)
    | (go_at_call 8; refine (HE.out _ _ _ _ _ (typeR.slice.mono _ _ _ _ hB6x HI5.out.1) (typeR.slice.mono _ _ _ _ hB6x HI5.out.2) i5 i6).mono ?_; rintro e w7 ⟨rfl, hb7⟩; have hB7x : Below w5.heap.size w5 w7 := hB6x.trans (hb7.mono hB6x.size)))
  all_goals
    have HB7 : Hid (Below w.heap.size w w7) := HB5.out.trans (hB7x.mono HB5.out.size)
    clear hb6 hb7 hB6x hB7x i5 i6 HSX
    go_wp2
    go_ret
    exact ⟨rfl, HB7.out⟩

set_option maxRecDepth 100000 in
theorem lifted (os : Os) (started : os.Started) (H : Type) (enc : TypeId × Value → H) :
    ReturnsInHanded {} Tryd.checked os 3 .any (fun w args => (Rows.fnExactFrameShownSpec.pre enc Tryd.prog Tryd.f3 [] false w args ∧ laidMetH Tryd.prog Rows.fnExactFrameShownRow.laid w) ∧ sizedMet enc Tryd.prog Tryd.f3 (OpenSpec.ofChange Rows.fnExactFrameShownSpec) false w args)
      (Rows.fnExactFrameShownSpec.post enc Tryd.prog Tryd.f3 false true false false) := by
  refine returnsInHanded_of_change_and (C := Tryd.checked) (X := fun w _ => laidMetH Tryd.prog Rows.fnExactFrameShownRow.laid w) (fun _ _ _ hh h => h.of_heap hh) own started (by kernel_rfl) Tryd.func3
    (ChangeSpec.witness_at (enc := enc) (C := Tryd.checked) (os := os) (X := fun w _ => laidMetH Tryd.prog Rows.fnExactFrameShownRow.laid w) false (laidWorld os) #[.agg #[.slice none 0 0, .slice none 0 0]] 8 rfl (by kernel_rfl) (by kernel_rfl) (by kernel_rfl) (by kernel_rfl) (by kernel_rfl) (laidWorld_met os _)) ?_
  intro W base args ds gs before hval0 hW _ _ hL _
  have hval : ∀ (j : Nat) t v, Tryd.f3.params[j]? = some t → args[j]? = some v → Value.okWide Tryd.prog W .any base t v := hval0
  have hW' := hW
  obtain ⟨p, q, hA0, hV0, rfl, hfz, hnd⟩ := hW
  have hA : DataW.TrodAll enc Tryd.prog W 0 (fun _ => true) true Tryd.f3.params.toList args.toList ds p := hA0
  have hV : DataW.TrodVars enc Tryd.prog W (fun _ => true) [] gs q := hV0
  rw [Tryd.params3] at hA hval
  obtain ⟨v0, vs0, d0, ds0, p0, q0, hargs, rfl, rfl, h0, r0⟩ := trodAll_cons hA
  obtain ⟨rfl, rfl, rfl⟩ := trodAll_nil r0
  obtain rfl : args = #[v0] := by cases args; simp_all
  obtain ⟨rfl, rfl⟩ := trodVars_none hV
  have htab := pow_of_laid hL
  have k0 := h0
  have lt0 : ∀ x ∈ p0, x.block < W.heap.size := by obtain ⟨m, hm⟩ := k0; exact DataW.trod_lt m _ _ _ hm
  obtain ⟨cs0, rfl, _⟩ := okWide_struct Tryd.underlying24 (hval 0 24 v0 rfl rfl)
  obtain ⟨a0, w0⟩ : ∃ x, frameR.In W cs0.toList x := by
    obtain ⟨fuel, hf⟩ := h0
    exact opensFrame _ _ _ _ hf
  clear hA0 hval0
  refine (walk cs0 a0 W w0 (fun _ hb => tab_lasts htab hb)).mono fun e W' ⟨he, bel⟩ => ?_
  subst he
  exact ⟨_, rfl, _, _, _, [], _, [], hW', trodAll_mk1 (shut_bool Tryd.underlying4 _), (trodAll_cons_mk (Below.trod laidOut (by kernel_rfl) (of_decide_eq_true (by kernel_rfl)) k0 bel lt0) trodAll_mk0), rfl, bel.frame _, fun h => by cases h⟩

theorem over : Rows.fnExactFrameShownRow.holds Tryd.pinned (OpenSpec.ofChange Rows.fnExactFrameShownSpec) :=
  OpenClaim.holds_of_wide 3 Tryd.f3 rfl rfl rfl rfl rfl rfl rfl ⟨rfl, rfl, rfl, rfl, rfl⟩ rfl rfl rfl rfl rfl (by kernel_rfl) Tryd.func3 (by kernel_rfl)
    (of_decide_eq_true (by kernel_rfl)) (by unfold Func.isWrapper; first | (rw [if_pos (by decide +kernel)]; kernel_rfl) | (rw [if_neg (by decide +kernel)]; exact ⟨rfl, rfl⟩))
    (fun os started H enc _ => lifted os started H enc)

end Go.Proofs.YtcfihaoofiagcaaDoor.fnExactFrameShown
namespace Go.Proofs.YtcfihaoofiagcaaDoor
theorem fnExactFrameShown_holds : Rows.FnExactFrameShownCardSaid :=
  Claim7.holds_tied_plain_at .later [] [.data, .data, .data] true (true, "aa819c0e87a5e85eeb52891d1178b77b8935aa646535ac81b76482d769bb8558") false
    fnExactFrameShown.over (fun _ h => by cases h) (by kernel_rfl) (fun _ h => by cases h) fnExactFrameShown_row_tie rfl ⟨rfl, rfl⟩ (by kernel_rfl) rfl
    (fun f fn hf hfn => by
      obtain rfl : f = 3 := Option.some.inj ((show Tryd.prog.funcNamed "loop.example/g00175/laws.FnExactFrameShown" = some 3 by kernel_rfl).symm.trans hf) |>.symm
      obtain rfl : fn = Tryd.f3 := (Option.some.inj (Tryd.func3.symm.trans hfn)).symm
      exact ⟨by kernel_rfl, fun j t ht => by
        rw [Tryd.params3] at ht
        have h3 : t = 24 := by
          rcases j with _ | j
          · simpa using ht.symm
          · simp at ht
        subst h3
        exact (show Tryd.prog.wantsStandIn 24 = false by kernel_rfl)⟩)
    (by kernel_rfl)
#print axioms fnExactFrameShown_holds
end Go.Proofs.YtcfihaoofiagcaaDoor
