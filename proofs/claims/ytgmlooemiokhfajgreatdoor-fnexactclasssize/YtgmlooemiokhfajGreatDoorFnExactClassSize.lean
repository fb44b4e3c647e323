import Derived.Test.YtgmlooemiokhfajGreatDoorRows
import Derived.Test.YtgmlooemiokhfajGreatDoorCards
import Derived.Test.YtgmlooemiokhfajGreatDoorTie
import Derived.WalkKit
import Derived.ProofKit
import Derived.OpenShut
import Derived.ShutString
import Derived.ChangeOld
import Derived.Below
import Derived.Carry
import Derived.OpenVars
import Derived.ChangeSame
import Derived.ChangeVars
import Derived.JoinedOf
import Derived.RowKit
import Derived.RowKitTokens
import Derived.LaidLaws
import Derived.LaidHandle
import Derived.LaidMore
import Derived.Stop.Joined
import Derived.SevenTiedAt
import Derived.Test.YtgmlooemiokhfajGreatDoorWrB
/-
  Whatever the class, the law FnExactClassSize returns true: the program's ClassSize answers as the model's does and leaves what it is handed as it was, and the argument and the program's table read as they did before. The variables listed are errors.errorType and the program's table opTable, both tied to the program's text by the card.
-/
namespace Go.Proofs.YtgmlooemiokhfajGreatDoor.fnExactClassSize
open Go.ChangeShapes Go.WideShapes Go.ChangeAt Go.RowKit
open Go.ChangeMaps (open_string shut_string)
set_option linter.unusedVariables false

theorem own : ownKnob Tryz.prog.godebug = none := by kernel_rfl
theorem laidOut : laidOutB Tryz.prog = true := by kernel_rfl
theorem ot : Tryz.prog.globalNamed "loop.example/g00175/impl.opTable" = some 1 := by kernel_rfl
theorem otT : (Tryz.prog.globals[1]?).map (·.type) = some 184 := by kernel_rfl
theorem c1 : Tryz.prog.cellsOf 169 = 2 := by kernel_rfl
theorem c2 : Tryz.prog.cellsOf 9 = 1 := by kernel_rfl

theorem tab_datum {H : Type} : (Rows.laid_loop_example_g00175_impl_opTable : DataW H) = .agg ((List.range 45).map fun i : Nat => .agg [.lit (.string (nmS (i : Int)).data.toList), .lit (.string (fmS (i : Int)).data.toList)]) := by kernel_rfl

theorem bytes_of {a b : ByteArray} (h : a.data.toList = b.data.toList) : a = b := by
  obtain ⟨⟨x⟩⟩ := a
  obtain ⟨⟨y⟩⟩ := b
  simp at h
  rw [h]

theorem tab_of_data {W : World} (h : laidMet Tryz.prog [("loop.example/g00175/impl.opTable", Rows.laid_loop_example_g00175_impl_opTable)] W) : Tab W := by
  obtain ⟨ps, ⟨g, t, cs, fuel, p, q, hg, ht, hvar, hd, _, _⟩, _⟩ := h
  obtain rfl := Option.some.inj (ot.symm.trans hg)
  obtain rfl := Option.some.inj (otT.symm.trans ht)
  rw [tab_datum] at hd
  obtain ⟨xs, m, _, hx, hlen, hn, hel⟩ := DataW.trod_array Tryz.underlying184 hd
  simp only [Prod.mk.injEq, DataW.agg.injEq] at hx
  intro i hi
  have h1 := hel i hi
  rw [c1] at h1
  have h2 : (xs.map (·.1))[i]? = some (.agg [.lit (.string (nmS (i : Int)).data.toList), .lit (.string (fmS (i : Int)).data.toList)]) := by
    rw [← hx.1, List.getElem?_map, List.getElem?_range hi]; rfl
  rw [List.getElem?_map] at h2
  obtain ⟨y, hy, hy2⟩ := Option.map_eq_some_iff.1 h2
  rw [hy] at h1
  obtain ⟨ys, k, _, hys, hcl, hyl, hfs⟩ := DataW.trod_struct Tryz.underlying169 h1
  have e0 := hfs 0 _ rfl
  have e1 := hfs 1 _ rfl
  have hyl2 : ys.length = 2 := hyl
  match ys, hyl2, hys, e0, e1 with
  | [y0, y1], _, hys, e0, e1 =>
    simp only [List.getElem?_cons_zero, List.getElem?_cons_succ] at e0 e1
    obtain ⟨s0, k0, d0, _⟩ := DataW.trod_string Tryz.underlying9 e0
    obtain ⟨s1, k1, d1, _⟩ := DataW.trod_string Tryz.underlying9 e1
    rw [hys] at hy2
    simp only [List.map_cons, List.map_nil, DataW.agg.injEq, List.cons.injEq, and_true] at hy2
    rw [d0, d1] at hy2
    simp only [DataW.lit.injEq, Lit.string.injEq] at hy2
    have q0 : s0 = nmS (i : Int) := bytes_of hy2.1
    have q1 : s1 = fmS (i : Int) := bytes_of hy2.2
    subst q0 q1
    have r0 := congrArg (fun l : List Value => l[0]?) k0
    have r1 := congrArg (fun l : List Value => l[0]?) k1
    have z0 : Tryz.prog.cellsOf (9) = 1 := c2
    constructor
    · have := World.var?_cell hg hvar (2 * i)
      rw [this, ← Array.getElem?_toList]
      simpa [List.getElem?_take, List.getElem?_drop, c2, Nat.mul_comm] using r0
    · have := World.var?_cell hg hvar (2 * i + 1)
      rw [this, ← Array.getElem?_toList]
      simpa [List.getElem?_take, List.getElem?_drop, c2, Nat.mul_comm] using r1

theorem et : Tryz.prog.globalNamed "errors.errorType" = some 0 := by kernel_rfl
theorem rt : (Tryz.prog.cutTypes.find? (·.1 == "internal/reflectlite.rtype")).map (·.2) = some 187 := by kernel_rfl
theorem oneRow : ((List.range 228).filter fun t => Tryz.prog.rowNamed t [101, 114, 114, 111, 114]) = [152] := by kernel_rfl
theorem typesSize : Tryz.prog.types.size = 228 := by kernel_rfl
theorem both_of_laid {W : World} (h : laidMetH Tryz.prog Rows.fnExactClassSizeRow.laid W) : Tab W ∧ Glob W := by
  have h' : laidMet Tryz.prog [("loop.example/g00175/impl.opTable", Rows.laid_loop_example_g00175_impl_opTable)] W ∧ handlesMet Tryz.prog [("errors.errorType", Rows.laid_errors_errorType)] W := h
  refine ⟨tab_of_data h'.1, ?_⟩
  obtain ⟨name, u, ty, e1, e2, e3, e4, e5⟩ := h'.2 _ (List.mem_singleton.2 rfl)
  have en : name = [101, 114, 114, 111, 114] := (Option.some.inj e1).symm
  subst en
  obtain rfl := Option.some.inj (rt.symm.trans e2)
  have hm : ty ∈ (List.range 228).filter fun t => Tryz.prog.rowNamed t [101, 114, 114, 111, 114] := List.mem_filter.2 ⟨List.mem_range.2 (by rw [← typesSize]; exact e3), e4⟩
  rw [oneRow] at hm
  obtain rfl := List.mem_singleton.1 hm
  have hh : typeHandle Tryz.prog 152 = .pointer (some ⟨2, 152, none⟩) := by kernel_rfl
  rw [hh] at e5
  simpa [Glob] using World.var?_cell et e5 0

noncomputable def laidWorld (os : Os) : World :=
  let w0 := World.holding Tryz.prog os ⟨#[], #[], []⟩
  { w0 with heap := (w0.heap.modify 0 fun
      | .cells _ t frozen => .cells #[.iface 187 (.agg #[.pointer (some ⟨2, 152, none⟩)])] t frozen
      | o => o).modify 1 fun
      | .cells _ t frozen => .cells ((List.range 90).map fun j : Nat => .string (if j % 2 = 0 then nmS ((j / 2 : Nat) : Int) else fmS ((j / 2 : Nat) : Int))).toArray t frozen
      | o => o }
theorem laidWorld_met (os : Os) (args : Array Value) : laidMetH Tryz.prog Rows.fnExactClassSizeRow.laid ((laidWorld os).forCall (fun _ _ => 0) ⟨#[], args, []⟩).memory :=
  laidMetH_of_parts (laidMet_of_run' 8 (by kernel_rfl) (by kernel_rfl)) (by kernel_rfl)

set_option maxHeartbeats 4000000 in
theorem walk (cs : Array Value) (x : CTup) (w : World) (hx : classR.In w cs.toList x) (ht : Tab w) (hg : Glob w) :
    Calls Tryz.prog 4 #[.agg cs] w fun e w' => e = .returned (.bool true) ∧ Below w.heap.size w w' := by
  obtain ⟨cs⟩ := cs
  obtain ⟨vc, vh, hcs, s0, s1, hc, hh⟩ := classR_in hx
  simp only at hcs
  subst hcs
  generalize cD x = m at *
  clear hx x
  have HSz : Hid (∀ w', Below w.heap.size w w' → Calls Tryz.prog 5 #[clsV m vc vh, .int .i64 1048576] w' fun e w2 => e = .returned (.int .i64 (szB (clsB m) 1048576)) ∧ Below w'.heap.size w' w2) := fun w' hb => lawSzClass m vc vh 1048576 w' s0 s1 (fieldR.slice.mono _ _ _ _ hb hc) (methR.slice.mono _ _ _ _ hb hh) (by omega)
  have hlen : ¬ szB (clsB m) 1048576 < 0 → m.fields.length ≤ 1048576 ∧ m.meths.length ≤ 1048576 ∧ ∀ i (h : i < m.meths.length), (mD m.meths[i]).code.length ≤ 1048576 ∧ (mD m.meths[i]).hands.length ≤ 1048576 := fun h => by
    have := szB_le h
    unfold clsB at this
    refine ⟨by omega, by omega, fun i hi => ?_⟩
    have h1 := mSum_succ m.meths i hi
    have h2 := mSum_le m.meths (i + 1) hi
    unfold methB at h1
    omega
  have HTo : Hid (¬ szB (clsB m) 1048576 < 0 → ∀ w', Below w.heap.size w w' → Calls Tryz.prog 7 #[clsV m vc vh] w' fun e w2 => ∃ uc uh, e = .returned (clsV m uc uh) ∧ Below w'.heap.size w' w2 ∧ fieldR.slice.In w2 [uc] m.fields ∧ methR.slice.In w2 [uh] m.meths) := fun h w' hb => lawToClass m vc vh w' (fieldR.slice.mono _ _ _ _ hb hc) (methR.slice.mono _ _ _ _ hb hh) (hlen h).1 (hlen h).2.1 (hlen h).2.2
  have HS : Hid (∀ w' uc uh, fieldR.slice.In w' [uc] m.fields → methR.slice.In w' [uh] m.meths → Calls Tryz.prog 14 #[clsV m uc uh] w' fun e w2 => e = .returned (.int .i64 ((clsT m).size : Int)) ∧ Below w'.heap.size w' w2) := fun w' uc uh h1 h2 => specClassSize m uc uh w' s0 s1 h1 h2
  have HI : Hid (∀ w' uc uh, fieldR.slice.In w' [uc] m.fields → methR.slice.In w' [uh] m.meths → Tab w' → Glob w' → Calls Tryz.prog 15 #[clsV m uc uh] w' fun e w2 => e = .returned (.int .i64 ((clsT m).size : Int)) ∧ Below w'.heap.size w' w2) := fun w' uc uh h1 h2 h3 h4 => implClassSize m uc uh w' s0 s1 h1 h2 h3 h4
  have HE : Hid (∀ w' uc uh yc yh, fieldR.slice.In w' [uc] m.fields → methR.slice.In w' [uh] m.meths → fieldR.slice.In w' [yc] m.fields → methR.slice.In w' [yh] m.meths → Calls Tryz.prog 10 #[clsV m uc uh, clsV m yc yh] w' fun e w2 => e = .returned (.bool true) ∧ Below w'.heap.size w' w2) := fun w' uc uh yc yh h1 h2 h3 h4 => lawEqClass m uc uh yc yh w' h1 h2 h3 h4
  have HT := (show Hid (Tab w) from ht)
  have HG := (show Hid (Glob w) from hg)
  obtain ⟨a, ca, rfl⟩ := slice_form hc
  obtain ⟨b, cb, rfl⟩ := slice_form hh
  clear hc hh ht hg s0 s1 hlen
  generalize ((clsT m).size : Int) = q at *
  generalize szB (clsB m) 1048576 = left at *
  have HB0 : Hid (∀ o, Below w.heap.size w (w.alloc o)) := fun o => (Below.refl _ _).alloc (Nat.le_refl _) o
  obtain ⟨nm, ds, st, ab, code, hands⟩ := m
  unfold clsV at *
  simp only at *
  have dq : (q != q) = false := by simp
  have dq2 : (q == q) = true := by simp
  by_cases hl : left < 0
  · have dl : decide (left < 0) = true := by simpa using hl
    go_enter Tryz.func4, Tryz.ntmps4
    go_wp2_with fail
    refine Calls.mono (HSz.out _ (HB0.out _)) ?_
    rintro e w1 ⟨rfl, hb1⟩
    have HB1 : Hid (Below w.heap.size w w1) := (HB0.out _).trans (hb1.mono (by simp))
    clear hb1
    go_wp2
    go_ret
    exact ⟨rfl, HB1.out⟩
  have dl : decide (left < 0) = false := by simpa using hl
  have HT2 := (show Hid _ from HTo.out hl)
  clear HTo hl
  go_enter Tryz.func4, Tryz.ntmps4
  go_wp2_with fail
  refine Calls.mono (HSz.out _ (HB0.out _)) ?_
  rintro e w1 ⟨rfl, hb1⟩
  have c0 : w1.cell? ⟨w.heap.size, 0, none⟩ = some (.string nm) := carry hb1 (by simp) (by simp [go_sem])
  have c1 : w1.cell? ⟨w.heap.size, 1, none⟩ = some (.string ds) := carry hb1 (by simp) (by simp [go_sem])
  have c2 : w1.cell? ⟨w.heap.size, 2, none⟩ = some (.bool st) := carry hb1 (by simp) (by simp [go_sem])
  have c3 : w1.cell? ⟨w.heap.size, 3, none⟩ = some (.bool ab) := carry hb1 (by simp) (by simp [go_sem])
  have c4 : w1.cell? ⟨w.heap.size, 4, none⟩ = some (.slice a code.length ca) := carry hb1 (by simp) (by simp [go_sem])
  have c5 : w1.cell? ⟨w.heap.size, 5, none⟩ = some (.slice b hands.length cb) := carry hb1 (by simp) (by simp [go_sem])
  have hz1 : w.heap.size < w1.heap.size := by have := hb1.size; simp at this; omega
  have HB1 : Hid (Below w.heap.size w w1) := (HB0.out _).trans (hb1.mono (by simp))
  clear hb1
  go_wp2_with fail
  refine Calls.mono (HT2.out _ HB1.out) ?_
  rintro e w2 ⟨u2, v2, rfl, hb2, i2, j2⟩
  replace c0 := carry hb2 hz1 c0
  replace c1 := carry hb2 hz1 c1
  replace c2 := carry hb2 hz1 c2
  replace c3 := carry hb2 hz1 c3
  replace c4 := carry hb2 hz1 c4
  replace c5 := carry hb2 hz1 c5
  have hz2 : w.heap.size < w2.heap.size := Nat.lt_of_lt_of_le hz1 hb2.size
  have HB2 : Hid (Below w.heap.size w w2) := HB1.out.trans (hb2.mono HB1.out.size)
  have HIn2 := (show Hid (fieldR.slice.In w2 [u2] code ∧ methR.slice.In w2 [v2] hands) from ⟨i2, j2⟩)
  clear hb2 i2 j2
  go_wp2_with fail
  refine Calls.mono (HS.out _ u2 v2 HIn2.out.1 HIn2.out.2) ?_
  rintro e w3 ⟨rfl, hb3⟩
  replace c0 := carry hb3 hz2 c0
  replace c1 := carry hb3 hz2 c1
  replace c2 := carry hb3 hz2 c2
  replace c3 := carry hb3 hz2 c3
  replace c4 := carry hb3 hz2 c4
  replace c5 := carry hb3 hz2 c5
  have hz3 : w.heap.size < w3.heap.size := Nat.lt_of_lt_of_le hz2 hb3.size
  have HB3 : Hid (Below w.heap.size w w3) := HB2.out.trans (hb3.mono HB2.out.size)
  clear hb3
  go_wp2_with fail
  refine Calls.mono (HT2.out _ HB3.out) ?_
  rintro e w4 ⟨u4, v4, rfl, hb4, i4, j4⟩
  replace c0 := carry hb4 hz3 c0
  replace c1 := carry hb4 hz3 c1
  replace c2 := carry hb4 hz3 c2
  replace c3 := carry hb4 hz3 c3
  replace c4 := carry hb4 hz3 c4
  replace c5 := carry hb4 hz3 c5
  have hz4 : w.heap.size < w4.heap.size := Nat.lt_of_lt_of_le hz3 hb4.size
  have HB4 : Hid (Below w.heap.size w w4) := HB3.out.trans (hb4.mono HB3.out.size)
  have HIn4 := (show Hid (∀ o, fieldR.slice.In (w4.alloc o) [u4] code ∧ methR.slice.In (w4.alloc o) [v4] hands) from fun o => ⟨fieldR.slice.mono _ _ _ _ ((Below.refl _ _).alloc (Nat.le_refl _) o) i4, methR.slice.mono _ _ _ _ ((Below.refl _ _).alloc (Nat.le_refl _) o) j4⟩)
  have HB4' : Hid (∀ o, Below w.heap.size w (w4.alloc o)) := fun o => HB4.out.alloc (by omega) o
  have HI4 := (show Hid (∃ a4 ca4 b4 cb4, u4 = .slice a4 code.length ca4 ∧ v4 = .slice b4 hands.length cb4) from by obtain ⟨a4, ca4, h⟩ := slice_form i4; obtain ⟨b4, cb4, h'⟩ := slice_form j4; exact ⟨a4, ca4, b4, cb4, h, h'⟩)
  clear hb4 i4 j4
  obtain ⟨a4, ca4, b4, cb4, rfl, rfl⟩ := HI4.out
  clear HI4
  go_wp2_with fail
  refine Calls.mono (HI.out _ _ _ (HIn4.out _).1 (HIn4.out _).2 (HT.out.mono (HB4'.out _)) (HG.out.mono (HB4'.out _))) ?_
  rintro e w6 ⟨rfl, hb6⟩
  have HB6 : Hid (Below w.heap.size w w6) := (HB4'.out _).trans (hb6.mono (HB4'.out _).size)
  replace c0 : w6.cell? ⟨w.heap.size, 0, none⟩ = some (.string nm) := carry hb6 (by simp; omega) ((carry ((Below.refl w4.heap.size w4).alloc (Nat.le_refl _) _) hz4 c0))
  replace c1 : w6.cell? ⟨w.heap.size, 1, none⟩ = some (.string ds) := carry hb6 (by simp; omega) ((carry ((Below.refl w4.heap.size w4).alloc (Nat.le_refl _) _) hz4 c1))
  replace c2 : w6.cell? ⟨w.heap.size, 2, none⟩ = some (.bool st) := carry hb6 (by simp; omega) ((carry ((Below.refl w4.heap.size w4).alloc (Nat.le_refl _) _) hz4 c2))
  replace c3 : w6.cell? ⟨w.heap.size, 3, none⟩ = some (.bool ab) := carry hb6 (by simp; omega) ((carry ((Below.refl w4.heap.size w4).alloc (Nat.le_refl _) _) hz4 c3))
  replace c4 : w6.cell? ⟨w.heap.size, 4, none⟩ = some (.slice a code.length ca) := carry hb6 (by simp; omega) ((carry ((Below.refl w4.heap.size w4).alloc (Nat.le_refl _) _) hz4 c4))
  replace c5 : w6.cell? ⟨w.heap.size, 5, none⟩ = some (.slice b hands.length cb) := carry hb6 (by simp; omega) ((carry ((Below.refl w4.heap.size w4).alloc (Nat.le_refl _) _) hz4 c5))
  have x0 : w6.cell? ⟨w4.heap.size, 0, none⟩ = some (.string nm) := carry hb6 (by simp) (by simp [go_sem])
  have x1 : w6.cell? ⟨w4.heap.size, 1, none⟩ = some (.string ds) := carry hb6 (by simp) (by simp [go_sem])
  have x2 : w6.cell? ⟨w4.heap.size, 2, none⟩ = some (.bool st) := carry hb6 (by simp) (by simp [go_sem])
  have x3 : w6.cell? ⟨w4.heap.size, 3, none⟩ = some (.bool ab) := carry hb6 (by simp) (by simp [go_sem])
  have x4 : w6.cell? ⟨w4.heap.size, 4, none⟩ = some (.slice a4 code.length ca4) := carry hb6 (by simp) (by simp [go_sem])
  have x5 : w6.cell? ⟨w4.heap.size, 5, none⟩ = some (.slice b4 hands.length cb4) := carry hb6 (by simp) (by simp [go_sem])
  have hz6 : w.heap.size < w6.heap.size := by have := hb6.size; simp at this; omega
  have hz6' : w4.heap.size < w6.heap.size := by have := hb6.size; simp at this; omega
  have HIn6 : Hid (fieldR.slice.In w6 [.slice a4 code.length ca4] code ∧ methR.slice.In w6 [.slice b4 hands.length cb4] hands) := ⟨fieldR.slice.mono _ _ _ _ hb6 (HIn4.out _).1, methR.slice.mono _ _ _ _ hb6 (HIn4.out _).2⟩
  clear hb6 HIn4 HIn2
  go_wp2_with fail
  go_region_with (first
    | (go_at_call 7; refine Calls.mono (HT2.out _ HB6.out.drew) ?_; rintro e w7 ⟨u7, v7, rfl, hb7, i7, j7⟩; have y0 := carry hb7 hz6' x0; have y1 := carry hb7 hz6' x1; have y2 := carry hb7 hz6' x2; have y3 := carry hb7 hz6' x3; have y4 := carry hb7 hz6' x4; have y5 := carry hb7 hz6' x5; have HIn7 := (show Hid (fieldR.slice.In w7 [u7] code ∧ methR.slice.In w7 [v7] hands) from ⟨i7, j7⟩); have HU7 : Hid (Below w6.heap.size w6 w7) := (Below.refl _ _).drew.trans hb7; clear hb7 i7 j7)
    | (go_at_call 10; refine Calls.mono (HE.out _ _ _ _ _ (fieldR.slice.mono _ _ _ _ HU7.out HIn6.out.1) (methR.slice.mono _ _ _ _ HU7.out HIn6.out.2) HIn7.out.1 HIn7.out.2) ?_; rintro e w8 ⟨rfl, hb8⟩; have HB8 : Hid (Below w.heap.size w w8) := ((HB6.out.trans (HU7.out.mono (Nat.le_of_lt hz6))).trans (hb8.mono (Nat.le_trans (Nat.le_of_lt hz6) HU7.out.size))); clear hb8))
  all_goals
    go_wp2
    go_ret
    exact ⟨rfl, by first | exact HB8.out | exact HB8.out.drew | exact below_drewN HB8.out _⟩

set_option maxRecDepth 100000 in
theorem lifted (os : Os) (started : os.Started) (H : Type) (enc : TypeId × Value → H) :
    ReturnsInHanded {} Tryz.checked os 4 .any (fun w args => (Rows.fnExactClassSizeSpec.pre enc Tryz.prog Tryz.f4 [] false w args ∧ laidMetH Tryz.prog Rows.fnExactClassSizeRow.laid w) ∧ sizedMet enc Tryz.prog Tryz.f4 (OpenSpec.ofChange Rows.fnExactClassSizeSpec) false w args)
      (Rows.fnExactClassSizeSpec.post enc Tryz.prog Tryz.f4 false true false false) := by
  refine returnsInHanded_of_change_and (C := Tryz.checked) (X := fun w _ => laidMetH Tryz.prog Rows.fnExactClassSizeRow.laid w) (fun _ _ _ hh h => h.of_heap hh) own started (by kernel_rfl) Tryz.func4
    (ChangeSpec.witness_at (enc := enc) (C := Tryz.checked) (os := os) (X := fun w _ => laidMetH Tryz.prog Rows.fnExactClassSizeRow.laid w) false (laidWorld os) #[.agg #[.string ⟨#[]⟩, .string ⟨#[]⟩, .bool false, .bool false, .slice none 0 0, .slice none 0 0]] 8 rfl (by kernel_rfl) (by kernel_rfl) (by kernel_rfl) (by kernel_rfl) (by kernel_rfl) (laidWorld_met os _)) ?_
  intro W base args ds gs before hval0 hW _ _ hL _
  have hval : ∀ (j : Nat) t v, Tryz.f4.params[j]? = some t → args[j]? = some v → Value.okWide Tryz.prog W .any base t v := hval0
  have hW' := hW
  obtain ⟨p, q, hA0, hV0, rfl, hfz, hnd⟩ := hW
  have hA : DataW.TrodAll enc Tryz.prog W 0 (fun _ => true) true Tryz.f4.params.toList args.toList ds p := hA0
  have hV : DataW.TrodVars enc Tryz.prog W (fun _ => true) ["loop.example/g00175/impl.opTable"] gs q := hV0
  rw [Tryz.params4] at hA hval
  obtain ⟨v0, vs0, d0, ds0, p0, q0, hargs, rfl, rfl, h0, r0⟩ := trodAll_cons hA
  obtain ⟨rfl, rfl, rfl⟩ := trodAll_nil r0
  obtain rfl : args = #[v0] := by cases args; simp_all
  have hVk := hV
  obtain ⟨vg, vt, vcs, vfuel, vd, vp, rfl, _, _, _, _, rfl⟩ := trodVars_one hV
  obtain ⟨htab, hglob⟩ := both_of_laid hL
  have k0 := h0
  have lt0 : ∀ x ∈ p0, x.block < W.heap.size := by obtain ⟨m, hm⟩ := k0; exact DataW.trod_lt m _ _ _ hm
  obtain ⟨cs0, rfl, _⟩ := okWide_struct Tryz.underlying25 (hval 0 25 v0 rfl rfl)
  obtain ⟨a0, w0⟩ : ∃ x, classR.In W cs0.toList x := by
    obtain ⟨fuel, hf⟩ := h0
    exact opensClass _ _ _ _ hf
  clear hA0 hval0
  refine (walk cs0 a0 W w0 htab hglob).mono fun e W' ⟨he, bel⟩ => ?_
  subst he
  exact ⟨_, rfl, _, _, _, [], _, _, hW', trodAll_mk1 (shut_bool Tryz.underlying4 _), (trodAll_cons_mk (Below.trod laidOut (by kernel_rfl) (of_decide_eq_true (by kernel_rfl)) k0 bel lt0) trodAll_mk0), Below.trodVars laidOut bel (by kernel_rfl) hVk, bel.frame _, fun h => by cases h⟩

theorem over : Rows.fnExactClassSizeRow.holds Tryz.pinned (OpenSpec.ofChange Rows.fnExactClassSizeSpec) :=
  OpenClaim.holds_of_wide 4 Tryz.f4 rfl rfl rfl rfl rfl rfl rfl ⟨rfl, rfl, rfl, rfl, rfl⟩ rfl rfl rfl rfl rfl (by kernel_rfl) Tryz.func4 (by kernel_rfl)
    (of_decide_eq_true (by kernel_rfl)) (by unfold Func.isWrapper; first | (rw [if_pos (by decide +kernel)]; kernel_rfl) | (rw [if_neg (by decide +kernel)]; exact ⟨rfl, rfl⟩))
    (fun os started H enc _ => lifted os started H enc)

end Go.Proofs.YtgmlooemiokhfajGreatDoor.fnExactClassSize
namespace Go.Proofs.YtgmlooemiokhfajGreatDoor
theorem fnExactClassSize_holds : Rows.FnExactClassSizeCardSaid :=
  Claim7.holds_tied_plain_at .later [] [.handle, .data] true (true, "85240e5ac94e26044b420e33b2661d43882a9538811329fa57561045cba908bb") true
    fnExactClassSize.over (fun _ h => by cases h) (by kernel_rfl) (fun _ h => by cases h) fnExactClassSize_row_tie rfl ⟨rfl, rfl⟩ (by kernel_rfl) rfl
    (fun f fn hf hfn => by
      obtain rfl : f = 4 := Option.some.inj ((show Tryz.prog.funcNamed "loop.example/g00175/laws.FnExactClassSize" = some 4 by kernel_rfl).symm.trans hf) |>.symm
      obtain rfl : fn = Tryz.f4 := (Option.some.inj (Tryz.func4.symm.trans hfn)).symm
      exact ⟨by kernel_rfl, fun j t ht => by
        rw [Tryz.params4] at ht
        have h3 : t = 25 := by
          rcases j with _ | j
          · simpa using ht.symm
          · simp at ht
        subst h3
        exact (show Tryz.prog.wantsStandIn 25 = false by kernel_rfl)⟩)
    (by kernel_rfl)
#print axioms fnExactClassSize_holds
end Go.Proofs.YtgmlooemiokhfajGreatDoor
