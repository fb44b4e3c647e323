/-
  Whatever the list of classes and the texts, the law FnExactIsSub returns true: the program's IsSub answers as the model's does and leaves what it is handed as it was, and the arguments and the program's table read as they did before. The variables listed are errors.errorType and the program's table opTable, both tied to the program's text by the card.
-/
import Derived.Test.YtpalmhojjgbkfajGreatDoorRows
import Derived.Test.YtpalmhojjgbkfajGreatDoorCards
import Derived.Test.YtpalmhojjgbkfajGreatDoorTie
import Derived.WalkKit
import Derived.ProofKit
import Derived.OpenShut
import Derived.ShutString
import Derived.ChangeOld
import Derived.Below
import Derived.Carry
import Derived.OpenVars
import Derived.ChangeSame
import Derived.ChangeVars
import Derived.JoinedOf
import Derived.RowKit
import Derived.RowKitTokens
import Derived.LaidLaws
import Derived.LaidHandle
import Derived.LaidMore
import Derived.Stop.Joined
import Derived.SevenTiedAt
import Derived.Test.YtpalmhojjgbkfajGreatDoorWi14
import Derived.Test.YtpalmhojjgbkfajGreatDoorWdT
import Derived.Test.YtpalmhojjgbkfajGreatDoorWlaw
namespace Go.Proofs.YtpalmhojjgbkfajGreatDoor.fnExactIsSub
open Go.ChangeShapes Go.WideShapes Go.ChangeAt Go.RowKit
open Go.ChangeMaps (open_string shut_string)
set_option linter.unusedVariables false

theorem own : ownKnob Tryz.prog.godebug = none := by kernel_rfl
theorem laidOut : laidOutB Tryz.prog = true := by kernel_rfl
theorem ot : Tryz.prog.globalNamed "loop.example/g00175/impl.opTable" = some 1 := by kernel_rfl
theorem otT : (Tryz.prog.globals[1]?).map (·.type) = some 224 := by kernel_rfl
theorem c1 : Tryz.prog.cellsOf 209 = 2 := by kernel_rfl
theorem c2 : Tryz.prog.cellsOf 9 = 1 := by kernel_rfl

theorem tab_datum {H : Type} : (Rows.laid_loop_example_g00175_impl_opTable : DataW H) = .agg ((List.range 45).map fun i : Nat => .agg [.lit (.string (nmS (i : Int)).data.toList), .lit (.string (fmS (i : Int)).data.toList)]) := by kernel_rfl

theorem bytes_of {a b : ByteArray} (h : a.data.toList = b.data.toList) : a = b := by
  obtain ⟨⟨x⟩⟩ := a
  obtain ⟨⟨y⟩⟩ := b
  simp at h
  rw [h]

theorem tab_of_data {W : World} (h : laidMet Tryz.prog [("loop.example/g00175/impl.opTable", Rows.laid_loop_example_g00175_impl_opTable)] W) : Tab W := by
  obtain ⟨ps, ⟨g, t, cs, fuel, p, q, hg, ht, hvar, hd, _, _⟩, _⟩ := h
  obtain rfl := Option.some.inj (ot.symm.trans hg)
  obtain rfl := Option.some.inj (otT.symm.trans ht)
  rw [tab_datum] at hd
  obtain ⟨xs, m, _, hx, hlen, hn, hel⟩ := DataW.trod_array Tryz.underlying224 hd
  simp only [Prod.mk.injEq, DataW.agg.injEq] at hx
  intro i hi
  have h1 := hel i hi
  rw [c1] at h1
  have h2 : (xs.map (·.1))[i]? = some (.agg [.lit (.string (nmS (i : Int)).data.toList), .lit (.string (fmS (i : Int)).data.toList)]) := by
    rw [← hx.1, List.getElem?_map, List.getElem?_range hi]; rfl
  rw [List.getElem?_map] at h2
  obtain ⟨y, hy, hy2⟩ := Option.map_eq_some_iff.1 h2
  rw [hy] at h1
  obtain ⟨ys, k, _, hys, hcl, hyl, hfs⟩ := DataW.trod_struct Tryz.underlying209 h1
  have e0 := hfs 0 _ rfl
  have e1 := hfs 1 _ rfl
  have hyl2 : ys.length = 2 := hyl
  match ys, hyl2, hys, e0, e1 with
  | [y0, y1], _, hys, e0, e1 =>
    simp only [List.getElem?_cons_zero, List.getElem?_cons_succ] at e0 e1
    obtain ⟨s0, k0, d0, _⟩ := DataW.trod_string Tryz.underlying9 e0
    obtain ⟨s1, k1, d1, _⟩ := DataW.trod_string Tryz.underlying9 e1
    rw [hys] at hy2
    simp only [List.map_cons, List.map_nil, DataW.agg.injEq, List.cons.injEq, and_true] at hy2
    rw [d0, d1] at hy2
    simp only [DataW.lit.injEq, Lit.string.injEq] at hy2
    have q0 : s0 = nmS (i : Int) := bytes_of hy2.1
    have q1 : s1 = fmS (i : Int) := bytes_of hy2.2
    subst q0 q1
    have r0 := congrArg (fun l : List Value => l[0]?) k0
    have r1 := congrArg (fun l : List Value => l[0]?) k1
    have z0 : Tryz.prog.cellsOf (9) = 1 := c2
    constructor
    · have := World.var?_cell hg hvar (2 * i)
      rw [this, ← Array.getElem?_toList]
      simpa [List.getElem?_take, List.getElem?_drop, c2, Nat.mul_comm] using r0
    · have := World.var?_cell hg hvar (2 * i + 1)
      rw [this, ← Array.getElem?_toList]
      simpa [List.getElem?_take, List.getElem?_drop, c2, Nat.mul_comm] using r1

theorem et : Tryz.prog.globalNamed "errors.errorType" = some 0 := by kernel_rfl
theorem rt : (Tryz.prog.cutTypes.find? (·.1 == "internal/reflectlite.rtype")).map (·.2) = some 226 := by kernel_rfl
theorem oneRow : ((List.range 267).filter fun t => Tryz.prog.rowNamed t [101, 114, 114, 111, 114]) = [192] := by kernel_rfl
theorem typesSize : Tryz.prog.types.size = 267 := by kernel_rfl
theorem both_of_laid {W : World} (h : laidMetH Tryz.prog Rows.fnExactIsSubRow.laid W) : Tab W ∧ Glob W := by
  have h' : laidMet Tryz.prog [("loop.example/g00175/impl.opTable", Rows.laid_loop_example_g00175_impl_opTable)] W ∧ handlesMet Tryz.prog [("errors.errorType", Rows.laid_errors_errorType)] W := h
  refine ⟨tab_of_data h'.1, ?_⟩
  obtain ⟨name, u, ty, e1, e2, e3, e4, e5⟩ := h'.2 _ (List.mem_singleton.2 rfl)
  have en : name = [101, 114, 114, 111, 114] := (Option.some.inj e1).symm
  subst en
  obtain rfl := Option.some.inj (rt.symm.trans e2)
  have hm : ty ∈ (List.range 267).filter fun t => Tryz.prog.rowNamed t [101, 114, 114, 111, 114] := List.mem_filter.2 ⟨List.mem_range.2 (by rw [← typesSize]; exact e3), e4⟩
  rw [oneRow] at hm
  obtain rfl := List.mem_singleton.1 hm
  have hh : typeHandle Tryz.prog 192 = .pointer (some ⟨2, 192, none⟩) := by kernel_rfl
  rw [hh] at e5
  simpa [Glob] using World.var?_cell et e5 0

noncomputable def laidWorld (os : Os) : World :=
  let w0 := World.holding Tryz.prog os ⟨#[], #[], []⟩
  { w0 with heap := (w0.heap.modify 0 fun
      | .cells _ t frozen => .cells #[.iface 226 (.agg #[.pointer (some ⟨2, 192, none⟩)])] t frozen
      | o => o).modify 1 fun
      | .cells _ t frozen => .cells ((List.range 90).map fun j : Nat => .string (if j % 2 = 0 then nmS ((j / 2 : Nat) : Int) else fmS ((j / 2 : Nat) : Int))).toArray t frozen
      | o => o }
theorem laidWorld_met (os : Os) (args : Array Value) : laidMetH Tryz.prog Rows.fnExactIsSubRow.laid ((laidWorld os).forCall (fun _ _ => 0) ⟨#[], args, []⟩).memory :=
  laidMetH_of_parts (laidMet_of_run' 8 (by kernel_rfl) (by kernel_rfl)) (by kernel_rfl)

set_option maxHeartbeats 4000000 in
theorem walk (v : Value) (L : List CTup) (a b : ByteArray) (w : World) (hx : classR.slice.In w [v] L) (w1 : a.size ≤ maxLen) (w2 : b.size ≤ maxLen) (ht : Tab w) (hg : Glob w) :
    Calls Tryz.prog 7 #[v, .string a, .string b] w fun e w' => e = .returned (.bool true) ∧ Below w.heap.size w w' := by
  have HSz : Hid (∀ w', Below w.heap.size w w' → Calls Tryz.prog 19 #[v, .int .i64 1048576] w' fun e w2 => e = .returned (.int .i64 (szB (L.length + cSum L L.length) 1048576)) ∧ Below w'.heap.size w' w2) := fun w' hb => lawSzClassS v L 1048576 w' (classR.slice.mono _ _ _ _ hb hx) (by omega)
  have HTo : Hid (¬ szB (L.length + cSum L L.length) 1048576 < 0 → ∀ w', Below w.heap.size w w' → Calls Tryz.prog 21 #[v] w' fun e w2 => ∃ a k c, e = .returned (.slice a k c) ∧ Below w'.heap.size w' w2 ∧ classR.slice.In w2 [.slice a k c] L) := fun h w' hb => by
    refine Calls.mono (lawToClassS v L w' (classR.slice.mono _ _ _ _ hb hx) (sz_lens h).1 (sz_lens h).2) ?_
    rintro e w2 ⟨u, rfl, h1, h2⟩
    obtain ⟨a, cap, rfl, _⟩ := slice_open (by decide) h2
    exact ⟨_, _, _, rfl, h1, h2⟩
  have HS : Hid (∀ w' u, classR.slice.In w' [u] L → Calls Tryz.prog 27 #[u, .string a, .string b] w' fun e w2 => e = .returned (.bool (isV L a b)) ∧ Below w'.heap.size w' w2) := fun w' u h => specIsSubOf L u a b w' h w1 w2
  have HI : Hid (∀ w' u, Below w.heap.size w w' → classR.slice.In w' [u] L → Calls Tryz.prog 28 #[u, .string a, .string b] w' fun e w2 => e = .returned (.bool (isV L a b)) ∧ Below w'.heap.size w' w2) := fun w' u hb h => implIsSubOf L u a b w' h (ht.mono hb) (hg.mono hb) w1
  have HE : Hid (∀ w' u y, classR.slice.In w' [u] L → classR.slice.In w' [y] L → Calls Tryz.prog 24 #[u, y] w' fun e w2 => e = .returned (.bool true) ∧ Below w'.heap.size w' w2) := fun w' u y h1 h2 => lawEqClassS u y L w' h1 h2
  obtain ⟨va, vcap, rfl, _⟩ := slice_open (by decide) hx
  generalize isV L a b = q at *
  generalize szB (L.length + cSum L L.length) 1048576 = left at *
  have dq : (q == q) = true := by simp
  have dq2 : (q != q) = false := by simp
  clear hx ht hg
  unfold maxLen at w1 w2
  by_cases b0 : (1048576 : Int) < a.size
  · have c0 : decide ((1048576 : Int) < a.size) = true := by simpa using b0
    go_enter Tryz.func7, Tryz.ntmps7
    go_wp2
    go_ret
    exact ⟨rfl, Below.refl _ _⟩
  have c0 : decide ((1048576 : Int) < a.size) = false := by simpa using b0
  by_cases b1 : (1048576 : Int) < b.size
  · have c1 : decide ((1048576 : Int) < b.size) = true := by simpa using b1
    go_enter Tryz.func7, Tryz.ntmps7
    go_wp2
    go_ret
    exact ⟨rfl, Below.refl _ _⟩
  have c1 : decide ((1048576 : Int) < b.size) = false := by simpa using b1
  by_cases hl : left < 0
  · have dl : decide (left < 0) = true := by simpa using hl
    go_enter Tryz.func7, Tryz.ntmps7
    go_wp2_with fail
    refine Calls.mono (HSz.out _ (Below.refl _ _)) ?_
    rintro e w1 ⟨rfl, hb1⟩
    go_wp2
    go_ret
    exact ⟨rfl, hb1⟩
  have dl : decide (left < 0) = false := by simpa using hl
  have HT := (show Hid _ from HTo.out hl)
  clear HTo hl
  cases q
  all_goals
    go_enter Tryz.func7, Tryz.ntmps7
    go_wp2_with fail
    refine Calls.mono (HSz.out _ (Below.refl _ _)) ?_
    rintro e w1 ⟨rfl, hb1⟩
    have HB1 : Hid (Below w.heap.size w w1) := hb1
    clear hb1
    go_wp2_with fail
    refine Calls.mono (HT.out _ HB1.out) ?_
    rintro e w2 ⟨a2, k2, c2, rfl, hb2, hin2⟩
    have HB2 : Hid (Below w.heap.size w w2) := HB1.out.trans (hb2.mono HB1.out.size)
    have HI2 := (show Hid _ from hin2)
    clear hb2 hin2
    go_wp2_with fail
    refine Calls.mono (HS.out _ _ HI2.out) ?_
    rintro e w3 ⟨rfl, hb3⟩
    have HB3 : Hid (Below w.heap.size w w3) := HB2.out.trans (hb3.mono HB2.out.size)
    clear hb3
    go_wp2_with fail
    refine Calls.mono (HT.out _ HB3.out) ?_
    rintro e w4 ⟨a4, k4, c4, rfl, hb4, hin4⟩
    have HB4 : Hid (Below w.heap.size w w4) := HB3.out.trans (hb4.mono HB3.out.size)
    have HI4 := (show Hid _ from hin4)
    clear hb4 hin4
    go_wp2_with fail
    refine Calls.mono (HI.out _ _ HB4.out HI4.out) ?_
    rintro e w5 ⟨rfl, hb5⟩
    have HB5 : Hid (Below w.heap.size w w5) := HB4.out.trans (hb5.mono HB4.out.size)
    have HI5 := (show Hid (classR.slice.In w5 [.slice a4 k4 c4] L) from classR.slice.mono _ _ _ _ hb5 HI4.out)
    clear hb5 HI4
    go_wp2_with fail
    refine Calls.mono (HT.out _ HB5.out) ?_
    rintro e w7 ⟨a7, k7, c7, rfl, hb7, hin7⟩
    have HB7 : Hid (Below w.heap.size w w7) := HB5.out.trans (hb7.mono HB5.out.size)
    have HI7 := (show Hid (classR.slice.In w7 [.slice a4 k4 c4] L ∧ classR.slice.In w7 [.slice a7 k7 c7] L) from ⟨classR.slice.mono _ _ _ _ hb7 HI5.out, hin7⟩)
    clear hb7 hin7 HI5
    go_wp2_with fail
    refine Calls.mono (HE.out _ _ _ HI7.out.1 HI7.out.2) ?_
    rintro e w8 ⟨rfl, hb8⟩
    have HB8 : Hid (Below w.heap.size w w8) := HB7.out.trans (hb8.mono HB7.out.size)
    go_wp2
    go_ret
    exact ⟨rfl, HB8.out⟩

set_option maxRecDepth 100000 in
theorem lifted (os : Os) (started : os.Started) (H : Type) (enc : TypeId × Value → H) :
    ReturnsInHanded {} Tryz.checked os 7 .any (fun w args => (Rows.fnExactIsSubSpec.pre enc Tryz.prog Tryz.f7 [] false w args ∧ laidMetH Tryz.prog Rows.fnExactIsSubRow.laid w) ∧ sizedMet enc Tryz.prog Tryz.f7 (OpenSpec.ofChange Rows.fnExactIsSubSpec) false w args)
      (Rows.fnExactIsSubSpec.post enc Tryz.prog Tryz.f7 false true false false) := by
  refine returnsInHanded_of_change_and (C := Tryz.checked) (X := fun w _ => laidMetH Tryz.prog Rows.fnExactIsSubRow.laid w) (fun _ _ _ hh h => h.of_heap hh) own started (by kernel_rfl) Tryz.func7
    (ChangeSpec.witness_at (enc := enc) (C := Tryz.checked) (os := os) (X := fun w _ => laidMetH Tryz.prog Rows.fnExactIsSubRow.laid w) false (laidWorld os) #[.slice none 0 0, .string ⟨#[]⟩, .string ⟨#[]⟩] 8 rfl (by kernel_rfl) (by kernel_rfl) (by kernel_rfl) (by kernel_rfl) (by kernel_rfl) (laidWorld_met os _)) ?_
  intro W base args ds gs before hval0 hW _ _ hL _
  have hval : ∀ (j : Nat) t v, Tryz.f7.params[j]? = some t → args[j]? = some v → Value.okWide Tryz.prog W .any base t v := hval0
  have hW' := hW
  obtain ⟨p, q, hA0, hV0, rfl, hfz, hnd⟩ := hW
  have hA : DataW.TrodAll enc Tryz.prog W 0 (fun _ => true) true Tryz.f7.params.toList args.toList ds p := hA0
  have hV : DataW.TrodVars enc Tryz.prog W (fun _ => true) ["loop.example/g00175/impl.opTable"] gs q := hV0
  rw [Tryz.params7] at hA hval
  obtain ⟨v0, vs0, d0, ds0, p0, q0, hargs, rfl, rfl, h0, r0⟩ := trodAll_cons hA
  obtain ⟨v1, vs1, d1, ds1, p1, q1, rfl, rfl, rfl, h1, r1⟩ := trodAll_cons r0
  obtain ⟨v2, vs2, d2, ds2, p2, q2, rfl, rfl, rfl, h2, r2⟩ := trodAll_cons r1
  obtain ⟨rfl, rfl, rfl⟩ := trodAll_nil r2
  obtain rfl : args = #[v0, v1, v2] := by cases args; simp_all
  have hVk := hV
  obtain ⟨vg, vt, vcs, vfuel, vd, vp, rfl, _, _, _, _, rfl⟩ := trodVars_one hV
  obtain ⟨htab, hglob⟩ := both_of_laid hL
  obtain ⟨a0, len0, cap0, rfl⟩ := okWide_slice Tryz.underlying40 (hval 0 40 v0 rfl rfl)
  have k0 := h0
  have lt0 : ∀ x ∈ p0, x.block < W.heap.size := by obtain ⟨m, hm⟩ := k0; exact DataW.trod_lt m _ _ _ hm
  obtain ⟨z0, w0⟩ : ∃ x, classR.slice.In W [.slice a0 len0 cap0] x := by
    obtain ⟨fuel, hf⟩ := h0
    exact opens_slice Tryz.underlying40 (by kernel_rfl) opensClass _ _ _ _ hf
  obtain ⟨a1, rfl, rfl, rfl, w1⟩ := open_string Tryz.underlying9 (hval 1 9 v1 rfl rfl) h1
  obtain ⟨a2, rfl, rfl, rfl, w2⟩ := open_string Tryz.underlying9 (hval 2 9 v2 rfl rfl) h2
  clear hA0 hval0
  refine (walk (.slice a0 len0 cap0) z0 a1 a2 W w0 w1 w2 htab hglob).mono fun e W' ⟨he, bel⟩ => ?_
  subst he
  exact ⟨_, rfl, _, _, _, [], _, _, hW', trodAll_mk1 (shut_bool Tryz.underlying4 _), (trodAll_cons_mk (Below.trod laidOut (by kernel_rfl) (of_decide_eq_true (by kernel_rfl)) k0 bel lt0) (trodAll_cons_mk (shut_string Tryz.underlying9 w1) (trodAll_cons_mk (shut_string Tryz.underlying9 w2) trodAll_mk0))), Below.trodVars laidOut bel (by kernel_rfl) hVk, bel.frame _, fun h => by cases h⟩

theorem over : Rows.fnExactIsSubRow.holds Tryz.pinned (OpenSpec.ofChange Rows.fnExactIsSubSpec) :=
  OpenClaim.holds_of_wide 7 Tryz.f7 rfl rfl rfl rfl rfl rfl rfl ⟨rfl, rfl, rfl, rfl, rfl⟩ rfl rfl rfl rfl rfl (by kernel_rfl) Tryz.func7 (by kernel_rfl)
    (of_decide_eq_true (by kernel_rfl)) (by unfold Func.isWrapper; first | (rw [if_pos (by decide +kernel)]; kernel_rfl) | (rw [if_neg (by decide +kernel)]; exact ⟨rfl, rfl⟩))
    (fun os started H enc _ => lifted os started H enc)

end Go.Proofs.YtpalmhojjgbkfajGreatDoor.fnExactIsSub
namespace Go.Proofs.YtpalmhojjgbkfajGreatDoor
theorem fnExactIsSub_holds : Rows.FnExactIsSubCardSaid :=
  Claim7.holds_tied_plain_at .later [] [.handle, .data] true (true, "5dcb9a3e87dd832e9f8e6be521c42e75a58d78207668d4c748a842841721a2fe") true
    fnExactIsSub.over (fun _ h => by cases h) (by kernel_rfl) (fun _ h => by cases h) fnExactIsSub_row_tie rfl ⟨rfl, rfl⟩ (by kernel_rfl) rfl
    (fun f fn hf hfn => by
      obtain rfl : f = 7 := Option.some.inj ((show Tryz.prog.funcNamed "loop.example/g00175/laws.FnExactIsSub" = some 7 by kernel_rfl).symm.trans hf) |>.symm
      obtain rfl : fn = Tryz.f7 := (Option.some.inj (Tryz.func7.symm.trans hfn)).symm
      exact ⟨by kernel_rfl, fun j t ht => by
        rw [Tryz.params7] at ht
        rcases j with _ | j
        · obtain rfl : t = 40 := by simpa using ht.symm
          exact (show Tryz.prog.wantsStandIn 40 = false by kernel_rfl)
        · skip
          rcases j with _ | j
          · obtain rfl : t = 9 := by simpa using ht.symm
            exact (show Tryz.prog.wantsStandIn 9 = false by kernel_rfl)
          · skip
            rcases j with _ | j
            · obtain rfl : t = 9 := by simpa using ht.symm
              exact (show Tryz.prog.wantsStandIn 9 = false by kernel_rfl)
            · skip
              simp at ht⟩)
    (by kernel_rfl)
#print axioms fnExactIsSub_holds
end Go.Proofs.YtpalmhojjgbkfajGreatDoor
