/-
  Whatever the instruction, the law FnExactInsRight returns true: the program's InsRight answers as the model's does, and the argument and the program's table read as they did before. The variables listed are errors.errorType and the program's table opTable, both tied to the program's text by the card.
-/
import Derived.Test.YtiaefillccilgaiDoorRows
import Derived.Test.YtiaefillccilgaiDoorCards
import Derived.Test.YtiaefillccilgaiDoorTie
import Derived.WalkKit
import Derived.ProofKit
import Derived.OpenShut
import Derived.ShutString
import Derived.ChangeOld
import Derived.Below
import Derived.Carry
import Derived.OpenVars
import Derived.ChangeSame
import Derived.ChangeVars
import Derived.JoinedOf
import Derived.RowKit
import Derived.RowKitTokens
import Derived.LaidLaws
import Derived.LaidHandle
import Derived.LaidMore
import Derived.Stop.Joined
import Derived.SevenTiedAt
import Derived.Test.YtiaefillccilgaiDoorIns4
import Derived.Test.YtiaefillccilgaiDoorOpn
namespace Go.Proofs.YtiaefillccilgaiDoor.fnExactInsRight
open Go.ChangeShapes Go.WideShapes Go.ChangeAt Go.RowKit
open Go.ChangeMaps (open_string shut_string)
set_option linter.unusedVariables false

theorem own : ownKnob Tryd.prog.godebug = none := by kernel_rfl
theorem laidOut : laidOutB Tryd.prog = true := by kernel_rfl
theorem ot : Tryd.prog.globalNamed "loop.example/g00175/impl.opTable" = some 0 := by kernel_rfl
theorem otT : (Tryd.prog.globals[0]?).map (·.type) = some 121 := by kernel_rfl
theorem c1 : Tryd.prog.cellsOf 93 = 2 := by kernel_rfl
theorem c2 : Tryd.prog.cellsOf 9 = 1 := by kernel_rfl

theorem tab_datum {H : Type} : (Rows.laid_loop_example_g00175_impl_opTable : DataW H) = .agg ((List.range 45).map fun i : Nat => .agg [.lit (.string (nmS (i : Int)).data.toList), .lit (.string (fmS (i : Int)).data.toList)]) := by kernel_rfl

theorem bytes_of {a b : ByteArray} (h : a.data.toList = b.data.toList) : a = b := by
  obtain ⟨⟨x⟩⟩ := a
  obtain ⟨⟨y⟩⟩ := b
  simp at h
  rw [h]

theorem tab_of_data {W : World} (h : laidMet Tryd.prog [("loop.example/g00175/impl.opTable", Rows.laid_loop_example_g00175_impl_opTable)] W) : Tab W := by
  obtain ⟨ps, ⟨g, t, cs, fuel, p, q, hg, ht, hvar, hd, _, _⟩, _⟩ := h
  obtain rfl := Option.some.inj (ot.symm.trans hg)
  obtain rfl := Option.some.inj (otT.symm.trans ht)
  rw [tab_datum] at hd
  obtain ⟨xs, m, _, hx, hlen, hn, hel⟩ := DataW.trod_array Tryd.underlying121 hd
  simp only [Prod.mk.injEq, DataW.agg.injEq] at hx
  intro i hi
  have h1 := hel i hi
  rw [c1] at h1
  have h2 : (xs.map (·.1))[i]? = some (.agg [.lit (.string (nmS (i : Int)).data.toList), .lit (.string (fmS (i : Int)).data.toList)]) := by
    rw [← hx.1, List.getElem?_map, List.getElem?_range hi]; rfl
  rw [List.getElem?_map] at h2
  obtain ⟨y, hy, hy2⟩ := Option.map_eq_some_iff.1 h2
  rw [hy] at h1
  obtain ⟨ys, k, _, hys, hcl, hyl, hfs⟩ := DataW.trod_struct Tryd.underlying93 h1
  have e0 := hfs 0 _ rfl
  have e1 := hfs 1 _ rfl
  have hyl2 : ys.length = 2 := hyl
  match ys, hyl2, hys, e0, e1 with
  | [y0, y1], _, hys, e0, e1 =>
    simp only [List.getElem?_cons_zero, List.getElem?_cons_succ] at e0 e1
    obtain ⟨s0, k0, d0, _⟩ := DataW.trod_string Tryd.underlying9 e0
    obtain ⟨s1, k1, d1, _⟩ := DataW.trod_string Tryd.underlying9 e1
    rw [hys] at hy2
    simp only [List.map_cons, List.map_nil, DataW.agg.injEq, List.cons.injEq, and_true] at hy2
    rw [d0, d1] at hy2
    simp only [DataW.lit.injEq, Lit.string.injEq] at hy2
    have q0 : s0 = nmS (i : Int) := bytes_of hy2.1
    have q1 : s1 = fmS (i : Int) := bytes_of hy2.2
    subst q0 q1
    have r0 := congrArg (fun l : List Value => l[0]?) k0
    have r1 := congrArg (fun l : List Value => l[0]?) k1
    have z0 : Tryd.prog.cellsOf (9) = 1 := c2
    constructor
    · have := World.var?_cell hg hvar (2 * i)
      rw [this, ← Array.getElem?_toList]
      simpa [List.getElem?_take, List.getElem?_drop, c2, Nat.mul_comm] using r0
    · have := World.var?_cell hg hvar (2 * i + 1)
      rw [this, ← Array.getElem?_toList]
      simpa [List.getElem?_take, List.getElem?_drop, c2, Nat.mul_comm] using r1

theorem et : Tryd.prog.globalNamed "errors.errorType" = some 1 := by kernel_rfl
theorem rt : (Tryd.prog.cutTypes.find? (·.1 == "internal/reflectlite.rtype")).map (·.2) = some 141 := by kernel_rfl
theorem oneRow : ((List.range 185).filter fun t => Tryd.prog.rowNamed t [101, 114, 114, 111, 114]) = [97] := by kernel_rfl
theorem typesSize : Tryd.prog.types.size = 185 := by kernel_rfl
theorem both_of_laid {W : World} (h : laidMetH Tryd.prog Rows.fnExactInsRightRow.laid W) : Tab W ∧ Glob W := by
  have h' : laidMet Tryd.prog [("loop.example/g00175/impl.opTable", Rows.laid_loop_example_g00175_impl_opTable)] W ∧ handlesMet Tryd.prog [("errors.errorType", Rows.laid_errors_errorType)] W := h
  refine ⟨tab_of_data h'.1, ?_⟩
  obtain ⟨name, u, ty, e1, e2, e3, e4, e5⟩ := h'.2 _ (List.mem_singleton.2 rfl)
  have en : name = [101, 114, 114, 111, 114] := (Option.some.inj e1).symm
  subst en
  obtain rfl := Option.some.inj (rt.symm.trans e2)
  have hm : ty ∈ (List.range 185).filter fun t => Tryd.prog.rowNamed t [101, 114, 114, 111, 114] := List.mem_filter.2 ⟨List.mem_range.2 (by rw [← typesSize]; exact e3), e4⟩
  rw [oneRow] at hm
  obtain rfl := List.mem_singleton.1 hm
  have hh : typeHandle Tryd.prog 97 = .pointer (some ⟨2, 97, none⟩) := by kernel_rfl
  rw [hh] at e5
  simpa [Glob] using World.var?_cell et e5 0

noncomputable def laidWorld (os : Os) : World :=
  let w0 := World.holding Tryd.prog os ⟨#[], #[], []⟩
  { w0 with heap := (w0.heap.modify 1 fun
      | .cells _ t frozen => .cells #[.iface 141 (.agg #[.pointer (some ⟨2, 97, none⟩)])] t frozen
      | o => o).modify 0 fun
      | .cells _ t frozen => .cells ((List.range 90).map fun j : Nat => .string (if j % 2 = 0 then nmS ((j / 2 : Nat) : Int) else fmS ((j / 2 : Nat) : Int))).toArray t frozen
      | o => o }
theorem laidWorld_met (os : Os) (args : Array Value) : laidMetH Tryd.prog Rows.fnExactInsRightRow.laid ((laidWorld os).forCall (fun _ _ => 0) ⟨#[], args, []⟩).memory :=
  laidMetH_of_parts (laidMet_of_run' 8 (by kernel_rfl) (by kernel_rfl)) (by kernel_rfl)

set_option maxHeartbeats 1000000 in
theorem walk (cs : Array Value) (x : InsD) (w : World) (hx : insR.In w cs.toList x) (ht : Tab w) (hg : Glob w) :
    Calls Tryd.prog 3 #[.agg cs] w fun e w' => e = .returned (.bool true) ∧ Below w.heap.size w w' := by
  obtain ⟨cs⟩ := cs
  obtain ⟨op, a, c, n, d⟩ := x
  obtain ⟨_, _, hcs, ⟨rfl, h0⟩, ⟨_, _, rfl, ⟨rfl, h1⟩, ⟨_, _, rfl, ⟨rfl, s2⟩, ⟨_, _, rfl, ⟨rfl, s3⟩, ⟨rfl, s4⟩⟩⟩⟩⟩ := hx
  simp only at hcs h0 h1 s2 s3 s4
  subst hcs
  have h0' := i64w h0
  have h1' := i64w h1
  have HSz : Hid (∀ w, Calls Tryd.prog 6 #[.agg #[.int .i64 op, .int .i64 a, .string c, .string n, .string d], .int .i64 1048576] w fun e w' => e = .returned (.int .i64 (szB (c.size + n.size + d.size) 1048576)) ∧ Below w.heap.size w w') := fun w => lawSzIns op a c n d 1048576 w s2 s3 s4 (by omega)
  have HTo : Hid (∀ w, Calls Tryd.prog 8 #[.agg #[.int .i64 op, .int .i64 a, .string c, .string n, .string d]] w fun e w' => e = .returned (.agg #[.int .i64 op, .int .i64 a, .string c, .string n, .string d]) ∧ Below w.heap.size w w') := fun w => lawToIns op a c n d w
  have HS : Hid (∀ w, Calls Tryd.prog 7 #[.agg #[.int .i64 op, .int .i64 a, .string c, .string n, .string d]] w fun e w' => e = .returned (.bool (insOk (fmS op) a c n d)) ∧ Below w.heap.size w w') := fun w => specInsRight op a c n d w h0' s2 s3 s4
  have HI : Hid (∀ w, Tab w → Glob w → Calls Tryd.prog 9 #[.agg #[.int .i64 op, .int .i64 a, .string c, .string n, .string d]] w fun e w' => e = .returned (.bool (insOk (fmS op) a c n d)) ∧ Below w.heap.size w w') := fun w ht hg => implInsRight op a c n d w ht hg h1' s2 s3 s4
  have HT := (show Hid (Tab w) from ht)
  have HG := (show Hid (Glob w) from hg)
  clear ht hg h0 h1 h0' h1' s2 s3 s4
  generalize insOk (fmS op) a c n d = q at *
  have HB0 : Hid (∀ o, Below w.heap.size w (w.alloc o)) := fun o => (Below.refl _ _).alloc (Nat.le_refl _) o
  have hsz : szB (c.size + n.size + d.size) 1048576 < 0 ∨ 0 ≤ szB (c.size + n.size + d.size) 1048576 := by omega
  generalize szB (c.size + n.size + d.size) 1048576 = left at *
  have eq : (q == q) = true := by simp
  have nq : (q != q) = false := by simp
  rcases hsz with hl | hl
  · have dl : decide (left < 0) = true := by simpa using hl
    go_enter Tryd.func3, Tryd.ntmps3
    go_wp2_with fail
    refine Calls.mono (HSz.out _) ?_
    rintro e w1 ⟨rfl, hb1⟩
    have HB1 : Hid (Below w.heap.size w w1) := (HB0.out _).trans (hb1.mono (by simp))
    clear hb1
    go_wp2
    go_ret
    exact ⟨rfl, HB1.out⟩
  · have dl : decide (left < 0) = false := by simpa using hl
    go_enter Tryd.func3, Tryd.ntmps3
    go_wp2_with fail
    refine Calls.mono (HSz.out _) ?_
    rintro e w1 ⟨rfl, hb1⟩
    have x0 : w1.cell? ⟨w.heap.size, 0, none⟩ = some (.int .i64 op) := carry hb1 (by simp) (by simp [go_sem])
    have x1 : w1.cell? ⟨w.heap.size, 1, none⟩ = some (.int .i64 a) := carry hb1 (by simp) (by simp [go_sem])
    have x2 : w1.cell? ⟨w.heap.size, 2, none⟩ = some (.string c) := carry hb1 (by simp) (by simp [go_sem])
    have x3 : w1.cell? ⟨w.heap.size, 3, none⟩ = some (.string n) := carry hb1 (by simp) (by simp [go_sem])
    have x4 : w1.cell? ⟨w.heap.size, 4, none⟩ = some (.string d) := carry hb1 (by simp) (by simp [go_sem])
    have hz1 : w.heap.size < w1.heap.size := by have := hb1.size; simp at this; omega
    have HB1 : Hid (Below w.heap.size w w1) := (HB0.out _).trans (hb1.mono (by simp))
    clear hb1
    go_wp2_with fail
    refine Calls.mono (HTo.out _) ?_
    rintro e w2 ⟨rfl, hb2⟩
    replace x0 := carry hb2 hz1 x0
    replace x1 := carry hb2 hz1 x1
    replace x2 := carry hb2 hz1 x2
    replace x3 := carry hb2 hz1 x3
    replace x4 := carry hb2 hz1 x4
    have hz2 : w.heap.size < w2.heap.size := Nat.lt_of_lt_of_le hz1 hb2.size
    have HB2 : Hid (Below w.heap.size w w2) := HB1.out.trans (hb2.mono HB1.out.size)
    clear hb2
    go_wp2_with fail
    refine Calls.mono (HS.out _) ?_
    rintro e w3 ⟨rfl, hb3⟩
    replace x0 := carry hb3 hz2 x0
    replace x1 := carry hb3 hz2 x1
    replace x2 := carry hb3 hz2 x2
    replace x3 := carry hb3 hz2 x3
    replace x4 := carry hb3 hz2 x4
    have HB3 : Hid (Below w.heap.size w w3) := HB2.out.trans (hb3.mono HB2.out.size)
    clear hb3
    go_wp2_with fail
    refine Calls.mono (HTo.out _) ?_
    rintro e w4 ⟨rfl, hb4⟩
    have HB4 : Hid (Below w.heap.size w w4) := HB3.out.trans (hb4.mono HB3.out.size)
    clear hb4
    go_wp2_with fail
    refine Calls.mono (HI.out _ (HT.out.mono HB4.out) (HG.out.mono HB4.out)) ?_
    rintro e w5 ⟨rfl, hb5⟩
    have HB5 : Hid (Below w.heap.size w w5) := HB4.out.trans (hb5.mono HB4.out.size)
    clear hb5
    go_wp2
    go_ret
    exact ⟨rfl, HB5.out⟩

set_option maxRecDepth 100000 in
theorem lifted (os : Os) (started : os.Started) (H : Type) (enc : TypeId × Value → H) :
    ReturnsInHanded {} Tryd.checked os 3 .any (fun w args => (Rows.fnExactInsRightSpec.pre enc Tryd.prog Tryd.f3 [] false w args ∧ laidMetH Tryd.prog Rows.fnExactInsRightRow.laid w) ∧ sizedMet enc Tryd.prog Tryd.f3 (OpenSpec.ofChange Rows.fnExactInsRightSpec) false w args)
      (Rows.fnExactInsRightSpec.post enc Tryd.prog Tryd.f3 false true false false) := by
  refine returnsInHanded_of_change_and (C := Tryd.checked) (X := fun w _ => laidMetH Tryd.prog Rows.fnExactInsRightRow.laid w) (fun _ _ _ hh h => h.of_heap hh) own started (by kernel_rfl) Tryd.func3
    (ChangeSpec.witness_at (enc := enc) (C := Tryd.checked) (os := os) (X := fun w _ => laidMetH Tryd.prog Rows.fnExactInsRightRow.laid w) false (laidWorld os) #[.agg #[.int .i64 0, .int .i64 0, .string ⟨#[]⟩, .string ⟨#[]⟩, .string ⟨#[]⟩]] 8 rfl (by kernel_rfl) (by kernel_rfl) (by kernel_rfl) (by kernel_rfl) (by kernel_rfl) (laidWorld_met os _)) ?_
  intro W base args ds gs before hval0 hW _ _ hL _
  have hval : ∀ (j : Nat) t v, Tryd.f3.params[j]? = some t → args[j]? = some v → Value.okWide Tryd.prog W .any base t v := hval0
  have hW' := hW
  obtain ⟨p, q, hA0, hV0, rfl, hfz, hnd⟩ := hW
  have hA : DataW.TrodAll enc Tryd.prog W 0 (fun _ => true) true Tryd.f3.params.toList args.toList ds p := hA0
  have hV : DataW.TrodVars enc Tryd.prog W (fun _ => true) ["loop.example/g00175/impl.opTable"] gs q := hV0
  rw [Tryd.params3] at hA hval
  obtain ⟨v0, vs0, d0, ds0, p0, q0, hargs, rfl, rfl, h0, r0⟩ := trodAll_cons hA
  obtain ⟨rfl, rfl, rfl⟩ := trodAll_nil r0
  obtain rfl : args = #[v0] := by cases args; simp_all
  have hVk := hV
  obtain ⟨vg, vt, vcs, vfuel, vd, vp, rfl, _, _, _, _, rfl⟩ := trodVars_one hV
  obtain ⟨htab, hglob⟩ := both_of_laid hL
  have k0 := h0
  have lt0 : ∀ x ∈ p0, x.block < W.heap.size := by obtain ⟨m, hm⟩ := k0; exact DataW.trod_lt m _ _ _ hm
  obtain ⟨cs0, rfl, _⟩ := okWide_struct Tryd.underlying23 (hval 0 23 v0 rfl rfl)
  obtain ⟨a0, w0⟩ : ∃ x, insR.In W cs0.toList x := by
    obtain ⟨fuel, hf⟩ := h0
    exact opensIns _ _ _ _ hf
  clear hA0 hval0
  refine (walk cs0 a0 W w0 htab hglob).mono fun e W' ⟨he, bel⟩ => ?_
  subst he
  exact ⟨_, rfl, _, _, _, [], _, _, hW', trodAll_mk1 (shut_bool Tryd.underlying4 _), (trodAll_cons_mk (Below.trod laidOut (by kernel_rfl) (of_decide_eq_true (by kernel_rfl)) k0 bel lt0) trodAll_mk0), Below.trodVars laidOut bel (by kernel_rfl) hVk, bel.frame _, fun h => by cases h⟩

theorem over : Rows.fnExactInsRightRow.holds Tryd.pinned (OpenSpec.ofChange Rows.fnExactInsRightSpec) :=
  OpenClaim.holds_of_wide 3 Tryd.f3 rfl rfl rfl rfl rfl rfl rfl ⟨rfl, rfl, rfl, rfl, rfl⟩ rfl rfl rfl rfl rfl (by kernel_rfl) Tryd.func3 (by kernel_rfl)
    (of_decide_eq_true (by kernel_rfl)) (by unfold Func.isWrapper; first | (rw [if_pos (by decide +kernel)]; kernel_rfl) | (rw [if_neg (by decide +kernel)]; exact ⟨rfl, rfl⟩))
    (fun os started H enc _ => lifted os started H enc)

end Go.Proofs.YtiaefillccilgaiDoor.fnExactInsRight
namespace Go.Proofs.YtiaefillccilgaiDoor
theorem fnExactInsRight_holds : Rows.FnExactInsRightCardSaid :=
  Claim7.holds_tied_plain_at .later [] [.handle, .data] true (true, "12ac0b1fa2bdba89ebb66a06fb3e887ec23df7a89628f9d9adbca6ddb50ddb5e") true
    fnExactInsRight.over (fun _ h => by cases h) (by kernel_rfl) (fun _ h => by cases h) fnExactInsRight_row_tie rfl ⟨rfl, rfl⟩ (by kernel_rfl) rfl
    (fun f fn hf hfn => by
      obtain rfl : f = 3 := Option.some.inj ((show Tryd.prog.funcNamed "loop.example/g00175/laws.FnExactInsRight" = some 3 by kernel_rfl).symm.trans hf) |>.symm
      obtain rfl : fn = Tryd.f3 := (Option.some.inj (Tryd.func3.symm.trans hfn)).symm
      exact ⟨by kernel_rfl, fun j t ht => by
        rw [Tryd.params3] at ht
        have h3 : t = 23 := by
          rcases j with _ | j
          · simpa using ht.symm
          · simp at ht
        subst h3
        exact (show Tryd.prog.wantsStandIn 23 = false by kernel_rfl)⟩)
    (by kernel_rfl)
#print axioms fnExactInsRight_holds
end Go.Proofs.YtiaefillccilgaiDoor
