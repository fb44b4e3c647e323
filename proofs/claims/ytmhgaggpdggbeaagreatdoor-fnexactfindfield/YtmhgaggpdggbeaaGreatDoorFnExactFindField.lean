/-
 Whatever the list of classes and the texts, the law FnExactFindField returns true: the program's FindField answers as the model's does and leaves what it is handed as it was, and the arguments and the program's table read as they did before. The variables listed are errors.errorType and the program's table opTable, both tied to the program's text by the card.
-/
import Derived.Test.YtmhgaggpdggbeaaGreatDoorRows
import Derived.Test.YtmhgaggpdggbeaaGreatDoorCards
import Derived.Test.YtmhgaggpdggbeaaGreatDoorTie
import Derived.WalkKit
import Derived.ProofKit
import Derived.OpenShut
import Derived.ShutString
import Derived.ChangeOld
import Derived.Below
import Derived.Carry
import Derived.OpenVars
import Derived.ChangeSame
import Derived.ChangeVars
import Derived.JoinedOf
import Derived.RowKit
import Derived.RowKitTokens
import Derived.LaidLaws
import Derived.LaidHandle
import Derived.LaidMore
import Derived.Stop.Joined
import Derived.SevenTiedAt
import Derived.Test.YtmhgaggpdggbeaaGreatDoorFfW
import Derived.Test.YtmhgaggpdggbeaaGreatDoorFfM
import Derived.Test.YtmhgaggpdggbeaaGreatDoorWlaw
import Derived.Test.YtmhgaggpdggbeaaGreatDoorWdT
namespace Go.Proofs.YtmhgaggpdggbeaaGreatDoor.fnExactFindField
open Go.ChangeShapes Go.WideShapes Go.ChangeAt Go.RowKit
open Go.ChangeMaps (open_string shut_string)
set_option linter.unusedVariables false

theorem own : ownKnob Tryz.prog.godebug = none := by kernel_rfl
theorem laidOut : laidOutB Tryz.prog = true := by kernel_rfl
theorem ot : Tryz.prog.globalNamed "loop.example/g00175/impl.opTable" = some 1 := by kernel_rfl
theorem otT : (Tryz.prog.globals[1]?).map (·.type) = some 234 := by kernel_rfl
theorem c1 : Tryz.prog.cellsOf 232 = 2 := by kernel_rfl
theorem c2 : Tryz.prog.cellsOf 9 = 1 := by kernel_rfl

theorem tab_datum {H : Type} : (Rows.laid_loop_example_g00175_impl_opTable : DataW H) = .agg ((List.range 45).map fun i : Nat => .agg [.lit (.string (nmS (i : Int)).data.toList), .lit (.string (fmS (i : Int)).data.toList)]) := by kernel_rfl

theorem bytes_of {a b : ByteArray} (h : a.data.toList = b.data.toList) : a = b := by
 obtain ⟨⟨x⟩⟩ := a
 obtain ⟨⟨y⟩⟩ := b
 simp at h
 rw [h]

theorem tab_of_data {W : World} (h : laidMet Tryz.prog [("loop.example/g00175/impl.opTable", Rows.laid_loop_example_g00175_impl_opTable)] W) : Tab W := by
 obtain ⟨ps, ⟨g, t, cs, fuel, p, q, hg, ht, hvar, hd, _, _⟩, _⟩ := h
 obtain rfl := Option.some.inj (ot.symm.trans hg)
 obtain rfl := Option.some.inj (otT.symm.trans ht)
 rw [tab_datum] at hd
 obtain ⟨xs, m, _, hx, hlen, hn, hel⟩ := DataW.trod_array Tryz.underlying234 hd
 simp only [Prod.mk.injEq, DataW.agg.injEq] at hx
 intro i hi
 have h1 := hel i hi
 rw [c1] at h1
 have h2 : (xs.map (·.1))[i]? = some (.agg [.lit (.string (nmS (i : Int)).data.toList), .lit (.string (fmS (i : Int)).data.toList)]) := by
  rw [← hx.1, List.getElem?_map, List.getElem?_range hi]; rfl
 rw [List.getElem?_map] at h2
 obtain ⟨y, hy, hy2⟩ := Option.map_eq_some_iff.1 h2
 rw [hy] at h1
 obtain ⟨ys, k, _, hys, hcl, hyl, hfs⟩ := DataW.trod_struct Tryz.underlying232 h1
 have e0 := hfs 0 _ rfl
 have e1 := hfs 1 _ rfl
 have hyl2 : ys.length = 2 := hyl
 match ys, hyl2, hys, e0, e1 with
 | [y0, y1], _, hys, e0, e1 =>
  simp only [List.getElem?_cons_zero, List.getElem?_cons_succ] at e0 e1
  obtain ⟨s0, k0, d0, _⟩ := DataW.trod_string Tryz.underlying9 e0
  obtain ⟨s1, k1, d1, _⟩ := DataW.trod_string Tryz.underlying9 e1
  rw [hys] at hy2
  simp only [List.map_cons, List.map_nil, DataW.agg.injEq, List.cons.injEq, and_true] at hy2
  rw [d0, d1] at hy2
  simp only [DataW.lit.injEq, Lit.string.injEq] at hy2
  have q0 : s0 = nmS (i : Int) := bytes_of hy2.1
  have q1 : s1 = fmS (i : Int) := bytes_of hy2.2
  subst q0 q1
  have r0 := congrArg (fun l : List Value => l[0]?) k0
  have r1 := congrArg (fun l : List Value => l[0]?) k1
  have z0 : Tryz.prog.cellsOf (9) = 1 := c2
  constructor
  ·have := World.var?_cell hg hvar (2 * i)
   rw [this, ← Array.getElem?_toList]
   simpa [List.getElem?_take, List.getElem?_drop, c2, Nat.mul_comm] using r0
  ·have := World.var?_cell hg hvar (2 * i + 1)
   rw [this, ← Array.getElem?_toList]
   simpa [List.getElem?_take, List.getElem?_drop, c2, Nat.mul_comm] using r1

theorem et : Tryz.prog.globalNamed "errors.errorType" = some 0 := by kernel_rfl
theorem rt : (Tryz.prog.cutTypes.find? (·.1 == "internal/reflectlite.rtype")).map (·.2) = some 218 := by kernel_rfl
theorem oneRow : ((List.range 263).filter fun t => Tryz.prog.rowNamed t [101, 114, 114, 111, 114]) = [185] := by kernel_rfl
theorem typesSize : Tryz.prog.types.size = 263 := by kernel_rfl
theorem both_of_laid {W : World} (h : laidMetH Tryz.prog Rows.fnExactFindFieldRow.laid W) : Tab W ∧ Glob W := by
 have h' : laidMet Tryz.prog [("loop.example/g00175/impl.opTable", Rows.laid_loop_example_g00175_impl_opTable)] W ∧ handlesMet Tryz.prog [("errors.errorType", Rows.laid_errors_errorType)] W := h
 refine ⟨tab_of_data h'.1, ?_⟩
 obtain ⟨name, u, ty, e1, e2, e3, e4, e5⟩ := h'.2 _ (List.mem_singleton.2 rfl)
 have en : name = [101, 114, 114, 111, 114] := (Option.some.inj e1).symm
 subst en
 obtain rfl := Option.some.inj (rt.symm.trans e2)
 have hm : ty ∈ (List.range 263).filter fun t => Tryz.prog.rowNamed t [101, 114, 114, 111, 114] := List.mem_filter.2 ⟨List.mem_range.2 (by rw [← typesSize]; exact e3), e4⟩
 rw [oneRow] at hm
 obtain rfl := List.mem_singleton.1 hm
 have hh : typeHandle Tryz.prog 185 = .pointer (some ⟨2, 185, none⟩) := by kernel_rfl
 rw [hh] at e5
 simpa [Glob] using World.var?_cell et e5 0

noncomputable def laidWorld (os : Os) : World :=
 let w0 := World.holding Tryz.prog os ⟨#[], #[], []⟩
 { w0 with heap := (w0.heap.modify 0 fun
   | .cells _ t frozen => .cells #[.iface 218 (.agg #[.pointer (some ⟨2, 185, none⟩)])] t frozen
   | o => o).modify 1 fun
   | .cells _ t frozen => .cells ((List.range 90).map fun j : Nat => .string (if j % 2 = 0 then nmS ((j / 2 : Nat) : Int) else fmS ((j / 2 : Nat) : Int))).toArray t frozen
   | o => o }
theorem laidWorld_met (os : Os) (args : Array Value) : laidMetH Tryz.prog Rows.fnExactFindFieldRow.laid ((laidWorld os).forCall (fun _ _ => 0) ⟨#[], args, []⟩).memory :=
 laidMetH_of_parts (laidMet_of_run' 8 (by kernel_rfl) (by kernel_rfl)) (by kernel_rfl)

set_option maxHeartbeats 4000000 in
theorem walk (v : Value) (L : List CTup) (cl n d : ByteArray) (w : World) (hx : classR.slice.In w [v] L) (z1 : cl.size ≤ maxLen) (z2 : n.size ≤ maxLen) (z3 : d.size ≤ maxLen) (ht : Tab w) (hg : Glob w) :
  Calls Tryz.prog 4 #[v, .string cl, .string n, .string d] w fun e w' => e = .returned (.bool true) ∧ Below w.heap.size w w' := by
 have HSz : Hid (∀ w', Below w.heap.size w w' → Calls Tryz.prog 9 #[v, .int .i64 1048576] w' fun e w2 => e = .returned (.int .i64 (szB (L.length + cSum L L.length) 1048576)) ∧ Below w'.heap.size w' w2) := fun w' hb => lawSzClassS v L 1048576 w' (classR.slice.mono _ _ _ _ hb hx) (by omega)
 have HTo : Hid (¬ szB (L.length + cSum L L.length) 1048576 < 0 → ∀ w', Below w.heap.size w w' → Calls Tryz.prog 11 #[v] w' fun e w2 => ∃ a k c, e = .returned (.slice a k c) ∧ Below w'.heap.size w' w2 ∧ classR.slice.In w2 [.slice a k c] L) := fun h w' hb => by
  refine Calls.mono (lawToClassS v L w' (classR.slice.mono _ _ _ _ hb hx) (sz_lens h).1 (sz_lens h).2) ?_
  rintro e w2 ⟨u, rfl, h1, h2⟩
  obtain ⟨a, cap, rfl, _⟩ := slice_open (by decide) h2
  exact ⟨_, _, _, rfl, h1, h2⟩
 have HS : Hid (∀ w' u, classR.slice.In w' [u] L → Calls Tryz.prog 18 #[u, .string cl, .string n, .string d] w' fun e w2 => e = .returned (fdV (ffV L cl n d)) ∧ Below w'.heap.size w' w2) := fun w' u h => specFindFieldOf L u cl n d w' h z1 z2 z3
 have HI : Hid (∀ w' u, Below w.heap.size w w' → classR.slice.In w' [u] L → Calls Tryz.prog 19 #[u, .string cl, .string n, .string d] w' fun e w2 => e = .returned (fdV (ffV L cl n d)) ∧ Below w'.heap.size w' w2) := fun w' u hb h => implFindFieldOf L u cl n d w' h (ht.mono hb) (hg.mono hb) z1 z2 z3
 have HE : Hid (∀ w' u y, classR.slice.In w' [u] L → classR.slice.In w' [y] L → Calls Tryz.prog 14 #[u, y] w' fun e w2 => e = .returned (.bool true) ∧ Below w'.heap.size w' w2) := fun w' u y h1 h2 => lawEqClassS u y L w' h1 h2
 obtain ⟨va, vcap, rfl, _⟩ := slice_open (by decide) hx
 generalize ffV L cl n d = fd at *
 obtain ⟨o0, o1, o2⟩ := fd
 unfold fdV at HS HI
 simp only at HS HI
 generalize szB (L.length + cSum L L.length) 1048576 = left at *
 clear hx ht hg
 unfold maxLen at z1 z2 z3
 by_cases b0 : (1048576 : Int) < cl.size
 ·have c0 : decide ((1048576 : Int) < cl.size) = true := by simpa using b0
  go_enter Tryz.func4, Tryz.ntmps4
  go_wp2
  go_ret
  exact ⟨rfl, Below.refl _ _⟩
 have c0 : decide ((1048576 : Int) < cl.size) = false := by simpa using b0
 by_cases b1 : (1048576 : Int) < n.size
 ·have c1 : decide ((1048576 : Int) < n.size) = true := by simpa using b1
  go_enter Tryz.func4, Tryz.ntmps4
  go_wp2
  go_ret
  exact ⟨rfl, Below.refl _ _⟩
 have c1 : decide ((1048576 : Int) < n.size) = false := by simpa using b1
 by_cases b2 : (1048576 : Int) < d.size
 ·have c2 : decide ((1048576 : Int) < d.size) = true := by simpa using b2
  go_enter Tryz.func4, Tryz.ntmps4
  go_wp2
  go_ret
  exact ⟨rfl, Below.refl _ _⟩
 have c2 : decide ((1048576 : Int) < d.size) = false := by simpa using b2
 by_cases hl : left < 0
 ·have dl : decide (left < 0) = true := by simpa using hl
  go_enter Tryz.func4, Tryz.ntmps4
  go_wp2_with fail
  refine Calls.mono (HSz.out _ (Below.refl _ _)) ?_
  rintro e w1 ⟨rfl, hb1⟩
  go_wp2
  go_ret
  exact ⟨rfl, hb1⟩
 have dl : decide (left < 0) = false := by simpa using hl
 have HT := (show Hid _ from HTo.out hl)
 clear HTo hl
 go_enter Tryz.func4, Tryz.ntmps4
 go_wp2_with fail
 refine Calls.mono (HSz.out _ (Below.refl _ _)) ?_
 rintro e w1 ⟨rfl, hb1⟩
 have HB1 : Hid (Below w.heap.size w w1) := hb1
 clear hb1
 go_wp2_with fail
 refine Calls.mono (HT.out _ HB1.out) ?_
 rintro e w2 ⟨a2, k2, c2, rfl, hb2, hin2⟩
 have HB2 : Hid (Below w.heap.size w w2) := HB1.out.trans (hb2.mono HB1.out.size)
 have HI2 := (show Hid _ from hin2)
 clear hb2 hin2
 go_wp2_with fail
 refine Calls.mono (HS.out _ _ HI2.out) ?_
 rintro e w3 ⟨rfl, hb3⟩
 have HB3 : Hid (Below w.heap.size w w3) := HB2.out.trans (hb3.mono HB2.out.size)
 clear hb3
 go_wp2_with fail
 refine Calls.mono (HT.out _ (HB3.out.alloc HB3.out.size _)) ?_
 rintro e w4 ⟨a4, k4, c4, rfl, hb4, hin4⟩
 have HB4 : Hid (Below w.heap.size w w4) := (HB3.out.alloc HB3.out.size _).trans (hb4.mono (by have := HB3.out.size; simp; omega))
 have y0 : w4.cell? ⟨w3.heap.size, 0, none⟩ = some (.string o0) := carry hb4 (by simp) (by simp [go_sem])
 have y1 : w4.cell? ⟨w3.heap.size, 1, none⟩ = some (.int .i64 o1) := carry hb4 (by simp) (by simp [go_sem])
 have y2 : w4.cell? ⟨w3.heap.size, 2, none⟩ = some (.int .i64 o2) := carry hb4 (by simp) (by simp [go_sem])
 have hz4 : w3.heap.size < w4.heap.size := by have := hb4.size; simp at this; omega
 have HI4 := (show Hid _ from hin4)
 clear hb4 hin4
 go_wp2_with fail
 refine Calls.mono (HI.out _ _ HB4.out HI4.out) ?_
 rintro e w5 ⟨rfl, hb5⟩
 have HB5 : Hid (Below w.heap.size w w5) := HB4.out.trans (hb5.mono HB4.out.size)
 replace y0 := carry hb5 hz4 y0
 replace y1 := carry hb5 hz4 y1
 replace y2 := carry hb5 hz4 y2
 have hz5 : w3.heap.size < w5.heap.size := Nat.lt_of_lt_of_le hz4 hb5.size
 have HI5 := (show Hid (classR.slice.In w5 [.slice a4 k4 c4] L) from classR.slice.mono _ _ _ _ hb5 HI4.out)
 clear hb5 HI4
 have ya0 : ∀ o, (w5.alloc o).cell? ⟨w3.heap.size, 0, none⟩ = some (.string o0) := fun o => carry (below_al w5 o) hz5 y0
 have ya1 : ∀ o, (w5.alloc o).cell? ⟨w3.heap.size, 1, none⟩ = some (.int .i64 o1) := fun o => carry (below_al w5 o) hz5 y1
 have ya2 : ∀ o, (w5.alloc o).cell? ⟨w3.heap.size, 2, none⟩ = some (.int .i64 o2) := fun o => carry (below_al w5 o) hz5 y2
 go_wp2_with fail
 refine Calls.mono (lawEqFound _ _ _ _) ?_
 rintro e w6 ⟨rfl, hb6⟩
 have HB6 : Hid (Below w.heap.size w w6) := (HB5.out.alloc HB5.out.size _).trans (hb6.mono (by have := HB5.out.size; simp; omega))
 have HI6 := (show Hid (classR.slice.In w6 [.slice a4 k4 c4] L) from classR.slice.mono _ _ _ _ ((below_al w5 _).trans (hb6.mono (by simp))) HI5.out)
 clear hb6 HI5 ya0 ya1 ya2 y0 y1 y2
 go_wp2_with fail
 refine Calls.mono (HT.out _ HB6.out) ?_
 rintro e w7 ⟨a7, k7, c7, rfl, hb7, hin7⟩
 have HB7 : Hid (Below w.heap.size w w7) := HB6.out.trans (hb7.mono HB6.out.size)
 have HI7 := (show Hid (classR.slice.In w7 [.slice a4 k4 c4] L ∧ classR.slice.In w7 [.slice a7 k7 c7] L) from ⟨classR.slice.mono _ _ _ _ hb7 HI6.out, hin7⟩)
 clear hb7 hin7 HI6
 go_wp2_with fail
 refine Calls.mono (HE.out _ _ _ HI7.out.1 HI7.out.2) ?_
 rintro e w8 ⟨rfl, hb8⟩
 have HB8 : Hid (Below w.heap.size w w8) := HB7.out.trans (hb8.mono HB7.out.size)
 go_wp2
 go_ret
 exact ⟨rfl, HB8.out⟩

set_option maxRecDepth 100000 in
theorem lifted (os : Os) (started : os.Started) (H : Type) (enc : TypeId × Value → H) :
  ReturnsInHanded {} Tryz.checked os 4 .any (fun w args => (Rows.fnExactFindFieldSpec.pre enc Tryz.prog Tryz.f4 [] false w args ∧ laidMetH Tryz.prog Rows.fnExactFindFieldRow.laid w) ∧ sizedMet enc Tryz.prog Tryz.f4 (OpenSpec.ofChange Rows.fnExactFindFieldSpec) false w args)
   (Rows.fnExactFindFieldSpec.post enc Tryz.prog Tryz.f4 false true false false) := by
 refine returnsInHanded_of_change_and (C := Tryz.checked) (X := fun w _ => laidMetH Tryz.prog Rows.fnExactFindFieldRow.laid w) (fun _ _ _ hh h => h.of_heap hh) own started (by kernel_rfl) Tryz.func4
  (ChangeSpec.witness_at (enc := enc) (C := Tryz.checked) (os := os) (X := fun w _ => laidMetH Tryz.prog Rows.fnExactFindFieldRow.laid w) false (laidWorld os) #[.slice none 0 0, .string ⟨#[]⟩, .string ⟨#[]⟩, .string ⟨#[]⟩] 8 rfl (by kernel_rfl) (by kernel_rfl) (by kernel_rfl) (by kernel_rfl) (by kernel_rfl) (laidWorld_met os _)) ?_
 intro W base args ds gs before hval0 hW _ _ hL _
 have hval : ∀ (j : Nat) t v, Tryz.f4.params[j]? = some t → args[j]? = some v → Value.okWide Tryz.prog W .any base t v := hval0
 have hW' := hW
 obtain ⟨p, q, hA0, hV0, rfl, hfz, hnd⟩ := hW
 have hA : DataW.TrodAll enc Tryz.prog W 0 (fun _ => true) true Tryz.f4.params.toList args.toList ds p := hA0
 have hV : DataW.TrodVars enc Tryz.prog W (fun _ => true) ["loop.example/g00175/impl.opTable"] gs q := hV0
 rw [Tryz.params4] at hA hval
 obtain ⟨v0, vs0, d0, ds0, p0, q0, hargs, rfl, rfl, h0, r0⟩ := trodAll_cons hA
 obtain ⟨v1, vs1, d1, ds1, p1, q1, rfl, rfl, rfl, h1, r1⟩ := trodAll_cons r0
 obtain ⟨v2, vs2, d2, ds2, p2, q2, rfl, rfl, rfl, h2, r2⟩ := trodAll_cons r1
 obtain ⟨v3, vs3, d3, ds3, p3, q3, rfl, rfl, rfl, h3, r3⟩ := trodAll_cons r2
 obtain ⟨rfl, rfl, rfl⟩ := trodAll_nil r3
 obtain rfl : args = #[v0, v1, v2, v3] := by cases args; simp_all
 have hVk := hV
 obtain ⟨vg, vt, vcs, vfuel, vd, vp, rfl, _, _, _, _, rfl⟩ := trodVars_one hV
 obtain ⟨htab, hglob⟩ := both_of_laid hL
 obtain ⟨a0, len0, cap0, rfl⟩ := okWide_slice Tryz.underlying22 (hval 0 22 v0 rfl rfl)
 have k0 := h0
 have lt0 : ∀ x ∈ p0, x.block < W.heap.size := by obtain ⟨m, hm⟩ := k0; exact DataW.trod_lt m _ _ _ hm
 obtain ⟨z0, w0⟩ : ∃ x, classR.slice.In W [.slice a0 len0 cap0] x := by
  obtain ⟨fuel, hf⟩ := h0
  exact opens_slice Tryz.underlying22 (by kernel_rfl) opensClass _ _ _ _ hf
 obtain ⟨a1, rfl, rfl, rfl, w1⟩ := open_string Tryz.underlying9 (hval 1 9 v1 rfl rfl) h1
 obtain ⟨a2, rfl, rfl, rfl, w2⟩ := open_string Tryz.underlying9 (hval 2 9 v2 rfl rfl) h2
 obtain ⟨a3, rfl, rfl, rfl, w3⟩ := open_string Tryz.underlying9 (hval 3 9 v3 rfl rfl) h3
 clear hA0 hval0
 refine (walk (.slice a0 len0 cap0) z0 a1 a2 a3 W w0 w1 w2 w3 htab hglob).mono fun e W' ⟨he, bel⟩ => ?_
 subst he
 exact ⟨_, rfl, _, _, _, [], _, _, hW', trodAll_mk1 (shut_bool Tryz.underlying4 _), (trodAll_cons_mk (Below.trod laidOut (by kernel_rfl) (of_decide_eq_true (by kernel_rfl)) k0 bel lt0) (trodAll_cons_mk (shut_string Tryz.underlying9 w1) (trodAll_cons_mk (shut_string Tryz.underlying9 w2) (trodAll_cons_mk (shut_string Tryz.underlying9 w3) trodAll_mk0)))), Below.trodVars laidOut bel (by kernel_rfl) hVk, bel.frame _, fun h => by cases h⟩

theorem over : Rows.fnExactFindFieldRow.holds Tryz.pinned (OpenSpec.ofChange Rows.fnExactFindFieldSpec) :=
 OpenClaim.holds_of_wide 4 Tryz.f4 rfl rfl rfl rfl rfl rfl rfl ⟨rfl, rfl, rfl, rfl, rfl⟩ rfl rfl rfl rfl rfl (by kernel_rfl) Tryz.func4 (by kernel_rfl)
  (of_decide_eq_true (by kernel_rfl)) (by unfold Func.isWrapper; first | (rw [if_pos (by decide +kernel)]; kernel_rfl) | (rw [if_neg (by decide +kernel)]; exact ⟨rfl, rfl⟩))
  (fun os started H enc _ => lifted os started H enc)

end Go.Proofs.YtmhgaggpdggbeaaGreatDoor.fnExactFindField
namespace Go.Proofs.YtmhgaggpdggbeaaGreatDoor
theorem fnExactFindField_holds : Rows.FnExactFindFieldCardSaid :=
 Claim7.holds_tied_plain_at .later [] [.handle, .data] true (true, "a9a61ffc67ae99f45bc6445069b36beb30fb85df5e4a4fc939723e9fa45922a0") true
  fnExactFindField.over (fun _ h => by cases h) (by kernel_rfl) (fun _ h => by cases h) fnExactFindField_row_tie rfl ⟨rfl, rfl⟩ (by kernel_rfl) rfl
  (fun f fn hf hfn => by
   obtain rfl : f = 4 := Option.some.inj ((show Tryz.prog.funcNamed "loop.example/g00175/laws.FnExactFindField" = some 4 by kernel_rfl).symm.trans hf) |>.symm
   obtain rfl : fn = Tryz.f4 := (Option.some.inj (Tryz.func4.symm.trans hfn)).symm
   exact ⟨by kernel_rfl, fun j t ht => by
    rw [Tryz.params4] at ht
    rcases j with _ | j
    ·obtain rfl : t = 22 := by simpa using ht.symm
     exact (show Tryz.prog.wantsStandIn 22 = false by kernel_rfl)
    ·skip
     rcases j with _ | j
     ·obtain rfl : t = 9 := by simpa using ht.symm
      exact (show Tryz.prog.wantsStandIn 9 = false by kernel_rfl)
     ·skip
      rcases j with _ | j
      ·obtain rfl : t = 9 := by simpa using ht.symm
       exact (show Tryz.prog.wantsStandIn 9 = false by kernel_rfl)
      ·skip
       rcases j with _ | j
       ·obtain rfl : t = 9 := by simpa using ht.symm
        exact (show Tryz.prog.wantsStandIn 9 = false by kernel_rfl)
       ·skip
        simp at ht⟩)
  (by kernel_rfl)
#print axioms fnExactFindField_holds
end Go.Proofs.YtmhgaggpdggbeaaGreatDoor
