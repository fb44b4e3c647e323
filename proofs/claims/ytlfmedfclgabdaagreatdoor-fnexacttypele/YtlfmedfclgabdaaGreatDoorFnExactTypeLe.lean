/-
 Whatever the list of classes and the two types, the law FnExactTypeLe returns true: the program's TypeLe answers as the model's does and leaves what it is handed as it was, and the arguments and the program's table read as they did before. The variables listed are errors.errorType and the program's table opTable, both tied to the program's text by the card.
-/
import Derived.Test.YtlfmedfclgabdaaGreatDoorRows
import Derived.Test.YtlfmedfclgabdaaGreatDoorCards
import Derived.Test.YtlfmedfclgabdaaGreatDoorTie
import Derived.WalkKit
import Derived.ProofKit
import Derived.OpenShut
import Derived.ShutString
import Derived.ChangeOld
import Derived.Below
import Derived.Carry
import Derived.OpenVars
import Derived.ChangeSame
import Derived.ChangeVars
import Derived.JoinedOf
import Derived.RowKit
import Derived.RowKitTokens
import Derived.LaidLaws
import Derived.LaidHandle
import Derived.LaidMore
import Derived.Stop.Joined
import Derived.SevenTiedAt
import Derived.Test.YtlfmedfclgabdaaGreatDoorLi
import Derived.Test.YtlfmedfclgabdaaGreatDoorLj
import Derived.Test.YtlfmedfclgabdaaGreatDoorTy
import Derived.Test.YtlfmedfclgabdaaGreatDoorWlaw
import Derived.Test.YtlfmedfclgabdaaGreatDoorWdT
namespace Go.Proofs.YtlfmedfclgabdaaGreatDoor.fnExactTypeLe
open Go.ChangeShapes Go.WideShapes Go.ChangeAt Go.RowKit
open Go.ChangeMaps (open_string shut_string)
set_option linter.unusedVariables false

theorem own : ownKnob Tryz.prog.godebug = none := by kernel_rfl
theorem laidOut : laidOutB Tryz.prog = true := by kernel_rfl
theorem ot : Tryz.prog.globalNamed "loop.example/g00175/impl.opTable" = some 1 := by kernel_rfl
theorem otT : (Tryz.prog.globals[1]?).map (·.type) = some 264 := by kernel_rfl
theorem c1 : Tryz.prog.cellsOf 262 = 2 := by kernel_rfl
theorem c2 : Tryz.prog.cellsOf 9 = 1 := by kernel_rfl

theorem tab_datum {H : Type} : (Rows.laid_loop_example_g00175_impl_opTable : DataW H) = .agg ((List.range 45).map fun i : Nat => .agg [.lit (.string (nmS (i : Int)).data.toList), .lit (.string (fmS (i : Int)).data.toList)]) := by kernel_rfl

theorem bytes_of {a b : ByteArray} (h : a.data.toList = b.data.toList) : a = b := by
 obtain ⟨⟨x⟩⟩ := a
 obtain ⟨⟨y⟩⟩ := b
 simp at h
 rw [h]

theorem tab_of_data {W : World} (h : laidMet Tryz.prog [("loop.example/g00175/impl.opTable", Rows.laid_loop_example_g00175_impl_opTable)] W) : Tab W := by
 obtain ⟨ps, ⟨g, t, cs, fuel, p, q, hg, ht, hvar, hd, _, _⟩, _⟩ := h
 obtain rfl := Option.some.inj (ot.symm.trans hg)
 obtain rfl := Option.some.inj (otT.symm.trans ht)
 rw [tab_datum] at hd
 obtain ⟨xs, m, _, hx, hlen, hn, hel⟩ := DataW.trod_array Tryz.underlying264 hd
 simp only [Prod.mk.injEq, DataW.agg.injEq] at hx
 intro i hi
 have h1 := hel i hi
 rw [c1] at h1
 have h2 : (xs.map (·.1))[i]? = some (.agg [.lit (.string (nmS (i : Int)).data.toList), .lit (.string (fmS (i : Int)).data.toList)]) := by
  rw [← hx.1, List.getElem?_map, List.getElem?_range hi]; rfl
 rw [List.getElem?_map] at h2
 obtain ⟨y, hy, hy2⟩ := Option.map_eq_some_iff.1 h2
 rw [hy] at h1
 obtain ⟨ys, k, _, hys, hcl, hyl, hfs⟩ := DataW.trod_struct Tryz.underlying262 h1
 have e0 := hfs 0 _ rfl
 have e1 := hfs 1 _ rfl
 have hyl2 : ys.length = 2 := hyl
 match ys, hyl2, hys, e0, e1 with
 | [y0, y1], _, hys, e0, e1 =>
  simp only [List.getElem?_cons_zero, List.getElem?_cons_succ] at e0 e1
  obtain ⟨s0, k0, d0, _⟩ := DataW.trod_string Tryz.underlying9 e0
  obtain ⟨s1, k1, d1, _⟩ := DataW.trod_string Tryz.underlying9 e1
  rw [hys] at hy2
  simp only [List.map_cons, List.map_nil, DataW.agg.injEq, List.cons.injEq, and_true] at hy2
  rw [d0, d1] at hy2
  simp only [DataW.lit.injEq, Lit.string.injEq] at hy2
  have q0 : s0 = nmS (i : Int) := bytes_of hy2.1
  have q1 : s1 = fmS (i : Int) := bytes_of hy2.2
  subst q0 q1
  have r0 := congrArg (fun l : List Value => l[0]?) k0
  have r1 := congrArg (fun l : List Value => l[0]?) k1
  have z0 : Tryz.prog.cellsOf (9) = 1 := c2
  constructor
  ·have := World.var?_cell hg hvar (2 * i)
   rw [this, ← Array.getElem?_toList]
   simpa [List.getElem?_take, List.getElem?_drop, c2, Nat.mul_comm] using r0
  ·have := World.var?_cell hg hvar (2 * i + 1)
   rw [this, ← Array.getElem?_toList]
   simpa [List.getElem?_take, List.getElem?_drop, c2, Nat.mul_comm] using r1

theorem et : Tryz.prog.globalNamed "errors.errorType" = some 0 := by kernel_rfl
theorem rt : (Tryz.prog.cutTypes.find? (·.1 == "internal/reflectlite.rtype")).map (·.2) = some 241 := by kernel_rfl
theorem oneRow : ((List.range 294).filter fun t => Tryz.prog.rowNamed t [101, 114, 114, 111, 114]) = [183] := by kernel_rfl
theorem typesSize : Tryz.prog.types.size = 294 := by kernel_rfl
theorem both_of_laid {W : World} (h : laidMetH Tryz.prog Rows.fnExactTypeLeRow.laid W) : Tab W ∧ Glob W := by
 have h' : laidMet Tryz.prog [("loop.example/g00175/impl.opTable", Rows.laid_loop_example_g00175_impl_opTable)] W ∧ handlesMet Tryz.prog [("errors.errorType", Rows.laid_errors_errorType)] W := h
 refine ⟨tab_of_data h'.1, ?_⟩
 obtain ⟨name, u, ty, e1, e2, e3, e4, e5⟩ := h'.2 _ (List.mem_singleton.2 rfl)
 have en : name = [101, 114, 114, 111, 114] := (Option.some.inj e1).symm
 subst en
 obtain rfl := Option.some.inj (rt.symm.trans e2)
 have hm : ty ∈ (List.range 294).filter fun t => Tryz.prog.rowNamed t [101, 114, 114, 111, 114] := List.mem_filter.2 ⟨List.mem_range.2 (by rw [← typesSize]; exact e3), e4⟩
 rw [oneRow] at hm
 obtain rfl := List.mem_singleton.1 hm
 have hh : typeHandle Tryz.prog 183 = .pointer (some ⟨2, 183, none⟩) := by kernel_rfl
 rw [hh] at e5
 simpa [Glob] using World.var?_cell et e5 0

noncomputable def laidWorld (os : Os) : World :=
 let w0 := World.holding Tryz.prog os ⟨#[], #[], []⟩
 { w0 with heap := (w0.heap.modify 0 fun
   | .cells _ t frozen => .cells #[.iface 241 (.agg #[.pointer (some ⟨2, 183, none⟩)])] t frozen
   | o => o).modify 1 fun
   | .cells _ t frozen => .cells ((List.range 90).map fun j : Nat => .string (if j % 2 = 0 then nmS ((j / 2 : Nat) : Int) else fmS ((j / 2 : Nat) : Int))).toArray t frozen
   | o => o }
theorem laidWorld_met (os : Os) (args : Array Value) : laidMetH Tryz.prog Rows.fnExactTypeLeRow.laid ((laidWorld os).forCall (fun _ _ => 0) ⟨#[], args, []⟩).memory :=
 laidMetH_of_parts (laidMet_of_run' 8 (by kernel_rfl) (by kernel_rfl)) (by kernel_rfl)

set_option maxHeartbeats 8000000 in
theorem walk (v : Value) (L : List CTup) (csa : Array Value) (xa : Int × ByteArray × Int) (csb : Array Value) (xb : Int × ByteArray × Int) (w : World) (hx : classR.slice.In w [v] L) (hya : typeR.In w csa.toList xa) (hyb : typeR.In w csb.toList xb) (ht : Tab w) (hg : Glob w) :
  Calls Tryz.prog 3 #[v, .agg csa, .agg csb] w fun e w' => e = .returned (.bool true) ∧ Below w.heap.size w w' := by
 obtain ⟨csa⟩ := csa
 obtain ⟨csb⟩ := csb
 obtain ⟨k, c, x⟩ := xa
 obtain ⟨l, d, y⟩ := xb
 obtain ⟨_, _, hcs, ⟨rfl, h0⟩, ⟨_, _, rfl, ⟨rfl, s2⟩, ⟨rfl, h3⟩⟩⟩ := hya
 obtain ⟨_, _, hcs2, ⟨rfl, g0⟩, ⟨_, _, rfl, ⟨rfl, t2⟩, ⟨rfl, g3⟩⟩⟩ := hyb
 simp only at hcs h0 s2 h3 hcs2 g0 t2 g3
 subst hcs hcs2
 have ha : twL (k, c, x) := ⟨h0, s2, h3⟩
 have hb : twL (l, d, y) := ⟨g0, t2, g3⟩
 have HSz : Hid (∀ w', Below w.heap.size w w' → Calls Tryz.prog 8 #[v, .int .i64 1048576] w' fun e w2 => e = .returned (.int .i64 (szB (L.length + cSum L L.length) 1048576)) ∧ Below w'.heap.size w' w2) := fun w' hb => lawSzClassS v L 1048576 w' (classR.slice.mono _ _ _ _ hb hx) (by omega)
 have HTo : Hid (¬ szB (L.length + cSum L L.length) 1048576 < 0 → ∀ w', Below w.heap.size w w' → Calls Tryz.prog 11 #[v] w' fun e w2 => ∃ a k c, e = .returned (.slice a k c) ∧ Below w'.heap.size w' w2 ∧ classR.slice.In w2 [.slice a k c] L) := fun h w' hb => by
  refine Calls.mono (lawToClassS v L w' (classR.slice.mono _ _ _ _ hb hx) (sz_lens h).1 (sz_lens h).2) ?_
  rintro e w2 ⟨u, rfl, h1, h2⟩
  obtain ⟨a, cap, rfl, _⟩ := slice_open (by decide) h2
  exact ⟨_, _, _, rfl, h1, h2⟩
 have HTy : Hid (∀ w, Calls Tryz.prog 12 #[.agg #[.int .i64 k, .string c, .int .i64 x]] w fun e w' => e = .returned (.agg #[.int .i64 k, .string c, .int .i64 x]) ∧ Below w.heap.size w w') := fun w => lawToType k x c w
 have HTz : Hid (∀ w, Calls Tryz.prog 12 #[.agg #[.int .i64 l, .string d, .int .i64 y]] w fun e w' => e = .returned (.agg #[.int .i64 l, .string d, .int .i64 y]) ∧ Below w.heap.size w w') := fun w => lawToType l y d w
 have HS : Hid (∀ w' u, classR.slice.In w' [u] L → Calls Tryz.prog 10 #[u, .agg #[.int .i64 k, .string c, .int .i64 x], .agg #[.int .i64 l, .string d, .int .i64 y]] w' fun e w2 => e = .returned (.bool (leT L (k, c, x) (l, d, y))) ∧ Below w'.heap.size w' w2) := fun w' u h => specTypeLe L u (k, c, x) (l, d, y) w' h ha hb
 have HI : Hid (∀ w' u, Below w.heap.size w w' → classR.slice.In w' [u] L → Calls Tryz.prog 13 #[u, .agg #[.int .i64 k, .string c, .int .i64 x], .agg #[.int .i64 l, .string d, .int .i64 y]] w' fun e w2 => e = .returned (.bool (leT L (k, c, x) (l, d, y))) ∧ Below w'.heap.size w' w2) := fun w' u hb' h => implTypeLe L u (k, c, x) (l, d, y) w' h ha hb (ht.mono hb') (hg.mono hb')
 have HE : Hid (∀ w' u y, classR.slice.In w' [u] L → classR.slice.In w' [y] L → Calls Tryz.prog 14 #[u, y] w' fun e w2 => e = .returned (.bool true) ∧ Below w'.heap.size w' w2) := fun w' u y h1 h2 => lawEqClassS u y L w' h1 h2
 have HSa : Hid (∀ left w, 0 ≤ left ∧ left ≤ 1048576 → Calls Tryz.prog 9 #[.agg #[.int .i64 k, .string c, .int .i64 x], .int .i64 left] w fun e w' => e = .returned (.int .i64 (if left - (c.size : Int) < 0 then -1 else left - (c.size : Int))) ∧ Below w.heap.size w w') := fun left w h => lawSzType k x c left w s2 h
 have HSb : Hid (∀ left w, 0 ≤ left ∧ left ≤ 1048576 → Calls Tryz.prog 9 #[.agg #[.int .i64 l, .string d, .int .i64 y], .int .i64 left] w fun e w' => e = .returned (.int .i64 (if left - (d.size : Int) < 0 then -1 else left - (d.size : Int))) ∧ Below w.heap.size w w') := fun left w h => lawSzType l y d left w t2 h
 have hle : szB (L.length + cSum L L.length) 1048576 ≤ 1048576 := by unfold szB; split <;> omega
 obtain ⟨va, vcap, rfl, _⟩ := slice_open (by decide) hx
 generalize leT L (k, c, x) (l, d, y) = res at *
 generalize szB (L.length + cSum L L.length) 1048576 = left at *
 clear hx ht hg h0 s2 h3 g0 t2 g3 ha hb
 by_cases hl : left < 0
 ·have dl : decide (left < 0) = true := by simpa using hl
  go_enter Tryz.func3, Tryz.ntmps3
  go_wp2_with fail
  refine Calls.mono (HSz.out _ (below_al2 w _ _)) ?_
  rintro e w1 ⟨rfl, hb1⟩
  have HB1 : Hid (Below w.heap.size w w1) := (below_al2 w _ _).trans (hb1.mono (by simp <;> omega))
  clear hb1
  go_wp2
  go_ret
  exact ⟨rfl, HB1.out⟩
 have dl : decide (left < 0) = false := by simpa using hl
 have HT := (show Hid _ from HTo.out hl)
 have HS1 := (show Hid _ from fun w' => HSa.out left w' (by omega))
 by_cases hc : left - (c.size : Int) < 0
 ·have HR : Hid ((if left - (c.size : Int) < 0 then -1 else left - (c.size : Int)) = -1) := if_pos hc
  clear hc HSa HSb HTo
  go_enter Tryz.func3, Tryz.ntmps3
  go_wp2_with fail
  refine Calls.mono (HSz.out _ (below_al2 w _ _)) ?_
  rintro e w1 ⟨rfl, hb1⟩
  have a0 : w1.cell? ⟨w.heap.size, 0, none⟩ = some (.int .i64 k) := carry hb1 (by simp <;> omega) (by simp [go_sem])
  have a1 : w1.cell? ⟨w.heap.size, 1, none⟩ = some (.string c) := carry hb1 (by simp <;> omega) (by simp [go_sem])
  have a2 : w1.cell? ⟨w.heap.size, 2, none⟩ = some (.int .i64 x) := carry hb1 (by simp <;> omega) (by simp [go_sem])
  have HB1 : Hid (Below w.heap.size w w1) := (below_al2 w _ _).trans (hb1.mono (by simp <;> omega))
  clear hb1
  go_wp2_with fail
  refine Calls.mono (HS1.out _) ?_
  rintro e w2 ⟨rfl, hb2⟩
  rw [HR.out]
  have HB2 : Hid (Below w.heap.size w w2) := HB1.out.trans (hb2.mono HB1.out.size)
  clear hb2
  go_wp2
  go_ret
  exact ⟨rfl, HB2.out⟩
 have HR : Hid ((if left - (c.size : Int) < 0 then -1 else left - (c.size : Int)) = left - (c.size : Int)) := if_neg hc
 have dc : decide (left - (c.size : Int) < 0) = false := by simpa using hc
 have HS2 := (show Hid _ from fun w' => HSb.out (left - (c.size : Int)) w' (by omega))
 by_cases he : left - (c.size : Int) - (d.size : Int) < 0
 ·have HQ : Hid ((if left - (c.size : Int) - (d.size : Int) < 0 then -1 else left - (c.size : Int) - (d.size : Int)) = -1) := if_pos he
  clear hc he HSa HSb HTo
  go_enter Tryz.func3, Tryz.ntmps3
  go_wp2_with fail
  refine Calls.mono (HSz.out _ (below_al2 w _ _)) ?_
  rintro e w1 ⟨rfl, hb1⟩
  have a0 : w1.cell? ⟨w.heap.size, 0, none⟩ = some (.int .i64 k) := carry hb1 (by simp <;> omega) (by simp [go_sem])
  have a1 : w1.cell? ⟨w.heap.size, 1, none⟩ = some (.string c) := carry hb1 (by simp <;> omega) (by simp [go_sem])
  have a2 : w1.cell? ⟨w.heap.size, 2, none⟩ = some (.int .i64 x) := carry hb1 (by simp <;> omega) (by simp [go_sem])
  have b0 : w1.cell? ⟨w.heap.size + 1, 0, none⟩ = some (.int .i64 l) := carry hb1 (by simp <;> omega) (by simp [go_sem])
  have b1 : w1.cell? ⟨w.heap.size + 1, 1, none⟩ = some (.string d) := carry hb1 (by simp <;> omega) (by simp [go_sem])
  have b2 : w1.cell? ⟨w.heap.size + 1, 2, none⟩ = some (.int .i64 y) := carry hb1 (by simp <;> omega) (by simp [go_sem])
  have HB1 : Hid (Below w.heap.size w w1) := (below_al2 w _ _).trans (hb1.mono (by simp <;> omega))
  have hz1 : w.heap.size + 1 < w1.heap.size := World.block_lt_of_cell? _ ⟨w.heap.size + 1, 0, none⟩ b0
  clear hb1
  go_wp2_with fail
  refine Calls.mono (HS1.out _) ?_
  rintro e w2 ⟨rfl, hb2⟩
  rw [HR.out]
  have HB2 : Hid (Below w.heap.size w w2) := HB1.out.trans (hb2.mono HB1.out.size)
  replace a0 := carry hb2 (by show w.heap.size < _; omega) a0
  replace a1 := carry hb2 (by show w.heap.size < _; omega) a1
  replace a2 := carry hb2 (by show w.heap.size < _; omega) a2
  replace b0 := carry hb2 (by show w.heap.size + 1 < _; omega) b0
  replace b1 := carry hb2 (by show w.heap.size + 1 < _; omega) b1
  replace b2 := carry hb2 (by show w.heap.size + 1 < _; omega) b2
  clear hb2
  go_wp2_with fail
  refine Calls.mono (HS2.out _) ?_
  rintro e w3 ⟨rfl, hb3⟩
  rw [HQ.out]
  have HB3 : Hid (Below w.heap.size w w3) := HB2.out.trans (hb3.mono HB2.out.size)
  clear hb3
  go_wp2
  go_ret
  exact ⟨rfl, HB3.out⟩
 have HQ : Hid ((if left - (c.size : Int) - (d.size : Int) < 0 then -1 else left - (c.size : Int) - (d.size : Int)) = left - (c.size : Int) - (d.size : Int)) := if_neg he
 have de : decide (left - (c.size : Int) - (d.size : Int) < 0) = false := by simpa using he
 clear hc he hl hle HSa HSb HTo
 go_enter Tryz.func3, Tryz.ntmps3
 go_wp2_with fail
 refine Calls.mono (HSz.out _ (below_al2 w _ _)) ?_
 rintro e w1 ⟨rfl, hb1⟩
 have a0 : w1.cell? ⟨w.heap.size, 0, none⟩ = some (.int .i64 k) := carry hb1 (by simp <;> omega) (by simp [go_sem])
 have a1 : w1.cell? ⟨w.heap.size, 1, none⟩ = some (.string c) := carry hb1 (by simp <;> omega) (by simp [go_sem])
 have a2 : w1.cell? ⟨w.heap.size, 2, none⟩ = some (.int .i64 x) := carry hb1 (by simp <;> omega) (by simp [go_sem])
 have b0 : w1.cell? ⟨w.heap.size + 1, 0, none⟩ = some (.int .i64 l) := carry hb1 (by simp <;> omega) (by simp [go_sem])
 have b1 : w1.cell? ⟨w.heap.size + 1, 1, none⟩ = some (.string d) := carry hb1 (by simp <;> omega) (by simp [go_sem])
 have b2 : w1.cell? ⟨w.heap.size + 1, 2, none⟩ = some (.int .i64 y) := carry hb1 (by simp <;> omega) (by simp [go_sem])
 have HB1 : Hid (Below w.heap.size w w1) := (below_al2 w _ _).trans (hb1.mono (by simp <;> omega))
 have hz1 : w.heap.size + 1 < w1.heap.size := World.block_lt_of_cell? _ ⟨w.heap.size + 1, 0, none⟩ b0
 clear hb1
 go_wp2_with fail
 refine Calls.mono (HS1.out _) ?_
 rintro e w2 ⟨rfl, hb2⟩
 rw [HR.out]
 have HB2 : Hid (Below w.heap.size w w2) := HB1.out.trans (hb2.mono HB1.out.size)
 replace a0 := carry hb2 (by show w.heap.size < _; omega) a0
 replace a1 := carry hb2 (by show w.heap.size < _; omega) a1
 replace a2 := carry hb2 (by show w.heap.size < _; omega) a2
 replace b0 := carry hb2 (by show w.heap.size + 1 < _; omega) b0
 replace b1 := carry hb2 (by show w.heap.size + 1 < _; omega) b1
 replace b2 := carry hb2 (by show w.heap.size + 1 < _; omega) b2
 have hz2 : w.heap.size + 1 < w2.heap.size := Nat.lt_of_lt_of_le hz1 hb2.size
 clear hb2
 go_wp2_with fail
 refine Calls.mono (HS2.out _) ?_
 rintro e w3 ⟨rfl, hb3⟩
 rw [HQ.out]
 have HB3 : Hid (Below w.heap.size w w3) := HB2.out.trans (hb3.mono HB2.out.size)
 replace a0 := carry hb3 (by show w.heap.size < _; omega) a0
 replace a1 := carry hb3 (by show w.heap.size < _; omega) a1
 replace a2 := carry hb3 (by show w.heap.size < _; omega) a2
 replace b0 := carry hb3 (by show w.heap.size + 1 < _; omega) b0
 replace b1 := carry hb3 (by show w.heap.size + 1 < _; omega) b1
 replace b2 := carry hb3 (by show w.heap.size + 1 < _; omega) b2
 have hz3 : w.heap.size + 1 < w3.heap.size := Nat.lt_of_lt_of_le hz2 hb3.size
 clear hb3 hz1 hz2 HSz HS1 HS2 HR HQ
 have HSX : Hid (∀ w', Below w3.heap.size w3 w' → w'.cell? ⟨w.heap.size, 0, none⟩ = some (.int .i64 k) ∧ w'.cell? ⟨w.heap.size, 1, none⟩ = some (.string c) ∧ w'.cell? ⟨w.heap.size, 2, none⟩ = some (.int .i64 x) ∧ w'.cell? ⟨w.heap.size + 1, 0, none⟩ = some (.int .i64 l) ∧ w'.cell? ⟨w.heap.size + 1, 1, none⟩ = some (.string d) ∧ w'.cell? ⟨w.heap.size + 1, 2, none⟩ = some (.int .i64 y) ∧ Below w3.heap.size w3 w') := fun w' hb => ⟨carry hb (by show w.heap.size < _; omega) a0, carry hb (by show w.heap.size < _; omega) a1, carry hb (by show w.heap.size < _; omega) a2, carry hb (by show w.heap.size + 1 < _; omega) b0, carry hb (by show w.heap.size + 1 < _; omega) b1, carry hb (by show w.heap.size + 1 < _; omega) b2, hb⟩
 clear a0 a1 a2 b0 b1 b2
 go_wp2_with fail
 refine wp_region_held_drew (S := fun w' => w'.cell? ⟨w.heap.size, 0, none⟩ = some (.int .i64 k) ∧ w'.cell? ⟨w.heap.size, 1, none⟩ = some (.string c) ∧ w'.cell? ⟨w.heap.size, 2, none⟩ = some (.int .i64 x) ∧ w'.cell? ⟨w.heap.size + 1, 0, none⟩ = some (.int .i64 l) ∧ w'.cell? ⟨w.heap.size + 1, 1, none⟩ = some (.string d) ∧ w'.cell? ⟨w.heap.size + 1, 2, none⟩ = some (.int .i64 y) ∧ Below w3.heap.size w3 w') (by kernel_rfl) (HSX.out _ (Below.refl _ _).drew) (fun hHeld => ?_)
 refine tkI 0 rfl (by intro w hSw; (try dsimp only at hSw); go_simp; try with_reducible rfl) hHeld ?_
 (try simp only [Act.put, List.getElem_toArray, List.getElem_cons_zero, List.setIfInBounds_toArray, List.set_cons_zero, List.set_cons_succ])
 refine tkI 2 rfl (by intro w hSw; (try dsimp only at hSw); go_simp; try with_reducible rfl) hHeld ?_
 (try simp only [Act.put, List.getElem_toArray, List.getElem_cons_zero, List.getElem_cons_succ, List.setIfInBounds_toArray, List.set_cons_zero, List.set_cons_succ])
 refine tkI 4 rfl (by intro w hSw; (try dsimp only at hSw); go_simp; try with_reducible rfl) hHeld ?_
 (try simp only [Act.put, List.getElem_toArray, List.getElem_cons_zero, List.getElem_cons_succ, List.setIfInBounds_toArray, List.set_cons_zero, List.set_cons_succ])
 refine wpAnyH_ready (rs := [1]) (by kernel_rfl) (by simp) ?_
 refine AllReadyH.cons rfl (fun K hK => ?_) AllReadyH.nil
 simp only [List.getElem_toArray, List.getElem_cons_zero, List.getElem_cons_succ]
 go_simp
 refine Calls.mono (HT.out _ (HB3.out.trans ((Below.refl _ _).drew.mono HB3.out.size))) ?_
 rintro e w4 ⟨a4, k4, c4, rfl, hb4, i4⟩
 have hB4 : Below w3.heap.size w3 w4 := (Below.refl _ _).drew.trans hb4
 refine hK.out _ _ (HSX.out _ hB4) (fun hHeld => ?_)
 clear hK K
 (try simp only [Act.put, List.getElem_toArray, List.getElem_cons_zero, List.getElem_cons_succ, List.setIfInBounds_toArray, List.set_cons_zero, List.set_cons_succ])
 refine wpAnyH_ready (rs := [3]) (by kernel_rfl) (by simp) ?_
 refine AllReadyH.cons rfl (fun K hK => ?_) AllReadyH.nil
 simp only [List.getElem_toArray, List.getElem_cons_zero, List.getElem_cons_succ]
 go_simp
 refine Calls.mono (HTy.out _) ?_
 rintro e w5 ⟨rfl, hb5⟩
 have hB5 : Below w3.heap.size w3 w5 := hB4.trans (hb5.mono hB4.size)
 refine hK.out _ _ (HSX.out _ hB5) (fun hHeld => ?_)
 clear hK K
 (try simp only [Act.put, List.getElem_toArray, List.getElem_cons_zero, List.getElem_cons_succ, List.setIfInBounds_toArray, List.set_cons_zero, List.set_cons_succ])
 refine wpAnyH_ready (rs := [5]) (by kernel_rfl) (by simp) ?_
 refine AllReadyH.cons rfl (fun K hK => ?_) AllReadyH.nil
 simp only [List.getElem_toArray, List.getElem_cons_zero, List.getElem_cons_succ]
 go_simp
 refine Calls.mono (HTz.out _) ?_
 rintro e w6 ⟨rfl, hb6⟩
 have hB6 : Below w3.heap.size w3 w6 := hB5.trans (hb6.mono hB5.size)
 refine hK.out _ _ (HSX.out _ hB6) (fun hHeld => ?_)
 clear hK K
 (try simp only [Act.put, List.getElem_toArray, List.getElem_cons_zero, List.getElem_cons_succ, List.setIfInBounds_toArray, List.set_cons_zero, List.set_cons_succ])
 refine wpAnyH_ready (rs := [6]) (by kernel_rfl) (by simp) ?_
 refine AllReadyH.cons rfl (fun K hK => ?_) AllReadyH.nil
 simp only [List.getElem_toArray, List.getElem_cons_zero, List.getElem_cons_succ]
 go_simp
 refine Calls.mono (HS.out _ _ (classR.slice.mono _ _ _ _ (hb5.trans (hb6.mono hb5.size)) i4)) ?_
 rintro e w7 ⟨rfl, hb7⟩
 have hB7 : Below w3.heap.size w3 w7 := hB6.trans (hb7.mono hB6.size)
 refine hK.out _ _ (HSX.out _ hB7) (fun hHeld => ?_)
 clear hK K
 (try simp only [Act.put, List.getElem_toArray, List.getElem_cons_zero, List.getElem_cons_succ, List.setIfInBounds_toArray, List.set_cons_zero, List.set_cons_succ])
 refine tkI 7 rfl (by intro w hSw; (try dsimp only at hSw); go_simp; try with_reducible rfl) hHeld ?_
 (try simp only [Act.put, List.getElem_toArray, List.getElem_cons_zero, List.getElem_cons_succ, List.setIfInBounds_toArray, List.set_cons_zero, List.set_cons_succ])
 refine wpAnyH_done (by kernel_rfl) ?_ _
 have HB7 : Hid (Below w.heap.size w w7) := HB3.out.trans (hB7.mono HB3.out.size)
 obtain ⟨a0, a1, a2, b0, b1, b2, _⟩ := HSX.out _ hB7
 have hz7 : w.heap.size + 1 < w7.heap.size := World.block_lt_of_cell? _ ⟨w.heap.size + 1, 0, none⟩ b0
 clear HSX hHeld hB4 hB5 hB6 hB7 hb4 hb5 hb6 hb7 i4
 go_wp2_with fail
 refine Calls.mono (HT.out _ HB7.out) ?_
 rintro e w8 ⟨a8, k8, c8, rfl, hb8, i8⟩
 have HB8 : Hid (Below w.heap.size w w8) := HB7.out.trans (hb8.mono HB7.out.size)
 replace a0 := carry hb8 (by show w.heap.size < _; omega) a0
 replace a1 := carry hb8 (by show w.heap.size < _; omega) a1
 replace a2 := carry hb8 (by show w.heap.size < _; omega) a2
 replace b0 := carry hb8 (by show w.heap.size + 1 < _; omega) b0
 replace b1 := carry hb8 (by show w.heap.size + 1 < _; omega) b1
 replace b2 := carry hb8 (by show w.heap.size + 1 < _; omega) b2
 have hz8 : w.heap.size + 1 < w8.heap.size := Nat.lt_of_lt_of_le hz7 hb8.size
 have HI8 := (show Hid _ from i8)
 clear hb8 i8 hz7
 have HSX : Hid (∀ w', Below w8.heap.size w8 w' → w'.cell? ⟨w.heap.size, 0, none⟩ = some (.int .i64 k) ∧ w'.cell? ⟨w.heap.size, 1, none⟩ = some (.string c) ∧ w'.cell? ⟨w.heap.size, 2, none⟩ = some (.int .i64 x) ∧ w'.cell? ⟨w.heap.size + 1, 0, none⟩ = some (.int .i64 l) ∧ w'.cell? ⟨w.heap.size + 1, 1, none⟩ = some (.string d) ∧ w'.cell? ⟨w.heap.size + 1, 2, none⟩ = some (.int .i64 y) ∧ Below w8.heap.size w8 w') := fun w' hb => ⟨carry hb (by show w.heap.size < _; omega) a0, carry hb (by show w.heap.size < _; omega) a1, carry hb (by show w.heap.size < _; omega) a2, carry hb (by show w.heap.size + 1 < _; omega) b0, carry hb (by show w.heap.size + 1 < _; omega) b1, carry hb (by show w.heap.size + 1 < _; omega) b2, hb⟩
 clear a0 a1 a2 b0 b1 b2
 go_wp2_with fail
 refine wp_region_held_drew (S := fun w' => w'.cell? ⟨w.heap.size, 0, none⟩ = some (.int .i64 k) ∧ w'.cell? ⟨w.heap.size, 1, none⟩ = some (.string c) ∧ w'.cell? ⟨w.heap.size, 2, none⟩ = some (.int .i64 x) ∧ w'.cell? ⟨w.heap.size + 1, 0, none⟩ = some (.int .i64 l) ∧ w'.cell? ⟨w.heap.size + 1, 1, none⟩ = some (.string d) ∧ w'.cell? ⟨w.heap.size + 1, 2, none⟩ = some (.int .i64 y) ∧ Below w8.heap.size w8 w') (by kernel_rfl) (HSX.out _ (Below.refl _ _).drew) (fun hHeld => ?_)
 refine tkI 0 rfl (by intro w hSw; (try dsimp only at hSw); go_simp; try with_reducible rfl) hHeld ?_
 (try simp only [Act.put, List.getElem_toArray, List.getElem_cons_zero, List.setIfInBounds_toArray, List.set_cons_zero, List.set_cons_succ])
 refine tkI 1 rfl (by intro w hSw; (try dsimp only at hSw); go_simp; try with_reducible rfl) hHeld ?_
 (try simp only [Act.put, List.getElem_toArray, List.getElem_cons_zero, List.getElem_cons_succ, List.setIfInBounds_toArray, List.set_cons_zero, List.set_cons_succ])
 refine tkI 3 rfl (by intro w hSw; (try dsimp only at hSw); go_simp; try with_reducible rfl) hHeld ?_
 (try simp only [Act.put, List.getElem_toArray, List.getElem_cons_zero, List.getElem_cons_succ, List.setIfInBounds_toArray, List.set_cons_zero, List.set_cons_succ])
 refine wpAnyH_ready (rs := [2]) (by kernel_rfl) (by simp) ?_
 refine AllReadyH.cons rfl (fun K hK => ?_) AllReadyH.nil
 simp only [List.getElem_toArray, List.getElem_cons_zero, List.getElem_cons_succ]
 go_simp
 refine Calls.mono (HTy.out _) ?_
 rintro e w9 ⟨rfl, hb9⟩
 have hB9 : Below w8.heap.size w8 w9 := (Below.refl _ _).drew.trans hb9
 refine hK.out _ _ (HSX.out _ hB9) (fun hHeld => ?_)
 clear hK K
 (try simp only [Act.put, List.getElem_toArray, List.getElem_cons_zero, List.getElem_cons_succ, List.setIfInBounds_toArray, List.set_cons_zero, List.set_cons_succ])
 refine wpAnyH_ready (rs := [4]) (by kernel_rfl) (by simp) ?_
 refine AllReadyH.cons rfl (fun K hK => ?_) AllReadyH.nil
 simp only [List.getElem_toArray, List.getElem_cons_zero, List.getElem_cons_succ]
 go_simp
 refine Calls.mono (HTz.out _) ?_
 rintro e w10 ⟨rfl, hb10⟩
 have hB10 : Below w8.heap.size w8 w10 := hB9.trans (hb10.mono hB9.size)
 refine hK.out _ _ (HSX.out _ hB10) (fun hHeld => ?_)
 clear hK K
 (try simp only [Act.put, List.getElem_toArray, List.getElem_cons_zero, List.getElem_cons_succ, List.setIfInBounds_toArray, List.set_cons_zero, List.set_cons_succ])
 refine wpAnyH_ready (rs := [5]) (by kernel_rfl) (by simp) ?_
 refine AllReadyH.cons rfl (fun K hK => ?_) AllReadyH.nil
 simp only [List.getElem_toArray, List.getElem_cons_zero, List.getElem_cons_succ]
 go_simp
 refine Calls.mono (HI.out _ _ (HB8.out.trans (hB10.mono HB8.out.size)) (classR.slice.mono _ _ _ _ hB10 HI8.out)) ?_
 rintro e w11 ⟨rfl, hb11⟩
 have hB11 : Below w8.heap.size w8 w11 := hB10.trans (hb11.mono hB10.size)
 refine hK.out _ _ (HSX.out _ hB11) (fun hHeld => ?_)
 clear hK K
 (try simp only [Act.put, List.getElem_toArray, List.getElem_cons_zero, List.getElem_cons_succ, List.setIfInBounds_toArray, List.set_cons_zero, List.set_cons_succ])
 refine tkI 6 rfl (by intro w hSw; (try dsimp only at hSw); go_simp; try with_reducible rfl) hHeld ?_
 (try simp only [Act.put, List.getElem_toArray, List.getElem_cons_zero, List.getElem_cons_succ, List.setIfInBounds_toArray, List.set_cons_zero, List.set_cons_succ])
 refine wpAnyH_done (by kernel_rfl) ?_ _
 have HB11 : Hid (Below w.heap.size w w11) := HB8.out.trans (hB11.mono HB8.out.size)
 have HI11 := (show Hid _ from classR.slice.mono _ _ _ _ hB11 HI8.out)
 clear HSX hHeld hB9 hB10 hB11 hb9 hb10 hb11 HI8
 cases res
 all_goals
  go_wp2_with fail
  refine Calls.mono (HT.out _ HB11.out) ?_
  rintro e w12 ⟨a12, k12, c12, rfl, hb12, i12⟩
  have HB12 : Hid (Below w.heap.size w w12) := HB11.out.trans (hb12.mono HB11.out.size)
  have HI12 : Hid (classR.slice.In w12 [.slice a8 k8 c8] L ∧ classR.slice.In w12 [.slice a12 k12 c12] L) := ⟨classR.slice.mono _ _ _ _ hb12 HI11.out, i12⟩
  clear hb12 i12
  go_wp2_with fail
  refine Calls.mono (HE.out _ _ _ HI12.out.1 HI12.out.2) ?_
  rintro e w13 ⟨rfl, hb13⟩
  have HB13 : Hid (Below w.heap.size w w13) := HB12.out.trans (hb13.mono HB12.out.size)
  clear hb13
  go_wp2
  go_ret
  exact ⟨rfl, HB13.out⟩

set_option maxRecDepth 100000 in
theorem lifted (os : Os) (started : os.Started) (H : Type) (enc : TypeId × Value → H) :
  ReturnsInHanded {} Tryz.checked os 3 .any (fun w args => (Rows.fnExactTypeLeSpec.pre enc Tryz.prog Tryz.f3 [] false w args ∧ laidMetH Tryz.prog Rows.fnExactTypeLeRow.laid w) ∧ sizedMet enc Tryz.prog Tryz.f3 (OpenSpec.ofChange Rows.fnExactTypeLeSpec) false w args)
   (Rows.fnExactTypeLeSpec.post enc Tryz.prog Tryz.f3 false true false false) := by
 refine returnsInHanded_of_change_and (C := Tryz.checked) (X := fun w _ => laidMetH Tryz.prog Rows.fnExactTypeLeRow.laid w) (fun _ _ _ hh h => h.of_heap hh) own started (by kernel_rfl) Tryz.func3
  (ChangeSpec.witness_at (enc := enc) (C := Tryz.checked) (os := os) (X := fun w _ => laidMetH Tryz.prog Rows.fnExactTypeLeRow.laid w) false (laidWorld os) #[.slice none 0 0, .agg #[.int .i64 0, .string ⟨#[]⟩, .int .i64 0], .agg #[.int .i64 0, .string ⟨#[]⟩, .int .i64 0]] 8 rfl (by kernel_rfl) (by kernel_rfl) (by kernel_rfl) (by kernel_rfl) (by kernel_rfl) (laidWorld_met os _)) ?_
 intro W base args ds gs before hval0 hW _ _ hL _
 have hval : ∀ (j : Nat) t v, Tryz.f3.params[j]? = some t → args[j]? = some v → Value.okWide Tryz.prog W .any base t v := hval0
 have hW' := hW
 obtain ⟨p, q, hA0, hV0, rfl, hfz, hnd⟩ := hW
 have hA : DataW.TrodAll enc Tryz.prog W 0 (fun _ => true) true Tryz.f3.params.toList args.toList ds p := hA0
 have hV : DataW.TrodVars enc Tryz.prog W (fun _ => true) ["loop.example/g00175/impl.opTable"] gs q := hV0
 rw [Tryz.params3] at hA hval
 obtain ⟨v0, vs0, d0, ds0, p0, q0, hargs, rfl, rfl, h0, r0⟩ := trodAll_cons hA
 obtain ⟨v1, vs1, d1, ds1, p1, q1, rfl, rfl, rfl, h1, r1⟩ := trodAll_cons r0
 obtain ⟨v2, vs2, d2, ds2, p2, q2, rfl, rfl, rfl, h2, r2⟩ := trodAll_cons r1
 obtain ⟨rfl, rfl, rfl⟩ := trodAll_nil r2
 obtain rfl : args = #[v0, v1, v2] := by cases args; simp_all
 have hVk := hV
 obtain ⟨vg, vt, vcs, vfuel, vd, vp, rfl, _, _, _, _, rfl⟩ := trodVars_one hV
 obtain ⟨htab, hglob⟩ := both_of_laid hL
 obtain ⟨a0, len0, cap0, rfl⟩ := okWide_slice Tryz.underlying22 (hval 0 22 v0 rfl rfl)
 have k0 := h0
 have lt0 : ∀ x ∈ p0, x.block < W.heap.size := by obtain ⟨m, hm⟩ := k0; exact DataW.trod_lt m _ _ _ hm
 obtain ⟨z0, w0⟩ : ∃ x, classR.slice.In W [.slice a0 len0 cap0] x := by
  obtain ⟨fuel, hf⟩ := h0
  exact opens_slice Tryz.underlying22 (by kernel_rfl) opensClass _ _ _ _ hf
 have k1 := h1
 have lt1 : ∀ x ∈ p1, x.block < W.heap.size := by obtain ⟨m, hm⟩ := k1; exact DataW.trod_lt m _ _ _ hm
 obtain ⟨cs1, rfl, _⟩ := okWide_struct Tryz.underlying24 (hval 1 24 v1 rfl rfl)
 obtain ⟨a1, w1⟩ : ∃ x, typeR.In W cs1.toList x := by
  obtain ⟨fuel, hf⟩ := h1
  exact opensType _ _ _ _ hf
 have k2 := h2
 have lt2 : ∀ x ∈ p2, x.block < W.heap.size := by obtain ⟨m, hm⟩ := k2; exact DataW.trod_lt m _ _ _ hm
 obtain ⟨cs2, rfl, _⟩ := okWide_struct Tryz.underlying24 (hval 2 24 v2 rfl rfl)
 obtain ⟨a2, w2⟩ : ∃ x, typeR.In W cs2.toList x := by
  obtain ⟨fuel, hf⟩ := h2
  exact opensType _ _ _ _ hf
 clear hA0 hval0
 refine (walk (.slice a0 len0 cap0) z0 cs1 a1 cs2 a2 W w0 w1 w2 htab hglob).mono fun e W' ⟨he, bel⟩ => ?_
 subst he
 exact ⟨_, rfl, _, _, _, [], _, _, hW', trodAll_mk1 (shut_bool Tryz.underlying4 _), (trodAll_cons_mk (Below.trod laidOut (by kernel_rfl) (of_decide_eq_true (by kernel_rfl)) k0 bel lt0) (trodAll_cons_mk (Below.trod laidOut (by kernel_rfl) (of_decide_eq_true (by kernel_rfl)) k1 bel lt1) (trodAll_cons_mk (Below.trod laidOut (by kernel_rfl) (of_decide_eq_true (by kernel_rfl)) k2 bel lt2) trodAll_mk0))), Below.trodVars laidOut bel (by kernel_rfl) hVk, bel.frame _, fun h => by cases h⟩

theorem over : Rows.fnExactTypeLeRow.holds Tryz.pinned (OpenSpec.ofChange Rows.fnExactTypeLeSpec) :=
 OpenClaim.holds_of_wide 3 Tryz.f3 rfl rfl rfl rfl rfl rfl rfl ⟨rfl, rfl, rfl, rfl, rfl⟩ rfl rfl rfl rfl rfl (by kernel_rfl) Tryz.func3 (by kernel_rfl)
  (of_decide_eq_true (by kernel_rfl)) (by unfold Func.isWrapper; first | (rw [if_pos (by decide +kernel)]; kernel_rfl) | (rw [if_neg (by decide +kernel)]; exact ⟨rfl, rfl⟩))
  (fun os started H enc _ => lifted os started H enc)

end Go.Proofs.YtlfmedfclgabdaaGreatDoor.fnExactTypeLe
namespace Go.Proofs.YtlfmedfclgabdaaGreatDoor
theorem fnExactTypeLe_holds : Rows.FnExactTypeLeCardSaid :=
 Claim7.holds_tied_plain_at .later [] [.handle, .data] true (true, "db133836e6f88b13114f3e5bdd79779f3130e163d6bc78af380d3cbe97503de3") true
  fnExactTypeLe.over (fun _ h => by cases h) (by kernel_rfl) (fun _ h => by cases h) fnExactTypeLe_row_tie rfl ⟨rfl, rfl⟩ (by kernel_rfl) rfl
  (fun f fn hf hfn => by
   obtain rfl : f = 3 := Option.some.inj ((show Tryz.prog.funcNamed "loop.example/g00175/laws.FnExactTypeLe" = some 3 by kernel_rfl).symm.trans hf) |>.symm
   obtain rfl : fn = Tryz.f3 := (Option.some.inj (Tryz.func3.symm.trans hfn)).symm
   exact ⟨by kernel_rfl, fun j t ht => by
    rw [Tryz.params3] at ht
    rcases j with _ | j
    ·obtain rfl : t = 22 := by simpa using ht.symm
     exact (show Tryz.prog.wantsStandIn 22 = false by kernel_rfl)
    ·skip
     rcases j with _ | j
     ·obtain rfl : t = 24 := by simpa using ht.symm
      exact (show Tryz.prog.wantsStandIn 24 = false by kernel_rfl)
     ·skip
      rcases j with _ | j
      ·obtain rfl : t = 24 := by simpa using ht.symm
       exact (show Tryz.prog.wantsStandIn 24 = false by kernel_rfl)
      ·skip
       simp at ht⟩)
  (by kernel_rfl)
#print axioms fnExactTypeLe_holds
end Go.Proofs.YtlfmedfclgabdaaGreatDoor
