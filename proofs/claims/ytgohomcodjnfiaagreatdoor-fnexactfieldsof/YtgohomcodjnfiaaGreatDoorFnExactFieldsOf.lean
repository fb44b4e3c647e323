/-
 Whatever the list of classes and the name, the law FnExactFieldsOf returns true: the program's FieldsOf answers as the model's does, field by field; it leaves what it is handed as it was and keeps nothing of it; what it hands back is its own memory, which a later call leaves alone; the arguments and the program's table read as they did before. The variables listed are errors.errorType and the program's table opTable, both tied to the program's text by the card.
-/
import Derived.Test.YtgohomcodjnfiaaGreatDoorRows
import Derived.Test.YtgohomcodjnfiaaGreatDoorCards
import Derived.Test.YtgohomcodjnfiaaGreatDoorTie
import Derived.WalkKit
import Derived.ProofKit
import Derived.OpenShut
import Derived.ShutString
import Derived.ChangeOld
import Derived.Below
import Derived.Carry
import Derived.OpenVars
import Derived.ChangeSame
import Derived.ChangeVars
import Derived.JoinedOf
import Derived.RowKit
import Derived.RowKitTokens
import Derived.LaidLaws
import Derived.LaidHandle
import Derived.LaidMore
import Derived.Stop.Joined
import Derived.SevenTiedAt
import Derived.Test.YtgohomcodjnfiaaGreatDoorWfO
import Derived.Test.YtgohomcodjnfiaaGreatDoorFdL
import Derived.Test.YtgohomcodjnfiaaGreatDoorMkY
import Derived.Test.YtgohomcodjnfiaaGreatDoorWlaw
import Derived.Test.YtgohomcodjnfiaaGreatDoorWdT
import Derived.Test.YtgohomcodjnfiaaGreatDoorWxA
namespace Go.Proofs.YtgohomcodjnfiaaGreatDoor.fnExactFieldsOf
open Go.ChangeShapes Go.WideShapes Go.ChangeAt Go.RowKit
open Go.ChangeMaps (open_string shut_string)
set_option linter.unusedVariables false

theorem own : ownKnob Tryz.prog.godebug = none := by kernel_rfl
theorem laidOut : laidOutB Tryz.prog = true := by kernel_rfl
theorem ot : Tryz.prog.globalNamed "loop.example/g00175/impl.opTable" = some 1 := by kernel_rfl
theorem otT : (Tryz.prog.globals[1]?).map (·.type) = some 208 := by kernel_rfl
theorem c1 : Tryz.prog.cellsOf 206 = 2 := by kernel_rfl
theorem c2 : Tryz.prog.cellsOf 9 = 1 := by kernel_rfl

theorem tab_datum {H : Type} : (Rows.laid_loop_example_g00175_impl_opTable : DataW H) = .agg ((List.range 45).map fun i : Nat => .agg [.lit (.string (nmS (i : Int)).data.toList), .lit (.string (fmS (i : Int)).data.toList)]) := by kernel_rfl

theorem bytes_of {a b : ByteArray} (h : a.data.toList = b.data.toList) : a = b := by
 obtain ⟨⟨x⟩⟩ := a
 obtain ⟨⟨y⟩⟩ := b
 simp at h
 rw [h]

theorem tab_of_data {W : World} (h : laidMet Tryz.prog [("loop.example/g00175/impl.opTable", Rows.laid_loop_example_g00175_impl_opTable)] W) : Tab W := by
 obtain ⟨ps, ⟨g, t, cs, fuel, p, q, hg, ht, hvar, hd, _, _⟩, _⟩ := h
 obtain rfl := Option.some.inj (ot.symm.trans hg)
 obtain rfl := Option.some.inj (otT.symm.trans ht)
 rw [tab_datum] at hd
 obtain ⟨xs, m, _, hx, hlen, hn, hel⟩ := DataW.trod_array Tryz.underlying208 hd
 simp only [Prod.mk.injEq, DataW.agg.injEq] at hx
 intro i hi
 have h1 := hel i hi
 rw [c1] at h1
 have h2 : (xs.map (·.1))[i]? = some (.agg [.lit (.string (nmS (i : Int)).data.toList), .lit (.string (fmS (i : Int)).data.toList)]) := by
  rw [← hx.1, List.getElem?_map, List.getElem?_range hi]; rfl
 rw [List.getElem?_map] at h2
 obtain ⟨y, hy, hy2⟩ := Option.map_eq_some_iff.1 h2
 rw [hy] at h1
 obtain ⟨ys, k, _, hys, hcl, hyl, hfs⟩ := DataW.trod_struct Tryz.underlying206 h1
 have e0 := hfs 0 _ rfl
 have e1 := hfs 1 _ rfl
 have hyl2 : ys.length = 2 := hyl
 match ys, hyl2, hys, e0, e1 with
 | [y0, y1], _, hys, e0, e1 =>
  simp only [List.getElem?_cons_zero, List.getElem?_cons_succ] at e0 e1
  obtain ⟨s0, k0, d0, _⟩ := DataW.trod_string Tryz.underlying9 e0
  obtain ⟨s1, k1, d1, _⟩ := DataW.trod_string Tryz.underlying9 e1
  rw [hys] at hy2
  simp only [List.map_cons, List.map_nil, DataW.agg.injEq, List.cons.injEq, and_true] at hy2
  rw [d0, d1] at hy2
  simp only [DataW.lit.injEq, Lit.string.injEq] at hy2
  have q0 : s0 = nmS (i : Int) := bytes_of hy2.1
  have q1 : s1 = fmS (i : Int) := bytes_of hy2.2
  subst q0 q1
  have r0 := congrArg (fun l : List Value => l[0]?) k0
  have r1 := congrArg (fun l : List Value => l[0]?) k1
  have z0 : Tryz.prog.cellsOf (9) = 1 := c2
  constructor
  ·have := World.var?_cell hg hvar (2 * i)
   rw [this, ← Array.getElem?_toList]
   simpa [List.getElem?_take, List.getElem?_drop, c2, Nat.mul_comm] using r0
  ·have := World.var?_cell hg hvar (2 * i + 1)
   rw [this, ← Array.getElem?_toList]
   simpa [List.getElem?_take, List.getElem?_drop, c2, Nat.mul_comm] using r1

theorem et : Tryz.prog.globalNamed "errors.errorType" = some 0 := by kernel_rfl
theorem rt : (Tryz.prog.cutTypes.find? (·.1 == "internal/reflectlite.rtype")).map (·.2) = some 192 := by kernel_rfl
theorem oneRow : ((List.range 238).filter fun t => Tryz.prog.rowNamed t [101, 114, 114, 111, 114]) = [156] := by kernel_rfl
theorem typesSize : Tryz.prog.types.size = 238 := by kernel_rfl
theorem both_of_laid {W : World} (h : laidMetH Tryz.prog Rows.fnExactFieldsOfRow.laid W) : Tab W ∧ Glob W := by
 have h' : laidMet Tryz.prog [("loop.example/g00175/impl.opTable", Rows.laid_loop_example_g00175_impl_opTable)] W ∧ handlesMet Tryz.prog [("errors.errorType", Rows.laid_errors_errorType)] W := h
 refine ⟨tab_of_data h'.1, ?_⟩
 obtain ⟨name, u, ty, e1, e2, e3, e4, e5⟩ := h'.2 _ (List.mem_singleton.2 rfl)
 have en : name = [101, 114, 114, 111, 114] := (Option.some.inj e1).symm
 subst en
 obtain rfl := Option.some.inj (rt.symm.trans e2)
 have hm : ty ∈ (List.range 238).filter fun t => Tryz.prog.rowNamed t [101, 114, 114, 111, 114] := List.mem_filter.2 ⟨List.mem_range.2 (by rw [← typesSize]; exact e3), e4⟩
 rw [oneRow] at hm
 obtain rfl := List.mem_singleton.1 hm
 have hh : typeHandle Tryz.prog 156 = .pointer (some ⟨2, 156, none⟩) := by kernel_rfl
 rw [hh] at e5
 simpa [Glob] using World.var?_cell et e5 0

noncomputable def laidWorld (os : Os) : World :=
 let w0 := World.holding Tryz.prog os ⟨#[], #[], []⟩
 { w0 with heap := (w0.heap.modify 0 fun
   | .cells _ t frozen => .cells #[.iface 192 (.agg #[.pointer (some ⟨2, 156, none⟩)])] t frozen
   | o => o).modify 1 fun
   | .cells _ t frozen => .cells ((List.range 90).map fun j : Nat => .string (if j % 2 = 0 then nmS ((j / 2 : Nat) : Int) else fmS ((j / 2 : Nat) : Int))).toArray t frozen
   | o => o }
theorem laidWorld_met (os : Os) (args : Array Value) : laidMetH Tryz.prog Rows.fnExactFieldsOfRow.laid ((laidWorld os).forCall (fun _ _ => 0) ⟨#[], args, []⟩).memory :=
 laidMetH_of_parts (laidMet_of_run' 8 (by kernel_rfl) (by kernel_rfl)) (by kernel_rfl)

set_option maxHeartbeats 4000000 in
theorem walk (v : Value) (L : List CTup) (n : ByteArray) (w : World) (hx : classR.slice.In w [v] L) (w1 : n.size ≤ maxLen) (ht : Tab w) (hg : Glob w) :
  Calls Tryz.prog 3 #[v, .string n] w fun e w' => e = .returned (.bool true) ∧ Below w.heap.size w w' := by
 have HSz : Hid (∀ w', Below w.heap.size w w' → Calls Tryz.prog 5 #[v, .int .i64 1048576] w' fun e w2 => e = .returned (.int .i64 (szB (L.length + cSum L L.length) 1048576)) ∧ Below w'.heap.size w' w2) := fun w' hb => lawSzClassS v L 1048576 w' (classR.slice.mono _ _ _ _ hb hx) (by omega)
 have HTo : Hid (¬ szB (L.length + cSum L L.length) 1048576 < 0 → ∀ w', Below w.heap.size w w' → Calls Tryz.prog 7 #[v] w' fun e w2 => ∃ a k c, e = .returned (.slice a k c) ∧ Below w'.heap.size w' w2 ∧ classR.slice.In w2 [.slice a k c] L) := fun h w' hb => by
  refine Calls.mono (lawToClassS v L w' (classR.slice.mono _ _ _ _ hb hx) (sz_lens h).1 (sz_lens h).2) ?_
  rintro e w2 ⟨u, rfl, h1, h2⟩
  obtain ⟨a, cap, rfl, _⟩ := slice_open (by decide) h2
  exact ⟨_, _, _, rfl, h1, h2⟩
 have HTf : Hid (¬ szB (L.length + cSum L L.length) 1048576 < 0 → ∀ w', Below w.heap.size w w' → Calls Tryz.prog 7 #[v] w' fun e w2 => ∃ b k c C, e = .returned (.slice (some ⟨b, 0, none⟩) k c) ∧ Below w'.heap.size w' w2 ∧ classR.slice.In w2 [.slice (some ⟨b, 0, none⟩) k c] L ∧ C 0 = 0 ∧ C k ≤ 7340032 ∧ ShCls w'.heap.size w2.heap.size w2 b k C) := fun h w' hb => by
  refine Calls.mono (lawToClassSF v L w' (classR.slice.mono _ _ _ _ hb hx) (sz_lens h).1 (sz_lens h).2) ?_
  rintro e w2 ⟨u, rfl, h1, h2⟩
  obtain ⟨b, c, rfl, h3⟩ := shCls_of h2 (sz_lens h).1 (sz_lens h).2
  exact ⟨b, _, c, _, rfl, h1, sliceF_in (fun cs x h => clsF_in cs x h) h2, by simp [cSum], by have := szB_le h; show 7 * (L.length + cSum L L.length) ≤ 7340032; omega, h3⟩
 have HS : Hid (∀ w' u, classR.slice.In w' [u] L → Calls Tryz.prog 6 #[u, .string n] w' fun e w2 => ∃ a c, e = .returned (.slice a (foV L n).length c) ∧ Below w'.heap.size w' w2 ∧ w2.ownsRow w'.heap.size 57 3 (.slice a (foV L n).length c) (foV L n).length ((foV L n).flatMap cFd)) := fun w' u h => by
  refine Calls.mono (specFieldsOf L u n w' h w1) ?_
  rintro e w2 ⟨hb, u, rfl, ho⟩
  obtain ⟨a, c, rfl⟩ := own_sl3 ho
  exact ⟨a, c, rfl, hb, ho⟩
 have HI : Hid (∀ w' u, Below w.heap.size w w' → classR.slice.In w' [u] L → Calls Tryz.prog 8 #[u, .string n] w' fun e w2 => ∃ a c, e = .returned (.slice a (foV L n).length c) ∧ Below w'.heap.size w' w2 ∧ w2.ownsRow w'.heap.size 57 3 (.slice a (foV L n).length c) (foV L n).length ((foV L n).flatMap cFd)) := fun w' u hb h => by
  refine Calls.mono (implFieldsOf L u n w' h (ht.mono hb) (hg.mono hb) w1) ?_
  rintro e w2 ⟨hb, u, rfl, ho⟩
  obtain ⟨a, c, rfl⟩ := own_sl3 ho
  exact ⟨a, c, rfl, hb, ho⟩
 have HE : Hid (∀ w' u y, classR.slice.In w' [u] L → classR.slice.In w' [y] L → Calls Tryz.prog 10 #[u, y] w' fun e w2 => e = .returned (.bool true) ∧ Below w'.heap.size w' w2) := fun w' u y h1 h2 => lawEqClassS u y L w' h1 h2
 obtain ⟨va, vcap, rfl, _⟩ := slice_open (by decide) hx
 obtain ⟨hf80, hfs⟩ := fo_all L n
 have HFS := (show Hid _ from hfs)
 have HEF := (show Hid _ from fun (u v : Value) (w : World) (h : fieldR.slice.In w [u] (foV L n)) (k : fieldR.slice.In w [v] (foV L n)) => lawEqFieldS u v (foV L n) w h k)
 generalize foV L n = fs at *
 generalize szB (L.length + cSum L L.length) 1048576 = left at *
 clear hx ht hg hfs
 unfold maxLen at w1
 by_cases b0 : (1048576 : Int) < n.size
 ·have c0 : decide ((1048576 : Int) < n.size) = true := by simpa using b0
  go_enter Tryz.func3, Tryz.ntmps3
  go_wp2
  go_ret
  exact ⟨rfl, Below.refl _ _⟩
 have c0 : decide ((1048576 : Int) < n.size) = false := by simpa using b0
 by_cases hl : left < 0
 ·have dl : decide (left < 0) = true := by simpa using hl
  go_enter Tryz.func3, Tryz.ntmps3
  go_wp2_with fail
  refine Calls.mono (HSz.out _ (Below.refl _ _)) ?_
  rintro e w1 ⟨rfl, hb1⟩
  go_wp2
  go_ret
  exact ⟨rfl, hb1⟩
 have dl : decide (left < 0) = false := by simpa using hl
 have HT := (show Hid _ from HTo.out hl)
 have HT2 := (show Hid _ from HTf.out hl)
 clear HTo HTf hl
 go_enter Tryz.func3, Tryz.ntmps3
 go_wp2_with fail
 refine Calls.mono (HSz.out _ (Below.refl _ _)) ?_
 rintro e w1 ⟨rfl, hb1⟩
 have HB1 : Hid (Below w.heap.size w w1) := hb1
 clear hb1 HSz
 go_wp2_with fail
 refine Calls.mono (HT.out _ HB1.out) ?_
 rintro e w2 ⟨a2, k2, c2, rfl, hb2, hin2⟩
 have HB2 : Hid (Below w.heap.size w w2) := HB1.out.trans (hb2.mono HB1.out.size)
 have HI2 := (show Hid _ from hin2)
 clear hb2 hin2
 go_wp2_with fail
 refine Calls.mono (HS.out _ _ HI2.out) ?_
 rintro e w3 ⟨a3, n3, rfl, hb3, ho3⟩
 have HB3 : Hid (Below w.heap.size w w3) := HB2.out.trans (hb3.mono HB2.out.size)
 have S3 := (show Hid (∀ w', Below w3.heap.size w3 w' → fieldR.slice.In w' [.slice a3 fs.length n3] fs) from fun w' hb => fieldR.slice.mono _ _ _ _ hb (ownsFd_in ho3 HFS.out))
 clear hb3 ho3 HS HI2
 -- x0
 go_wp2_with fail
 refine Calls.mono (HT2.out _ HB3.out) ?_
 rintro e w4 ⟨p4, k4, c4, C, rfl, hb4, hin4, hC0, hCn, hsh⟩
 have HB34 : Hid (Below w3.heap.size w3 w4) := hb4
 have HB4 : Hid (Below w.heap.size w w4) := HB3.out.trans (hb4.mono HB3.out.size)
 have HI4 := (show Hid _ from hin4)
 have HSh := (show Hid (ShCls w3.heap.size w4.heap.size w4 p4 k4 C) from hsh)
 clear hb4 hin4 hsh HT2
 -- g0
 go_wp2_with fail
 refine Calls.mono (HI.out _ _ HB4.out HI4.out) ?_
 rintro e w5 ⟨a5, n5, rfl, hb5, ho5⟩
 have HB45 : Hid (Below w4.heap.size w4 w5) := hb5
 have O5 := (show Hid (w5.ownsRow w4.heap.size 57 3 (.slice a5 fs.length n5) fs.length (fs.flatMap cFd)) from ho5)
 have L5 := (show Hid (∀ x, a5 = some x → w4.heap.size ≤ x.block ∧ x.block < w5.heap.size) from ownsFd_block ho5)
 clear hb5 ho5
 go_wp2_with fail
 refine Calls.mono (HEF.out _ _ _ (ownsFd_in O5.out HFS.out) (S3.out _ (HB34.out.trans (HB45.out.mono HB34.out.size)))) ?_
 rintro e w6 ⟨rfl, hb6⟩
 have HB56 : Hid (Below w5.heap.size w5 w6) := hb6
 have HB46 : Hid (Below w4.heap.size w4 w6) := HB45.out.trans (hb6.mono HB45.out.size)
 clear hb6
 go_wp2_with fail
 refine Calls.mono (HT.out _ (HB4.out.trans (HB46.out.mono HB4.out.size))) ?_
 rintro e w7 ⟨a7, k7, c7, rfl, hb7, hin7⟩
 have HB57 : Hid (Below w5.heap.size w5 w7) := HB56.out.trans (hb7.mono HB56.out.size)
 have HB47 : Hid (Below w4.heap.size w4 w7) := HB46.out.trans (hb7.mono HB46.out.size)
 have HI7 := (show Hid (classR.slice.In w7 [.slice (some ⟨p4, 0, none⟩) k4 c4] L ∧ classR.slice.In w7 [.slice a7 k7 c7] L) from ⟨classR.slice.mono _ _ _ _ HB47.out HI4.out, hin7⟩)
 clear hb7 hin7 HI4 HB56 HB46
 go_wp2_with fail
 refine Calls.mono (HE.out _ _ _ HI7.out.1 HI7.out.2) ?_
 rintro e w8 ⟨rfl, hb8⟩
 have HB58 : Hid (Below w5.heap.size w5 w8) := HB57.out.trans (hb8.mono HB57.out.size)
 have HB48 : Hid (Below w4.heap.size w4 w8) := HB47.out.trans (hb8.mono HB47.out.size)
 clear hb8 HI7 HB57 HB47 HE
 -- the classes that were handed in are marked
 have HMk := (show Hid _ from lawMarkCls w3.heap.size w4.heap.size p4 k4 c4 C 1 w8 (HSh.out.kin (Kin.below HB48.out (Nat.le_refl _))) HB48.out.size (by omega) (by omega))
 go_wp2_with fail
 refine Calls.mono HMk.out ?_
 rintro e w9 ⟨⟨z, rfl, hz1, hz2⟩, hk⟩
 have HB39 : Hid (Below w3.heap.size w3 w9) := hk.lowF (HB34.out.trans (HB48.out.mono HB34.out.size)) (Nat.le_refl _)
 have O9 := (show Hid (w9.ownsRow w4.heap.size 57 3 (.slice a5 fs.length n5) fs.length (fs.flatMap cFd)) from ownsFd_blocks (ownsFd_blocks O5.out fun x e hx => HB58.out.block _ hx) fun x e hx => hk.out _ hx (.inr (L5.out x e).1))
 have dz : decide (z < 0) = false := by simp; omega
 clear hk HMk HSh O5 HB58 HB48 HB45
 go_wp2_with fail
 refine Calls.mono (HEF.out _ _ _ (ownsFd_in O9.out HFS.out) (S3.out _ HB39.out)) ?_
 rintro e w10 ⟨rfl, hb10⟩
 have HB310 : Hid (Below w3.heap.size w3 w10) := HB39.out.trans (hb10.mono HB39.out.size)
 have R10 : Hid (∃ f, RowF w10 a5 fs.length n5 f) := by
  obtain ⟨f, hf⟩ := ownsFd_row O9.out
  exact ⟨f, hf.mono hb10⟩
 clear hb10 dz O9 HB39
 obtain ⟨f, hf⟩ := R10.out
 have HMF := (show Hid _ from lawMarkFd a5 fs.length n5 f w10 hf (by omega))
 clear hf R10
 go_wp2_with fail
 refine Calls.mono HMF.out ?_
 rintro e w11 ⟨rfl, hm, hr⟩
 have HR11 := (show Hid (RowF w11 a5 fs.length n5 (mkD fs.length f)) from hr)
 have HB311 : Hid (Below w3.heap.size w3 w11) := by
  rcases hm with ⟨_, rfl⟩ | ⟨g, e, hb⟩
  ·exact HB310.out
  ·exact hb.below HB310.out (by have := (L5.out _ e).1; have := HB34.out.size; simp only at *; omega) (Nat.le_refl _)
 clear hm hr HMF HB310
 go_wp2_with fail
 refine (lawHeldFd a5 fs.length n5 f w11 HR11.out (by omega)).mono ?_
 rintro e w12 ⟨rfl, hb12⟩
 have HB312 : Hid (Below w3.heap.size w3 w12) := HB311.out.trans (hb12.mono HB311.out.size)
 have HR12 := (show Hid (RowF w12 a5 fs.length n5 (mkD fs.length f)) from HR11.out.mono hb12)
 clear hb12 HR11 HB311
 have t1 : decide (1 + 3 * (fs.length : Int) < 0) = false := by simp; omega
 have t2 : ((1 + 3 * (fs.length : Int)) == (1 + 3 * (fs.length : Int))) = true := by simp
 have t3 : ((1 + 3 * (fs.length : Int)) != (1 + 3 * (fs.length : Int))) = false := by simp
 go_wp2_with fail
 refine Calls.mono (HT.out _ (HB3.out.trans (HB312.out.mono HB3.out.size))) ?_
 rintro e w13 ⟨a13, k13, c13, rfl, hb13, hin13⟩
 have HB313 : Hid (Below w3.heap.size w3 w13) := HB312.out.trans (hb13.mono HB312.out.size)
 have HR13 := (show Hid (RowF w13 a5 fs.length n5 (mkD fs.length f)) from HR12.out.mono hb13)
 have HI13 := (show Hid _ from hin13)
 clear hb13 hin13 HR12 HB312
 go_wp2_with fail
 refine Calls.mono (HI.out _ _ (HB3.out.trans (HB313.out.mono HB3.out.size)) HI13.out) ?_
 rintro e w14 ⟨a14, n14, rfl, hb14, ho14⟩
 have HB314 : Hid (Below w3.heap.size w3 w14) := HB313.out.trans (hb14.mono HB313.out.size)
 have HR14 := (show Hid (RowF w14 a5 fs.length n5 (mkD fs.length f)) from HR13.out.mono hb14)
 have O14 := (show Hid (w14.ownsRow w13.heap.size 57 3 (.slice a14 fs.length n14) fs.length (fs.flatMap cFd)) from ho14)
 clear hb14 ho14 HR13 HI13 HB313
 go_wp2_with fail
 refine Calls.mono (HEF.out _ _ _ (ownsFd_in O14.out HFS.out) (S3.out _ HB314.out)) ?_
 rintro e w15 ⟨rfl, hb15⟩
 have HB315 : Hid (Below w3.heap.size w3 w15) := HB314.out.trans (hb15.mono HB314.out.size)
 have HR15 := (show Hid (RowF w15 a5 fs.length n5 (mkD fs.length f)) from HR14.out.mono hb15)
 clear hb15 HR14 O14 HB314
 go_wp2_with fail
 refine (lawHeldFd a5 fs.length n5 f w15 HR15.out (by omega)).mono ?_
 rintro e w16 ⟨rfl, hb16⟩
 have HB316 : Hid (Below w3.heap.size w3 w16) := HB315.out.trans (hb16.mono HB315.out.size)
 clear hb16 HR15 HB315
 go_wp2
 go_ret
 exact ⟨rfl, HB3.out.trans (HB316.out.mono HB3.out.size)⟩

set_option maxRecDepth 100000 in
theorem lifted (os : Os) (started : os.Started) (H : Type) (enc : TypeId × Value → H) :
  ReturnsInHanded {} Tryz.checked os 3 .any (fun w args => (Rows.fnExactFieldsOfSpec.pre enc Tryz.prog Tryz.f3 [] false w args ∧ laidMetH Tryz.prog Rows.fnExactFieldsOfRow.laid w) ∧ sizedMet enc Tryz.prog Tryz.f3 (OpenSpec.ofChange Rows.fnExactFieldsOfSpec) false w args)
   (Rows.fnExactFieldsOfSpec.post enc Tryz.prog Tryz.f3 false true false false) := by
 refine returnsInHanded_of_change_and (C := Tryz.checked) (X := fun w _ => laidMetH Tryz.prog Rows.fnExactFieldsOfRow.laid w) (fun _ _ _ hh h => h.of_heap hh) own started (by kernel_rfl) Tryz.func3
  (ChangeSpec.witness_at (enc := enc) (C := Tryz.checked) (os := os) (X := fun w _ => laidMetH Tryz.prog Rows.fnExactFieldsOfRow.laid w) false (laidWorld os) #[.slice none 0 0, .string ⟨#[]⟩] 8 rfl (by kernel_rfl) (by kernel_rfl) (by kernel_rfl) (by kernel_rfl) (by kernel_rfl) (laidWorld_met os _)) ?_
 intro W base args ds gs before hval0 hW _ _ hL _
 have hval : ∀ (j : Nat) t v, Tryz.f3.params[j]? = some t → args[j]? = some v → Value.okWide Tryz.prog W .any base t v := hval0
 have hW' := hW
 obtain ⟨p, q, hA0, hV0, rfl, hfz, hnd⟩ := hW
 have hA : DataW.TrodAll enc Tryz.prog W 0 (fun _ => true) true Tryz.f3.params.toList args.toList ds p := hA0
 have hV : DataW.TrodVars enc Tryz.prog W (fun _ => true) ["loop.example/g00175/impl.opTable"] gs q := hV0
 rw [Tryz.params3] at hA hval
 obtain ⟨v0, vs0, d0, ds0, p0, q0, hargs, rfl, rfl, h0, r0⟩ := trodAll_cons hA
 obtain ⟨v1, vs1, d1, ds1, p1, q1, rfl, rfl, rfl, h1, r1⟩ := trodAll_cons r0
 obtain ⟨rfl, rfl, rfl⟩ := trodAll_nil r1
 obtain rfl : args = #[v0, v1] := by cases args; simp_all
 have hVk := hV
 obtain ⟨vg, vt, vcs, vfuel, vd, vp, rfl, _, _, _, _, rfl⟩ := trodVars_one hV
 obtain ⟨htab, hglob⟩ := both_of_laid hL
 obtain ⟨a0, len0, cap0, rfl⟩ := okWide_slice Tryz.underlying22 (hval 0 22 v0 rfl rfl)
 have k0 := h0
 have lt0 : ∀ x ∈ p0, x.block < W.heap.size := by obtain ⟨m, hm⟩ := k0; exact DataW.trod_lt m _ _ _ hm
 obtain ⟨z0, w0⟩ : ∃ x, classR.slice.In W [.slice a0 len0 cap0] x := by
  obtain ⟨fuel, hf⟩ := h0
  exact opens_slice Tryz.underlying22 (by kernel_rfl) opensClass _ _ _ _ hf
 obtain ⟨a1, rfl, rfl, rfl, w1⟩ := open_string Tryz.underlying9 (hval 1 9 v1 rfl rfl) h1
 clear hA0 hval0
 refine (walk (.slice a0 len0 cap0) z0 a1 W w0 w1 htab hglob).mono fun e W' ⟨he, bel⟩ => ?_
 subst he
 exact ⟨_, rfl, _, _, _, [], _, _, hW', trodAll_mk1 (shut_bool Tryz.underlying4 _), (trodAll_cons_mk (Below.trod laidOut (by kernel_rfl) (of_decide_eq_true (by kernel_rfl)) k0 bel lt0) (trodAll_cons_mk (shut_string Tryz.underlying9 w1) trodAll_mk0)), Below.trodVars laidOut bel (by kernel_rfl) hVk, bel.frame _, fun h => by cases h⟩

theorem over : Rows.fnExactFieldsOfRow.holds Tryz.pinned (OpenSpec.ofChange Rows.fnExactFieldsOfSpec) :=
 OpenClaim.holds_of_wide 3 Tryz.f3 rfl rfl rfl rfl rfl rfl rfl ⟨rfl, rfl, rfl, rfl, rfl⟩ rfl rfl rfl rfl rfl (by kernel_rfl) Tryz.func3 (by kernel_rfl)
  (of_decide_eq_true (by kernel_rfl)) (by unfold Func.isWrapper; first | (rw [if_pos (by decide +kernel)]; kernel_rfl) | (rw [if_neg (by decide +kernel)]; exact ⟨rfl, rfl⟩))
  (fun os started H enc _ => lifted os started H enc)

end Go.Proofs.YtgohomcodjnfiaaGreatDoor.fnExactFieldsOf
namespace Go.Proofs.YtgohomcodjnfiaaGreatDoor
theorem fnExactFieldsOf_holds : Rows.FnExactFieldsOfCardSaid :=
 Claim7.holds_tied_plain_at .later [] [.handle, .data] true (true, "383a7866b6ff105ecc1380e1740bbcd36550d77ea101509339eed5bad3a340c3") true
  fnExactFieldsOf.over (fun _ h => by cases h) (by kernel_rfl) (fun _ h => by cases h) fnExactFieldsOf_row_tie rfl ⟨rfl, rfl⟩ (by kernel_rfl) rfl
  (fun f fn hf hfn => by
   obtain rfl : f = 3 := Option.some.inj ((show Tryz.prog.funcNamed "loop.example/g00175/laws.FnExactFieldsOf" = some 3 by kernel_rfl).symm.trans hf) |>.symm
   obtain rfl : fn = Tryz.f3 := (Option.some.inj (Tryz.func3.symm.trans hfn)).symm
   exact ⟨by kernel_rfl, fun j t ht => by
    rw [Tryz.params3] at ht
    rcases j with _ | j
    ·obtain rfl : t = 22 := by simpa using ht.symm
     exact (show Tryz.prog.wantsStandIn 22 = false by kernel_rfl)
    ·skip
     rcases j with _ | j
     ·obtain rfl : t = 9 := by simpa using ht.symm
      exact (show Tryz.prog.wantsStandIn 9 = false by kernel_rfl)
     ·skip
      simp at ht⟩)
  (by kernel_rfl)
#print axioms fnExactFieldsOf_holds
end Go.Proofs.YtgohomcodjnfiaaGreatDoor
