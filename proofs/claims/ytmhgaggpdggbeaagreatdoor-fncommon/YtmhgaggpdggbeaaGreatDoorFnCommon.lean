/-
 Whatever the two codes, the law FnCommon returns true: the common class of two of a drawn list of classes is what the model tells, the same both ways round, above both, and below each other one that is above both; the arguments and the program's table read as they did before. The variables listed are errors.errorType and the program's table opTable, both tied to the program's text by the card.
-/
import Derived.Test.YtmhgaggpdggbeaaGreatDoorRows
import Derived.Test.YtmhgaggpdggbeaaGreatDoorCards
import Derived.Test.YtmhgaggpdggbeaaGreatDoorTie
import Derived.WalkKit
import Derived.ProofKit
import Derived.OpenShut
import Derived.ShutString
import Derived.ChangeOld
import Derived.Below
import Derived.Carry
import Derived.OpenVars
import Derived.ChangeSame
import Derived.ChangeVars
import Derived.JoinedOf
import Derived.RowKit
import Derived.RowKitTokens
import Derived.LaidLaws
import Derived.LaidHandle
import Derived.LaidMore
import Derived.Stop.Joined
import Derived.SevenTiedAt
import Derived.Test.YtmhgaggpdggbeaaGreatDoorVcW
import Derived.Test.YtmhgaggpdggbeaaGreatDoorVcD
namespace Go.Proofs.YtmhgaggpdggbeaaGreatDoor.fnCommon
open Go.ChangeShapes Go.WideShapes Go.ChangeAt Go.RowKit
open Go.ChangeMaps (open_string shut_string)
set_option linter.unusedVariables false

theorem own : ownKnob Tryz.prog.godebug = none := by kernel_rfl
theorem laidOut : laidOutB Tryz.prog = true := by kernel_rfl
theorem ot : Tryz.prog.globalNamed "loop.example/g00175/impl.opTable" = some 1 := by kernel_rfl
theorem otT : (Tryz.prog.globals[1]?).map (·.type) = some 234 := by kernel_rfl
theorem c1 : Tryz.prog.cellsOf 232 = 2 := by kernel_rfl
theorem c2 : Tryz.prog.cellsOf 9 = 1 := by kernel_rfl

theorem tab_datum {H : Type} : (Rows.laid_loop_example_g00175_impl_opTable : DataW H) = .agg ((List.range 45).map fun i : Nat => .agg [.lit (.string (nmS (i : Int)).data.toList), .lit (.string (fmS (i : Int)).data.toList)]) := by kernel_rfl

theorem bytes_of {a b : ByteArray} (h : a.data.toList = b.data.toList) : a = b := by
 obtain ⟨⟨x⟩⟩ := a
 obtain ⟨⟨y⟩⟩ := b
 simp at h
 rw [h]

theorem tab_of_data {W : World} (h : laidMet Tryz.prog [("loop.example/g00175/impl.opTable", Rows.laid_loop_example_g00175_impl_opTable)] W) : Tab W := by
 obtain ⟨ps, ⟨g, t, cs, fuel, p, q, hg, ht, hvar, hd, _, _⟩, _⟩ := h
 obtain rfl := Option.some.inj (ot.symm.trans hg)
 obtain rfl := Option.some.inj (otT.symm.trans ht)
 rw [tab_datum] at hd
 obtain ⟨xs, m, _, hx, hlen, hn, hel⟩ := DataW.trod_array Tryz.underlying234 hd
 simp only [Prod.mk.injEq, DataW.agg.injEq] at hx
 intro i hi
 have h1 := hel i hi
 rw [c1] at h1
 have h2 : (xs.map (·.1))[i]? = some (.agg [.lit (.string (nmS (i : Int)).data.toList), .lit (.string (fmS (i : Int)).data.toList)]) := by
  rw [← hx.1, List.getElem?_map, List.getElem?_range hi]; rfl
 rw [List.getElem?_map] at h2
 obtain ⟨y, hy, hy2⟩ := Option.map_eq_some_iff.1 h2
 rw [hy] at h1
 obtain ⟨ys, k, _, hys, hcl, hyl, hfs⟩ := DataW.trod_struct Tryz.underlying232 h1
 have e0 := hfs 0 _ rfl
 have e1 := hfs 1 _ rfl
 have hyl2 : ys.length = 2 := hyl
 match ys, hyl2, hys, e0, e1 with
 | [y0, y1], _, hys, e0, e1 =>
  simp only [List.getElem?_cons_zero, List.getElem?_cons_succ] at e0 e1
  obtain ⟨s0, k0, d0, _⟩ := DataW.trod_string Tryz.underlying9 e0
  obtain ⟨s1, k1, d1, _⟩ := DataW.trod_string Tryz.underlying9 e1
  rw [hys] at hy2
  simp only [List.map_cons, List.map_nil, DataW.agg.injEq, List.cons.injEq, and_true] at hy2
  rw [d0, d1] at hy2
  simp only [DataW.lit.injEq, Lit.string.injEq] at hy2
  have q0 : s0 = nmS (i : Int) := bytes_of hy2.1
  have q1 : s1 = fmS (i : Int) := bytes_of hy2.2
  subst q0 q1
  have r0 := congrArg (fun l : List Value => l[0]?) k0
  have r1 := congrArg (fun l : List Value => l[0]?) k1
  have z0 : Tryz.prog.cellsOf (9) = 1 := c2
  constructor
  ·have := World.var?_cell hg hvar (2 * i)
   rw [this, ← Array.getElem?_toList]
   simpa [List.getElem?_take, List.getElem?_drop, c2, Nat.mul_comm] using r0
  ·have := World.var?_cell hg hvar (2 * i + 1)
   rw [this, ← Array.getElem?_toList]
   simpa [List.getElem?_take, List.getElem?_drop, c2, Nat.mul_comm] using r1

theorem et : Tryz.prog.globalNamed "errors.errorType" = some 0 := by kernel_rfl
theorem rt : (Tryz.prog.cutTypes.find? (·.1 == "internal/reflectlite.rtype")).map (·.2) = some 218 := by kernel_rfl
theorem oneRow : ((List.range 263).filter fun t => Tryz.prog.rowNamed t [101, 114, 114, 111, 114]) = [185] := by kernel_rfl
theorem typesSize : Tryz.prog.types.size = 263 := by kernel_rfl
theorem both_of_laid {W : World} (h : laidMetH Tryz.prog Rows.fnCommonRow.laid W) : Tab W ∧ Glob W := by
 have h' : laidMet Tryz.prog [("loop.example/g00175/impl.opTable", Rows.laid_loop_example_g00175_impl_opTable)] W ∧ handlesMet Tryz.prog [("errors.errorType", Rows.laid_errors_errorType)] W := h
 refine ⟨tab_of_data h'.1, ?_⟩
 obtain ⟨name, u, ty, e1, e2, e3, e4, e5⟩ := h'.2 _ (List.mem_singleton.2 rfl)
 have en : name = [101, 114, 114, 111, 114] := (Option.some.inj e1).symm
 subst en
 obtain rfl := Option.some.inj (rt.symm.trans e2)
 have hm : ty ∈ (List.range 263).filter fun t => Tryz.prog.rowNamed t [101, 114, 114, 111, 114] := List.mem_filter.2 ⟨List.mem_range.2 (by rw [← typesSize]; exact e3), e4⟩
 rw [oneRow] at hm
 obtain rfl := List.mem_singleton.1 hm
 have hh : typeHandle Tryz.prog 185 = .pointer (some ⟨2, 185, none⟩) := by kernel_rfl
 rw [hh] at e5
 simpa [Glob] using World.var?_cell et e5 0

noncomputable def laidWorld (os : Os) : World :=
 let w0 := World.holding Tryz.prog os ⟨#[], #[], []⟩
 { w0 with heap := (w0.heap.modify 0 fun
   | .cells _ t frozen => .cells #[.iface 218 (.agg #[.pointer (some ⟨2, 185, none⟩)])] t frozen
   | o => o).modify 1 fun
   | .cells _ t frozen => .cells ((List.range 90).map fun j : Nat => .string (if j % 2 = 0 then nmS ((j / 2 : Nat) : Int) else fmS ((j / 2 : Nat) : Int))).toArray t frozen
   | o => o }
theorem laidWorld_met (os : Os) (args : Array Value) : laidMetH Tryz.prog Rows.fnCommonRow.laid ((laidWorld os).forCall (fun _ _ => 0) ⟨#[], args, []⟩).memory :=
 laidMetH_of_parts (laidMet_of_run' 8 (by kernel_rfl) (by kernel_rfl)) (by kernel_rfl)

set_option maxHeartbeats 4000000 in
theorem walk (a0 : Option Addr) (len0 cap0 : Nat) (z0 : List Int) (a1 : Option Addr) (len1 cap1 : Nat) (z1 : List Int) (w : World) (w0 : IsRow .u8 w a0 len0 cap0 z0) (w1 : IsRow .u8 w a1 len1 cap1 z1) (ht : Tab w) (hg : Glob w) :
  Calls Tryz.prog 5 #[.slice a0 len0 cap0, .slice a1 len1 cap1] w fun e w' => e = .returned (.bool true) ∧ Below w.heap.size w w' := by
 have HT := (show Hid (Tab w) from ht)
 have HG := (show Hid (Glob w) from hg)
 clear ht hg
 have capOf : ∀ {a : Option Addr} {l c : Nat} {z : List Int}, IsRow .u8 w a l c z → l ≤ maxLen := fun {a l c z} h => by
  rcases h with ⟨_, h, _, _⟩ | ⟨x, _, h1, h2, _⟩
  ·rw [h]; unfold maxLen; omega
  ·omega
 have hcap0 := capOf w0
 have hcap1 := capOf w1
 unfold maxLen at hcap0 hcap1
 clear capOf
 by_cases hb0 : (1048576 : Int) < len0
 ·go_enter Tryz.func5, Tryz.ntmps5
  go_wp2
  go_ret
  exact ⟨rfl, Below.refl _ _⟩
 have d0 : decide ((1048576 : Int) < len0) = false := by simpa using hb0
 by_cases hb1 : (1048576 : Int) < len1
 ·go_enter Tryz.func5, Tryz.ntmps5
  go_wp2
  go_ret
  exact ⟨rfl, Below.refl _ _⟩
 have d1 : decide ((1048576 : Int) < len1) = false := by simpa using hb1
 have HD := (show Hid _ from drawCommonOf a0 len0 cap0 z0 w w0 (by omega))
 have HD1 : Hid (∀ w', Below w.heap.size w w' → Calls Tryz.prog 21 #[.slice a1 len1 cap1] w' fun e w2 => ∃ p L k c t1 t2, e = .returned (.tuple #[.slice p k c, .string t1, .string t2]) ∧ t1.size ≤ 1000 ∧ t2.size ≤ 1000 ∧ classR.slice.In w2 [.slice p k c] L ∧ Below w'.heap.size w' w2) := fun w' hb => by
  refine drawCommonOf a1 len1 cap1 z1 w' (w1.mono fun x hx i hi => ?_) (by omega)
  rcases w1 with ⟨h, _⟩ | ⟨y, hy, h1, h2, h3, h4, h5⟩
  ·simp_all
  ·have e : x = y := by simpa [hy] using hx.symm
   subst e
   have := h4 i hi
   exact (carry hb (World.block_lt_of_cell? w _ this) this).trans this.symm
 clear w0 w1
 go_enter Tryz.func5, Tryz.ntmps5
 go_wp2_with fail
 refine Calls.mono HD.out ?_
 rintro e w2 ⟨p, L, k, c, a, b, rfl, ha, hb, hin, hb2⟩
 have HB2 : Hid (Below w.heap.size w w2) := hb2
 have HI2 := (show Hid (classR.slice.In w2 [.slice p k c] L) from hin)
 clear hin hb2 HD
 go_wp2_with fail
 refine Calls.mono (HD1.out _ HB2.out) ?_
 rintro e w3 ⟨p', L', k', c', t, u, rfl, htz, hu, _, hb3⟩
 have HB3 : Hid (Below w.heap.size w w3) := HB2.out.trans (hb3.mono HB2.out.size)
 have HI3 := (show Hid (classR.slice.In w3 [.slice p k c] L) from classR.slice.mono _ _ _ _ hb3 HI2.out)
 clear hb3 HI2 HD1
 have sm : ∀ {n : Nat}, n ≤ 1000 → n ≤ maxLen := fun {n} h => by unfold maxLen; omega
 have HCm : Hid (∀ w', Below w3.heap.size w3 w' → Calls Tryz.prog 22 #[.slice p k c, .string a, .string b] w' fun e w2 => e = .returned (.string (cmV L a b)) ∧ Below w'.heap.size w' w2) := fun w' hb' => implCommonOf L _ a b w' (classR.slice.mono _ _ _ _ hb' HI3.out) (HT.out.mono (HB3.out.trans (hb'.mono HB3.out.size))) (HG.out.mono (HB3.out.trans (hb'.mono HB3.out.size))) (sm ha) (sm hb)
 have HCr : Hid (∀ w', Below w3.heap.size w3 w' → Calls Tryz.prog 22 #[.slice p k c, .string b, .string a] w' fun e w2 => e = .returned (.string (cmV L a b)) ∧ Below w'.heap.size w' w2) := fun w' hb' => by
  have := implCommonOf L _ b a w' (classR.slice.mono _ _ _ _ hb' HI3.out) (HT.out.mono (HB3.out.trans (hb'.mono HB3.out.size))) (HG.out.mono (HB3.out.trans (hb'.mono HB3.out.size))) (sm hb) (sm ha)
  rw [cm_sym L a b] at this
  exact this
 have HSc : Hid (∀ w', Below w3.heap.size w3 w' → Calls Tryz.prog 23 #[.slice p k c, .string a, .string b] w' fun e w2 => e = .returned (.string (cmV L a b)) ∧ Below w'.heap.size w' w2) := fun w' hb' => specCommonOf L _ a b w' (classR.slice.mono _ _ _ _ hb' HI3.out) (sm ha) (sm hb)
 have HIs : Hid (∀ w' x y, x.size ≤ maxLen → Below w3.heap.size w3 w' → Calls Tryz.prog 24 #[.slice p k c, .string x, .string y] w' fun e w2 => e = .returned (.bool (isV L x y)) ∧ Below w'.heap.size w' w2) := fun w' x y hx hb' => implIsSubOf L _ x y w' (classR.slice.mono _ _ _ _ hb' HI3.out) (HT.out.mono (HB3.out.trans (hb'.mono HB3.out.size))) (HG.out.mono (HB3.out.trans (hb'.mono HB3.out.size))) hx
 have HAb := (show Hid _ from fun h => cm_above (L := L) (a := a) (b := b) h)
 have HXz : Hid (cmV L a b ≠ tE → (cmV L a b).size ≤ maxLen) := fun h => cm_small h
 generalize cmV L a b = x at *
 have dx : (x.toList == x.toList) = true := by simp
 have dx2 : (x.data.toList == x.data.toList) = true := by simp
 have hk3 := (show w3.heap.size ≤ w3.heap.size from Nat.le_refl _)
 clear HT HG HI3
 go_wp2_with fail
 refine Calls.mono (HCm.out _ (Below.refl _ _)) ?_
 rintro e w4 ⟨rfl, hb4⟩
 have B4 : Hid (Below w3.heap.size w3 w4) := hb4
 clear hb4
 go_wp2_with fail
 refine Calls.mono (HSc.out _ B4.out) ?_
 rintro e w5 ⟨rfl, hb5⟩
 have B5 : Hid (Below w3.heap.size w3 w5) := B4.out.trans (hb5.mono B4.out.size)
 clear hb5
 go_wp2_with fail
 refine Calls.mono (HCr.out _ B5.out) ?_
 rintro e w6 ⟨rfl, hb6⟩
 have B6 : Hid (Below w3.heap.size w3 w6) := B5.out.trans (hb6.mono B5.out.size)
 clear hb6
 by_cases hx : x = tE
 ·have q1 : (x.toList == []) = true := by rw [hx, ByteArray.toList_eq]; rfl
  have q2 : x.toList = [] := by rw [hx, ByteArray.toList_eq]; rfl
  clear hx
  go_wp2
  go_ret
  exact ⟨rfl, HB3.out.trans (B6.out.mono HB3.out.size)⟩
 have q2 : ¬ x.toList = [] := fun h => hx (by
  rw [ByteArray.toList_eq] at h
  exact WideShapes.bytes_inj (by rw [h]; rfl))
 have q1 : (x.toList == []) = false := by simpa using q2
 have hxz := HXz.out hx
 obtain ⟨i1, i2, i3⟩ := HAb.out hx
 have HI1 := (show Hid (isV L a x = true) from i1)
 have HI2 := (show Hid (isV L b x = true) from i2)
 have HI3 := (show Hid _ from i3)
 clear HAb HXz hx i1 i2 i3
 go_wp2_with fail
 refine Calls.mono (HIs.out _ a x (sm ha) B6.out) ?_
 rintro e w7 ⟨rfl, hb7⟩
 rw [HI1.out]
 have B7 : Hid (Below w3.heap.size w3 w7) := B6.out.trans (hb7.mono B6.out.size)
 clear hb7
 go_wp2_with fail
 refine Calls.mono (HIs.out _ b x (sm hb) B7.out) ?_
 rintro e w8 ⟨rfl, hb8⟩
 rw [HI2.out]
 have B8 : Hid (Below w3.heap.size w3 w8) := B7.out.trans (hb8.mono B7.out.size)
 clear hb8
 go_wp2_with fail
 refine Calls.mono (HIs.out _ a t (sm ha) B8.out) ?_
 rintro e w9 ⟨rfl, hb9⟩
 have B9 : Hid (Below w3.heap.size w3 w9) := B8.out.trans (hb9.mono B8.out.size)
 clear hb9
 cases e1 : isV L a t with
 | false =>
  go_wp2
  go_ret
  exact ⟨rfl, HB3.out.trans (B9.out.mono HB3.out.size)⟩
 | true =>
  go_wp2_with fail
  refine Calls.mono (HIs.out _ b t (sm hb) B9.out) ?_
  rintro e w10 ⟨rfl, hb10⟩
  have B10 : Hid (Below w3.heap.size w3 w10) := B9.out.trans (hb10.mono B9.out.size)
  clear hb10
  cases e2 : isV L b t with
  | false =>
   go_wp2
   go_ret
   exact ⟨rfl, HB3.out.trans (B10.out.mono HB3.out.size)⟩
  | true =>
   have e3 := HI3.out t e1 e2
   go_wp2_with fail
   refine Calls.mono (HIs.out _ x t hxz B10.out) ?_
   rintro e w11 ⟨rfl, hb11⟩
   rw [e3]
   have B11 : Hid (Below w3.heap.size w3 w11) := B10.out.trans (hb11.mono B10.out.size)
   clear hb11
   go_wp2
   go_ret
   exact ⟨rfl, HB3.out.trans (B11.out.mono HB3.out.size)⟩

set_option maxRecDepth 100000 in
theorem lifted (os : Os) (started : os.Started) (H : Type) (enc : TypeId × Value → H) :
  ReturnsInHanded {} Tryz.checked os 5 .any (fun w args => (Rows.fnCommonSpec.pre enc Tryz.prog Tryz.f5 [] false w args ∧ laidMetH Tryz.prog Rows.fnCommonRow.laid w) ∧ sizedMet enc Tryz.prog Tryz.f5 (OpenSpec.ofChange Rows.fnCommonSpec) false w args)
   (Rows.fnCommonSpec.post enc Tryz.prog Tryz.f5 false true false false) := by
 refine returnsInHanded_of_change_and (C := Tryz.checked) (X := fun w _ => laidMetH Tryz.prog Rows.fnCommonRow.laid w) (fun _ _ _ hh h => h.of_heap hh) own started (by kernel_rfl) Tryz.func5
  (ChangeSpec.witness_at (enc := enc) (C := Tryz.checked) (os := os) (X := fun w _ => laidMetH Tryz.prog Rows.fnCommonRow.laid w) false (laidWorld os) #[.slice none 0 0, .slice none 0 0] 8 rfl (by kernel_rfl) (by kernel_rfl) (by kernel_rfl) (by kernel_rfl) (by kernel_rfl) (laidWorld_met os _)) ?_
 intro W base args ds gs before hval0 hW _ _ hL _
 have hval : ∀ (j : Nat) t v, Tryz.f5.params[j]? = some t → args[j]? = some v → Value.okWide Tryz.prog W .any base t v := hval0
 have hW' := hW
 obtain ⟨p, q, hA0, hV0, rfl, hfz, hnd⟩ := hW
 have hA : DataW.TrodAll enc Tryz.prog W 0 (fun _ => true) true Tryz.f5.params.toList args.toList ds p := hA0
 have hV : DataW.TrodVars enc Tryz.prog W (fun _ => true) ["loop.example/g00175/impl.opTable"] gs q := hV0
 rw [Tryz.params5] at hA hval
 obtain ⟨v0, vs0, d0, ds0, p0, q0, hargs, rfl, rfl, h0, r0⟩ := trodAll_cons hA
 obtain ⟨v1, vs1, d1, ds1, p1, q1, rfl, rfl, rfl, h1, r1⟩ := trodAll_cons r0
 obtain ⟨rfl, rfl, rfl⟩ := trodAll_nil r1
 obtain rfl : args = #[v0, v1] := by cases args; simp_all
 have hVk := hV
 obtain ⟨vg, vt, vcs, vfuel, vd, vp, rfl, _, _, _, _, rfl⟩ := trodVars_one hV
 obtain ⟨htab, hglob⟩ := both_of_laid hL
 obtain ⟨a0, len0, cap0, rfl⟩ := okWide_slice Tryz.underlying38 (hval 0 38 v0 rfl rfl)
 have k0 := h0
 have lt0 : ∀ x ∈ p0, x.block < W.heap.size := by obtain ⟨m, hm⟩ := k0; exact DataW.trod_lt m _ _ _ hm
 obtain ⟨z0, w0⟩ : ∃ zs, IsRow .u8 W a0 len0 cap0 zs := by
  obtain ⟨fuel, hf⟩ := h0
  rcases open_ints Tryz.underlying38 Tryz.underlying5 (by kernel_rfl) hf with ⟨hcs, _⟩ | ⟨x, l, c, zs, hcs, _, hl, hm, hz, _, hcell, hwz⟩
  ·simp [Value.cells] at hcs
   obtain ⟨rfl, rfl, rfl⟩ := hcs
   exact ⟨[], .inl ⟨rfl, rfl, rfl, rfl⟩⟩
  ·simp [Value.cells] at hcs
   obtain ⟨rfl, rfl, rfl⟩ := hcs
   exact ⟨zs, .inr ⟨_, rfl, hl, hm, by simpa using hz, hcell, hwz⟩⟩
 obtain ⟨a1, len1, cap1, rfl⟩ := okWide_slice Tryz.underlying38 (hval 1 38 v1 rfl rfl)
 have k1 := h1
 have lt1 : ∀ x ∈ p1, x.block < W.heap.size := by obtain ⟨m, hm⟩ := k1; exact DataW.trod_lt m _ _ _ hm
 obtain ⟨z1, w1⟩ : ∃ zs, IsRow .u8 W a1 len1 cap1 zs := by
  obtain ⟨fuel, hf⟩ := h1
  rcases open_ints Tryz.underlying38 Tryz.underlying5 (by kernel_rfl) hf with ⟨hcs, _⟩ | ⟨x, l, c, zs, hcs, _, hl, hm, hz, _, hcell, hwz⟩
  ·simp [Value.cells] at hcs
   obtain ⟨rfl, rfl, rfl⟩ := hcs
   exact ⟨[], .inl ⟨rfl, rfl, rfl, rfl⟩⟩
  ·simp [Value.cells] at hcs
   obtain ⟨rfl, rfl, rfl⟩ := hcs
   exact ⟨zs, .inr ⟨_, rfl, hl, hm, by simpa using hz, hcell, hwz⟩⟩
 clear hA0 hval0
 refine (walk a0 len0 cap0 z0 a1 len1 cap1 z1 W w0 w1 htab hglob).mono fun e W' ⟨he, bel⟩ => ?_
 subst he
 exact ⟨_, rfl, _, _, _, [], _, _, hW', trodAll_mk1 (shut_bool Tryz.underlying4 _), (trodAll_cons_mk (Below.trod laidOut (by kernel_rfl) (of_decide_eq_true (by kernel_rfl)) k0 bel lt0) (trodAll_cons_mk (Below.trod laidOut (by kernel_rfl) (of_decide_eq_true (by kernel_rfl)) k1 bel lt1) trodAll_mk0)), Below.trodVars laidOut bel (by kernel_rfl) hVk, bel.frame _, fun h => by cases h⟩

theorem over : Rows.fnCommonRow.holds Tryz.pinned (OpenSpec.ofChange Rows.fnCommonSpec) :=
 OpenClaim.holds_of_wide 5 Tryz.f5 rfl rfl rfl rfl rfl rfl rfl ⟨rfl, rfl, rfl, rfl, rfl⟩ rfl rfl rfl rfl rfl (by kernel_rfl) Tryz.func5 (by kernel_rfl)
  (of_decide_eq_true (by kernel_rfl)) (by unfold Func.isWrapper; first | (rw [if_pos (by decide +kernel)]; kernel_rfl) | (rw [if_neg (by decide +kernel)]; exact ⟨rfl, rfl⟩))
  (fun os started H enc _ => lifted os started H enc)

end Go.Proofs.YtmhgaggpdggbeaaGreatDoor.fnCommon
namespace Go.Proofs.YtmhgaggpdggbeaaGreatDoor
theorem fnCommon_holds : Rows.FnCommonCardSaid :=
 Claim7.holds_tied_plain_at .later [] [.handle, .data] true (true, "a9a61ffc67ae99f45bc6445069b36beb30fb85df5e4a4fc939723e9fa45922a0") true
  fnCommon.over (fun _ h => by cases h) (by kernel_rfl) (fun _ h => by cases h) fnCommon_row_tie rfl ⟨rfl, rfl⟩ (by kernel_rfl) rfl
  (fun f fn hf hfn => by
   obtain rfl : f = 5 := Option.some.inj ((show Tryz.prog.funcNamed "loop.example/g00175/laws.FnCommon" = some 5 by kernel_rfl).symm.trans hf) |>.symm
   obtain rfl : fn = Tryz.f5 := (Option.some.inj (Tryz.func5.symm.trans hfn)).symm
   exact ⟨by kernel_rfl, fun j t ht => by
    rw [Tryz.params5] at ht
    rcases j with _ | j
    ·obtain rfl : t = 38 := by simpa using ht.symm
     exact (show Tryz.prog.wantsStandIn 38 = false by kernel_rfl)
    ·skip
     rcases j with _ | j
     ·obtain rfl : t = 38 := by simpa using ht.symm
      exact (show Tryz.prog.wantsStandIn 38 = false by kernel_rfl)
     ·skip
      simp at ht⟩)
  (by kernel_rfl)
#print axioms fnCommon_holds
end Go.Proofs.YtmhgaggpdggbeaaGreatDoor
