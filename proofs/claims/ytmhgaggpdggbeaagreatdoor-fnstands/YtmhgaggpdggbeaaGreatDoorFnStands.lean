/-
 Whatever the code, the law FnStands returns true: in a drawn list of classes that is a right world each known class stands on itself, on its super and on Object; to stand on goes on upwards, and never round; the argument and the program's table read as they did before. The variables listed are errors.errorType and the program's table opTable, both tied to the program's text by the card.
-/
import Derived.Test.YtmhgaggpdggbeaaGreatDoorRows
import Derived.Test.YtmhgaggpdggbeaaGreatDoorCards
import Derived.Test.YtmhgaggpdggbeaaGreatDoorTie
import Derived.WalkKit
import Derived.ProofKit
import Derived.OpenShut
import Derived.ShutString
import Derived.ChangeOld
import Derived.Below
import Derived.Carry
import Derived.OpenVars
import Derived.ChangeSame
import Derived.ChangeVars
import Derived.JoinedOf
import Derived.RowKit
import Derived.RowKitTokens
import Derived.LaidLaws
import Derived.LaidHandle
import Derived.LaidMore
import Derived.Stop.Joined
import Derived.SevenTiedAt
import Derived.Test.YtmhgaggpdggbeaaGreatDoorVcW
import Derived.Test.YtmhgaggpdggbeaaGreatDoorVcD
namespace Go.Proofs.YtmhgaggpdggbeaaGreatDoor.fnStands
open Go.ChangeShapes Go.WideShapes Go.ChangeAt Go.RowKit
open Go.ChangeMaps (open_string shut_string)
set_option linter.unusedVariables false

theorem own : ownKnob Tryz.prog.godebug = none := by kernel_rfl
theorem laidOut : laidOutB Tryz.prog = true := by kernel_rfl
theorem ot : Tryz.prog.globalNamed "loop.example/g00175/impl.opTable" = some 1 := by kernel_rfl
theorem otT : (Tryz.prog.globals[1]?).map (·.type) = some 234 := by kernel_rfl
theorem c1 : Tryz.prog.cellsOf 232 = 2 := by kernel_rfl
theorem c2 : Tryz.prog.cellsOf 9 = 1 := by kernel_rfl

theorem tab_datum {H : Type} : (Rows.laid_loop_example_g00175_impl_opTable : DataW H) = .agg ((List.range 45).map fun i : Nat => .agg [.lit (.string (nmS (i : Int)).data.toList), .lit (.string (fmS (i : Int)).data.toList)]) := by kernel_rfl

theorem bytes_of {a b : ByteArray} (h : a.data.toList = b.data.toList) : a = b := by
 obtain ⟨⟨x⟩⟩ := a
 obtain ⟨⟨y⟩⟩ := b
 simp at h
 rw [h]

theorem tab_of_data {W : World} (h : laidMet Tryz.prog [("loop.example/g00175/impl.opTable", Rows.laid_loop_example_g00175_impl_opTable)] W) : Tab W := by
 obtain ⟨ps, ⟨g, t, cs, fuel, p, q, hg, ht, hvar, hd, _, _⟩, _⟩ := h
 obtain rfl := Option.some.inj (ot.symm.trans hg)
 obtain rfl := Option.some.inj (otT.symm.trans ht)
 rw [tab_datum] at hd
 obtain ⟨xs, m, _, hx, hlen, hn, hel⟩ := DataW.trod_array Tryz.underlying234 hd
 simp only [Prod.mk.injEq, DataW.agg.injEq] at hx
 intro i hi
 have h1 := hel i hi
 rw [c1] at h1
 have h2 : (xs.map (·.1))[i]? = some (.agg [.lit (.string (nmS (i : Int)).data.toList), .lit (.string (fmS (i : Int)).data.toList)]) := by
  rw [← hx.1, List.getElem?_map, List.getElem?_range hi]; rfl
 rw [List.getElem?_map] at h2
 obtain ⟨y, hy, hy2⟩ := Option.map_eq_some_iff.1 h2
 rw [hy] at h1
 obtain ⟨ys, k, _, hys, hcl, hyl, hfs⟩ := DataW.trod_struct Tryz.underlying232 h1
 have e0 := hfs 0 _ rfl
 have e1 := hfs 1 _ rfl
 have hyl2 : ys.length = 2 := hyl
 match ys, hyl2, hys, e0, e1 with
 | [y0, y1], _, hys, e0, e1 =>
  simp only [List.getElem?_cons_zero, List.getElem?_cons_succ] at e0 e1
  obtain ⟨s0, k0, d0, _⟩ := DataW.trod_string Tryz.underlying9 e0
  obtain ⟨s1, k1, d1, _⟩ := DataW.trod_string Tryz.underlying9 e1
  rw [hys] at hy2
  simp only [List.map_cons, List.map_nil, DataW.agg.injEq, List.cons.injEq, and_true] at hy2
  rw [d0, d1] at hy2
  simp only [DataW.lit.injEq, Lit.string.injEq] at hy2
  have q0 : s0 = nmS (i : Int) := bytes_of hy2.1
  have q1 : s1 = fmS (i : Int) := bytes_of hy2.2
  subst q0 q1
  have r0 := congrArg (fun l : List Value => l[0]?) k0
  have r1 := congrArg (fun l : List Value => l[0]?) k1
  have z0 : Tryz.prog.cellsOf (9) = 1 := c2
  constructor
  ·have := World.var?_cell hg hvar (2 * i)
   rw [this, ← Array.getElem?_toList]
   simpa [List.getElem?_take, List.getElem?_drop, c2, Nat.mul_comm] using r0
  ·have := World.var?_cell hg hvar (2 * i + 1)
   rw [this, ← Array.getElem?_toList]
   simpa [List.getElem?_take, List.getElem?_drop, c2, Nat.mul_comm] using r1

theorem et : Tryz.prog.globalNamed "errors.errorType" = some 0 := by kernel_rfl
theorem rt : (Tryz.prog.cutTypes.find? (·.1 == "internal/reflectlite.rtype")).map (·.2) = some 218 := by kernel_rfl
theorem oneRow : ((List.range 263).filter fun t => Tryz.prog.rowNamed t [101, 114, 114, 111, 114]) = [185] := by kernel_rfl
theorem typesSize : Tryz.prog.types.size = 263 := by kernel_rfl
theorem both_of_laid {W : World} (h : laidMetH Tryz.prog Rows.fnStandsRow.laid W) : Tab W ∧ Glob W := by
 have h' : laidMet Tryz.prog [("loop.example/g00175/impl.opTable", Rows.laid_loop_example_g00175_impl_opTable)] W ∧ handlesMet Tryz.prog [("errors.errorType", Rows.laid_errors_errorType)] W := h
 refine ⟨tab_of_data h'.1, ?_⟩
 obtain ⟨name, u, ty, e1, e2, e3, e4, e5⟩ := h'.2 _ (List.mem_singleton.2 rfl)
 have en : name = [101, 114, 114, 111, 114] := (Option.some.inj e1).symm
 subst en
 obtain rfl := Option.some.inj (rt.symm.trans e2)
 have hm : ty ∈ (List.range 263).filter fun t => Tryz.prog.rowNamed t [101, 114, 114, 111, 114] := List.mem_filter.2 ⟨List.mem_range.2 (by rw [← typesSize]; exact e3), e4⟩
 rw [oneRow] at hm
 obtain rfl := List.mem_singleton.1 hm
 have hh : typeHandle Tryz.prog 185 = .pointer (some ⟨2, 185, none⟩) := by kernel_rfl
 rw [hh] at e5
 simpa [Glob] using World.var?_cell et e5 0

noncomputable def laidWorld (os : Os) : World :=
 let w0 := World.holding Tryz.prog os ⟨#[], #[], []⟩
 { w0 with heap := (w0.heap.modify 0 fun
   | .cells _ t frozen => .cells #[.iface 218 (.agg #[.pointer (some ⟨2, 185, none⟩)])] t frozen
   | o => o).modify 1 fun
   | .cells _ t frozen => .cells ((List.range 90).map fun j : Nat => .string (if j % 2 = 0 then nmS ((j / 2 : Nat) : Int) else fmS ((j / 2 : Nat) : Int))).toArray t frozen
   | o => o }
theorem laidWorld_met (os : Os) (args : Array Value) : laidMetH Tryz.prog Rows.fnStandsRow.laid ((laidWorld os).forCall (fun _ _ => 0) ⟨#[], args, []⟩).memory :=
 laidMetH_of_parts (laidMet_of_run' 8 (by kernel_rfl) (by kernel_rfl)) (by kernel_rfl)

set_option maxHeartbeats 8000000 in
theorem walk (a0 : Option Addr) (len0 cap0 : Nat) (z0 : List Int) (w : World) (w0 : IsRow .u8 w a0 len0 cap0 z0) (ht : Tab w) (hg : Glob w) :
  Calls Tryz.prog 8 #[.slice a0 len0 cap0] w fun e w' => e = .returned (.bool true) ∧ Below w.heap.size w w' := by
 have HT := (show Hid (Tab w) from ht)
 have HG := (show Hid (Glob w) from hg)
 clear ht hg
 have hcap : len0 ≤ maxLen := by
  rcases w0 with ⟨_, h, _, _⟩ | ⟨x, _, h1, h2, _⟩
  ·rw [h]; unfold maxLen; omega
  ·omega
 unfold maxLen at hcap
 by_cases hb0 : (1048576 : Int) < len0
 ·go_enter Tryz.func8, Tryz.ntmps8
  go_wp2
  go_ret
  exact ⟨rfl, Below.refl _ _⟩
 have d0 : decide ((1048576 : Int) < len0) = false := by simpa using hb0
 have HD := (show Hid _ from drawIsSub a0 len0 cap0 z0 w w0 (by omega))
 clear w0
 go_enter Tryz.func8, Tryz.ntmps8
 go_wp2_with fail
 refine Calls.mono HD.out ?_
 rintro e w3 ⟨p, L, k, c, a, b, rfl, ha, hb, hin, hb3⟩
 have HB3 : Hid (Below w.heap.size w w3) := hb3
 have HI3 := (show Hid (classR.slice.In w3 [.slice p k c] L) from hin)
 clear hin hb3 HD
 have sm : ∀ {n : Nat}, n ≤ 1000 → n ≤ maxLen := fun {n} h => by unfold maxLen; omega
 have B3 : Hid (Below w3.heap.size w3 w3) := Below.refl _ _
 have HIs : Hid (∀ w' x y, x.size ≤ maxLen → Below w3.heap.size w3 w' → Calls Tryz.prog 24 #[.slice p k c, .string x, .string y] w' fun e w2 => e = .returned (.bool (isV L x y)) ∧ Below w'.heap.size w' w2) := fun w' x y hx hb' => implIsSubOf L _ x y w' (classR.slice.mono _ _ _ _ hb' HI3.out) (HT.out.mono (HB3.out.trans (hb'.mono HB3.out.size))) (HG.out.mono (HB3.out.trans (hb'.mono HB3.out.size))) hx
 have HSs : Hid (∀ w', Below w3.heap.size w3 w' → Calls Tryz.prog 32 #[.slice p k c, .string a, .string b] w' fun e w2 => e = .returned (.bool (isV L a b)) ∧ Below w'.heap.size w' w2) := fun w' hb' => specIsSubOf L _ a b w' (classR.slice.mono _ _ _ _ hb' HI3.out) (sm ha) (sm hb)
 have HWi : Hid (∀ w', Below w3.heap.size w3 w' → Calls Tryz.prog 33 #[.slice p k c] w' fun e w2 => e = .returned (.agg #[.int .i64 (wOut L).1, .int .i64 (wOut L).2]) ∧ Below w'.heap.size w' w2) := fun w' hb' => implWorldCheck L _ w' (classR.slice.mono _ _ _ _ hb' HI3.out) (HT.out.mono (HB3.out.trans (hb'.mono HB3.out.size))) (HG.out.mono (HB3.out.trans (hb'.mono HB3.out.size)))
 have HWs : Hid (∀ w', Below w3.heap.size w3 w' → Calls Tryz.prog 28 #[.slice p k c] w' fun e w2 => e = .returned (.agg #[.int .i64 (wOut L).1, .int .i64 (wOut L).2]) ∧ Below w'.heap.size w' w2) := fun w' hb' => specWorldCheck L _ w' (classR.slice.mono _ _ _ _ hb' HI3.out)
 have HKs : Hid (∀ w' x, x.size ≤ maxLen → Below w3.heap.size w3 w' → Calls Tryz.prog 34 #[.slice p k c, .string x] w' fun e w2 => e = .returned (.bool (knV L x)) ∧ Below w'.heap.size w' w2) := fun w' x hx hb' => specKnownOf L _ x w' (classR.slice.mono _ _ _ _ hb' HI3.out) hx
 have HKi : Hid (∀ w', Below w3.heap.size w3 w' → Calls Tryz.prog 36 #[.slice p k c, .string a] w' fun e w2 => e = .returned (.bool (knV L a)) ∧ Below w'.heap.size w' w2) := fun w' hb' => implKnownOf L _ a w' (classR.slice.mono _ _ _ _ hb' HI3.out) (HT.out.mono (HB3.out.trans (hb'.mono HB3.out.size))) (HG.out.mono (HB3.out.trans (hb'.mono HB3.out.size))) (sm ha)
 have HUi : Hid (∀ w', Below w3.heap.size w3 w' → Calls Tryz.prog 35 #[.slice p k c, .string a] w' fun e w2 => e = .returned (.string (spV L a)) ∧ Below w'.heap.size w' w2) := fun w' hb' => implSuperOf L _ a w' (classR.slice.mono _ _ _ _ hb' HI3.out) (HT.out.mono (HB3.out.trans (hb'.mono HB3.out.size))) (HG.out.mono (HB3.out.trans (hb'.mono HB3.out.size))) (sm ha)
 have HUs : Hid (∀ w', Below w3.heap.size w3 w' → Calls Tryz.prog 30 #[.slice p k c, .string a] w' fun e w2 => e = .returned (.string (spV L a)) ∧ Below w'.heap.size w' w2) := fun w' hb' => specSuperOf L _ a w' (classR.slice.mono _ _ _ _ hb' HI3.out) (sm ha)
 have hend : ∀ w', Below w3.heap.size w3 w' → Below w.heap.size w w' := fun w' h => HB3.out.trans (h.mono HB3.out.size)
 have HEnd := (show Hid _ from hend)
 have hfl := fun o1 o2 w => fieldWO1 (.int .i64 o1) (.int .i64 o2) w
 clear HT HG HI3 hend
 have hobj : objN.size ≤ maxLen := by unfold maxLen; decide
 by_cases hr : rtB L = true
 ·have hR := rt_right hr
  have e0 : (wOut L).2 = 0 := by unfold rtB at hr; simpa using hr
  have eI : ∀ x y, isV L x y = sbC L x y := fun x y => by unfold isV; rw [hr, Bool.true_and]
  have eK : ∀ x, knV L x = knB L x := fun x => by unfold knV; rw [hr, Bool.true_and]
  have eS : spV L a = spS L a := by unfold spV; rw [if_pos hr]
  simp only [eI] at HIs HSs
  simp only [eK] at HKs HKi
  rw [eS] at HUi HUs
  rw [e0] at HWi HWs
  generalize (wOut L).1 = o1 at *
  clear eI eK eS e0 hr
  cases hka : knB L a with
  | false =>
   have HX : Hid (sbC L a b = false) := sb_unknown hka
   have HK : Hid (knB L a = false) := hka
   clear hka
   rw [HX.out] at HSs
   go_wp2_with fail
   refine Calls.mono (HIs.out _ a b (sm ha) B3.out) ?_
   rintro e w4 ⟨rfl, hb4⟩
   have B4 : Hid (Below w3.heap.size w3 w4) := B3.out.trans (hb4.mono B3.out.size)
   clear hb4
   rw [HX.out]
   go_wp2_with fail
   refine Calls.mono (HSs.out _ B4.out) ?_
   rintro e w5 ⟨rfl, hb5⟩
   have B5 : Hid (Below w3.heap.size w3 w5) := B4.out.trans (hb5.mono B4.out.size)
   clear hb5
   go_wp2_with fail
   refine Calls.mono (HWi.out _ B5.out) ?_
   rintro e w6 ⟨rfl, hb6⟩
   have B6 : Hid (Below w3.heap.size w3 w6) := B5.out.trans (hb6.mono B5.out.size)
   clear hb6
   go_wp2_with fail
   refine Calls.mono (HWs.out _ B6.out) ?_
   rintro e w7 ⟨rfl, hb7⟩
   have B7 : Hid (Below w3.heap.size w3 w7) := B6.out.trans (hb7.mono B6.out.size)
   clear hb7
   go_wp2_with fail
   refine Calls.mono (HWs.out _ B7.out) ?_
   rintro e w8 ⟨rfl, hb8⟩
   have B8 : Hid (Below w3.heap.size w3 w8) := B7.out.trans (hb8.mono B7.out.size)
   clear hb8
   go_wp2_with fail
   refine Calls.mono (HKs.out _ a (sm ha) B8.out) ?_
   rintro e w9 ⟨rfl, hb9⟩
   have B9 : Hid (Below w3.heap.size w3 w9) := B8.out.trans (hb9.mono B8.out.size)
   clear hb9
   rw [HK.out]
   go_wp2
   go_ret
   exact ⟨rfl, HEnd.out _ B9.out⟩
  | true =>
   have HKA : Hid (knB L a = true) := hka
   have HST := (show Hid _ from stands hR hka)
   clear hka
   cases hkb : knB L b with
   | false =>
    have HX : Hid (sbC L a b = false) := sb_known hkb
    have HK : Hid (knB L b = false) := hkb
    clear hkb HST
    rw [HX.out] at HSs
    go_wp2_with fail
    refine Calls.mono (HIs.out _ a b (sm ha) B3.out) ?_
    rintro e w4 ⟨rfl, hb4⟩
    have B4 : Hid (Below w3.heap.size w3 w4) := B3.out.trans (hb4.mono B3.out.size)
    clear hb4
    rw [HX.out]
    go_wp2_with fail
    refine Calls.mono (HSs.out _ B4.out) ?_
    rintro e w5 ⟨rfl, hb5⟩
    have B5 : Hid (Below w3.heap.size w3 w5) := B4.out.trans (hb5.mono B4.out.size)
    clear hb5
    go_wp2_with fail
    refine Calls.mono (HWi.out _ B5.out) ?_
    rintro e w6 ⟨rfl, hb6⟩
    have B6 : Hid (Below w3.heap.size w3 w6) := B5.out.trans (hb6.mono B5.out.size)
    clear hb6
    go_wp2_with fail
    refine Calls.mono (HWs.out _ B6.out) ?_
    rintro e w7 ⟨rfl, hb7⟩
    have B7 : Hid (Below w3.heap.size w3 w7) := B6.out.trans (hb7.mono B6.out.size)
    clear hb7
    go_wp2_with fail
    refine Calls.mono (HWs.out _ B7.out) ?_
    rintro e w8 ⟨rfl, hb8⟩
    have B8 : Hid (Below w3.heap.size w3 w8) := B7.out.trans (hb8.mono B7.out.size)
    clear hb8
    go_wp2_with fail
    refine Calls.mono (HKs.out _ a (sm ha) B8.out) ?_
    rintro e w9 ⟨rfl, hb9⟩
    have B9 : Hid (Below w3.heap.size w3 w9) := B8.out.trans (hb9.mono B8.out.size)
    clear hb9
    rw [HKA.out]
    go_wp2_with fail
    refine Calls.mono (HKs.out _ b (sm hb) B9.out) ?_
    rintro e w10 ⟨rfl, hb10⟩
    have B10 : Hid (Below w3.heap.size w3 w10) := B9.out.trans (hb10.mono B9.out.size)
    clear hb10
    rw [HK.out]
    go_wp2
    go_ret
    exact ⟨rfl, HEnd.out _ B10.out⟩
   | true =>
    have HKB : Hid (knB L b = true) := hkb
    clear hkb hR
    obtain ⟨saa, sao, sup, sne⟩ := HST.out
    have HAA := (show Hid (sbC L a a = true) from saa)
    have HAO := (show Hid (sbC L a objN = true) from sao)
    have HUP := (show Hid _ from sup)
    have HNE := (show Hid _ from sne)
    clear HST saa sao sup sne
    generalize spS L a = up at *
    have dup : (up.toList == up.toList) = true := by simp
    cases hx : sbC L a b with
    | false =>
     rw [hx] at HSs
     have HX : Hid (sbC L a b = false) := hx
     clear hx
     go_wp2_with fail
     refine Calls.mono (HIs.out _ a b (sm ha) B3.out) ?_
     rintro e w4 ⟨rfl, hb4⟩
     have B4 : Hid (Below w3.heap.size w3 w4) := B3.out.trans (hb4.mono B3.out.size)
     clear hb4
     rw [HX.out]
     go_wp2_with fail
     refine Calls.mono (HSs.out _ B4.out) ?_
     rintro e w5 ⟨rfl, hb5⟩
     have B5 : Hid (Below w3.heap.size w3 w5) := B4.out.trans (hb5.mono B4.out.size)
     clear hb5
     go_wp2_with fail
     refine Calls.mono (HWi.out _ B5.out) ?_
     rintro e w6 ⟨rfl, hb6⟩
     have B6 : Hid (Below w3.heap.size w3 w6) := B5.out.trans (hb6.mono B5.out.size)
     clear hb6
     go_wp2_with fail
     refine Calls.mono (HWs.out _ B6.out) ?_
     rintro e w7 ⟨rfl, hb7⟩
     have B7 : Hid (Below w3.heap.size w3 w7) := B6.out.trans (hb7.mono B6.out.size)
     clear hb7
     go_wp2_with fail
     refine Calls.mono (HWs.out _ B7.out) ?_
     rintro e w8 ⟨rfl, hb8⟩
     have B8 : Hid (Below w3.heap.size w3 w8) := B7.out.trans (hb8.mono B7.out.size)
     clear hb8
     go_wp2_with fail
     refine Calls.mono (HKs.out _ a (sm ha) B8.out) ?_
     rintro e w9 ⟨rfl, hb9⟩
     have B9 : Hid (Below w3.heap.size w3 w9) := B8.out.trans (hb9.mono B8.out.size)
     clear hb9
     rw [HKA.out]
     go_wp2_with fail
     refine Calls.mono (HKs.out _ b (sm hb) B9.out) ?_
     rintro e w10 ⟨rfl, hb10⟩
     have B10 : Hid (Below w3.heap.size w3 w10) := B9.out.trans (hb10.mono B9.out.size)
     clear hb10
     rw [HKB.out]
     go_wp2_with fail
     refine Calls.mono (HUi.out _ B10.out) ?_
     rintro e w11 ⟨rfl, hb11⟩
     have B11 : Hid (Below w3.heap.size w3 w11) := B10.out.trans (hb11.mono B10.out.size)
     clear hb11
     go_wp2_with fail
     refine Calls.mono (HUs.out _ B11.out) ?_
     rintro e w12 ⟨rfl, hb12⟩
     have B12 : Hid (Below w3.heap.size w3 w12) := B11.out.trans (hb12.mono B11.out.size)
     clear hb12
     go_wp2_with fail
     refine Calls.mono (HKi.out _ B12.out) ?_
     rintro e w13 ⟨rfl, hb13⟩
     have B13 : Hid (Below w3.heap.size w3 w13) := B12.out.trans (hb13.mono B12.out.size)
     clear hb13
     rw [HKA.out]
     go_wp2_with fail
     refine Calls.mono (HIs.out _ a a (sm ha) B13.out) ?_
     rintro e w14 ⟨rfl, hb14⟩
     have B14 : Hid (Below w3.heap.size w3 w14) := B13.out.trans (hb14.mono B13.out.size)
     clear hb14
     rw [HAA.out]
     go_wp2_with fail
     refine Calls.mono (HIs.out _ a objN (sm ha) B14.out) ?_
     rintro e w15 ⟨rfl, hb15⟩
     have B15 : Hid (Below w3.heap.size w3 w15) := B14.out.trans (hb15.mono B14.out.size)
     clear hb15
     rw [HAO.out]
     by_cases hup : up = tE
     ·have q1 : (up.toList == []) = true := by rw [hup, ByteArray.toList_eq]; rfl
      have q2 : up.toList = [] := by rw [hup, ByteArray.toList_eq]; rfl
      have q3 : (a.toList == [79, 98, 106, 101, 99, 116]) = true := by rw [HUP.out hup, ByteArray.toList_eq]; rfl
      have q4 : a.toList = [79, 98, 106, 101, 99, 116] := by simpa using q3
      clear hup
      go_wp2
      go_ret
      exact ⟨rfl, HEnd.out _ B15.out⟩
     have q2 : ¬ up.toList = [] := fun h => hup (by
      rw [ByteArray.toList_eq] at h
      exact WideShapes.bytes_inj (by rw [h]; rfl))
     have q1 : (up.toList == []) = false := by simpa using q2
     obtain ⟨u20, u1, u2, u3⟩ := HNE.out hup
     have hu : up.size ≤ maxLen := by unfold maxLen; omega
     have HU1 := (show Hid (sbC L a up = true) from u1)
     have HU2 := (show Hid (sbC L up a = false) from u2)
     have HU3 := (show Hid _ from u3)
     clear hup u1 u2 u3 HNE HUP
     go_wp2_with fail
     refine Calls.mono (HIs.out _ a up (sm ha) B15.out) ?_
     rintro e w18 ⟨rfl, hb18⟩
     have B18 : Hid (Below w3.heap.size w3 w18) := B15.out.trans (hb18.mono B15.out.size)
     clear hb18
     rw [HU1.out]
     go_wp2_with fail
     refine Calls.mono (HIs.out _ up a hu B18.out) ?_
     rintro e w19 ⟨rfl, hb19⟩
     have B19 : Hid (Below w3.heap.size w3 w19) := B18.out.trans (hb19.mono B18.out.size)
     clear hb19
     rw [HU2.out]
     go_wp2
     go_ret
     exact ⟨rfl, HEnd.out _ B19.out⟩
    | true =>
     rw [hx] at HSs
     have HX : Hid (sbC L a b = true) := hx
     clear hx
     go_wp2_with fail
     refine Calls.mono (HIs.out _ a b (sm ha) B3.out) ?_
     rintro e w4 ⟨rfl, hb4⟩
     have B4 : Hid (Below w3.heap.size w3 w4) := B3.out.trans (hb4.mono B3.out.size)
     clear hb4
     rw [HX.out]
     go_wp2_with fail
     refine Calls.mono (HSs.out _ B4.out) ?_
     rintro e w5 ⟨rfl, hb5⟩
     have B5 : Hid (Below w3.heap.size w3 w5) := B4.out.trans (hb5.mono B4.out.size)
     clear hb5
     go_wp2_with fail
     refine Calls.mono (HWi.out _ B5.out) ?_
     rintro e w6 ⟨rfl, hb6⟩
     have B6 : Hid (Below w3.heap.size w3 w6) := B5.out.trans (hb6.mono B5.out.size)
     clear hb6
     go_wp2_with fail
     refine Calls.mono (HWs.out _ B6.out) ?_
     rintro e w7 ⟨rfl, hb7⟩
     have B7 : Hid (Below w3.heap.size w3 w7) := B6.out.trans (hb7.mono B6.out.size)
     clear hb7
     go_wp2_with fail
     refine Calls.mono (HWs.out _ B7.out) ?_
     rintro e w8 ⟨rfl, hb8⟩
     have B8 : Hid (Below w3.heap.size w3 w8) := B7.out.trans (hb8.mono B7.out.size)
     clear hb8
     go_wp2_with fail
     refine Calls.mono (HKs.out _ a (sm ha) B8.out) ?_
     rintro e w9 ⟨rfl, hb9⟩
     have B9 : Hid (Below w3.heap.size w3 w9) := B8.out.trans (hb9.mono B8.out.size)
     clear hb9
     rw [HKA.out]
     go_wp2_with fail
     refine Calls.mono (HKs.out _ b (sm hb) B9.out) ?_
     rintro e w10 ⟨rfl, hb10⟩
     have B10 : Hid (Below w3.heap.size w3 w10) := B9.out.trans (hb10.mono B9.out.size)
     clear hb10
     rw [HKB.out]
     go_wp2_with fail
     refine Calls.mono (HUi.out _ B10.out) ?_
     rintro e w11 ⟨rfl, hb11⟩
     have B11 : Hid (Below w3.heap.size w3 w11) := B10.out.trans (hb11.mono B10.out.size)
     clear hb11
     go_wp2_with fail
     refine Calls.mono (HUs.out _ B11.out) ?_
     rintro e w12 ⟨rfl, hb12⟩
     have B12 : Hid (Below w3.heap.size w3 w12) := B11.out.trans (hb12.mono B11.out.size)
     clear hb12
     go_wp2_with fail
     refine Calls.mono (HKi.out _ B12.out) ?_
     rintro e w13 ⟨rfl, hb13⟩
     have B13 : Hid (Below w3.heap.size w3 w13) := B12.out.trans (hb13.mono B12.out.size)
     clear hb13
     rw [HKA.out]
     go_wp2_with fail
     refine Calls.mono (HIs.out _ a a (sm ha) B13.out) ?_
     rintro e w14 ⟨rfl, hb14⟩
     have B14 : Hid (Below w3.heap.size w3 w14) := B13.out.trans (hb14.mono B13.out.size)
     clear hb14
     rw [HAA.out]
     go_wp2_with fail
     refine Calls.mono (HIs.out _ a objN (sm ha) B14.out) ?_
     rintro e w15 ⟨rfl, hb15⟩
     have B15 : Hid (Below w3.heap.size w3 w15) := B14.out.trans (hb15.mono B14.out.size)
     clear hb15
     rw [HAO.out]
     by_cases hup : up = tE
     ·have q1 : (up.toList == []) = true := by rw [hup, ByteArray.toList_eq]; rfl
      have q2 : up.toList = [] := by rw [hup, ByteArray.toList_eq]; rfl
      have q3 : (a.toList == [79, 98, 106, 101, 99, 116]) = true := by rw [HUP.out hup, ByteArray.toList_eq]; rfl
      have q4 : a.toList = [79, 98, 106, 101, 99, 116] := by simpa using q3
      clear hup
      go_wp2
      go_ret
      exact ⟨rfl, HEnd.out _ B15.out⟩
     have q2 : ¬ up.toList = [] := fun h => hup (by
      rw [ByteArray.toList_eq] at h
      exact WideShapes.bytes_inj (by rw [h]; rfl))
     have q1 : (up.toList == []) = false := by simpa using q2
     obtain ⟨u20, u1, u2, u3⟩ := HNE.out hup
     have hu : up.size ≤ maxLen := by unfold maxLen; omega
     have HU1 := (show Hid (sbC L a up = true) from u1)
     have HU2 := (show Hid (sbC L up a = false) from u2)
     have HU3 := (show Hid _ from u3)
     clear hup u1 u2 u3 HNE HUP
     by_cases hab : a = b
     ·have q5 : (a.toList == b.toList) = true := tx_eq hab
      clear hab
      go_wp2_with fail
      refine Calls.mono (HIs.out _ a up (sm ha) B15.out) ?_
      rintro e w18 ⟨rfl, hb18⟩
      have B18 : Hid (Below w3.heap.size w3 w18) := B15.out.trans (hb18.mono B15.out.size)
      clear hb18
      rw [HU1.out]
      go_wp2_with fail
      refine Calls.mono (HIs.out _ up a hu B18.out) ?_
      rintro e w19 ⟨rfl, hb19⟩
      have B19 : Hid (Below w3.heap.size w3 w19) := B18.out.trans (hb19.mono B18.out.size)
      clear hb19
      rw [HU2.out]
      go_wp2
      go_ret
      exact ⟨rfl, HEnd.out _ B19.out⟩
     ·have q5 : (a.toList == b.toList) = false := tx_ne hab
      obtain ⟨v1, v2⟩ := HU3.out b HX.out hab
      have HV1 := (show Hid (sbC L up b = true) from v1)
      have HV2 := (show Hid (sbC L b a = false) from v2)
      clear hab v1 v2
      go_wp2_with fail
      refine Calls.mono (HIs.out _ up b hu B15.out) ?_
      rintro e w16 ⟨rfl, hb16⟩
      have B16 : Hid (Below w3.heap.size w3 w16) := B15.out.trans (hb16.mono B15.out.size)
      clear hb16
      rw [HV1.out]
      go_wp2_with fail
      refine Calls.mono (HIs.out _ b a (sm hb) B16.out) ?_
      rintro e w17 ⟨rfl, hb17⟩
      have B17 : Hid (Below w3.heap.size w3 w17) := B16.out.trans (hb17.mono B16.out.size)
      clear hb17
      rw [HV2.out]
      go_wp2_with fail
      refine Calls.mono (HIs.out _ a up (sm ha) B17.out) ?_
      rintro e w18 ⟨rfl, hb18⟩
      have B18 : Hid (Below w3.heap.size w3 w18) := B17.out.trans (hb18.mono B17.out.size)
      clear hb18
      rw [HU1.out]
      go_wp2_with fail
      refine Calls.mono (HIs.out _ up a hu B18.out) ?_
      rintro e w19 ⟨rfl, hb19⟩
      have B19 : Hid (Below w3.heap.size w3 w19) := B18.out.trans (hb19.mono B18.out.size)
      clear hb19
      rw [HU2.out]
      go_wp2
      go_ret
      exact ⟨rfl, HEnd.out _ B19.out⟩
 ·have e0 : (wOut L).2 ≠ 0 := by unfold rtB at hr; simpa using hr
  have eI : ∀ x y, isV L x y = false := fun x y => by unfold isV; simp [hr]
  simp only [eI] at HIs HSs
  generalize (wOut L).1 = o1 at *
  generalize (wOut L).2 = o2 at *
  have e1 : (o2 != 0) = true := by simpa using e0
  have e2 : (o2 == 0) = false := by simpa using e0
  clear eI hr
  go_wp2_with fail
  refine Calls.mono (HIs.out _ a b (sm ha) B3.out) ?_
  rintro e w4 ⟨rfl, hb4⟩
  have B4 : Hid (Below w3.heap.size w3 w4) := B3.out.trans (hb4.mono B3.out.size)
  clear hb4
  go_wp2_with fail
  refine Calls.mono (HSs.out _ B4.out) ?_
  rintro e w5 ⟨rfl, hb5⟩
  have B5 : Hid (Below w3.heap.size w3 w5) := B4.out.trans (hb5.mono B4.out.size)
  clear hb5
  go_wp2_with fail
  refine Calls.mono (HWi.out _ B5.out) ?_
  rintro e w6 ⟨rfl, hb6⟩
  have B6 : Hid (Below w3.heap.size w3 w6) := B5.out.trans (hb6.mono B5.out.size)
  clear hb6
  go_wp2_with fail
  refine Calls.mono (HWs.out _ B6.out) ?_
  rintro e w7 ⟨rfl, hb7⟩
  have B7 : Hid (Below w3.heap.size w3 w7) := B6.out.trans (hb7.mono B6.out.size)
  clear hb7
  go_wp2_with fail
  refine Calls.mono (HWs.out _ B7.out) ?_
  rintro e w8 ⟨rfl, hb8⟩
  have B8 : Hid (Below w3.heap.size w3 w8) := B7.out.trans (hb8.mono B7.out.size)
  clear hb8
  go_wp2
  go_ret
  exact ⟨rfl, HEnd.out _ B8.out⟩

set_option maxRecDepth 100000 in
theorem lifted (os : Os) (started : os.Started) (H : Type) (enc : TypeId × Value → H) :
  ReturnsInHanded {} Tryz.checked os 8 .any (fun w args => (Rows.fnStandsSpec.pre enc Tryz.prog Tryz.f8 [] false w args ∧ laidMetH Tryz.prog Rows.fnStandsRow.laid w) ∧ sizedMet enc Tryz.prog Tryz.f8 (OpenSpec.ofChange Rows.fnStandsSpec) false w args)
   (Rows.fnStandsSpec.post enc Tryz.prog Tryz.f8 false true false false) := by
 refine returnsInHanded_of_change_and (C := Tryz.checked) (X := fun w _ => laidMetH Tryz.prog Rows.fnStandsRow.laid w) (fun _ _ _ hh h => h.of_heap hh) own started (by kernel_rfl) Tryz.func8
  (ChangeSpec.witness_at (enc := enc) (C := Tryz.checked) (os := os) (X := fun w _ => laidMetH Tryz.prog Rows.fnStandsRow.laid w) false (laidWorld os) #[.slice none 0 0] 8 rfl (by kernel_rfl) (by kernel_rfl) (by kernel_rfl) (by kernel_rfl) (by kernel_rfl) (laidWorld_met os _)) ?_
 intro W base args ds gs before hval0 hW _ _ hL _
 have hval : ∀ (j : Nat) t v, Tryz.f8.params[j]? = some t → args[j]? = some v → Value.okWide Tryz.prog W .any base t v := hval0
 have hW' := hW
 obtain ⟨p, q, hA0, hV0, rfl, hfz, hnd⟩ := hW
 have hA : DataW.TrodAll enc Tryz.prog W 0 (fun _ => true) true Tryz.f8.params.toList args.toList ds p := hA0
 have hV : DataW.TrodVars enc Tryz.prog W (fun _ => true) ["loop.example/g00175/impl.opTable"] gs q := hV0
 rw [Tryz.params8] at hA hval
 obtain ⟨v0, vs0, d0, ds0, p0, q0, hargs, rfl, rfl, h0, r0⟩ := trodAll_cons hA
 obtain ⟨rfl, rfl, rfl⟩ := trodAll_nil r0
 obtain rfl : args = #[v0] := by cases args; simp_all
 have hVk := hV
 obtain ⟨vg, vt, vcs, vfuel, vd, vp, rfl, _, _, _, _, rfl⟩ := trodVars_one hV
 obtain ⟨htab, hglob⟩ := both_of_laid hL
 obtain ⟨a0, len0, cap0, rfl⟩ := okWide_slice Tryz.underlying38 (hval 0 38 v0 rfl rfl)
 have k0 := h0
 have lt0 : ∀ x ∈ p0, x.block < W.heap.size := by obtain ⟨m, hm⟩ := k0; exact DataW.trod_lt m _ _ _ hm
 obtain ⟨z0, w0⟩ : ∃ zs, IsRow .u8 W a0 len0 cap0 zs := by
  obtain ⟨fuel, hf⟩ := h0
  rcases open_ints Tryz.underlying38 Tryz.underlying5 (by kernel_rfl) hf with ⟨hcs, _⟩ | ⟨x, l, c, zs, hcs, _, hl, hm, hz, _, hcell, hwz⟩
  ·simp [Value.cells] at hcs
   obtain ⟨rfl, rfl, rfl⟩ := hcs
   exact ⟨[], .inl ⟨rfl, rfl, rfl, rfl⟩⟩
  ·simp [Value.cells] at hcs
   obtain ⟨rfl, rfl, rfl⟩ := hcs
   exact ⟨zs, .inr ⟨_, rfl, hl, hm, by simpa using hz, hcell, hwz⟩⟩
 clear hA0 hval0
 refine (walk a0 len0 cap0 z0 W w0 htab hglob).mono fun e W' ⟨he, bel⟩ => ?_
 subst he
 exact ⟨_, rfl, _, _, _, [], _, _, hW', trodAll_mk1 (shut_bool Tryz.underlying4 _), (trodAll_cons_mk (Below.trod laidOut (by kernel_rfl) (of_decide_eq_true (by kernel_rfl)) k0 bel lt0) trodAll_mk0), Below.trodVars laidOut bel (by kernel_rfl) hVk, bel.frame _, fun h => by cases h⟩

theorem over : Rows.fnStandsRow.holds Tryz.pinned (OpenSpec.ofChange Rows.fnStandsSpec) :=
 OpenClaim.holds_of_wide 8 Tryz.f8 rfl rfl rfl rfl rfl rfl rfl ⟨rfl, rfl, rfl, rfl, rfl⟩ rfl rfl rfl rfl rfl (by kernel_rfl) Tryz.func8 (by kernel_rfl)
  (of_decide_eq_true (by kernel_rfl)) (by unfold Func.isWrapper; first | (rw [if_pos (by decide +kernel)]; kernel_rfl) | (rw [if_neg (by decide +kernel)]; exact ⟨rfl, rfl⟩))
  (fun os started H enc _ => lifted os started H enc)

end Go.Proofs.YtmhgaggpdggbeaaGreatDoor.fnStands
namespace Go.Proofs.YtmhgaggpdggbeaaGreatDoor
theorem fnStands_holds : Rows.FnStandsCardSaid :=
 Claim7.holds_tied_plain_at .later [] [.handle, .data] true (true, "a9a61ffc67ae99f45bc6445069b36beb30fb85df5e4a4fc939723e9fa45922a0") true
  fnStands.over (fun _ h => by cases h) (by kernel_rfl) (fun _ h => by cases h) fnStands_row_tie rfl ⟨rfl, rfl⟩ (by kernel_rfl) rfl
  (fun f fn hf hfn => by
   obtain rfl : f = 8 := Option.some.inj ((show Tryz.prog.funcNamed "loop.example/g00175/laws.FnStands" = some 8 by kernel_rfl).symm.trans hf) |>.symm
   obtain rfl : fn = Tryz.f8 := (Option.some.inj (Tryz.func8.symm.trans hfn)).symm
   exact ⟨by kernel_rfl, fun j t ht => by
    rw [Tryz.params8] at ht
    rcases j with _ | j
    ·obtain rfl : t = 38 := by simpa using ht.symm
     exact (show Tryz.prog.wantsStandIn 38 = false by kernel_rfl)
    ·skip
     simp at ht⟩)
  (by kernel_rfl)
#print axioms fnStands_holds
end Go.Proofs.YtmhgaggpdggbeaaGreatDoor
