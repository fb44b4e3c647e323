/-
  Whatever the code, the law FnOps returns true: each drawn op of the program has a name that no other one has, and an instruction of it alone is right just if its form asks for no name and no desc; the argument and the program's table read as they did before. The variables listed are errors.errorType and the program's table opTable, both tied to the program's text by the card.
-/
import Derived.Test.YtiaefillccilgafDoorRows
import Derived.Test.YtiaefillccilgafDoorCards
import Derived.Test.YtiaefillccilgafDoorTie
import Derived.WalkKit
import Derived.ProofKit
import Derived.OpenShut
import Derived.ShutString
import Derived.ChangeOld
import Derived.Below
import Derived.Carry
import Derived.OpenVars
import Derived.ChangeSame
import Derived.ChangeVars
import Derived.JoinedOf
import Derived.RowKit
import Derived.RowKitTokens
import Derived.LaidLaws
import Derived.LaidHandle
import Derived.LaidMore
import Derived.Stop.Joined
import Derived.SevenTiedAt
import Derived.Test.YtiaefillccilgafDoorOpl
namespace Go.Proofs.YtiaefillccilgafDoor.fnOps
open Go.ChangeShapes Go.WideShapes Go.ChangeAt Go.RowKit
open Go.ChangeMaps (open_string shut_string)
set_option linter.unusedVariables false

theorem own : ownKnob Tryd.prog.godebug = none := by kernel_rfl
theorem laidOut : laidOutB Tryd.prog = true := by kernel_rfl
theorem ot : Tryd.prog.globalNamed "loop.example/g00175/impl.opTable" = some 0 := by kernel_rfl
theorem otT : (Tryd.prog.globals[0]?).map (·.type) = some 50 := by kernel_rfl
theorem c1 : Tryd.prog.cellsOf 33 = 2 := by kernel_rfl
theorem c2 : Tryd.prog.cellsOf 9 = 1 := by kernel_rfl

theorem tab_datum {H : Type} : (Rows.laid_loop_example_g00175_impl_opTable : DataW H) = .agg ((List.range 45).map fun i : Nat => .agg [.lit (.string (nmS (i : Int)).data.toList), .lit (.string (fmS (i : Int)).data.toList)]) := by kernel_rfl

theorem bytes_of {a b : ByteArray} (h : a.data.toList = b.data.toList) : a = b := by
  obtain ⟨⟨x⟩⟩ := a
  obtain ⟨⟨y⟩⟩ := b
  simp at h
  rw [h]

theorem tab_of_data {W : World} (h : laidMet Tryd.prog [("loop.example/g00175/impl.opTable", Rows.laid_loop_example_g00175_impl_opTable)] W) : Tab W := by
  obtain ⟨ps, ⟨g, t, cs, fuel, p, q, hg, ht, hvar, hd, _, _⟩, _⟩ := h
  obtain rfl := Option.some.inj (ot.symm.trans hg)
  obtain rfl := Option.some.inj (otT.symm.trans ht)
  rw [tab_datum] at hd
  obtain ⟨xs, m, _, hx, hlen, hn, hel⟩ := DataW.trod_array Tryd.underlying50 hd
  simp only [Prod.mk.injEq, DataW.agg.injEq] at hx
  intro i hi
  have h1 := hel i hi
  rw [c1] at h1
  have h2 : (xs.map (·.1))[i]? = some (.agg [.lit (.string (nmS (i : Int)).data.toList), .lit (.string (fmS (i : Int)).data.toList)]) := by
    rw [← hx.1, List.getElem?_map, List.getElem?_range hi]; rfl
  rw [List.getElem?_map] at h2
  obtain ⟨y, hy, hy2⟩ := Option.map_eq_some_iff.1 h2
  rw [hy] at h1
  obtain ⟨ys, k, _, hys, hcl, hyl, hfs⟩ := DataW.trod_struct Tryd.underlying33 h1
  have e0 := hfs 0 _ rfl
  have e1 := hfs 1 _ rfl
  have hyl2 : ys.length = 2 := hyl
  match ys, hyl2, hys, e0, e1 with
  | [y0, y1], _, hys, e0, e1 =>
    simp only [List.getElem?_cons_zero, List.getElem?_cons_succ] at e0 e1
    obtain ⟨s0, k0, d0, _⟩ := DataW.trod_string Tryd.underlying9 e0
    obtain ⟨s1, k1, d1, _⟩ := DataW.trod_string Tryd.underlying9 e1
    rw [hys] at hy2
    simp only [List.map_cons, List.map_nil, DataW.agg.injEq, List.cons.injEq, and_true] at hy2
    rw [d0, d1] at hy2
    simp only [DataW.lit.injEq, Lit.string.injEq] at hy2
    have q0 : s0 = nmS (i : Int) := bytes_of hy2.1
    have q1 : s1 = fmS (i : Int) := bytes_of hy2.2
    subst q0 q1
    have r0 := congrArg (fun l : List Value => l[0]?) k0
    have r1 := congrArg (fun l : List Value => l[0]?) k1
    have z0 : Tryd.prog.cellsOf (9) = 1 := c2
    constructor
    · have := World.var?_cell hg hvar (2 * i)
      rw [this, ← Array.getElem?_toList]
      simpa [List.getElem?_take, List.getElem?_drop, c2, Nat.mul_comm] using r0
    · have := World.var?_cell hg hvar (2 * i + 1)
      rw [this, ← Array.getElem?_toList]
      simpa [List.getElem?_take, List.getElem?_drop, c2, Nat.mul_comm] using r1

theorem et : Tryd.prog.globalNamed "errors.errorType" = some 1 := by kernel_rfl
theorem rt : (Tryd.prog.cutTypes.find? (·.1 == "internal/reflectlite.rtype")).map (·.2) = some 79 := by kernel_rfl
theorem oneRow : ((List.range 123).filter fun t => Tryd.prog.rowNamed t [101, 114, 114, 111, 114]) = [53] := by kernel_rfl
theorem typesSize : Tryd.prog.types.size = 123 := by kernel_rfl
theorem both_of_laid {W : World} (h : laidMetH Tryd.prog Rows.fnOpsRow.laid W) : Tab W ∧ Glob W := by
  have h' : laidMet Tryd.prog [("loop.example/g00175/impl.opTable", Rows.laid_loop_example_g00175_impl_opTable)] W ∧ handlesMet Tryd.prog [("errors.errorType", Rows.laid_errors_errorType)] W := h
  refine ⟨tab_of_data h'.1, ?_⟩
  obtain ⟨name, u, ty, e1, e2, e3, e4, e5⟩ := h'.2 _ (List.mem_singleton.2 rfl)
  have en : name = [101, 114, 114, 111, 114] := (Option.some.inj e1).symm
  subst en
  obtain rfl := Option.some.inj (rt.symm.trans e2)
  have hm : ty ∈ (List.range 123).filter fun t => Tryd.prog.rowNamed t [101, 114, 114, 111, 114] := List.mem_filter.2 ⟨List.mem_range.2 (by rw [← typesSize]; exact e3), e4⟩
  rw [oneRow] at hm
  obtain rfl := List.mem_singleton.1 hm
  have hh : typeHandle Tryd.prog 53 = .pointer (some ⟨2, 53, none⟩) := by kernel_rfl
  rw [hh] at e5
  simpa [Glob] using World.var?_cell et e5 0

noncomputable def laidWorld (os : Os) : World :=
  let w0 := World.holding Tryd.prog os ⟨#[], #[], []⟩
  { w0 with heap := (w0.heap.modify 1 fun
      | .cells _ t frozen => .cells #[.iface 79 (.agg #[.pointer (some ⟨2, 53, none⟩)])] t frozen
      | o => o).modify 0 fun
      | .cells _ t frozen => .cells ((List.range 90).map fun j : Nat => .string (if j % 2 = 0 then nmS ((j / 2 : Nat) : Int) else fmS ((j / 2 : Nat) : Int))).toArray t frozen
      | o => o }
theorem laidWorld_met (os : Os) (args : Array Value) : laidMetH Tryd.prog Rows.fnOpsRow.laid ((laidWorld os).forCall (fun _ _ => 0) ⟨#[], args, []⟩).memory :=
  laidMetH_of_parts (laidMet_of_run' 8 (by kernel_rfl) (by kernel_rfl)) (by kernel_rfl)

set_option maxHeartbeats 2000000 in
theorem walk (a0 : Option Addr) (len0 cap0 : Nat) (z0 : List Int) (w : World) (w0 : IsRow .u8 w a0 len0 cap0 z0) (ht : Tab w) (hg : Glob w) :
    Calls Tryd.prog 3 #[.slice a0 len0 cap0] w fun e w' => e = .returned (.bool true) ∧ Below w.heap.size w w' := by
  have HT := (show Hid (Tab w) from ht)
  have HG := (show Hid (Glob w) from hg)
  clear ht hg
  have hcap : len0 ≤ maxLen := by
    rcases w0 with ⟨_, h, _, _⟩ | ⟨x, _, h1, h2, _⟩
    · rw [h]; unfold maxLen; omega
    · omega
  unfold maxLen at hcap
  by_cases hbig : (1048576 : Int) < len0
  · go_enter Tryd.func3, Tryd.ntmps3
    go_wp2
    go_ret
    exact ⟨rfl, Below.refl _ _⟩
  have HD : Hid (Calls Tryd.prog 4 #[.slice a0 len0 cap0] w fun e w' => (∃ r : Int, e = .returned (.int .i64 r) ∧ -1 ≤ r ∧ r ≤ 46) ∧ Below w.heap.size w w') := drawOpName a0 len0 cap0 z0 w w0 (by omega)
  clear w0
  have db : decide ((1048576 : Int) < len0) = false := by simpa using hbig
  go_enter Tryd.func3, Tryd.ntmps3
  go_wp2_with fail
  refine Calls.mono HD.out ?_
  rintro e w1 ⟨⟨op, rfl, ho1, ho2⟩, hb1⟩
  have HB1 : Hid (Below w.heap.size w w1) := hb1
  have HNm : Hid (∀ w, Tab w → Calls Tryd.prog 5 #[.int .i64 op] w fun e w' => e = .returned (.string (nmS op)) ∧ Below w.heap.size w w') := fun w h => implOpName op w h
  have HFm : Hid (∀ w, Tab w → Calls Tryd.prog 6 #[.int .i64 op] w fun e w' => e = .returned (.string (fmS op)) ∧ Below w.heap.size w w') := fun w h => implOpForm op w h
  have HSf : Hid (∀ w, Calls Tryd.prog 8 #[.int .i64 op] w fun e w' => e = .returned (.string (fmS op)) ∧ Below w.heap.size w w') := fun w => specOpForm op w (by omega)
  have HIns : Hid (∀ w, Tab w → Glob w → Calls Tryd.prog 7 #[.agg #[.int .i64 op, .int .i64 0, .string ⟨#[]⟩, .string ⟨#[]⟩, .string ⟨#[]⟩]] w fun e w' => e = .returned (.bool (insOk (fmS op) 0 ⟨#[]⟩ ⟨#[]⟩ ⟨#[]⟩)) ∧ Below w.heap.size w w') := fun w ht hg => implInsRight op 0 ⟨#[]⟩ ⟨#[]⟩ ⟨#[]⟩ w ht hg (by omega) (by decide) (by decide) (by decide)
  clear hb1 HD
  by_cases hin : 1 ≤ op ∧ op < 45
  · rw [insOk_alone op hin] at HIns
    obtain ⟨i, rfl⟩ : ∃ i : Nat, op = (i : Int) := ⟨op.toNat, by omega⟩
    have d1 : decide ((i : Int) < 1) = false := by simp; omega
    have d2 : decide ((44 : Int) < i) = false := by simp; omega
    have HNe : Hid (∀ k : Nat, k < 45 → k ≠ i → ((nmS (k : Int)).toList == (nmS (i : Int)).toList) = false) := fun k hk hne => nmS_ne k i hk (by omega) hne
    have hsome := nmS_some i (by omega)
    have HOn : Hid (∀ (k : Nat) w, Tab w → Calls Tryd.prog 5 #[.int .i64 (k : Int)] w fun e w' => e = .returned (.string (nmS (k : Int))) ∧ Below w.heap.size w w') := fun k w h => implOpName k w h
    go_wp2_with fail
    refine Calls.mono (HNm.out _ (HT.out.mono HB1.out)) ?_
    rintro e w2 ⟨rfl, hb2⟩
    have HB2 : Hid (Below w.heap.size w w2) := HB1.out.trans (hb2.mono HB1.out.size)
    clear hb2 HNm
    go_wp2_with fail
    refine Calls.mono (HFm.out _ (HT.out.mono HB2.out)) ?_
    rintro e w3 ⟨rfl, hb3⟩
    have HB3 : Hid (Below w.heap.size w w3) := HB2.out.trans (hb3.mono HB2.out.size)
    clear hb3 HFm HB1 HB2
    generalize nmS (i : Int) = nm at *
    have hfc := fmS_cases (i : Int)
    generalize fmS (i : Int) = fm at *
    go_wp2_with fail
    go_loopw [6] (fun j6 wr => ∃ k : Nat, 1 ≤ k ∧ k ≤ 45 ∧ j6 = .int .i64 (k : Int) ∧ Below w.heap.size w wr) (fun j6 _ => 45 - (intOf j6).toNat)
    case atStart => exact ⟨1, by omega, by omega, rfl, HB3.out⟩
    case round =>
      obtain ⟨k, hk1, hk2, rfl, hb⟩ := hrel
      have HB : Hid (Below w.heap.size w wr) := hb
      clear hb
      by_cases hlt : k < 45
      · by_cases hki : k = i
        · subst hki
          have dk : decide ((k : Int) ≤ 44) = true := by simp; omega
          go_wp2
          go_roundw
          case rel => exact ⟨k + 1, by omega, by omega, rfl, HB.out⟩
          case measure => simp [intOf]; omega
        · have dk : decide ((k : Int) ≤ 44) = true := by simp; omega
          have dn : ((k : Int) != (i : Int)) = true := by simp; omega
          have hne := HNe.out k hlt hki
          go_wp2_with fail
          refine Calls.mono (HOn.out k _ (HT.out.mono HB.out)) ?_
          rintro e w4 ⟨rfl, hb4⟩
          have HB4 : Hid (Below w.heap.size w w4) := HB.out.trans (hb4.mono HB.out.size)
          clear hb4
          generalize nmS (k : Int) = nk at *
          go_wp2
          go_roundw
          case rel => exact ⟨k + 1, by omega, by omega, rfl, HB4.out⟩
          case measure => simp [intOf]; omega
      · obtain rfl : k = 45 := by omega
        have hs2 : (nm.toList != []) = true := by rw [List.isEmpty_eq_false_iff] at hsome; simpa using hsome
        have hff : (fm.toList == fm.toList) = true := by simp
        clear hfc HNe HOn HB3
        cases he : fm.toList.isEmpty
        case true =>
          have HA : Hid (aloneB fm = true) := by show _ = _; unfold aloneB; rw [he]; rfl
          rw [HA.out] at HIns
          clear HA
          go_wp2_with fail
          refine Calls.mono (HIns.out _ (HT.out.mono HB.out) (HG.out.mono HB.out)) ?_
          rintro e w5 ⟨rfl, hb5⟩
          have HB5 : Hid (Below w.heap.size w w5) := HB.out.trans (hb5.mono HB.out.size)
          clear hb5
          go_wp2_with fail
          refine Calls.mono (HSf.out _) ?_
          rintro e w6 ⟨rfl, hb6⟩
          have HB6 : Hid (Below w.heap.size w w6) := HB5.out.trans (hb6.mono HB5.out.size)
          clear hb6
          go_wp2
          go_ret
          exact ⟨rfl, HB6.out⟩
        cases hn : (fm.toList == [110])
        case true =>
          have HA : Hid (aloneB fm = true) := by show _ = _; unfold aloneB; rw [he, hn]; rfl
          rw [HA.out] at HIns
          clear HA
          go_wp2_with fail
          refine Calls.mono (HIns.out _ (HT.out.mono HB.out) (HG.out.mono HB.out)) ?_
          rintro e w5 ⟨rfl, hb5⟩
          have HB5 : Hid (Below w.heap.size w w5) := HB.out.trans (hb5.mono HB.out.size)
          clear hb5
          go_wp2_with fail
          refine Calls.mono (HSf.out _) ?_
          rintro e w6 ⟨rfl, hb6⟩
          have HB6 : Hid (Below w.heap.size w w6) := HB5.out.trans (hb6.mono HB5.out.size)
          clear hb6
          go_wp2
          go_ret
          exact ⟨rfl, HB6.out⟩
        cases hi : (fm.toList == [105])
        case true =>
          have HA : Hid (aloneB fm = true) := by show _ = _; unfold aloneB; rw [he, hn, hi]; rfl
          rw [HA.out] at HIns
          clear HA
          go_wp2_with fail
          refine Calls.mono (HIns.out _ (HT.out.mono HB.out) (HG.out.mono HB.out)) ?_
          rintro e w5 ⟨rfl, hb5⟩
          have HB5 : Hid (Below w.heap.size w w5) := HB.out.trans (hb5.mono HB.out.size)
          clear hb5
          go_wp2_with fail
          refine Calls.mono (HSf.out _) ?_
          rintro e w6 ⟨rfl, hb6⟩
          have HB6 : Hid (Below w.heap.size w w6) := HB5.out.trans (hb6.mono HB5.out.size)
          clear hb6
          go_wp2
          go_ret
          exact ⟨rfl, HB6.out⟩
        cases ht : (fm.toList == [116])
        case true =>
          have HA : Hid (aloneB fm = true) := by show _ = _; unfold aloneB; rw [he, hn, hi, ht]; rfl
          rw [HA.out] at HIns
          clear HA
          go_wp2_with fail
          refine Calls.mono (HIns.out _ (HT.out.mono HB.out) (HG.out.mono HB.out)) ?_
          rintro e w5 ⟨rfl, hb5⟩
          have HB5 : Hid (Below w.heap.size w w5) := HB.out.trans (hb5.mono HB.out.size)
          clear hb5
          go_wp2_with fail
          refine Calls.mono (HSf.out _) ?_
          rintro e w6 ⟨rfl, hb6⟩
          have HB6 : Hid (Below w.heap.size w w6) := HB5.out.trans (hb6.mono HB5.out.size)
          clear hb6
          go_wp2
          go_ret
          exact ⟨rfl, HB6.out⟩
        have HA : Hid (aloneB fm = false) := by show _ = _; unfold aloneB; rw [he, hn, hi, ht]; rfl
        rw [HA.out] at HIns
        clear HA
        go_wp2_with fail
        refine Calls.mono (HIns.out _ (HT.out.mono HB.out) (HG.out.mono HB.out)) ?_
        rintro e w5 ⟨rfl, hb5⟩
        have HB5 : Hid (Below w.heap.size w w5) := HB.out.trans (hb5.mono HB.out.size)
        clear hb5
        go_wp2_with fail
        refine Calls.mono (HSf.out _) ?_
        rintro e w6 ⟨rfl, hb6⟩
        have HB6 : Hid (Below w.heap.size w w6) := HB5.out.trans (hb6.mono HB5.out.size)
        clear hb6
        go_wp2
        go_ret
        exact ⟨rfl, HB6.out⟩
  · have hnm : nmS op = ⟨#[]⟩ := by unfold nmS; rw [if_neg hin]
    have hfm : fmS op = ⟨#[33]⟩ := by unfold fmS; rw [if_neg hin]
    rw [hfm, insOk_x] at HIns
    rw [hnm] at HNm
    rw [hfm] at HFm
    clear hnm hfm HSf
    by_cases c1 : op < 1
    · have d1 : decide (op < 1) = true := by simpa using c1
      go_wp2_with fail
      refine Calls.mono (HNm.out _ (HT.out.mono HB1.out)) ?_
      rintro e w2 ⟨rfl, hb2⟩
      have HB2 : Hid (Below w.heap.size w w2) := HB1.out.trans (hb2.mono HB1.out.size)
      clear hb2
      go_wp2_with fail
      refine Calls.mono (HFm.out _ (HT.out.mono HB2.out)) ?_
      rintro e w3 ⟨rfl, hb3⟩
      have HB3 : Hid (Below w.heap.size w w3) := HB2.out.trans (hb3.mono HB2.out.size)
      clear hb3
      go_wp2_with fail
      refine Calls.mono (HIns.out _ (HT.out.mono HB3.out) (HG.out.mono HB3.out)) ?_
      rintro e w4 ⟨rfl, hb4⟩
      have HB4 : Hid (Below w.heap.size w w4) := HB3.out.trans (hb4.mono HB3.out.size)
      clear hb4
      go_wp2
      go_ret
      exact ⟨rfl, HB4.out⟩
    · have d1 : decide (op < 1) = false := by simpa using c1
      have d2 : decide (44 < op) = true := by simp; omega
      go_wp2_with fail
      refine Calls.mono (HNm.out _ (HT.out.mono HB1.out)) ?_
      rintro e w2 ⟨rfl, hb2⟩
      have HB2 : Hid (Below w.heap.size w w2) := HB1.out.trans (hb2.mono HB1.out.size)
      clear hb2
      go_wp2_with fail
      refine Calls.mono (HFm.out _ (HT.out.mono HB2.out)) ?_
      rintro e w3 ⟨rfl, hb3⟩
      have HB3 : Hid (Below w.heap.size w w3) := HB2.out.trans (hb3.mono HB2.out.size)
      clear hb3
      go_wp2_with fail
      refine Calls.mono (HIns.out _ (HT.out.mono HB3.out) (HG.out.mono HB3.out)) ?_
      rintro e w4 ⟨rfl, hb4⟩
      have HB4 : Hid (Below w.heap.size w w4) := HB3.out.trans (hb4.mono HB3.out.size)
      clear hb4
      go_wp2
      go_ret
      exact ⟨rfl, HB4.out⟩

set_option maxRecDepth 100000 in
theorem lifted (os : Os) (started : os.Started) (H : Type) (enc : TypeId × Value → H) :
    ReturnsInHanded {} Tryd.checked os 3 .any (fun w args => (Rows.fnOpsSpec.pre enc Tryd.prog Tryd.f3 [] false w args ∧ laidMetH Tryd.prog Rows.fnOpsRow.laid w) ∧ sizedMet enc Tryd.prog Tryd.f3 (OpenSpec.ofChange Rows.fnOpsSpec) false w args)
      (Rows.fnOpsSpec.post enc Tryd.prog Tryd.f3 false true false false) := by
  refine returnsInHanded_of_change_and (C := Tryd.checked) (X := fun w _ => laidMetH Tryd.prog Rows.fnOpsRow.laid w) (fun _ _ _ hh h => h.of_heap hh) own started (by kernel_rfl) Tryd.func3
    (ChangeSpec.witness_at (enc := enc) (C := Tryd.checked) (os := os) (X := fun w _ => laidMetH Tryd.prog Rows.fnOpsRow.laid w) false (laidWorld os) #[.slice none 0 0] 8 rfl (by kernel_rfl) (by kernel_rfl) (by kernel_rfl) (by kernel_rfl) (by kernel_rfl) (laidWorld_met os _)) ?_
  intro W base args ds gs before hval0 hW _ _ hL _
  have hval : ∀ (j : Nat) t v, Tryd.f3.params[j]? = some t → args[j]? = some v → Value.okWide Tryd.prog W .any base t v := hval0
  have hW' := hW
  obtain ⟨p, q, hA0, hV0, rfl, hfz, hnd⟩ := hW
  have hA : DataW.TrodAll enc Tryd.prog W 0 (fun _ => true) true Tryd.f3.params.toList args.toList ds p := hA0
  have hV : DataW.TrodVars enc Tryd.prog W (fun _ => true) ["loop.example/g00175/impl.opTable"] gs q := hV0
  rw [Tryd.params3] at hA hval
  obtain ⟨v0, vs0, d0, ds0, p0, q0, hargs, rfl, rfl, h0, r0⟩ := trodAll_cons hA
  obtain ⟨rfl, rfl, rfl⟩ := trodAll_nil r0
  obtain rfl : args = #[v0] := by cases args; simp_all
  have hVk := hV
  obtain ⟨vg, vt, vcs, vfuel, vd, vp, rfl, _, _, _, _, rfl⟩ := trodVars_one hV
  obtain ⟨htab, hglob⟩ := both_of_laid hL
  obtain ⟨a0, len0, cap0, rfl⟩ := okWide_slice Tryd.underlying22 (hval 0 22 v0 rfl rfl)
  have k0 := h0
  have lt0 : ∀ x ∈ p0, x.block < W.heap.size := by obtain ⟨m, hm⟩ := k0; exact DataW.trod_lt m _ _ _ hm
  obtain ⟨z0, w0⟩ : ∃ zs, IsRow .u8 W a0 len0 cap0 zs := by
    obtain ⟨fuel, hf⟩ := h0
    rcases open_ints Tryd.underlying22 Tryd.underlying5 (by kernel_rfl) hf with ⟨hcs, _⟩ | ⟨x, l, c, zs, hcs, _, hl, hm, hz, _, hcell, hwz⟩
    · simp [Value.cells] at hcs
      obtain ⟨rfl, rfl, rfl⟩ := hcs
      exact ⟨[], .inl ⟨rfl, rfl, rfl, rfl⟩⟩
    · simp [Value.cells] at hcs
      obtain ⟨rfl, rfl, rfl⟩ := hcs
      exact ⟨zs, .inr ⟨_, rfl, hl, hm, by simpa using hz, hcell, hwz⟩⟩
  clear hA0 hval0
  refine (walk a0 len0 cap0 z0 W w0 htab hglob).mono fun e W' ⟨he, bel⟩ => ?_
  subst he
  exact ⟨_, rfl, _, _, _, [], _, _, hW', trodAll_mk1 (shut_bool Tryd.underlying4 _), (trodAll_cons_mk (Below.trod laidOut (by kernel_rfl) (of_decide_eq_true (by kernel_rfl)) k0 bel lt0) trodAll_mk0), Below.trodVars laidOut bel (by kernel_rfl) hVk, bel.frame _, fun h => by cases h⟩

theorem over : Rows.fnOpsRow.holds Tryd.pinned (OpenSpec.ofChange Rows.fnOpsSpec) :=
  OpenClaim.holds_of_wide 3 Tryd.f3 rfl rfl rfl rfl rfl rfl rfl ⟨rfl, rfl, rfl, rfl, rfl⟩ rfl rfl rfl rfl rfl (by kernel_rfl) Tryd.func3 (by kernel_rfl)
    (of_decide_eq_true (by kernel_rfl)) (by unfold Func.isWrapper; first | (rw [if_pos (by decide +kernel)]; kernel_rfl) | (rw [if_neg (by decide +kernel)]; exact ⟨rfl, rfl⟩))
    (fun os started H enc _ => lifted os started H enc)

end Go.Proofs.YtiaefillccilgafDoor.fnOps
namespace Go.Proofs.YtiaefillccilgafDoor
theorem fnOps_holds : Rows.FnOpsCardSaid :=
  Claim7.holds_tied_plain_at .later [] [.handle, .data] true (true, "5b8257d84728852c594ffb3dac22ea8b212aad1a1a5220d30b54aaa7ba64b80c") true
    fnOps.over (fun _ h => by cases h) (by kernel_rfl) (fun _ h => by cases h) fnOps_row_tie rfl ⟨rfl, rfl⟩ (by kernel_rfl) rfl
    (fun f fn hf hfn => by
      obtain rfl : f = 3 := Option.some.inj ((show Tryd.prog.funcNamed "loop.example/g00175/laws.FnOps" = some 3 by kernel_rfl).symm.trans hf) |>.symm
      obtain rfl : fn = Tryd.f3 := (Option.some.inj (Tryd.func3.symm.trans hfn)).symm
      exact ⟨by kernel_rfl, fun j t ht => by
        rw [Tryd.params3] at ht
        have h3 : t = 22 := by
          rcases j with _ | j
          · simpa using ht.symm
          · simp at ht
        subst h3
        exact (show Tryd.prog.wantsStandIn 22 = false by kernel_rfl)⟩)
    (by kernel_rfl)
#print axioms fnOps_holds
end Go.Proofs.YtiaefillccilgafDoor
