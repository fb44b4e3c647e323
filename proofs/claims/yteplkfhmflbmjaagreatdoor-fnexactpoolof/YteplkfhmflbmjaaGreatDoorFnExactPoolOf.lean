/-
  Whatever the class, the law FnExactPoolOf returns true: the program's PoolOf answers as the model's does, text by text; it leaves what it is handed as it was and keeps nothing of it; what it hands back is its own memory, which a later call leaves alone; the argument and the program's table read as they did before. The variables listed are errors.errorType and the program's table opTable, both tied to the program's text by the card.
-/
import Derived.Test.YteplkfhmflbmjaaGreatDoorRows
import Derived.Test.YteplkfhmflbmjaaGreatDoorCards
import Derived.Test.YteplkfhmflbmjaaGreatDoorTie
import Derived.WalkKit
import Derived.ProofKit
import Derived.OpenShut
import Derived.ShutString
import Derived.ChangeOld
import Derived.Below
import Derived.Carry
import Derived.OpenVars
import Derived.ChangeSame
import Derived.ChangeVars
import Derived.JoinedOf
import Derived.RowKit
import Derived.RowKitTokens
import Derived.LaidLaws
import Derived.LaidHandle
import Derived.LaidMore
import Derived.Stop.Joined
import Derived.SevenTiedAt
import Derived.Test.YteplkfhmflbmjaaGreatDoorPoX
import Derived.Test.YteplkfhmflbmjaaGreatDoorPool
namespace Go.Proofs.YteplkfhmflbmjaaGreatDoor.fnExactPoolOf
open Go.ChangeShapes Go.WideShapes Go.ChangeAt Go.RowKit
open Go.ChangeMaps (open_string shut_string)
set_option linter.unusedVariables false

theorem own : ownKnob Tryz.prog.godebug = none := by kernel_rfl
theorem laidOut : laidOutB Tryz.prog = true := by kernel_rfl
theorem ot : Tryz.prog.globalNamed "loop.example/g00175/impl.opTable" = some 0 := by kernel_rfl
theorem otT : (Tryz.prog.globals[0]?).map (·.type) = some 214 := by kernel_rfl
theorem c1 : Tryz.prog.cellsOf 205 = 2 := by kernel_rfl
theorem c2 : Tryz.prog.cellsOf 9 = 1 := by kernel_rfl

theorem tab_datum {H : Type} : (Rows.laid_loop_example_g00175_impl_opTable : DataW H) = .agg ((List.range 45).map fun i : Nat => .agg [.lit (.string (nmS (i : Int)).data.toList), .lit (.string (fmS (i : Int)).data.toList)]) := by kernel_rfl

theorem bytes_of {a b : ByteArray} (h : a.data.toList = b.data.toList) : a = b := by
  obtain ⟨⟨x⟩⟩ := a
  obtain ⟨⟨y⟩⟩ := b
  simp at h
  rw [h]

theorem tab_of_data {W : World} (h : laidMet Tryz.prog [("loop.example/g00175/impl.opTable", Rows.laid_loop_example_g00175_impl_opTable)] W) : Tab W := by
  obtain ⟨ps, ⟨g, t, cs, fuel, p, q, hg, ht, hvar, hd, _, _⟩, _⟩ := h
  obtain rfl := Option.some.inj (ot.symm.trans hg)
  obtain rfl := Option.some.inj (otT.symm.trans ht)
  rw [tab_datum] at hd
  obtain ⟨xs, m, _, hx, hlen, hn, hel⟩ := DataW.trod_array Tryz.underlying214 hd
  simp only [Prod.mk.injEq, DataW.agg.injEq] at hx
  intro i hi
  have h1 := hel i hi
  rw [c1] at h1
  have h2 : (xs.map (·.1))[i]? = some (.agg [.lit (.string (nmS (i : Int)).data.toList), .lit (.string (fmS (i : Int)).data.toList)]) := by
    rw [← hx.1, List.getElem?_map, List.getElem?_range hi]; rfl
  rw [List.getElem?_map] at h2
  obtain ⟨y, hy, hy2⟩ := Option.map_eq_some_iff.1 h2
  rw [hy] at h1
  obtain ⟨ys, k, _, hys, hcl, hyl, hfs⟩ := DataW.trod_struct Tryz.underlying205 h1
  have e0 := hfs 0 _ rfl
  have e1 := hfs 1 _ rfl
  have hyl2 : ys.length = 2 := hyl
  match ys, hyl2, hys, e0, e1 with
  | [y0, y1], _, hys, e0, e1 =>
    simp only [List.getElem?_cons_zero, List.getElem?_cons_succ] at e0 e1
    obtain ⟨s0, k0, d0, _⟩ := DataW.trod_string Tryz.underlying9 e0
    obtain ⟨s1, k1, d1, _⟩ := DataW.trod_string Tryz.underlying9 e1
    rw [hys] at hy2
    simp only [List.map_cons, List.map_nil, DataW.agg.injEq, List.cons.injEq, and_true] at hy2
    rw [d0, d1] at hy2
    simp only [DataW.lit.injEq, Lit.string.injEq] at hy2
    have q0 : s0 = nmS (i : Int) := bytes_of hy2.1
    have q1 : s1 = fmS (i : Int) := bytes_of hy2.2
    subst q0 q1
    have r0 := congrArg (fun l : List Value => l[0]?) k0
    have r1 := congrArg (fun l : List Value => l[0]?) k1
    have z0 : Tryz.prog.cellsOf (9) = 1 := c2
    constructor
    · have := World.var?_cell hg hvar (2 * i)
      rw [this, ← Array.getElem?_toList]
      simpa [List.getElem?_take, List.getElem?_drop, c2, Nat.mul_comm] using r0
    · have := World.var?_cell hg hvar (2 * i + 1)
      rw [this, ← Array.getElem?_toList]
      simpa [List.getElem?_take, List.getElem?_drop, c2, Nat.mul_comm] using r1

theorem et : Tryz.prog.globalNamed "errors.errorType" = some 1 := by kernel_rfl
theorem rt : (Tryz.prog.cutTypes.find? (·.1 == "internal/reflectlite.rtype")).map (·.2) = some 230 := by kernel_rfl
theorem oneRow : ((List.range 270).filter fun t => Tryz.prog.rowNamed t [101, 114, 114, 111, 114]) = [196] := by kernel_rfl
theorem typesSize : Tryz.prog.types.size = 270 := by kernel_rfl
theorem both_of_laid {W : World} (h : laidMetH Tryz.prog Rows.fnExactPoolOfRow.laid W) : Tab W ∧ Glob W := by
  have h' : laidMet Tryz.prog [("loop.example/g00175/impl.opTable", Rows.laid_loop_example_g00175_impl_opTable)] W ∧ handlesMet Tryz.prog [("errors.errorType", Rows.laid_errors_errorType)] W := h
  refine ⟨tab_of_data h'.1, ?_⟩
  obtain ⟨name, u, ty, e1, e2, e3, e4, e5⟩ := h'.2 _ (List.mem_singleton.2 rfl)
  have en : name = [101, 114, 114, 111, 114] := (Option.some.inj e1).symm
  subst en
  obtain rfl := Option.some.inj (rt.symm.trans e2)
  have hm : ty ∈ (List.range 270).filter fun t => Tryz.prog.rowNamed t [101, 114, 114, 111, 114] := List.mem_filter.2 ⟨List.mem_range.2 (by rw [← typesSize]; exact e3), e4⟩
  rw [oneRow] at hm
  obtain rfl := List.mem_singleton.1 hm
  have hh : typeHandle Tryz.prog 196 = .pointer (some ⟨2, 196, none⟩) := by kernel_rfl
  rw [hh] at e5
  simpa [Glob] using World.var?_cell et e5 0

noncomputable def laidWorld (os : Os) : World :=
  let w0 := World.holding Tryz.prog os ⟨#[], #[], []⟩
  { w0 with heap := (w0.heap.modify 1 fun
      | .cells _ t frozen => .cells #[.iface 230 (.agg #[.pointer (some ⟨2, 196, none⟩)])] t frozen
      | o => o).modify 0 fun
      | .cells _ t frozen => .cells ((List.range 90).map fun j : Nat => .string (if j % 2 = 0 then nmS ((j / 2 : Nat) : Int) else fmS ((j / 2 : Nat) : Int))).toArray t frozen
      | o => o }
theorem laidWorld_met (os : Os) (args : Array Value) : laidMetH Tryz.prog Rows.fnExactPoolOfRow.laid ((laidWorld os).forCall (fun _ _ => 0) ⟨#[], args, []⟩).memory :=
  laidMetH_of_parts (laidMet_of_run' 8 (by kernel_rfl) (by kernel_rfl)) (by kernel_rfl)

theorem tkI (i : Nat) {P : Program} {ops : Array Oper} {Q : Exit → Act → World → Prop} {md : Region.Mode} {S : World → Prop} {oi : Oper} {v : Value} {fuel : Nat} {listed : Array Bool} {a : Act} {w : World} (hi : ops[i]? = some oi)
    (hy : ∀ w, S w → (execOp a.eval oi).run P w = .ok (.value v) w) (hS : S w) (h : wpAnyH P md ops Q S fuel (listed.setIfInBounds i true) (a.put oi.dst v) w)
    (hs : Region.noSelect ops = true := by kernel_rfl) (hf : Region.free md ops listed i = true := by kernel_rfl) (hr : (Region.ready md ops listed).contains i = true := by kernel_rfl)
    (hQ : ∀ c a w, Q (.panic c) (a.put oi.dst v) w → Q (.panic c) a w := by exact fun _ _ _ h => h) (hw : Region.wanted oi (yielded ops a.tmps) = true := by kernel_rfl) : wpAnyH P md ops Q S (fuel + 1) listed a w :=
  wpAnyH_take hi hs hf hr hQ (.inl ⟨hw, hy⟩) hS h
set_option maxHeartbeats 4000000 in
theorem walk (cs : Array Value) (x : CTup) (w : World) (hx : classR.In w cs.toList x) (ht : Tab w) (hg : Glob w) :
    Calls Tryz.prog 3 #[.agg cs] w fun e w' => e = .returned (.bool true) ∧ Below w.heap.size w w' := by
  obtain ⟨cs⟩ := cs
  obtain ⟨vc, vh, hcs, s0, s1, hc, hh⟩ := classR_in hx
  simp only at hcs
  subst hcs
  generalize cD x = m at *
  clear hx x
  have HSz : Hid (∀ w', Below w.heap.size w w' → Calls Tryz.prog 5 #[clsV m vc vh, .int .i64 1048576] w' fun e w2 => e = .returned (.int .i64 (szB (clsB m) 1048576)) ∧ Below w'.heap.size w' w2) := fun w' hb => lawSzClass m vc vh 1048576 w' s0 s1 (fieldR.slice.mono _ _ _ _ hb hc) (methR.slice.mono _ _ _ _ hb hh) (by omega)
  have hlen : ¬ szB (clsB m) 1048576 < 0 → m.fields.length ≤ 1048576 ∧ m.meths.length ≤ 1048576 ∧ ∀ i (h : i < m.meths.length), (mD m.meths[i]).code.length ≤ 1048576 ∧ (mD m.meths[i]).hands.length ≤ 1048576 := fun h => by
    have := szB_le h
    unfold clsB at this
    refine ⟨by omega, by omega, fun i hi => ?_⟩
    have h1 := mSum_mem m.meths i hi
    unfold methB at h1
    omega
  have HTo : Hid (¬ szB (clsB m) 1048576 < 0 → ∀ w', Below w.heap.size w w' → Calls Tryz.prog 7 #[clsV m vc vh] w' fun e w2 => ∃ a ca b cb, e = .returned (clsV m (.slice a m.fields.length ca) (.slice b m.meths.length cb)) ∧ Below w'.heap.size w' w2 ∧ fieldR.slice.In w2 [.slice a m.fields.length ca] m.fields ∧ methR.slice.In w2 [.slice b m.meths.length cb] m.meths) := fun h w' hb => by
    refine (lawToClass m vc vh w' (fieldR.slice.mono _ _ _ _ hb hc) (methR.slice.mono _ _ _ _ hb hh) (hlen h).1 (hlen h).2.1 (hlen h).2.2).mono ?_
    rintro e w2 ⟨uc, uh, rfl, h1, h2, h3⟩
    obtain ⟨a, ca, rfl⟩ := slice_form h2
    obtain ⟨b, cb, rfl⟩ := slice_form h3
    exact ⟨a, ca, b, cb, rfl, h1, h2, h3⟩
  have HTf : Hid (¬ szB (clsB m) 1048576 < 0 → ∀ w', Below w.heap.size w w' → Calls Tryz.prog 7 #[clsV m vc vh] w' fun e w2 => ∃ p1 c1 p2 c2, e = .returned (clsV m (.slice (some ⟨p1, 0, none⟩) m.fields.length c1) (.slice (some ⟨p2, 0, none⟩) m.meths.length c2)) ∧ Below w'.heap.size w' w2 ∧ fieldR.slice.In w2 [.slice (some ⟨p1, 0, none⟩) m.fields.length c1] m.fields ∧ methR.slice.In w2 [.slice (some ⟨p2, 0, none⟩) m.meths.length c2] m.meths ∧ ShFields w'.heap.size w2.heap.size w2 p1 m.fields.length ∧ ShMeths w'.heap.size w2.heap.size w2 p2 m.meths.length) := fun h w' hb => by
    refine (lawToClassF m vc vh w' (fieldR.slice.mono _ _ _ _ hb hc) (methR.slice.mono _ _ _ _ hb hh) (hlen h).1 (hlen h).2.1 (hlen h).2.2).mono ?_
    rintro e w2 ⟨uc, uh, rfl, h1, h2, h3⟩
    obtain ⟨p1, c1, rfl, q1⟩ := shFields_of h2 (hlen h).1
    obtain ⟨p2, c2, rfl, q2⟩ := shMeths_of h3 (hlen h).2.1 (hlen h).2.2
    exact ⟨p1, c1, p2, c2, rfl, h1, sliceF_in (fun _ _ h => h) h2, sliceF_in (fun cs x h => methF_in cs x h) h3, q1, q2⟩
  have HS : Hid (∀ w' uc uh, fieldR.slice.In w' [uc] m.fields → methR.slice.In w' [uh] m.meths → Calls Tryz.prog 6 #[clsV m uc uh] w' fun e w2 => ∃ a cap, e = .returned (.slice a (poolT m).length cap) ∧ Below w'.heap.size w' w2 ∧ w2.ownsRow w'.heap.size 9 1 (.slice a (poolT m).length cap) (poolT m).length (cellsOfS (poolT m))) := fun w' uc uh h1 h2 => by
    refine (specPoolOf m uc uh w' s0 s1 h1 h2).mono ?_
    rintro e w2 ⟨hb, v, rfl, ho⟩
    obtain ⟨a, cap, rfl⟩ := owns_slice ho
    exact ⟨a, cap, rfl, hb, ho⟩
  have HI : Hid (¬ szB (clsB m) 1048576 < 0 → ∀ w' uc uh, fieldR.slice.In w' [uc] m.fields → methR.slice.In w' [uh] m.meths → Tab w' → Glob w' → Calls Tryz.prog 8 #[clsV m uc uh] w' fun e w2 => ∃ a cap, e = .returned (.slice a (poolT m).length cap) ∧ Below w'.heap.size w' w2 ∧ w2.ownsRow w'.heap.size 9 1 (.slice a (poolT m).length cap) (poolT m).length (cellsOfS (poolT m))) := fun h w' uc uh h1 h2 h3 h4 => by
    refine (implPoolOf m uc uh w' s0 s1 h1 h2 h3 h4 (fun p hp => Nat.le_trans (made_bound p hp) (by have := szB_le h; omega))).mono ?_
    rintro e w2 ⟨hb, v, rfl, ho⟩
    obtain ⟨a, cap, rfl⟩ := owns_slice ho
    exact ⟨a, cap, rfl, hb, ho⟩
  have HPz : Hid (¬ szB (clsB m) 1048576 < 0 → ∀ p ∈ poolT m, p.size ≤ maxLen) := fun h p hp => Nat.le_trans ((pool_all m).2 p hp) (by have := szB_le h; unfold maxLen; omega)
  have hpl := (pool_all m).1
  have HE : Hid (∀ w' uc uh yc yh, fieldR.slice.In w' [uc] m.fields → methR.slice.In w' [uh] m.meths → fieldR.slice.In w' [yc] m.fields → methR.slice.In w' [yh] m.meths → Calls Tryz.prog 10 #[clsV m uc uh, clsV m yc yh] w' fun e w2 => e = .returned (.bool true) ∧ Below w'.heap.size w' w2) := fun w' uc uh yc yh h1 h2 h3 h4 => lawEqClass m uc uh yc yh w' h1 h2 h3 h4
  have HT := (show Hid (Tab w) from ht)
  have HG := (show Hid (Glob w) from hg)
  obtain ⟨a, ca, rfl⟩ := slice_form hc
  obtain ⟨b, cb, rfl⟩ := slice_form hh
  clear hc hh ht hg s0 s1 hlen
  generalize poolT m = xs at *
  generalize szB (clsB m) 1048576 = left at *
  have HB0 : Hid (∀ o, Below w.heap.size w (w.alloc o)) := fun o => (Below.refl _ _).alloc (Nat.le_refl _) o
  obtain ⟨nm, ds, st, ab, code, hands⟩ := m
  unfold clsV at *
  simp only at *
  by_cases hl : left < 0
  · have dl : decide (left < 0) = true := by simpa using hl
    clear HTo HTf HI HPz HS HE
    go_enter Tryz.func3, Tryz.ntmps3
    go_wp2_with fail
    refine Calls.mono (HSz.out _ (HB0.out _)) ?_
    rintro e w1 ⟨rfl, hb1⟩
    have HB1 : Hid (Below w.heap.size w w1) := (HB0.out _).trans (hb1.mono (by simp))
    clear hb1
    go_wp2
    go_ret
    exact ⟨rfl, HB1.out⟩
  have dl : decide (left < 0) = false := by simpa using hl
  have HT2 := (show Hid _ from HTo.out hl)
  have HT3 := (show Hid _ from HTf.out hl)
  have HI2 := (show Hid _ from HI.out hl)
  have HXs := (show Hid _ from HPz.out hl)
  clear HTo HTf HI HPz hl
  go_enter Tryz.func3, Tryz.ntmps3
  go_wp2_with fail
  refine Calls.mono (HSz.out _ (HB0.out _)) ?_
  rintro e w1 ⟨rfl, hb1⟩
  have C1 : Hid (Cs w1 w.heap.size nm ds st ab (.slice a code.length ca) (.slice b hands.length cb)) := ⟨carry hb1 (by simp) (by simp [go_sem]), carry hb1 (by simp) (by simp [go_sem]), carry hb1 (by simp) (by simp [go_sem]), carry hb1 (by simp) (by simp [go_sem]), carry hb1 (by simp) (by simp [go_sem]), carry hb1 (by simp) (by simp [go_sem])⟩
  have HB1 : Hid (Below w.heap.size w w1) := (HB0.out _).trans (hb1.mono (by simp))
  clear hb1 HSz
  obtain ⟨c0, c1, c2, c3, c4, c5⟩ := C1.out
  -- w0
  go_wp2_with fail
  refine Calls.mono (HT2.out _ HB1.out) ?_
  rintro e w2 ⟨a2, ca2, b2, cb2, rfl, hb2, i2, j2⟩
  have C2 := (show Hid _ from C1.out.mono hb2)
  have HB2 : Hid (Below w.heap.size w w2) := HB1.out.trans (hb2.mono HB1.out.size)
  have HIn2 := (show Hid (_ ∧ _) from ⟨i2, j2⟩)
  clear hb2 i2 j2 c0 c1 c2 c3 c4 c5 C1
  go_wp2_with fail
  refine Calls.mono (HS.out _ _ _ HIn2.out.1 HIn2.out.2) ?_
  rintro e w3 ⟨a3, n3, rfl, hb3, ho3⟩
  have C3 := (show Hid _ from C2.out.mono hb3)
  have HB3 : Hid (Below w.heap.size w w3) := HB2.out.trans (hb3.mono HB2.out.size)
  have S3 := (show Hid _ from owns_strs ho3 HXs.out)
  have L3 := (show Hid _ from owns_block ho3)
  clear hb3 ho3 C2 HIn2
  -- x0
  obtain ⟨c0, c1, c2, c3, c4, c5⟩ := C3.out
  go_wp2_with fail
  refine Calls.mono (HT3.out _ HB3.out) ?_
  rintro e w4 ⟨p1, d1, p2, d2, rfl, hb4, i4, j4, q1, q2⟩
  have C4 := (show Hid _ from C3.out.mono hb4)
  have HB4 : Hid (Below w.heap.size w w4) := HB3.out.trans (hb4.mono HB3.out.size)
  have S4 := (show Hid _ from S3.out.mono hb4)
  have H4 : Hid (w.heap.size < w3.heap.size ∧ w3.heap.size ≤ w4.heap.size) := ⟨C3.out.lt, hb4.size⟩
  have HIn4 : Hid (∀ o, fieldR.slice.In (w4.alloc o) [.slice (some ⟨p1, 0, none⟩) code.length d1] code ∧ methR.slice.In (w4.alloc o) [.slice (some ⟨p2, 0, none⟩) hands.length d2] hands) := fun o => ⟨fieldR.slice.mono _ _ _ _ (below_al w4 o) i4, methR.slice.mono _ _ _ _ (below_al w4 o) j4⟩
  have HSh := (show Hid (_ ∧ _) from ⟨q1, q2⟩)
  have HB4a : Hid (∀ o, Below w.heap.size w (w4.alloc o)) := fun o => HB4.out.alloc HB4.out.size o
  clear hb4 i4 j4 q1 q2 c0 c1 c2 c3 c4 c5 C3 S3
  -- g0
  go_wp2_with fail
  refine Calls.mono (HI2.out _ _ _ (HIn4.out _).1 (HIn4.out _).2 (HT.out.mono (HB4a.out _)) (HG.out.mono (HB4a.out _))) ?_
  rintro e w6 ⟨a6, n6, rfl, hb6, ho6⟩
  have HB46 : Hid (Below w4.heap.size w4 w6) := (below_al w4 _).trans (hb6.mono (by simp))
  have HB6 : Hid (Below w.heap.size w w6) := HB4.out.trans (HB46.out.mono HB4.out.size)
  have C6 := (show Hid _ from C4.out.mono HB46.out)
  have X6 : Hid (Cs w6 w4.heap.size nm ds st ab (.slice (some ⟨p1, 0, none⟩) code.length d1) (.slice (some ⟨p2, 0, none⟩) hands.length d2)) := ⟨carry hb6 (by simp) (by simp [go_sem]), carry hb6 (by simp) (by simp [go_sem]), carry hb6 (by simp) (by simp [go_sem]), carry hb6 (by simp) (by simp [go_sem]), carry hb6 (by simp) (by simp [go_sem]), carry hb6 (by simp) (by simp [go_sem])⟩
  have HIn6 : Hid (fieldR.slice.In w6 [.slice (some ⟨p1, 0, none⟩) code.length d1] code ∧ methR.slice.In w6 [.slice (some ⟨p2, 0, none⟩) hands.length d2] hands) := ⟨fieldR.slice.mono _ _ _ _ hb6 (HIn4.out _).1, methR.slice.mono _ _ _ _ hb6 (HIn4.out _).2⟩
  have S6 := (show Hid _ from S4.out.mono HB46.out)
  have G6 := (show Hid _ from owns_strs ho6 HXs.out)
  have L6 : Hid (∀ x, a6 = some x → w4.heap.size + 1 ≤ x.block ∧ x.block < w6.heap.size) := fun x e => by have := owns_block ho6 x e; simp only [World.size_alloc] at this; exact this
  have R6 : Hid (∃ f, RowP w6 a6 xs.length n6 f) := by
    rcases owns_rowP ho6 with h0 | ⟨g, f, e, _, hrow, h3⟩
    · exact ⟨fun _ => undef, .inl h0⟩
    · exact ⟨f, .inr ⟨g, e, hrow, h3⟩⟩
  have K6 : Hid (Kin w3.heap.size w4.heap.size w4 w6) := Kin.below HB46.out (Nat.le_refl _)
  clear hb6 ho6 C4 S4 HIn4 HB4a
  go_wp2_with fail
  refine Calls.mono (lawEqStrs a6 a3 n6 n3 xs w6 G6.out S6.out) ?_
  rintro e w7 ⟨rfl, hb7⟩
  have HB7 : Hid (Below w.heap.size w w7) := HB6.out.trans (hb7.mono HB6.out.size)
  have C7 := (show Hid _ from C6.out.mono hb7)
  have X7 := (show Hid _ from X6.out.mono hb7)
  have HIn7 : Hid (fieldR.slice.In w7 [.slice (some ⟨p1, 0, none⟩) code.length d1] code ∧ methR.slice.In w7 [.slice (some ⟨p2, 0, none⟩) hands.length d2] hands) := ⟨fieldR.slice.mono _ _ _ _ hb7 HIn6.out.1, methR.slice.mono _ _ _ _ hb7 HIn6.out.2⟩
  have S7 := (show Hid _ from S6.out.mono hb7)
  have G7 := (show Hid _ from G6.out.mono hb7)
  have R7 : Hid (∃ f, RowP w7 a6 xs.length n6 f) := by obtain ⟨f, h⟩ := R6.out; exact ⟨f, h.mono hb7⟩
  have L7 : Hid (w6.heap.size ≤ w7.heap.size) := hb7.size
  have K7 : Hid (Kin w3.heap.size w4.heap.size w4 w7) := K6.out.on (Nat.le_refl _) hb7
  clear hb7 C6 X6 HIn6 S6 G6 R6 K6
  have HSX : Hid (∀ w', Below w7.heap.size w7 w' → w'.cell? ⟨w4.heap.size, 0, none⟩ = some (.string nm) ∧ w'.cell? ⟨w4.heap.size, 1, none⟩ = some (.string ds) ∧ w'.cell? ⟨w4.heap.size, 2, none⟩ = some (.bool st) ∧ w'.cell? ⟨w4.heap.size, 3, none⟩ = some (.bool ab) ∧ w'.cell? ⟨w4.heap.size, 4, none⟩ = some (.slice (some ⟨p1, 0, none⟩) code.length d1) ∧ w'.cell? ⟨w4.heap.size, 5, none⟩ = some (.slice (some ⟨p2, 0, none⟩) hands.length d2) ∧ w'.cell? ⟨w.heap.size, 0, none⟩ = some (.string nm) ∧ w'.cell? ⟨w.heap.size, 1, none⟩ = some (.string ds) ∧ w'.cell? ⟨w.heap.size, 2, none⟩ = some (.bool st) ∧ w'.cell? ⟨w.heap.size, 3, none⟩ = some (.bool ab) ∧ w'.cell? ⟨w.heap.size, 4, none⟩ = some (.slice a code.length ca) ∧ w'.cell? ⟨w.heap.size, 5, none⟩ = some (.slice b hands.length cb)) := fun w' hb => by
    obtain ⟨x0, x1, x2, x3, x4, x5⟩ := X7.out.mono hb
    obtain ⟨c0, c1, c2, c3, c4, c5⟩ := C7.out.mono hb
    exact ⟨x0, x1, x2, x3, x4, x5, c0, c1, c2, c3, c4, c5⟩
  go_wp2_with fail
  refine wp_region_held_drew (S := fun w' => w'.cell? ⟨w4.heap.size, 0, none⟩ = some (.string nm) ∧ w'.cell? ⟨w4.heap.size, 1, none⟩ = some (.string ds) ∧ w'.cell? ⟨w4.heap.size, 2, none⟩ = some (.bool st) ∧ w'.cell? ⟨w4.heap.size, 3, none⟩ = some (.bool ab) ∧ w'.cell? ⟨w4.heap.size, 4, none⟩ = some (.slice (some ⟨p1, 0, none⟩) code.length d1) ∧ w'.cell? ⟨w4.heap.size, 5, none⟩ = some (.slice (some ⟨p2, 0, none⟩) hands.length d2) ∧ w'.cell? ⟨w.heap.size, 0, none⟩ = some (.string nm) ∧ w'.cell? ⟨w.heap.size, 1, none⟩ = some (.string ds) ∧ w'.cell? ⟨w.heap.size, 2, none⟩ = some (.bool st) ∧ w'.cell? ⟨w.heap.size, 3, none⟩ = some (.bool ab) ∧ w'.cell? ⟨w.heap.size, 4, none⟩ = some (.slice a code.length ca) ∧ w'.cell? ⟨w.heap.size, 5, none⟩ = some (.slice b hands.length cb)) (by kernel_rfl) (HSX.out _ (Below.refl _ _).drew) (fun hHeld => ?_)
  refine tkI 0 rfl (by intro w hSw; (try dsimp only at hSw); go_simp; try with_reducible rfl) hHeld ?_
  (try simp only [Act.put, List.getElem_toArray, List.getElem_cons_zero, List.setIfInBounds_toArray, List.set_cons_zero, List.set_cons_succ])
  refine tkI 1 rfl (by intro w hSw; (try dsimp only at hSw); go_simp; try with_reducible rfl) hHeld ?_
  (try simp only [Act.put, List.getElem_toArray, List.getElem_cons_zero, List.getElem_cons_succ, List.setIfInBounds_toArray, List.set_cons_zero, List.set_cons_succ])
  refine wpAnyH_ready (rs := [2]) (by kernel_rfl) (by simp) ?_
  refine AllReadyH.cons rfl (fun K hK => ?_) AllReadyH.nil
  simp only [List.getElem_toArray, List.getElem_cons_zero, List.getElem_cons_succ]
  go_simp
  refine Calls.mono (HT2.out _ (HB7.out.trans ((Below.refl _ _).drew.mono HB7.out.size))) ?_
  rintro e w8 ⟨a8, ca8, b8, cb8, rfl, hb8, i8, j8⟩
  have hB8 : Below w7.heap.size w7 w8 := (Below.refl _ _).drew.trans hb8
  refine hK.out _ _ (HSX.out _ hB8) (fun hHeld => ?_)
  clear hK K
  (try simp only [Act.put, List.getElem_toArray, List.getElem_cons_zero, List.getElem_cons_succ, List.setIfInBounds_toArray, List.set_cons_zero, List.set_cons_succ])
  refine wpAnyH_ready (rs := [3]) (by kernel_rfl) (by simp) ?_
  refine AllReadyH.cons rfl (fun K hK => ?_) AllReadyH.nil
  simp only [List.getElem_toArray, List.getElem_cons_zero, List.getElem_cons_succ]
  go_simp
  refine Calls.mono (HE.out _ _ _ _ _ (fieldR.slice.mono _ _ _ _ hB8 HIn7.out.1) (methR.slice.mono _ _ _ _ hB8 HIn7.out.2) i8 j8) ?_
  rintro e w9 ⟨rfl, hb9⟩
  have hB9 : Below w7.heap.size w7 w9 := hB8.trans (hb9.mono hB8.size)
  refine hK.out _ _ (HSX.out _ hB9) (fun hHeld => ?_)
  clear hK K
  (try simp only [Act.put, List.getElem_toArray, List.getElem_cons_zero, List.getElem_cons_succ, List.setIfInBounds_toArray, List.set_cons_zero, List.set_cons_succ])
  refine tkI 4 rfl (by intro w hSw; (try dsimp only at hSw); go_simp; try with_reducible rfl) hHeld ?_
  (try simp only [Act.put, List.getElem_toArray, List.getElem_cons_zero, List.getElem_cons_succ, List.setIfInBounds_toArray, List.set_cons_zero, List.set_cons_succ])
  refine wpAnyH_done (by kernel_rfl) ?_ _
  have HB9 : Hid (Below w.heap.size w w9) := HB7.out.trans (hB9.mono HB7.out.size)
  have C9 := (show Hid _ from C7.out.mono hB9)
  have X9 := (show Hid _ from X7.out.mono hB9)
  have S9 := (show Hid _ from S7.out.mono hB9)
  have G9 := (show Hid _ from G7.out.mono hB9)
  have R9 : Hid (∃ f, RowP w9 a6 xs.length n6 f) := by obtain ⟨f, h⟩ := R7.out; exact ⟨f, h.mono hB9⟩
  have L9 : Hid (w6.heap.size ≤ w9.heap.size) := Nat.le_trans L7.out hB9.size
  have K9 : Hid (Kin w3.heap.size w4.heap.size w4 w9) := K7.out.on (Nat.le_refl _) hB9
  clear hHeld hb8 hb9 hB8 hB9 i8 j8 HSX C7 X7 S7 G7 R7 L7 K7 HIn7 HE
  obtain ⟨x0, x1, x2, x3, x4, x5⟩ := X9.out
  -- the class that was handed in is marked
  have HMk := (show Hid _ from lawMarkClass w3.heap.size w4.heap.size p1 code.length d1 p2 hands.length d2 nm ds st ab 1 w9 (HSh.out.1.kin K9.out) (HSh.out.2.kin K9.out) K9.out.size (by omega) (by omega))
  go_wp2_with fail
  refine Calls.mono HMk.out ?_
  rintro e w10 ⟨⟨z, rfl, hz⟩, hk⟩
  have HB10 : Hid (Below w.heap.size w w10) := hk.low HB9.out (Nat.le_of_lt H4.out.1)
  have C10 := (show Hid _ from C9.out.of_block (hk.out _ C9.out.lt (.inl H4.out.1)))
  have S10 := (show Hid _ from S9.out.of_blocks fun x e hx => hk.out _ hx (.inl (by have := L3.out x e; omega)))
  have G10 := (show Hid _ from G9.out.of_blocks fun x e hx => hk.out _ hx (.inr (by have := L6.out x e; omega)))
  have R10 : Hid (∃ f, RowP w10 a6 xs.length n6 f) := by obtain ⟨f, h⟩ := R9.out; exact ⟨f, h.of_blocks fun x e hx => hk.out _ hx (.inr (by have := L6.out x e; omega))⟩
  have L10 : Hid (w6.heap.size ≤ w10.heap.size) := Nat.le_trans L9.out hk.size
  have dz : decide (z < 0) = false := by simp; omega
  clear hk HMk C9 X9 S9 G9 R9 L9 K9 HSh x0 x1 x2 x3 x4 x5
  go_wp2_with fail
  refine Calls.mono (lawEqStrs a6 a3 n6 n3 xs w10 G10.out S10.out) ?_
  rintro e w11 ⟨rfl, hb11⟩
  have HB11 : Hid (Below w.heap.size w w11) := HB10.out.trans (hb11.mono HB10.out.size)
  have C11 := (show Hid _ from C10.out.mono hb11)
  have S11 := (show Hid _ from S10.out.mono hb11)
  have R11 : Hid (∃ f, RowP w11 a6 xs.length n6 f) := by obtain ⟨f, h⟩ := R10.out; exact ⟨f, h.mono hb11⟩
  have L11 : Hid (w6.heap.size ≤ w11.heap.size) := Nat.le_trans L10.out hb11.size
  clear hb11 C10 S10 G10 R10 L10 dz
  obtain ⟨f, hf⟩ := R11.out
  have hmk := lawMarkP a6 xs.length n6 1 f w11 hf (Nat.le_refl _) (by omega)
  have HMK : Hid (Calls Tryz.prog 12 #[.slice a6 xs.length n6, .int .i64 1] w11 fun e w' => e = .returned (.int .i64 (1 + (xs.length : Int))) ∧ Marked w11 w' a6 xs.length n6 1 f) := hmk
  clear hmk hf R11
  go_wp2_with fail
  refine HMK.out.mono ?_
  rintro e w12 ⟨rfl, hm⟩
  have HR12 : Hid (RowP w12 a6 xs.length n6 (mkF 1 xs.length f)) := hm.row
  have H12 : Hid (Below w.heap.size w w12 ∧ Cs w12 w.heap.size nm ds st ab (.slice a code.length ca) (.slice b hands.length cb) ∧ Strs w12 a3 n3 xs) := by
    rcases hm with ⟨_, hb⟩ | ⟨g, e, hb, _⟩
    · exact ⟨HB11.out.trans (hb.mono HB11.out.size), C11.out.mono hb, S11.out.mono hb⟩
    · have hg6 := L6.out _ e
      simp only at hg6
      have h4 := H4.out
      exact ⟨hb.below HB11.out (by omega) (Nat.le_refl _), C11.out.of_block (hb.block _ C11.out.lt (by omega)), S11.out.but hb fun x ex => by have := L3.out x ex; omega⟩
  clear hm HMK C11 S11 HB11
  have hhd := lawHeldP a6 xs.length n6 1 f
  have HHD : Hid (∀ w, RowP w a6 xs.length n6 (mkF 1 xs.length f) → 1 ≤ 1 → 1 + xs.length ≤ 1000 → Calls Tryz.prog 13 #[.slice a6 xs.length n6, .int .i64 1] w fun e w' => e = .returned (.int .i64 (1 + (xs.length : Int))) ∧ Below w.heap.size w w') := hhd
  clear hhd
  go_wp2_with fail
  refine (HHD.out w12 HR12.out (Nat.le_refl _) (by omega)).mono ?_
  rintro e w13 ⟨rfl, hb13⟩
  have HB13 : Hid (Below w.heap.size w w13) := H12.out.1.trans (hb13.mono H12.out.1.size)
  have C13 := (show Hid _ from H12.out.2.1.mono hb13)
  have S13 := (show Hid _ from H12.out.2.2.mono hb13)
  have R13 : Hid (RowP w13 a6 xs.length n6 (mkF 1 xs.length f)) := HR12.out.mono hb13
  clear hb13 H12 HR12
  have t1 : decide (1 + (xs.length : Int) < 0) = false := by simp; omega
  have t2 : ((1 + (xs.length : Int)) == (1 + (xs.length : Int))) = true := by simp
  have t3 : ((1 + (xs.length : Int)) != (1 + (xs.length : Int))) = false := by simp
  obtain ⟨c0, c1, c2, c3, c4, c5⟩ := C13.out
  go_wp2_with fail
  refine Calls.mono (HT2.out _ HB13.out) ?_
  rintro e w14 ⟨a14, ca14, b14, cb14, rfl, hb14, i14, j14⟩
  have HB14 : Hid (Below w.heap.size w w14) := HB13.out.trans (hb14.mono HB13.out.size)
  have S14 := (show Hid _ from S13.out.mono hb14)
  have R14 : Hid (RowP w14 a6 xs.length n6 (mkF 1 xs.length f)) := R13.out.mono hb14
  have HIn14 := (show Hid (_ ∧ _) from ⟨i14, j14⟩)
  clear hb14 i14 j14 c0 c1 c2 c3 c4 c5 C13 S13 R13
  go_wp2_with fail
  refine Calls.mono (HI2.out _ _ _ HIn14.out.1 HIn14.out.2 (HT.out.mono HB14.out) (HG.out.mono HB14.out)) ?_
  rintro e w15 ⟨a15, n15, rfl, hb15, ho15⟩
  have HB15 : Hid (Below w.heap.size w w15) := HB14.out.trans (hb15.mono HB14.out.size)
  have S15 := (show Hid _ from S14.out.mono hb15)
  have G15 := (show Hid _ from owns_strs ho15 HXs.out)
  have R15 : Hid (RowP w15 a6 xs.length n6 (mkF 1 xs.length f)) := R14.out.mono hb15
  clear hb15 ho15 S14 R14 HIn14
  go_wp2_with fail
  refine Calls.mono (lawEqStrs a15 a3 n15 n3 xs w15 G15.out S15.out) ?_
  rintro e w16 ⟨rfl, hb16⟩
  have HB16 : Hid (Below w.heap.size w w16) := HB15.out.trans (hb16.mono HB15.out.size)
  have R16 : Hid (RowP w16 a6 xs.length n6 (mkF 1 xs.length f)) := R15.out.mono hb16
  clear hb16 S15 G15 R15
  go_wp2_with fail
  refine (HHD.out w16 R16.out (Nat.le_refl _) (by omega)).mono ?_
  rintro e w17 ⟨rfl, hb17⟩
  have HB17 : Hid (Below w.heap.size w w17) := HB16.out.trans (hb17.mono HB16.out.size)
  clear hb17 R16
  go_wp2
  go_ret
  exact ⟨rfl, HB17.out⟩

set_option maxRecDepth 100000 in
theorem lifted (os : Os) (started : os.Started) (H : Type) (enc : TypeId × Value → H) :
    ReturnsInHanded {} Tryz.checked os 3 .any (fun w args => (Rows.fnExactPoolOfSpec.pre enc Tryz.prog Tryz.f3 [] false w args ∧ laidMetH Tryz.prog Rows.fnExactPoolOfRow.laid w) ∧ sizedMet enc Tryz.prog Tryz.f3 (OpenSpec.ofChange Rows.fnExactPoolOfSpec) false w args)
      (Rows.fnExactPoolOfSpec.post enc Tryz.prog Tryz.f3 false true false false) := by
  refine returnsInHanded_of_change_and (C := Tryz.checked) (X := fun w _ => laidMetH Tryz.prog Rows.fnExactPoolOfRow.laid w) (fun _ _ _ hh h => h.of_heap hh) own started (by kernel_rfl) Tryz.func3
    (ChangeSpec.witness_at (enc := enc) (C := Tryz.checked) (os := os) (X := fun w _ => laidMetH Tryz.prog Rows.fnExactPoolOfRow.laid w) false (laidWorld os) #[.agg #[.string ⟨#[]⟩, .string ⟨#[]⟩, .bool false, .bool false, .slice none 0 0, .slice none 0 0]] 8 rfl (by kernel_rfl) (by kernel_rfl) (by kernel_rfl) (by kernel_rfl) (by kernel_rfl) (laidWorld_met os _)) ?_
  intro W base args ds gs before hval0 hW _ _ hL _
  have hval : ∀ (j : Nat) t v, Tryz.f3.params[j]? = some t → args[j]? = some v → Value.okWide Tryz.prog W .any base t v := hval0
  have hW' := hW
  obtain ⟨p, q, hA0, hV0, rfl, hfz, hnd⟩ := hW
  have hA : DataW.TrodAll enc Tryz.prog W 0 (fun _ => true) true Tryz.f3.params.toList args.toList ds p := hA0
  have hV : DataW.TrodVars enc Tryz.prog W (fun _ => true) ["loop.example/g00175/impl.opTable"] gs q := hV0
  rw [Tryz.params3] at hA hval
  obtain ⟨v0, vs0, d0, ds0, p0, q0, hargs, rfl, rfl, h0, r0⟩ := trodAll_cons hA
  obtain ⟨rfl, rfl, rfl⟩ := trodAll_nil r0
  obtain rfl : args = #[v0] := by cases args; simp_all
  have hVk := hV
  obtain ⟨vg, vt, vcs, vfuel, vd, vp, rfl, _, _, _, _, rfl⟩ := trodVars_one hV
  obtain ⟨htab, hglob⟩ := both_of_laid hL
  have k0 := h0
  have lt0 : ∀ x ∈ p0, x.block < W.heap.size := by obtain ⟨m, hm⟩ := k0; exact DataW.trod_lt m _ _ _ hm
  obtain ⟨cs0, rfl, _⟩ := okWide_struct Tryz.underlying25 (hval 0 25 v0 rfl rfl)
  obtain ⟨a0, w0⟩ : ∃ x, classR.In W cs0.toList x := by
    obtain ⟨fuel, hf⟩ := h0
    exact opensClass _ _ _ _ hf
  clear hA0 hval0
  refine (walk cs0 a0 W w0 htab hglob).mono fun e W' ⟨he, bel⟩ => ?_
  subst he
  exact ⟨_, rfl, _, _, _, [], _, _, hW', trodAll_mk1 (shut_bool Tryz.underlying4 _), (trodAll_cons_mk (Below.trod laidOut (by kernel_rfl) (of_decide_eq_true (by kernel_rfl)) k0 bel lt0) trodAll_mk0), Below.trodVars laidOut bel (by kernel_rfl) hVk, bel.frame _, fun h => by cases h⟩

theorem over : Rows.fnExactPoolOfRow.holds Tryz.pinned (OpenSpec.ofChange Rows.fnExactPoolOfSpec) :=
  OpenClaim.holds_of_wide 3 Tryz.f3 rfl rfl rfl rfl rfl rfl rfl ⟨rfl, rfl, rfl, rfl, rfl⟩ rfl rfl rfl rfl rfl (by kernel_rfl) Tryz.func3 (by kernel_rfl)
    (of_decide_eq_true (by kernel_rfl)) (by unfold Func.isWrapper; first | (rw [if_pos (by decide +kernel)]; kernel_rfl) | (rw [if_neg (by decide +kernel)]; exact ⟨rfl, rfl⟩))
    (fun os started H enc _ => lifted os started H enc)

end Go.Proofs.YteplkfhmflbmjaaGreatDoor.fnExactPoolOf
namespace Go.Proofs.YteplkfhmflbmjaaGreatDoor
theorem fnExactPoolOf_holds : Rows.FnExactPoolOfCardSaid :=
  Claim7.holds_tied_plain_at .later [] [.handle, .data] true (true, "6f5b63e3e028ce35c20ff04a0f8fefa78ef50c362e86e40d3ecfb2ef5a412ef4") true
    fnExactPoolOf.over (fun _ h => by cases h) (by kernel_rfl) (fun _ h => by cases h) fnExactPoolOf_row_tie rfl ⟨rfl, rfl⟩ (by kernel_rfl) rfl
    (fun f fn hf hfn => by
      obtain rfl : f = 3 := Option.some.inj ((show Tryz.prog.funcNamed "loop.example/g00175/laws.FnExactPoolOf" = some 3 by kernel_rfl).symm.trans hf) |>.symm
      obtain rfl : fn = Tryz.f3 := (Option.some.inj (Tryz.func3.symm.trans hfn)).symm
      exact ⟨by kernel_rfl, fun j t ht => by
        rw [Tryz.params3] at ht
        rcases j with _ | j
        · obtain rfl : t = 25 := by simpa using ht.symm
          exact (show Tryz.prog.wantsStandIn 25 = false by kernel_rfl)
        · skip
          simp at ht⟩)
    (by kernel_rfl)
#print axioms fnExactPoolOf_holds
end Go.Proofs.YteplkfhmflbmjaaGreatDoor
