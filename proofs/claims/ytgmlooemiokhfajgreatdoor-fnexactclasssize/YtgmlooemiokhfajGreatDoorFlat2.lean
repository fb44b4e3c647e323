/-
  The laws' own to..S and eq..S on slices of flat structs.
-/
import Derived.Test.YtgmlooemiokhfajGreatDoorFlat
import Derived.OwnWalk
namespace Go.Proofs.YtgmlooemiokhfajGreatDoor
open Go.RowKit
set_option maxRecDepth 20000
set_option linter.unusedVariables false

theorem insFill.start {w w1 : World} {ds : List InsD} {zs : List Value} (hown : w1.ownsRow w.heap.size 101 5 (.slice (some ⟨w.heap.size, 0, none⟩) ds.length ds.length) ds.length zs) (hgrow : w.grownBy w1 none) : insFill w w1 ds 0 := by
  refine ⟨(Below.refl _ _).grown hgrow (Nat.le_refl _) (fun k hk => by cases hk), ?_⟩
  rcases hown.2 with ⟨h1, _⟩ | ⟨g, cap, cur, e, _, hb, _, _, hsz, _⟩
  · cases h1
  · cases e
    exact ⟨fun i => cur.getD i undef, ⟨cur, hb, hsz, fun i hi => by
      have hc : i < cur.size := by omega
      rw [Array.getElem?_eq_getElem hc]
      simp [Array.getD, hc]⟩, fun i _ h => by omega⟩
theorem insFill.done {w wr : World} {ds : List InsD} {v : Value} (h : insFill w wr ds ds.length) (hin : insR.slice.In w [v] ds) (hl : ds.length ≤ 1048576) : insR.slice.In wr [.slice (some ⟨w.heap.size, 0, none⟩) ds.length ds.length] ds := by
  obtain ⟨f, hrow, hf⟩ := h.row
  refine ⟨some ⟨w.heap.size, 0, none⟩, ds.length, rfl, Nat.le_refl _, by unfold maxLen; omega, fun i hi => ⟨_, rfl, insC ds[i], fun j hj => ?_, ?_⟩⟩
  · have hj : j < 5 := hj
    have hf := hf i hi hi
    have hk : insR.k = 5 := rfl
    rw [hk, plain_add, Nat.zero_add]
    have hc := hrow.cell (i := i * 5 + j) (by omega)
    rw [hc]
    obtain ⟨f0, f1, f2, f3, f4⟩ := hf
    match j, hj with
    | 0, _ => rw [f0]; rfl
    | 1, _ => rw [f1]; rfl
    | 2, _ => rw [f2]; rfl
    | 3, _ => rw [f3]; rfl
    | 4, _ => rw [f4]; rfl
  · obtain ⟨a, cap, _, _, _, hat⟩ := hin
    obtain ⟨x, _, cs, _, hi2⟩ := hat i hi
    obtain ⟨rfl, _⟩ := insR_in hi2
    exact insR.mono _ _ _ _ h.below hi2

set_option maxHeartbeats 2000000 in
theorem lawToInsS (v : Value) (ds : List InsD) (w : World) (h : insR.slice.In w [v] ds) (hl : ds.length ≤ 1048576) :
    Calls Tryz.prog 62 #[v] w fun e w' => ∃ b, w.heap.size ≤ b ∧ e = .returned (.slice (some ⟨b, 0, none⟩) ds.length ds.length) ∧ Below w.heap.size w w' ∧ insR.slice.In w' [.slice (some ⟨b, 0, none⟩) ds.length ds.length] ds := by
  have HIN : Hid (insR.slice.In w [v] ds) := h
  obtain ⟨a, cap, hv, hn, hcap, hat⟩ := h
  cases hv
  unfold maxLen at hcap
  have HA : Hid (∀ i (h : i < ds.length), ∃ x, a = some x ∧ insR.At w x i ds[i]) := hat
  clear hat
  obtain ⟨i0, hi0, hz0, hz1, hz2⟩ := info_parts insInfo
  have HI : Hid (Tryz.prog.info? 101 = some i0 ∧ i0.zero = some _ ∧ i0.size = 5 ∧ i0.bytes = 64) := ⟨hi0, hz0, hz1, hz2⟩
  clear hi0 hz0 hz1 hz2
  go_enter Tryz.func62, Tryz.ntmps62
  go_wp2_with (refine wpList_make_full _ rfl _ _ 75 rfl w.heap.size 101 i0 _ 5 Tryz.underlying75 HI.out.1 HI.out.2.1 HI.out.2.2.1 .i64 .i64 _ _ ds.length rfl rfl rfl rfl (by rw [HI.out.2.2.2]; omega) (by unfold maxLen; omega) (Nat.le_refl _) ?_)
  intro w1 hown hgrow
  have HF0 : Hid (insFill w w1 ds 0) := insFill.start hown hgrow
  clear hown hgrow HI
  go_wp2_with fail
  go_loopw [4] (fun j4 wr => ∃ m : Nat, m ≤ ds.length ∧ j4 = .int .i64 (m : Int) ∧ insFill w wr ds m) (fun j4 _ => ds.length - (intOf j4).toNat)
  case atStart => exact ⟨0, Nat.zero_le _, rfl, HF0.out⟩
  case round =>
    obtain ⟨m, hm, rfl, hfl⟩ := hrel
    have HF : Hid (insFill w wr ds m) := hfl
    clear hfl HF0
    by_cases hlt : m < ds.length
    · obtain ⟨x, rfl, hx⟩ := HA.out m hlt
      obtain ⟨b, o, rfl⟩ : ∃ b o, x = ⟨b, o, none⟩ := by
        obtain ⟨x0, e0, h0⟩ := HA.out 0 (by omega)
        cases e0
        exact h0.plain (by decide)
      obtain ⟨cs, hc, hin⟩ := hx.mono HF.out.below
      obtain ⟨rfl, hsz⟩ := insR_in hin
      have hk : insR.k = 5 := rfl
      rw [hk] at hc
      have g0 := hc 0 (by omega)
      have g1 := hc 1 (by omega)
      have g2 := hc 2 (by omega)
      have g3 := hc 3 (by omega)
      have g4 := hc 4 (by omega)
      simp only [insC, List.getElem?_cons_zero, List.getElem?_cons_succ] at g0 g1 g2 g3 g4
      simp only [plain_add, ← Nat.add_assoc, Nat.add_zero] at g0 g1 g2 g3 g4
      have hst := fun (w2 : World) => @insFill.step w wr w2 ds m HF.out hlt
      obtain ⟨d, hd⟩ : ∃ d, ds[m] = d := ⟨_, rfl⟩
      rw [hd] at g0 g1 g2 g3 g4 hst
      obtain ⟨y0, y1, y2, y3, y4⟩ := d
      simp only at g0 g1 g2 g3 g4 hst
      have HST := (show Hid _ from hst)
      clear hc hin hx hst hsz hd
      go_wp2_with fail
      refine (lawToIns y0 y1 y2 y3 y4 _).mono ?_
      rintro e w2 ⟨rfl, hb2⟩
      obtain ⟨f, hrow, _⟩ := HF.out.row
      have hr2 := hrow.of_block (hb2.block _ hrow.lt)
      have q0 := hr2.cell (i := m * 5) (by omega)
      have p0 := hr2.frozen (m * 5)
      have q1 := hr2.cell (i := m * 5 + 1) (by omega)
      have p1 := hr2.frozen (m * 5 + 1)
      have q2 := hr2.cell (i := m * 5 + 2) (by omega)
      have p2 := hr2.frozen (m * 5 + 2)
      have q3 := hr2.cell (i := m * 5 + 3) (by omega)
      have p3 := hr2.frozen (m * 5 + 3)
      have q4 := hr2.cell (i := m * 5 + 4) (by omega)
      have p4 := hr2.frozen (m * 5 + 4)
      have HN := HST.out w2 hb2
      have HN2 := (show Hid _ from HN)
      generalize f (m * 5) = u0 at q0
      generalize f (m * 5 + 1) = u1 at q1
      generalize f (m * 5 + 2) = u2 at q2
      generalize f (m * 5 + 3) = u3 at q3
      generalize f (m * 5 + 4) = u4 at q4
      clear hb2 hrow hr2 HST HN
      go_wp2
      go_roundw
      case rel => exact ⟨m + 1, by omega, by go_num, HN2.out⟩
      case measure => simp [intOf]; omega
    · obtain rfl : m = ds.length := by omega
      have HD : Hid (insR.slice.In wr [.slice (some ⟨w.heap.size, 0, none⟩) ds.length ds.length] ds) := HF.out.done HIN.out hl
      go_wp2
      go_ret
      exact ⟨w.heap.size, Nat.le_refl _, rfl, HF.out.below, HD.out⟩

set_option maxHeartbeats 2000000 in
theorem lawEqInsS (v u : Value) (ds : List InsD) (w : World) (h : insR.slice.In w [v] ds) (k : insR.slice.In w [u] ds) :
    Calls Tryz.prog 73 #[v, u] w fun e w' => e = .returned (.bool true) ∧ Below w.heap.size w w' := by
  obtain ⟨a, cap, hv, hn, hcap, hat⟩ := h
  cases hv
  obtain ⟨a', cap', hu, hn', hcap', hat'⟩ := k
  cases hu
  unfold maxLen at hcap hcap'
  have HA : Hid (∀ i (h : i < ds.length), ∃ x, a = some x ∧ insR.At w x i ds[i]) := hat
  have HB : Hid (∀ i (h : i < ds.length), ∃ x, a' = some x ∧ insR.At w x i ds[i]) := hat'
  clear hat hat'
  go_enter Tryz.func73, Tryz.ntmps73
  go_wp2_with fail
  go_loopw [5] (fun j5 wr => ∃ m : Nat, m ≤ ds.length ∧ j5 = .int .i64 (m : Int) ∧ Below w.heap.size w wr) (fun j5 _ => ds.length - (intOf j5).toNat)
  case atStart => exact ⟨0, Nat.zero_le _, rfl, Below.refl _ _⟩
  case round =>
    obtain ⟨m, hm, rfl, hbel⟩ := hrel
    have HW : Hid (Below w.heap.size w wr) := hbel
    clear hbel
    by_cases hlt : m < ds.length
    · obtain ⟨x, rfl, hx⟩ := HA.out m hlt
      obtain ⟨b, o, rfl⟩ : ∃ b o, x = ⟨b, o, none⟩ := by
        obtain ⟨x0, e0, h0⟩ := HA.out 0 (by omega)
        cases e0
        exact h0.plain (by decide)
      obtain ⟨cs, hc, hin⟩ := hx.mono HW.out
      obtain ⟨rfl, _⟩ := insR_in hin
      obtain ⟨x', rfl, hx'⟩ := HB.out m hlt
      obtain ⟨b', o', rfl⟩ : ∃ b o, x' = ⟨b, o, none⟩ := by
        obtain ⟨x0, e0, h0⟩ := HB.out 0 (by omega)
        cases e0
        exact h0.plain (by decide)
      obtain ⟨cs', hc', hin'⟩ := hx'.mono HW.out
      obtain ⟨rfl, _⟩ := insR_in hin'
      have hk : insR.k = 5 := rfl
      rw [hk] at hc hc'
      have g0 := hc 0 (by omega)
      have k0 := hc' 0 (by omega)
      have g1 := hc 1 (by omega)
      have k1 := hc' 1 (by omega)
      have g2 := hc 2 (by omega)
      have k2 := hc' 2 (by omega)
      have g3 := hc 3 (by omega)
      have k3 := hc' 3 (by omega)
      have g4 := hc 4 (by omega)
      have k4 := hc' 4 (by omega)
      simp only [insC, List.getElem?_cons_zero, List.getElem?_cons_succ] at g0 k0 g1 k1 g2 k2 g3 k3 g4 k4
      simp only [plain_add, ← Nat.add_assoc, Nat.add_zero] at g0 k0 g1 k1 g2 k2 g3 k3 g4 k4
      generalize ds[m] = d at g0 k0 g1 k1 g2 k2 g3 k3 g4 k4
      obtain ⟨y0, y1, y2, y3, y4⟩ := d
      simp only at g0 k0 g1 k1 g2 k2 g3 k3 g4 k4
      have hEq := lawEqIns y0 y1 y2 y3 y4
      have HEq := (show Hid _ from hEq)
      clear hc hc' hin hin' hx hx' hEq
      go_wp2_with fail
      go_region_with (go_at_call 101; refine (HEq.out _).mono ?_; rintro e w1 ⟨rfl, hb1⟩; have HB1 : Hid (Below w.heap.size w w1) := HW.out.trans (((Below.refl _ _).drew.trans hb1).mono HW.out.size); clear hb1)
      all_goals
        go_wp2
        go_roundw
        case rel => exact ⟨m + 1, by omega, by go_num, HB1.out⟩
        case measure => simp [intOf]; omega
    · go_wp2
      go_ret
      exact ⟨rfl, HW.out⟩

theorem handlerFill.start {w w1 : World} {ds : List HandlerD} {zs : List Value} (hown : w1.ownsRow w.heap.size 105 4 (.slice (some ⟨w.heap.size, 0, none⟩) ds.length ds.length) ds.length zs) (hgrow : w.grownBy w1 none) : handlerFill w w1 ds 0 := by
  refine ⟨(Below.refl _ _).grown hgrow (Nat.le_refl _) (fun k hk => by cases hk), ?_⟩
  rcases hown.2 with ⟨h1, _⟩ | ⟨g, cap, cur, e, _, hb, _, _, hsz, _⟩
  · cases h1
  · cases e
    exact ⟨fun i => cur.getD i undef, ⟨cur, hb, hsz, fun i hi => by
      have hc : i < cur.size := by omega
      rw [Array.getElem?_eq_getElem hc]
      simp [Array.getD, hc]⟩, fun i _ h => by omega⟩
theorem handlerFill.done {w wr : World} {ds : List HandlerD} {v : Value} (h : handlerFill w wr ds ds.length) (hin : handlerR.slice.In w [v] ds) (hl : ds.length ≤ 1048576) : handlerR.slice.In wr [.slice (some ⟨w.heap.size, 0, none⟩) ds.length ds.length] ds := by
  obtain ⟨f, hrow, hf⟩ := h.row
  refine ⟨some ⟨w.heap.size, 0, none⟩, ds.length, rfl, Nat.le_refl _, by unfold maxLen; omega, fun i hi => ⟨_, rfl, handlerC ds[i], fun j hj => ?_, ?_⟩⟩
  · have hj : j < 4 := hj
    have hf := hf i hi hi
    have hk : handlerR.k = 4 := rfl
    rw [hk, plain_add, Nat.zero_add]
    have hc := hrow.cell (i := i * 4 + j) (by omega)
    rw [hc]
    obtain ⟨f0, f1, f2, f3⟩ := hf
    match j, hj with
    | 0, _ => rw [f0]; rfl
    | 1, _ => rw [f1]; rfl
    | 2, _ => rw [f2]; rfl
    | 3, _ => rw [f3]; rfl
  · obtain ⟨a, cap, _, _, _, hat⟩ := hin
    obtain ⟨x, _, cs, _, hi2⟩ := hat i hi
    obtain ⟨rfl, _⟩ := handlerR_in hi2
    exact handlerR.mono _ _ _ _ h.below hi2

set_option maxHeartbeats 2000000 in
theorem lawToHandlerS (v : Value) (ds : List HandlerD) (w : World) (h : handlerR.slice.In w [v] ds) (hl : ds.length ≤ 1048576) :
    Calls Tryz.prog 63 #[v] w fun e w' => ∃ b, w.heap.size ≤ b ∧ e = .returned (.slice (some ⟨b, 0, none⟩) ds.length ds.length) ∧ Below w.heap.size w w' ∧ handlerR.slice.In w' [.slice (some ⟨b, 0, none⟩) ds.length ds.length] ds := by
  have HIN : Hid (handlerR.slice.In w [v] ds) := h
  obtain ⟨a, cap, hv, hn, hcap, hat⟩ := h
  cases hv
  unfold maxLen at hcap
  have HA : Hid (∀ i (h : i < ds.length), ∃ x, a = some x ∧ handlerR.At w x i ds[i]) := hat
  clear hat
  obtain ⟨i0, hi0, hz0, hz1, hz2⟩ := info_parts handlerInfo
  have HI : Hid (Tryz.prog.info? 105 = some i0 ∧ i0.zero = some _ ∧ i0.size = 4 ∧ i0.bytes = 40) := ⟨hi0, hz0, hz1, hz2⟩
  clear hi0 hz0 hz1 hz2
  go_enter Tryz.func63, Tryz.ntmps63
  go_wp2_with (refine wpList_make_full _ rfl _ _ 76 rfl w.heap.size 105 i0 _ 4 Tryz.underlying76 HI.out.1 HI.out.2.1 HI.out.2.2.1 .i64 .i64 _ _ ds.length rfl rfl rfl rfl (by rw [HI.out.2.2.2]; omega) (by unfold maxLen; omega) (Nat.le_refl _) ?_)
  intro w1 hown hgrow
  have HF0 : Hid (handlerFill w w1 ds 0) := handlerFill.start hown hgrow
  clear hown hgrow HI
  go_wp2_with fail
  go_loopw [4] (fun j4 wr => ∃ m : Nat, m ≤ ds.length ∧ j4 = .int .i64 (m : Int) ∧ handlerFill w wr ds m) (fun j4 _ => ds.length - (intOf j4).toNat)
  case atStart => exact ⟨0, Nat.zero_le _, rfl, HF0.out⟩
  case round =>
    obtain ⟨m, hm, rfl, hfl⟩ := hrel
    have HF : Hid (handlerFill w wr ds m) := hfl
    clear hfl HF0
    by_cases hlt : m < ds.length
    · obtain ⟨x, rfl, hx⟩ := HA.out m hlt
      obtain ⟨b, o, rfl⟩ : ∃ b o, x = ⟨b, o, none⟩ := by
        obtain ⟨x0, e0, h0⟩ := HA.out 0 (by omega)
        cases e0
        exact h0.plain (by decide)
      obtain ⟨cs, hc, hin⟩ := hx.mono HF.out.below
      obtain ⟨rfl, hsz⟩ := handlerR_in hin
      have hk : handlerR.k = 4 := rfl
      rw [hk] at hc
      have g0 := hc 0 (by omega)
      have g1 := hc 1 (by omega)
      have g2 := hc 2 (by omega)
      have g3 := hc 3 (by omega)
      simp only [handlerC, List.getElem?_cons_zero, List.getElem?_cons_succ] at g0 g1 g2 g3
      simp only [plain_add, ← Nat.add_assoc, Nat.add_zero] at g0 g1 g2 g3
      have hst := fun (w2 : World) => @handlerFill.step w wr w2 ds m HF.out hlt
      obtain ⟨d, hd⟩ : ∃ d, ds[m] = d := ⟨_, rfl⟩
      rw [hd] at g0 g1 g2 g3 hst
      obtain ⟨y0, y1, y2, y3⟩ := d
      simp only at g0 g1 g2 g3 hst
      have HST := (show Hid _ from hst)
      clear hc hin hx hst hsz hd
      go_wp2_with fail
      refine (lawToHandler y0 y1 y2 y3 _).mono ?_
      rintro e w2 ⟨rfl, hb2⟩
      obtain ⟨f, hrow, _⟩ := HF.out.row
      have hr2 := hrow.of_block (hb2.block _ hrow.lt)
      have q0 := hr2.cell (i := m * 4) (by omega)
      have p0 := hr2.frozen (m * 4)
      have q1 := hr2.cell (i := m * 4 + 1) (by omega)
      have p1 := hr2.frozen (m * 4 + 1)
      have q2 := hr2.cell (i := m * 4 + 2) (by omega)
      have p2 := hr2.frozen (m * 4 + 2)
      have q3 := hr2.cell (i := m * 4 + 3) (by omega)
      have p3 := hr2.frozen (m * 4 + 3)
      have HN := HST.out w2 hb2
      have HN2 := (show Hid _ from HN)
      generalize f (m * 4) = u0 at q0
      generalize f (m * 4 + 1) = u1 at q1
      generalize f (m * 4 + 2) = u2 at q2
      generalize f (m * 4 + 3) = u3 at q3
      clear hb2 hrow hr2 HST HN
      go_wp2
      go_roundw
      case rel => exact ⟨m + 1, by omega, by go_num, HN2.out⟩
      case measure => simp [intOf]; omega
    · obtain rfl : m = ds.length := by omega
      have HD : Hid (handlerR.slice.In wr [.slice (some ⟨w.heap.size, 0, none⟩) ds.length ds.length] ds) := HF.out.done HIN.out hl
      go_wp2
      go_ret
      exact ⟨w.heap.size, Nat.le_refl _, rfl, HF.out.below, HD.out⟩

set_option maxHeartbeats 2000000 in
theorem lawEqHandlerS (v u : Value) (ds : List HandlerD) (w : World) (h : handlerR.slice.In w [v] ds) (k : handlerR.slice.In w [u] ds) :
    Calls Tryz.prog 74 #[v, u] w fun e w' => e = .returned (.bool true) ∧ Below w.heap.size w w' := by
  obtain ⟨a, cap, hv, hn, hcap, hat⟩ := h
  cases hv
  obtain ⟨a', cap', hu, hn', hcap', hat'⟩ := k
  cases hu
  unfold maxLen at hcap hcap'
  have HA : Hid (∀ i (h : i < ds.length), ∃ x, a = some x ∧ handlerR.At w x i ds[i]) := hat
  have HB : Hid (∀ i (h : i < ds.length), ∃ x, a' = some x ∧ handlerR.At w x i ds[i]) := hat'
  clear hat hat'
  go_enter Tryz.func74, Tryz.ntmps74
  go_wp2_with fail
  go_loopw [5] (fun j5 wr => ∃ m : Nat, m ≤ ds.length ∧ j5 = .int .i64 (m : Int) ∧ Below w.heap.size w wr) (fun j5 _ => ds.length - (intOf j5).toNat)
  case atStart => exact ⟨0, Nat.zero_le _, rfl, Below.refl _ _⟩
  case round =>
    obtain ⟨m, hm, rfl, hbel⟩ := hrel
    have HW : Hid (Below w.heap.size w wr) := hbel
    clear hbel
    by_cases hlt : m < ds.length
    · obtain ⟨x, rfl, hx⟩ := HA.out m hlt
      obtain ⟨b, o, rfl⟩ : ∃ b o, x = ⟨b, o, none⟩ := by
        obtain ⟨x0, e0, h0⟩ := HA.out 0 (by omega)
        cases e0
        exact h0.plain (by decide)
      obtain ⟨cs, hc, hin⟩ := hx.mono HW.out
      obtain ⟨rfl, _⟩ := handlerR_in hin
      obtain ⟨x', rfl, hx'⟩ := HB.out m hlt
      obtain ⟨b', o', rfl⟩ : ∃ b o, x' = ⟨b, o, none⟩ := by
        obtain ⟨x0, e0, h0⟩ := HB.out 0 (by omega)
        cases e0
        exact h0.plain (by decide)
      obtain ⟨cs', hc', hin'⟩ := hx'.mono HW.out
      obtain ⟨rfl, _⟩ := handlerR_in hin'
      have hk : handlerR.k = 4 := rfl
      rw [hk] at hc hc'
      have g0 := hc 0 (by omega)
      have k0 := hc' 0 (by omega)
      have g1 := hc 1 (by omega)
      have k1 := hc' 1 (by omega)
      have g2 := hc 2 (by omega)
      have k2 := hc' 2 (by omega)
      have g3 := hc 3 (by omega)
      have k3 := hc' 3 (by omega)
      simp only [handlerC, List.getElem?_cons_zero, List.getElem?_cons_succ] at g0 k0 g1 k1 g2 k2 g3 k3
      simp only [plain_add, ← Nat.add_assoc, Nat.add_zero] at g0 k0 g1 k1 g2 k2 g3 k3
      generalize ds[m] = d at g0 k0 g1 k1 g2 k2 g3 k3
      obtain ⟨y0, y1, y2, y3⟩ := d
      simp only at g0 k0 g1 k1 g2 k2 g3 k3
      have hEq := lawEqHandler y0 y1 y2 y3
      have HEq := (show Hid _ from hEq)
      clear hc hc' hin hin' hx hx' hEq
      go_wp2_with fail
      go_region_with (go_at_call 102; refine (HEq.out _).mono ?_; rintro e w1 ⟨rfl, hb1⟩; have HB1 : Hid (Below w.heap.size w w1) := HW.out.trans (((Below.refl _ _).drew.trans hb1).mono HW.out.size); clear hb1)
      all_goals
        go_wp2
        go_roundw
        case rel => exact ⟨m + 1, by omega, by go_num, HB1.out⟩
        case measure => simp [intOf]; omega
    · go_wp2
      go_ret
      exact ⟨rfl, HW.out⟩

theorem fieldFill.start {w w1 : World} {ds : List FieldD} {zs : List Value} (hown : w1.ownsRow w.heap.size 74 3 (.slice (some ⟨w.heap.size, 0, none⟩) ds.length ds.length) ds.length zs) (hgrow : w.grownBy w1 none) : fieldFill w w1 ds 0 := by
  refine ⟨(Below.refl _ _).grown hgrow (Nat.le_refl _) (fun k hk => by cases hk), ?_⟩
  rcases hown.2 with ⟨h1, _⟩ | ⟨g, cap, cur, e, _, hb, _, _, hsz, _⟩
  · cases h1
  · cases e
    exact ⟨fun i => cur.getD i undef, ⟨cur, hb, hsz, fun i hi => by
      have hc : i < cur.size := by omega
      rw [Array.getElem?_eq_getElem hc]
      simp [Array.getD, hc]⟩, fun i _ h => by omega⟩
theorem fieldFill.done {w wr : World} {ds : List FieldD} {v : Value} (h : fieldFill w wr ds ds.length) (hin : fieldR.slice.In w [v] ds) (hl : ds.length ≤ 1048576) : fieldR.slice.In wr [.slice (some ⟨w.heap.size, 0, none⟩) ds.length ds.length] ds := by
  obtain ⟨f, hrow, hf⟩ := h.row
  refine ⟨some ⟨w.heap.size, 0, none⟩, ds.length, rfl, Nat.le_refl _, by unfold maxLen; omega, fun i hi => ⟨_, rfl, fieldC ds[i], fun j hj => ?_, ?_⟩⟩
  · have hj : j < 3 := hj
    have hf := hf i hi hi
    have hk : fieldR.k = 3 := rfl
    rw [hk, plain_add, Nat.zero_add]
    have hc := hrow.cell (i := i * 3 + j) (by omega)
    rw [hc]
    obtain ⟨f0, f1, f2⟩ := hf
    match j, hj with
    | 0, _ => rw [f0]; rfl
    | 1, _ => rw [f1]; rfl
    | 2, _ => rw [f2]; rfl
  · obtain ⟨a, cap, _, _, _, hat⟩ := hin
    obtain ⟨x, _, cs, _, hi2⟩ := hat i hi
    obtain ⟨rfl, _⟩ := fieldR_in hi2
    exact fieldR.mono _ _ _ _ h.below hi2

set_option maxHeartbeats 2000000 in
theorem lawToFieldS (v : Value) (ds : List FieldD) (w : World) (h : fieldR.slice.In w [v] ds) (hl : ds.length ≤ 1048576) :
    Calls Tryz.prog 20 #[v] w fun e w' => ∃ b, w.heap.size ≤ b ∧ e = .returned (.slice (some ⟨b, 0, none⟩) ds.length ds.length) ∧ Below w.heap.size w w' ∧ fieldR.slice.In w' [.slice (some ⟨b, 0, none⟩) ds.length ds.length] ds := by
  have HIN : Hid (fieldR.slice.In w [v] ds) := h
  obtain ⟨a, cap, hv, hn, hcap, hat⟩ := h
  cases hv
  unfold maxLen at hcap
  have HA : Hid (∀ i (h : i < ds.length), ∃ x, a = some x ∧ fieldR.At w x i ds[i]) := hat
  clear hat
  obtain ⟨i0, hi0, hz0, hz1, hz2⟩ := info_parts fieldInfo
  have HI : Hid (Tryz.prog.info? 74 = some i0 ∧ i0.zero = some _ ∧ i0.size = 3 ∧ i0.bytes = 40) := ⟨hi0, hz0, hz1, hz2⟩
  clear hi0 hz0 hz1 hz2
  go_enter Tryz.func20, Tryz.ntmps20
  go_wp2_with (refine wpList_make_full _ rfl _ _ 29 rfl w.heap.size 74 i0 _ 3 Tryz.underlying29 HI.out.1 HI.out.2.1 HI.out.2.2.1 .i64 .i64 _ _ ds.length rfl rfl rfl rfl (by rw [HI.out.2.2.2]; omega) (by unfold maxLen; omega) (Nat.le_refl _) ?_)
  intro w1 hown hgrow
  have HF0 : Hid (fieldFill w w1 ds 0) := fieldFill.start hown hgrow
  clear hown hgrow HI
  go_wp2_with fail
  go_loopw [4] (fun j4 wr => ∃ m : Nat, m ≤ ds.length ∧ j4 = .int .i64 (m : Int) ∧ fieldFill w wr ds m) (fun j4 _ => ds.length - (intOf j4).toNat)
  case atStart => exact ⟨0, Nat.zero_le _, rfl, HF0.out⟩
  case round =>
    obtain ⟨m, hm, rfl, hfl⟩ := hrel
    have HF : Hid (fieldFill w wr ds m) := hfl
    clear hfl HF0
    by_cases hlt : m < ds.length
    · obtain ⟨x, rfl, hx⟩ := HA.out m hlt
      obtain ⟨b, o, rfl⟩ : ∃ b o, x = ⟨b, o, none⟩ := by
        obtain ⟨x0, e0, h0⟩ := HA.out 0 (by omega)
        cases e0
        exact h0.plain (by decide)
      obtain ⟨cs, hc, hin⟩ := hx.mono HF.out.below
      obtain ⟨rfl, hsz⟩ := fieldR_in hin
      have hk : fieldR.k = 3 := rfl
      rw [hk] at hc
      have g0 := hc 0 (by omega)
      have g1 := hc 1 (by omega)
      have g2 := hc 2 (by omega)
      simp only [fieldC, List.getElem?_cons_zero, List.getElem?_cons_succ] at g0 g1 g2
      simp only [plain_add, ← Nat.add_assoc, Nat.add_zero] at g0 g1 g2
      have hst := fun (w2 : World) => @fieldFill.step w wr w2 ds m HF.out hlt
      obtain ⟨d, hd⟩ : ∃ d, ds[m] = d := ⟨_, rfl⟩
      rw [hd] at g0 g1 g2 hst
      obtain ⟨y0, y1, y2⟩ := d
      simp only at g0 g1 g2 hst
      have HST := (show Hid _ from hst)
      clear hc hin hx hst hsz hd
      go_wp2_with fail
      refine (lawToField y0 y1 y2 _).mono ?_
      rintro e w2 ⟨rfl, hb2⟩
      obtain ⟨f, hrow, _⟩ := HF.out.row
      have hr2 := hrow.of_block (hb2.block _ hrow.lt)
      have q0 := hr2.cell (i := m * 3) (by omega)
      have p0 := hr2.frozen (m * 3)
      have q1 := hr2.cell (i := m * 3 + 1) (by omega)
      have p1 := hr2.frozen (m * 3 + 1)
      have q2 := hr2.cell (i := m * 3 + 2) (by omega)
      have p2 := hr2.frozen (m * 3 + 2)
      have HN := HST.out w2 hb2
      have HN2 := (show Hid _ from HN)
      generalize f (m * 3) = u0 at q0
      generalize f (m * 3 + 1) = u1 at q1
      generalize f (m * 3 + 2) = u2 at q2
      clear hb2 hrow hr2 HST HN
      go_wp2
      go_roundw
      case rel => exact ⟨m + 1, by omega, by go_num, HN2.out⟩
      case measure => simp [intOf]; omega
    · obtain rfl : m = ds.length := by omega
      have HD : Hid (fieldR.slice.In wr [.slice (some ⟨w.heap.size, 0, none⟩) ds.length ds.length] ds) := HF.out.done HIN.out hl
      go_wp2
      go_ret
      exact ⟨w.heap.size, Nat.le_refl _, rfl, HF.out.below, HD.out⟩

set_option maxHeartbeats 2000000 in
theorem lawEqFieldS (v u : Value) (ds : List FieldD) (w : World) (h : fieldR.slice.In w [v] ds) (k : fieldR.slice.In w [u] ds) :
    Calls Tryz.prog 24 #[v, u] w fun e w' => e = .returned (.bool true) ∧ Below w.heap.size w w' := by
  obtain ⟨a, cap, hv, hn, hcap, hat⟩ := h
  cases hv
  obtain ⟨a', cap', hu, hn', hcap', hat'⟩ := k
  cases hu
  unfold maxLen at hcap hcap'
  have HA : Hid (∀ i (h : i < ds.length), ∃ x, a = some x ∧ fieldR.At w x i ds[i]) := hat
  have HB : Hid (∀ i (h : i < ds.length), ∃ x, a' = some x ∧ fieldR.At w x i ds[i]) := hat'
  clear hat hat'
  go_enter Tryz.func24, Tryz.ntmps24
  go_wp2_with fail
  go_loopw [5] (fun j5 wr => ∃ m : Nat, m ≤ ds.length ∧ j5 = .int .i64 (m : Int) ∧ Below w.heap.size w wr) (fun j5 _ => ds.length - (intOf j5).toNat)
  case atStart => exact ⟨0, Nat.zero_le _, rfl, Below.refl _ _⟩
  case round =>
    obtain ⟨m, hm, rfl, hbel⟩ := hrel
    have HW : Hid (Below w.heap.size w wr) := hbel
    clear hbel
    by_cases hlt : m < ds.length
    · obtain ⟨x, rfl, hx⟩ := HA.out m hlt
      obtain ⟨b, o, rfl⟩ : ∃ b o, x = ⟨b, o, none⟩ := by
        obtain ⟨x0, e0, h0⟩ := HA.out 0 (by omega)
        cases e0
        exact h0.plain (by decide)
      obtain ⟨cs, hc, hin⟩ := hx.mono HW.out
      obtain ⟨rfl, _⟩ := fieldR_in hin
      obtain ⟨x', rfl, hx'⟩ := HB.out m hlt
      obtain ⟨b', o', rfl⟩ : ∃ b o, x' = ⟨b, o, none⟩ := by
        obtain ⟨x0, e0, h0⟩ := HB.out 0 (by omega)
        cases e0
        exact h0.plain (by decide)
      obtain ⟨cs', hc', hin'⟩ := hx'.mono HW.out
      obtain ⟨rfl, _⟩ := fieldR_in hin'
      have hk : fieldR.k = 3 := rfl
      rw [hk] at hc hc'
      have g0 := hc 0 (by omega)
      have k0 := hc' 0 (by omega)
      have g1 := hc 1 (by omega)
      have k1 := hc' 1 (by omega)
      have g2 := hc 2 (by omega)
      have k2 := hc' 2 (by omega)
      simp only [fieldC, List.getElem?_cons_zero, List.getElem?_cons_succ] at g0 k0 g1 k1 g2 k2
      simp only [plain_add, ← Nat.add_assoc, Nat.add_zero] at g0 k0 g1 k1 g2 k2
      generalize ds[m] = d at g0 k0 g1 k1 g2 k2
      obtain ⟨y0, y1, y2⟩ := d
      simp only at g0 k0 g1 k1 g2 k2
      have hEq := lawEqField y0 y1 y2
      have HEq := (show Hid _ from hEq)
      clear hc hc' hin hin' hx hx' hEq
      go_wp2_with fail
      go_region_with (go_at_call 42; refine (HEq.out _).mono ?_; rintro e w1 ⟨rfl, hb1⟩; have HB1 : Hid (Below w.heap.size w w1) := HW.out.trans (((Below.refl _ _).drew.trans hb1).mono HW.out.size); clear hb1)
      all_goals
        go_wp2
        go_roundw
        case rel => exact ⟨m + 1, by omega, by go_num, HB1.out⟩
        case measure => simp [intOf]; omega
    · go_wp2
      go_ret
      exact ⟨rfl, HW.out⟩

end Go.Proofs.YtgmlooemiokhfajGreatDoor
