/-
  The laws' own helpers on Methods (szMethod, toMethod, eqMethod).
-/
import Derived.Test.YtgmlooemiokhfajGreatDoorFlat2
namespace Go.Proofs.YtgmlooemiokhfajGreatDoor
open Go.RowKit
set_option maxRecDepth 20000
set_option linter.unusedVariables false

/-- A method, as data. -/
structure MethD where
  name : ByteArray
  desc : ByteArray
  static : Bool
  abs : Bool
  fin : Bool
  stack : Int
  locals : Int
  code : List InsD
  hands : List HandlerD

def methV (m : MethD) (vc vh : Value) : Value := .agg #[.string m.name, .string m.desc, .bool m.static, .bool m.abs, .bool m.fin, .int .i64 m.stack, .int .i64 m.locals, vc, vh]

def methB (m : MethD) : Nat := m.name.size + m.desc.size + (m.code.length + insSum m.code m.code.length) + (m.hands.length + handlerSum m.hands m.hands.length)

theorem slice_form {α : Type} {R : Rep α} {w : World} {v : Value} {xs : List α} (h : R.slice.In w [v] xs) : ∃ a cap, v = .slice a xs.length cap := by
  obtain ⟨a, cap, e, _⟩ := h
  cases e
  exact ⟨a, cap, rfl⟩

theorem szB_neg {b : Nat} {left : Int} (h : left < (b : Int)) : szB b left = -1 := by unfold szB; rw [if_pos h]
theorem szB_pos {b : Nat} {left : Int} (h : ¬ left < (b : Int)) : szB b left = left - (b : Int) := by unfold szB; rw [if_neg h]

set_option maxHeartbeats 2000000 in
theorem lawSzMethod (m : MethD) (vc vh : Value) (left : Int) (w : World) (h1 : m.name.size ≤ maxLen) (h2 : m.desc.size ≤ maxLen) (hc : insR.slice.In w [vc] m.code) (hh : handlerR.slice.In w [vh] m.hands) (hl : 0 ≤ left ∧ left ≤ 1048576) :
    Calls Tryz.prog 32 #[methV m vc vh, .int .i64 left] w fun e w' => e = .returned (.int .i64 (szB (methB m) left)) ∧ Below w.heap.size w w' := by
  obtain ⟨a, ca, rfl⟩ := slice_form hc
  obtain ⟨b, cb, rfl⟩ := slice_form hh
  unfold maxLen at h1 h2
  obtain ⟨nm, ds, st, ab, fi, sk, lo, code, hands⟩ := m
  simp only at h1 h2 hc hh
  unfold methV
  simp only
  have HB0 : Hid (∀ o, Below w.heap.size w (w.alloc o)) := fun o => (Below.refl _ _).alloc (Nat.le_refl _) o
  have HC : Hid (insR.slice.In w [.slice a code.length ca] code) := hc
  have HH : Hid (handlerR.slice.In w [.slice b hands.length cb] hands) := hh
  clear hc hh
  obtain ⟨bc, hbc⟩ : ∃ n, code.length + insSum code code.length = n := ⟨_, rfl⟩
  obtain ⟨bh, hbh⟩ : ∃ n, hands.length + handlerSum hands hands.length = n := ⟨_, rfl⟩
  have HS1 : Hid (∀ left w v, insR.slice.In w [v] code → 0 ≤ left ∧ left ≤ 1048576 → Calls Tryz.prog 50 #[v, .int .i64 left] w fun e w' => e = .returned (.int .i64 (szB bc left)) ∧ Below w.heap.size w w') := fun left w v h hl => hbc ▸ lawSzInsS v code left w h hl
  have HS2 : Hid (∀ left w v, handlerR.slice.In w [v] hands → 0 ≤ left ∧ left ≤ 1048576 → Calls Tryz.prog 51 #[v, .int .i64 left] w fun e w' => e = .returned (.int .i64 (szB bh left)) ∧ Below w.heap.size w w') := fun left w v h hl => hbh ▸ lawSzHandlerS v hands left w h hl
  have HT : Hid (szB (methB ⟨nm, ds, st, ab, fi, sk, lo, code, hands⟩) left = szB (nm.size + ds.size + bc + bh) left) := by
    show _ = _
    unfold methB
    rw [← hbc, ← hbh]
  clear hbc hbh
  by_cases c0 : left - (nm.size : Int) < 0
  · have d0 : decide (left - (nm.size : Int) < 0) = true := by simpa using c0
    have HZ : Hid (-1 = szB (methB ⟨nm, ds, st, ab, fi, sk, lo, code, hands⟩) left) := by show _ = _; rw [HT.out, szB_neg (by omega)]
    go_enter Tryz.func32, Tryz.ntmps32
    go_wp2
    go_ret
    exact ⟨congrArg (fun b => Ending.returned (Value.int .i64 b)) HZ.out, HB0.out _⟩
  · have d0 : decide (left - (nm.size : Int) < 0) = false := by simpa using c0
    by_cases c1 : left - (nm.size : Int) - (ds.size : Int) < 0
    · have d1 : decide (left - (nm.size : Int) - (ds.size : Int) < 0) = true := by simpa using c1
      have HZ : Hid (-1 = szB (methB ⟨nm, ds, st, ab, fi, sk, lo, code, hands⟩) left) := by show _ = _; rw [HT.out, szB_neg (by omega)]
      go_enter Tryz.func32, Tryz.ntmps32
      go_wp2
      go_ret
      exact ⟨congrArg (fun b => Ending.returned (Value.int .i64 b)) HZ.out, HB0.out _⟩
    · have d1 : decide (left - (nm.size : Int) - (ds.size : Int) < 0) = false := by simpa using c1
      by_cases c2 : left - (nm.size : Int) - (ds.size : Int) < (bc : Int)
      · have HV : Hid (szB bc (left - (nm.size : Int) - (ds.size : Int)) = -1) := szB_neg c2
        have HZ : Hid (-1 = szB (methB ⟨nm, ds, st, ab, fi, sk, lo, code, hands⟩) left) := by show _ = _; rw [HT.out, szB_neg (by omega)]
        clear c2
        go_enter Tryz.func32, Tryz.ntmps32
        go_wp2_with fail
        refine (HS1.out _ _ _ (insR.slice.mono _ _ _ _ (HB0.out _) HC.out) (by omega)).mono ?_
        rintro e w1 ⟨rfl, hb1⟩
        rw [HV.out]
        have HB1 : Hid (Below w.heap.size w w1) := (HB0.out _).trans (hb1.mono (by simp))
        clear hb1
        go_wp2
        go_ret
        exact ⟨congrArg (fun b => Ending.returned (Value.int .i64 b)) HZ.out, HB1.out⟩
      · have HV : Hid (szB bc (left - (nm.size : Int) - (ds.size : Int)) = left - (nm.size : Int) - (ds.size : Int) - (bc : Int)) := szB_pos c2
        have d2 : decide (left - (nm.size : Int) - (ds.size : Int) - (bc : Int) < 0) = false := by simp; omega
        by_cases c3 : left - (nm.size : Int) - (ds.size : Int) - (bc : Int) < (bh : Int)
        · have HV2 : Hid (szB bh (left - (nm.size : Int) - (ds.size : Int) - (bc : Int)) = -1) := szB_neg c3
          have HZ : Hid (-1 = szB (methB ⟨nm, ds, st, ab, fi, sk, lo, code, hands⟩) left) := by show _ = _; rw [HT.out, szB_neg (by omega)]
          have hr : 0 ≤ left - (nm.size : Int) - (ds.size : Int) - (bc : Int) ∧ left - (nm.size : Int) - (ds.size : Int) - (bc : Int) ≤ 1048576 := by omega
          have HR := (show Hid _ from hr)
          clear c2 c3 hr
          go_enter Tryz.func32, Tryz.ntmps32
          go_wp2_with fail
          refine (HS1.out _ _ _ (insR.slice.mono _ _ _ _ (HB0.out _) HC.out) (by omega)).mono ?_
          rintro e w1 ⟨rfl, hb1⟩
          rw [HV.out]
          have HB1 : Hid (Below w.heap.size w w1) := (HB0.out _).trans (hb1.mono (by simp))
          have x8 : w1.cell? ⟨w.heap.size, 8, none⟩ = some (.slice b hands.length cb) := (hb1.cell (p := ⟨w.heap.size, 8, none⟩) (by simp)).trans (by simp [go_sem])
          clear hb1
          go_wp2_with fail
          refine (HS2.out _ _ _ (handlerR.slice.mono _ _ _ _ HB1.out HH.out) HR.out).mono ?_
          rintro e w2 ⟨rfl, hb2⟩
          rw [HV2.out]
          have HB2 : Hid (Below w.heap.size w w2) := HB1.out.trans (hb2.mono HB1.out.size)
          clear hb2
          go_wp2
          go_ret
          exact ⟨congrArg (fun b => Ending.returned (Value.int .i64 b)) HZ.out, HB2.out⟩
        · have HV2 : Hid (szB bh (left - (nm.size : Int) - (ds.size : Int) - (bc : Int)) = left - (nm.size : Int) - (ds.size : Int) - (bc : Int) - (bh : Int)) := szB_pos c3
          have d3 : decide (left - (nm.size : Int) - (ds.size : Int) - (bc : Int) - (bh : Int) < 0) = false := by simp; omega
          have HZ : Hid (left - (nm.size : Int) - (ds.size : Int) - (bc : Int) - (bh : Int) = szB (methB ⟨nm, ds, st, ab, fi, sk, lo, code, hands⟩) left) := by show _ = _; rw [HT.out, szB_pos (by omega)]; omega
          have hr : 0 ≤ left - (nm.size : Int) - (ds.size : Int) - (bc : Int) ∧ left - (nm.size : Int) - (ds.size : Int) - (bc : Int) ≤ 1048576 := by omega
          have HR := (show Hid _ from hr)
          clear c2 c3 hr
          go_enter Tryz.func32, Tryz.ntmps32
          go_wp2_with fail
          refine (HS1.out _ _ _ (insR.slice.mono _ _ _ _ (HB0.out _) HC.out) (by omega)).mono ?_
          rintro e w1 ⟨rfl, hb1⟩
          rw [HV.out]
          have HB1 : Hid (Below w.heap.size w w1) := (HB0.out _).trans (hb1.mono (by simp))
          have x8 : w1.cell? ⟨w.heap.size, 8, none⟩ = some (.slice b hands.length cb) := (hb1.cell (p := ⟨w.heap.size, 8, none⟩) (by simp)).trans (by simp [go_sem])
          clear hb1
          go_wp2_with fail
          refine (HS2.out _ _ _ (handlerR.slice.mono _ _ _ _ HB1.out HH.out) HR.out).mono ?_
          rintro e w2 ⟨rfl, hb2⟩
          rw [HV2.out]
          have HB2 : Hid (Below w.heap.size w w2) := HB1.out.trans (hb2.mono HB1.out.size)
          clear hb2
          go_wp2
          go_ret
          exact ⟨congrArg (fun b => Ending.returned (Value.int .i64 b)) HZ.out, HB2.out⟩
end Go.Proofs.YtgmlooemiokhfajGreatDoor
