/-
  The laws' own helpers on Classes (szClass, toClass, eqClass), and how a Class that is handed in lies.
-/
import Derived.Test.YtgmlooemiokhfajGreatDoorCls1
namespace Go.Proofs.YtgmlooemiokhfajGreatDoor
open Go.RowKit
set_option maxRecDepth 20000
set_option linter.unusedVariables false

/-- A class, as data. -/
structure ClsD where
  name : ByteArray
  super : ByteArray
  fin : Bool
  abs : Bool
  fields : List FieldD
  meths : List MTup

def clsV (m : ClsD) (vc vh : Value) : Value := .agg #[.string m.name, .string m.super, .bool m.fin, .bool m.abs, vc, vh]
def clsB (m : ClsD) : Nat := m.name.size + m.super.size + (m.fields.length + fieldSum m.fields m.fields.length) + (m.meths.length + mSum m.meths m.meths.length)
theorem meth_out {base : Nat} {w w' : World} {v : Value} {xs : List MTup} (ha : Agree base w w') (h : sliceF methR methF base w v xs) : methR.slice.In w' [v] xs := sliceF_in (fun cs x h => methF_in cs x h) (sliceF_move (methF_move ha) ha h)
theorem field_flat : ∀ w w' cs x, fieldR.In w cs x → fieldR.In w' cs x := fun _ _ _ _ h => h
theorem field_out {base : Nat} {w w' : World} {v : Value} {xs : List FieldD} (ha : Agree base w w') (h : sliceF fieldR (flF fieldR) base w v xs) : fieldR.slice.In w' [v] xs := sliceF_in (fun _ _ h => h) (sliceF_move (fun _ _ h => field_flat _ _ _ _ h) ha h)

set_option maxHeartbeats 2000000 in
theorem lawSzClass (m : ClsD) (vc vh : Value) (left : Int) (w : World) (h1 : m.name.size ≤ maxLen) (h2 : m.super.size ≤ maxLen) (hc : fieldR.slice.In w [vc] m.fields) (hh : methR.slice.In w [vh] m.meths) (hl : 0 ≤ left ∧ left ≤ 1048576) :
    Calls Tryz.prog 5 #[clsV m vc vh, .int .i64 left] w fun e w' => e = .returned (.int .i64 (szB (clsB m) left)) ∧ Below w.heap.size w w' := by
  obtain ⟨a, ca, rfl⟩ := slice_form hc
  obtain ⟨b, cb, rfl⟩ := slice_form hh
  unfold maxLen at h1 h2
  obtain ⟨nm, ds, st, ab, code, hands⟩ := m
  simp only at h1 h2 hc hh
  unfold clsV
  simp only
  have HB0 : Hid (∀ o, Below w.heap.size w (w.alloc o)) := fun o => (Below.refl _ _).alloc (Nat.le_refl _) o
  have HC : Hid (fieldR.slice.In w [.slice a code.length ca] code) := hc
  have HH : Hid (methR.slice.In w [.slice b hands.length cb] hands) := hh
  clear hc hh
  obtain ⟨bc, hbc⟩ : ∃ n, code.length + fieldSum code code.length = n := ⟨_, rfl⟩
  obtain ⟨bh, hbh⟩ : ∃ n, hands.length + mSum hands hands.length = n := ⟨_, rfl⟩
  have HS1 : Hid (∀ left w v, fieldR.slice.In w [v] code → 0 ≤ left ∧ left ≤ 1048576 → Calls Tryz.prog 16 #[v, .int .i64 left] w fun e w' => e = .returned (.int .i64 (szB bc left)) ∧ Below w.heap.size w w') := fun left w v h hl => hbc ▸ lawSzFieldS v code left w h hl
  have HS2 : Hid (∀ left w v, methR.slice.In w [v] hands → 0 ≤ left ∧ left ≤ 1048576 → Calls Tryz.prog 17 #[v, .int .i64 left] w fun e w' => e = .returned (.int .i64 (szB bh left)) ∧ Below w.heap.size w w') := fun left w v h hl => hbh ▸ lawSzMethodS v hands left w h hl
  have HT : Hid (szB (clsB ⟨nm, ds, st, ab, code, hands⟩) left = szB (nm.size + ds.size + bc + bh) left) := by
    show _ = _
    unfold clsB
    rw [← hbc, ← hbh]
  clear hbc hbh
  by_cases c0 : left - (nm.size : Int) < 0
  · have d0 : decide (left - (nm.size : Int) < 0) = true := by simpa using c0
    have HZ : Hid (-1 = szB (clsB ⟨nm, ds, st, ab, code, hands⟩) left) := by show _ = _; rw [HT.out, szB_neg (by omega)]
    go_enter Tryz.func5, Tryz.ntmps5
    go_wp2
    go_ret
    exact ⟨congrArg (fun b => Ending.returned (Value.int .i64 b)) HZ.out, HB0.out _⟩
  · have d0 : decide (left - (nm.size : Int) < 0) = false := by simpa using c0
    by_cases c1 : left - (nm.size : Int) - (ds.size : Int) < 0
    · have d1 : decide (left - (nm.size : Int) - (ds.size : Int) < 0) = true := by simpa using c1
      have HZ : Hid (-1 = szB (clsB ⟨nm, ds, st, ab, code, hands⟩) left) := by show _ = _; rw [HT.out, szB_neg (by omega)]
      go_enter Tryz.func5, Tryz.ntmps5
      go_wp2
      go_ret
      exact ⟨congrArg (fun b => Ending.returned (Value.int .i64 b)) HZ.out, HB0.out _⟩
    · have d1 : decide (left - (nm.size : Int) - (ds.size : Int) < 0) = false := by simpa using c1
      by_cases c2 : left - (nm.size : Int) - (ds.size : Int) < (bc : Int)
      · have HV : Hid (szB bc (left - (nm.size : Int) - (ds.size : Int)) = -1) := szB_neg c2
        have HZ : Hid (-1 = szB (clsB ⟨nm, ds, st, ab, code, hands⟩) left) := by show _ = _; rw [HT.out, szB_neg (by omega)]
        clear c2
        go_enter Tryz.func5, Tryz.ntmps5
        go_wp2_with fail
        refine (HS1.out _ _ _ (fieldR.slice.mono _ _ _ _ (HB0.out _) HC.out) (by omega)).mono ?_
        rintro e w1 ⟨rfl, hb1⟩
        rw [HV.out]
        have HB1 : Hid (Below w.heap.size w w1) := (HB0.out _).trans (hb1.mono (by simp))
        clear hb1
        go_wp2
        go_ret
        exact ⟨congrArg (fun b => Ending.returned (Value.int .i64 b)) HZ.out, HB1.out⟩
      · have HV : Hid (szB bc (left - (nm.size : Int) - (ds.size : Int)) = left - (nm.size : Int) - (ds.size : Int) - (bc : Int)) := szB_pos c2
        have d2 : decide (left - (nm.size : Int) - (ds.size : Int) - (bc : Int) < 0) = false := by simp; omega
        by_cases c3 : left - (nm.size : Int) - (ds.size : Int) - (bc : Int) < (bh : Int)
        · have HV2 : Hid (szB bh (left - (nm.size : Int) - (ds.size : Int) - (bc : Int)) = -1) := szB_neg c3
          have HZ : Hid (-1 = szB (clsB ⟨nm, ds, st, ab, code, hands⟩) left) := by show _ = _; rw [HT.out, szB_neg (by omega)]
          have hr : 0 ≤ left - (nm.size : Int) - (ds.size : Int) - (bc : Int) ∧ left - (nm.size : Int) - (ds.size : Int) - (bc : Int) ≤ 1048576 := by omega
          have HR := (show Hid _ from hr)
          clear c2 c3 hr
          go_enter Tryz.func5, Tryz.ntmps5
          go_wp2_with fail
          refine (HS1.out _ _ _ (fieldR.slice.mono _ _ _ _ (HB0.out _) HC.out) (by omega)).mono ?_
          rintro e w1 ⟨rfl, hb1⟩
          rw [HV.out]
          have HB1 : Hid (Below w.heap.size w w1) := (HB0.out _).trans (hb1.mono (by simp))
          have x8 : w1.cell? ⟨w.heap.size, 5, none⟩ = some (.slice b hands.length cb) := (hb1.cell (p := ⟨w.heap.size, 5, none⟩) (by simp)).trans (by simp [go_sem])
          clear hb1
          go_wp2_with fail
          refine (HS2.out _ _ _ (methR.slice.mono _ _ _ _ HB1.out HH.out) HR.out).mono ?_
          rintro e w2 ⟨rfl, hb2⟩
          rw [HV2.out]
          have HB2 : Hid (Below w.heap.size w w2) := HB1.out.trans (hb2.mono HB1.out.size)
          clear hb2
          go_wp2
          go_ret
          exact ⟨congrArg (fun b => Ending.returned (Value.int .i64 b)) HZ.out, HB2.out⟩
        · have HV2 : Hid (szB bh (left - (nm.size : Int) - (ds.size : Int) - (bc : Int)) = left - (nm.size : Int) - (ds.size : Int) - (bc : Int) - (bh : Int)) := szB_pos c3
          have d3 : decide (left - (nm.size : Int) - (ds.size : Int) - (bc : Int) - (bh : Int) < 0) = false := by simp; omega
          have HZ : Hid (left - (nm.size : Int) - (ds.size : Int) - (bc : Int) - (bh : Int) = szB (clsB ⟨nm, ds, st, ab, code, hands⟩) left) := by show _ = _; rw [HT.out, szB_pos (by omega)]; omega
          have hr : 0 ≤ left - (nm.size : Int) - (ds.size : Int) - (bc : Int) ∧ left - (nm.size : Int) - (ds.size : Int) - (bc : Int) ≤ 1048576 := by omega
          have HR := (show Hid _ from hr)
          clear c2 c3 hr
          go_enter Tryz.func5, Tryz.ntmps5
          go_wp2_with fail
          refine (HS1.out _ _ _ (fieldR.slice.mono _ _ _ _ (HB0.out _) HC.out) (by omega)).mono ?_
          rintro e w1 ⟨rfl, hb1⟩
          rw [HV.out]
          have HB1 : Hid (Below w.heap.size w w1) := (HB0.out _).trans (hb1.mono (by simp))
          have x8 : w1.cell? ⟨w.heap.size, 5, none⟩ = some (.slice b hands.length cb) := (hb1.cell (p := ⟨w.heap.size, 5, none⟩) (by simp)).trans (by simp [go_sem])
          clear hb1
          go_wp2_with fail
          refine (HS2.out _ _ _ (methR.slice.mono _ _ _ _ HB1.out HH.out) HR.out).mono ?_
          rintro e w2 ⟨rfl, hb2⟩
          rw [HV2.out]
          have HB2 : Hid (Below w.heap.size w w2) := HB1.out.trans (hb2.mono HB1.out.size)
          clear hb2
          go_wp2
          go_ret
          exact ⟨congrArg (fun b => Ending.returned (Value.int .i64 b)) HZ.out, HB2.out⟩

set_option maxHeartbeats 4000000 in
theorem lawEqClass (m : ClsD) (vc vh uc uh : Value) (w : World) (h1 : fieldR.slice.In w [vc] m.fields) (h2 : methR.slice.In w [vh] m.meths) (h3 : fieldR.slice.In w [uc] m.fields) (h4 : methR.slice.In w [uh] m.meths) :
    Calls Tryz.prog 10 #[clsV m vc vh, clsV m uc uh] w fun e w' => e = .returned (.bool true) ∧ Below w.heap.size w w' := by
  obtain ⟨a, ca, rfl⟩ := slice_form h1
  obtain ⟨b, cb, rfl⟩ := slice_form h2
  obtain ⟨c, cc, rfl⟩ := slice_form h3
  obtain ⟨d, cd, rfl⟩ := slice_form h4
  obtain ⟨nm, ds, st, ab, code, hands⟩ := m
  simp only at h1 h2 h3 h4
  unfold clsV
  simp only
  have HB0 : Hid (∀ o1 o2, Below w.heap.size w ((w.alloc o1).alloc o2)) := fun o1 o2 => ((Below.refl _ _).alloc (Nat.le_refl _) o1).alloc (by simp) o2
  have H1 : Hid (fieldR.slice.In w [.slice a code.length ca] code) := h1
  have H2 : Hid (methR.slice.In w [.slice b hands.length cb] hands) := h2
  have H3 : Hid (fieldR.slice.In w [.slice c code.length cc] code) := h3
  have H4 : Hid (methR.slice.In w [.slice d hands.length cd] hands) := h4
  clear h1 h2 h3 h4
  have enm : (nm.toList == nm.toList) = true := by simp
  have eds : (ds.toList == ds.toList) = true := by simp
  have est : (st == st) = true := by simp
  have fst : (st != st) = false := by simp
  have eab : (ab == ab) = true := by simp
  have fab : (ab != ab) = false := by simp
  go_enter Tryz.func10, Tryz.ntmps10
  go_wp2_with fail
  refine (lawEqFieldS _ _ code _ (fieldR.slice.mono _ _ _ _ (HB0.out _ _) H1.out) (fieldR.slice.mono _ _ _ _ (HB0.out _ _) H3.out)).mono ?_
  rintro e w1 ⟨rfl, hb1⟩
  have HB1 : Hid (Below w.heap.size w w1) := (HB0.out _ _).trans (hb1.mono (by simp; omega))
  have x8 : w1.cell? ⟨w.heap.size, 5, none⟩ = some (.slice b hands.length cb) := (hb1.cell (p := ⟨w.heap.size, 5, none⟩) (by simp; omega)).trans (by simp [go_sem])
  have y8 : w1.cell? ⟨w.heap.size + 1, 5, none⟩ = some (.slice d hands.length cd) := (hb1.cell (p := ⟨w.heap.size + 1, 5, none⟩) (by simp)).trans (by simp [go_sem])
  clear hb1
  go_wp2_with fail
  refine (lawEqMethodS _ _ hands _ (methR.slice.mono _ _ _ _ HB1.out H2.out) (methR.slice.mono _ _ _ _ HB1.out H4.out)).mono ?_
  rintro e w2 ⟨rfl, hb2⟩
  have HB2 : Hid (Below w.heap.size w w2) := HB1.out.trans (hb2.mono HB1.out.size)
  clear hb2
  go_wp2
  go_ret
  exact ⟨rfl, HB2.out⟩

set_option maxHeartbeats 4000000 in
theorem lawToClass (m : ClsD) (vc vh : Value) (w : World) (hc : fieldR.slice.In w [vc] m.fields) (hh : methR.slice.In w [vh] m.meths) (hl : m.fields.length ≤ 1048576) (hk : m.meths.length ≤ 1048576) (hks : ∀ i (h : i < m.meths.length), (mD m.meths[i]).code.length ≤ 1048576 ∧ (mD m.meths[i]).hands.length ≤ 1048576) :
    Calls Tryz.prog 7 #[clsV m vc vh] w fun e w' => ∃ uc uh, e = .returned (clsV m uc uh) ∧ Below w.heap.size w w' ∧ fieldR.slice.In w' [uc] m.fields ∧ methR.slice.In w' [uh] m.meths := by
  obtain ⟨a, ca, rfl⟩ := slice_form hc
  obtain ⟨b, cb, rfl⟩ := slice_form hh
  obtain ⟨nm, ds, st, ab, code, hands⟩ := m
  simp only at hc hh hl hk hks
  unfold clsV
  simp only
  have HB0 : Hid (∀ o1 o2 o3, Below w.heap.size w (((w.alloc o1).alloc o2).alloc o3)) := fun o1 o2 o3 => (((Below.refl _ _).alloc (Nat.le_refl _) o1).alloc (by simp) o2).alloc (by simp; omega) o3
  have HC : Hid (fieldR.slice.In w [.slice a code.length ca] code) := hc
  have HH : Hid (methR.slice.In w [.slice b hands.length cb] hands) := hh
  have HKS := (show Hid (∀ i (h : i < hands.length), (mD hands[i]).code.length ≤ 1048576 ∧ (mD hands[i]).hands.length ≤ 1048576) from hks)
  clear hc hh hks
  go_enter Tryz.func7, Tryz.ntmps7
  go_wp2_with fail
  refine (lawToFieldS _ code _ (fieldR.slice.mono _ _ _ _ (HB0.out _ _ _) HC.out) hl).mono ?_
  rintro e w1 ⟨bi, hbi, rfl, hb1, hin1⟩
  have HB1 : Hid (Below w.heap.size w w1) := (HB0.out _ _ _).trans (hb1.mono (by simp; omega))
  have hz1 : w.heap.size + 1 + 1 < w1.heap.size := by have := hb1.size; simp at this; omega
  have hbi2 : w.heap.size + 1 + 1 < bi := by simp at hbi; omega
  have x8 : w1.cell? ⟨w.heap.size, 5, none⟩ = some (.slice b hands.length cb) := (hb1.cell (p := ⟨w.heap.size, 5, none⟩) (by simp; omega)).trans (by simp [go_sem])
  have r0 : w1.cell? ⟨w.heap.size + 1, 0, none⟩ = some (.string ⟨#[]⟩) := (hb1.cell (p := ⟨w.heap.size + 1, 0, none⟩) (by simp)).trans (by simp [go_sem])
  have r1 : w1.cell? ⟨w.heap.size + 1, 1, none⟩ = some (.string ⟨#[]⟩) := (hb1.cell (p := ⟨w.heap.size + 1, 1, none⟩) (by simp)).trans (by simp [go_sem])
  have r2 : w1.cell? ⟨w.heap.size + 1, 2, none⟩ = some (.bool false) := (hb1.cell (p := ⟨w.heap.size + 1, 2, none⟩) (by simp)).trans (by simp [go_sem])
  have r3 : w1.cell? ⟨w.heap.size + 1, 3, none⟩ = some (.bool false) := (hb1.cell (p := ⟨w.heap.size + 1, 3, none⟩) (by simp)).trans (by simp [go_sem])
  have r4 : w1.cell? ⟨w.heap.size + 1, 4, none⟩ = some (.slice none 0 0) := (hb1.cell (p := ⟨w.heap.size + 1, 4, none⟩) (by simp)).trans (by simp [go_sem])
  have r5 : w1.cell? ⟨w.heap.size + 1, 5, none⟩ = some (.slice none 0 0) := (hb1.cell (p := ⟨w.heap.size + 1, 5, none⟩) (by simp)).trans (by simp [go_sem])
  have o0 : w1.cell? ⟨w.heap.size + 1 + 1, 0, none⟩ = some (.string nm) := (hb1.cell (p := ⟨w.heap.size + 1 + 1, 0, none⟩) (by simp)).trans (by simp [go_sem])
  have o1 : w1.cell? ⟨w.heap.size + 1 + 1, 1, none⟩ = some (.string ds) := (hb1.cell (p := ⟨w.heap.size + 1 + 1, 1, none⟩) (by simp)).trans (by simp [go_sem])
  have o2 : w1.cell? ⟨w.heap.size + 1 + 1, 2, none⟩ = some (.bool st) := (hb1.cell (p := ⟨w.heap.size + 1 + 1, 2, none⟩) (by simp)).trans (by simp [go_sem])
  have o3 : w1.cell? ⟨w.heap.size + 1 + 1, 3, none⟩ = some (.bool ab) := (hb1.cell (p := ⟨w.heap.size + 1 + 1, 3, none⟩) (by simp)).trans (by simp [go_sem])
  have o4 : w1.cell? ⟨w.heap.size + 1 + 1, 4, none⟩ = some (.slice none 0 0) := (hb1.cell (p := ⟨w.heap.size + 1 + 1, 4, none⟩) (by simp)).trans (by simp [go_sem])
  have o5 : w1.cell? ⟨w.heap.size + 1 + 1, 5, none⟩ = some (.slice none 0 0) := (hb1.cell (p := ⟨w.heap.size + 1 + 1, 5, none⟩) (by simp)).trans (by simp [go_sem])
  have fr : ∀ j, w1.frozen? ⟨w.heap.size + 1, j, none⟩ = false := fun j => (hb1.frozen (p := ⟨w.heap.size + 1, j, none⟩) (by simp)).trans (by simp [go_sem])
  have fo : ∀ j, w1.frozen? ⟨w.heap.size + 1 + 1, j, none⟩ = false := fun j => (hb1.frozen (p := ⟨w.heap.size + 1 + 1, j, none⟩) (by simp)).trans (by simp [go_sem])
  have HI1 : Hid (sliceF fieldR (flF fieldR) (w.heap.size + 3) w1 (.slice (some ⟨bi, 0, none⟩) code.length code.length) code) := flat_sliceF (by omega) hin1
  clear hb1 hin1 hbi
  go_wp2_with fail
  refine (lawToMethodS _ hands _ (methR.slice.mono _ _ _ _ (HB1.out.setCell (by simp; omega) _) HH.out) hk HKS.out).mono ?_
  rintro e w2 ⟨um, rfl, hb2, hin2⟩
  have HB2 : Hid (Below w.heap.size w w2) := (HB1.out.setCell (p := ⟨w.heap.size + 1 + 1, 4, none⟩) (by simp; omega) _).trans (hb2.mono (by simp; omega))
  have hz2 : w.heap.size + 1 + 1 < w2.heap.size := by have := hb2.size; simp at this; omega
  have hfrom : w.heap.size + 3 ≤ w1.heap.size := by omega
  have t0 : w2.cell? ⟨w.heap.size + 1, 0, none⟩ = some (.string ⟨#[]⟩) := (hb2.cell (p := ⟨w.heap.size + 1, 0, none⟩) (by simp; omega)).trans (by simp [go_sem, r0])
  have t1 : w2.cell? ⟨w.heap.size + 1, 1, none⟩ = some (.string ⟨#[]⟩) := (hb2.cell (p := ⟨w.heap.size + 1, 1, none⟩) (by simp; omega)).trans (by simp [go_sem, r1])
  have t2 : w2.cell? ⟨w.heap.size + 1, 2, none⟩ = some (.bool false) := (hb2.cell (p := ⟨w.heap.size + 1, 2, none⟩) (by simp; omega)).trans (by simp [go_sem, r2])
  have t3 : w2.cell? ⟨w.heap.size + 1, 3, none⟩ = some (.bool false) := (hb2.cell (p := ⟨w.heap.size + 1, 3, none⟩) (by simp; omega)).trans (by simp [go_sem, r3])
  have t4 : w2.cell? ⟨w.heap.size + 1, 4, none⟩ = some (.slice none 0 0) := (hb2.cell (p := ⟨w.heap.size + 1, 4, none⟩) (by simp; omega)).trans (by simp [go_sem, r4])
  have t5 : w2.cell? ⟨w.heap.size + 1, 5, none⟩ = some (.slice none 0 0) := (hb2.cell (p := ⟨w.heap.size + 1, 5, none⟩) (by simp; omega)).trans (by simp [go_sem, r5])
  have q0 : w2.cell? ⟨w.heap.size + 1 + 1, 0, none⟩ = some (.string nm) := (hb2.cell (p := ⟨w.heap.size + 1 + 1, 0, none⟩) (by simp; omega)).trans (by simp [go_sem, o0])
  have q1 : w2.cell? ⟨w.heap.size + 1 + 1, 1, none⟩ = some (.string ds) := (hb2.cell (p := ⟨w.heap.size + 1 + 1, 1, none⟩) (by simp; omega)).trans (by simp [go_sem, o1])
  have q2 : w2.cell? ⟨w.heap.size + 1 + 1, 2, none⟩ = some (.bool st) := (hb2.cell (p := ⟨w.heap.size + 1 + 1, 2, none⟩) (by simp; omega)).trans (by simp [go_sem, o2])
  have q3 : w2.cell? ⟨w.heap.size + 1 + 1, 3, none⟩ = some (.bool ab) := (hb2.cell (p := ⟨w.heap.size + 1 + 1, 3, none⟩) (by simp; omega)).trans (by simp [go_sem, o3])
  have q4 : w2.cell? ⟨w.heap.size + 1 + 1, 4, none⟩ = some (.slice (some ⟨bi, 0, none⟩) code.length code.length) := (hb2.cell (p := ⟨w.heap.size + 1 + 1, 4, none⟩) (by simp; omega)).trans (by simp [go_sem, o4])
  have q5 : w2.cell? ⟨w.heap.size + 1 + 1, 5, none⟩ = some (.slice none 0 0) := (hb2.cell (p := ⟨w.heap.size + 1 + 1, 5, none⟩) (by simp; omega)).trans (by simp [go_sem, o5])
  have gr : ∀ j, w2.frozen? ⟨w.heap.size + 1, j, none⟩ = false := fun j => (hb2.frozen (p := ⟨w.heap.size + 1, j, none⟩) (by simp; omega)).trans (by simp [go_sem, fr])
  have go_ : ∀ j, w2.frozen? ⟨w.heap.size + 1 + 1, j, none⟩ = false := fun j => (hb2.frozen (p := ⟨w.heap.size + 1 + 1, j, none⟩) (by simp; omega)).trans (by simp [go_sem, fo])
  have HC2 : Hid (sliceF fieldR (flF fieldR) (w.heap.size + 3) w2 (.slice (some ⟨bi, 0, none⟩) code.length code.length) code) := sliceF_move (fun _ _ h => field_flat _ _ _ _ h) (Agree.of_below hb2) (sliceF_move (fun _ _ h => field_flat _ _ _ _ h) ((Agree.refl _ _).set (by show w.heap.size + 1 + 1 < w.heap.size + 3; omega) _) HI1.out)
  have HH2 : Hid (sliceF methR methF (w.heap.size + 3) w2 um hands) := sliceF_base (base := (w1.setCell ⟨w.heap.size + 1 + 1, 4, none⟩ (.slice (some ⟨bi, 0, none⟩) code.length code.length)).heap.size) (by simp; omega) (methF_base (by simp; omega)) hin2
  obtain ⟨bh, ch, ech, _⟩ := HH2.out
  subst ech
  clear hb2 hin2 x8 fr fo HI1 r0 o0 r1 o1 r2 o2 r3 o3 r4 o4 r5 o5
  go_wp2
  refine bodyPost_ret (v := .agg #[.string nm, .string ds, .bool st, .bool ab, .slice (some ⟨bi, 0, none⟩) code.length code.length, .slice (some ⟨bh, 0, none⟩) hands.length ch]) (by simp [results, Tryz.results7, go_sem, t0, t1, t2, t3, t4, t5]) rfl ⟨_, _, rfl, ?_, ?_, ?_⟩
  · exact (((((((HB2.out.setCell (by simp; omega) _).setCell (by simp) _).setCell (by simp) _).setCell (by simp) _).setCell (by simp) _).setCell (by simp) _).setCell (by simp) _)
  · refine field_out ?_ HC2.out
    refine Agree.set ?_ (by show w.heap.size + 1 < w.heap.size + 3; omega) _
    refine Agree.set ?_ (by show w.heap.size + 1 < w.heap.size + 3; omega) _
    refine Agree.set ?_ (by show w.heap.size + 1 < w.heap.size + 3; omega) _
    refine Agree.set ?_ (by show w.heap.size + 1 < w.heap.size + 3; omega) _
    refine Agree.set ?_ (by show w.heap.size + 1 < w.heap.size + 3; omega) _
    refine Agree.set ?_ (by show w.heap.size + 1 < w.heap.size + 3; omega) _
    refine Agree.set ?_ (by show w.heap.size + 1 + 1 < w.heap.size + 3; omega) _
    exact Agree.refl _ _
  · refine meth_out ?_ HH2.out
    refine Agree.set ?_ (by show w.heap.size + 1 < w.heap.size + 3; omega) _
    refine Agree.set ?_ (by show w.heap.size + 1 < w.heap.size + 3; omega) _
    refine Agree.set ?_ (by show w.heap.size + 1 < w.heap.size + 3; omega) _
    refine Agree.set ?_ (by show w.heap.size + 1 < w.heap.size + 3; omega) _
    refine Agree.set ?_ (by show w.heap.size + 1 < w.heap.size + 3; omega) _
    refine Agree.set ?_ (by show w.heap.size + 1 < w.heap.size + 3; omega) _
    refine Agree.set ?_ (by show w.heap.size + 1 + 1 < w.heap.size + 3; omega) _
    exact Agree.refl _ _

/-- How a Class lies. -/
abbrev CTup := ByteArray × ByteArray × Bool × Bool × List FieldD × List MTup
def classR : Rep CTup := Rep.str.pair (Rep.str.pair (Rep.bool.pair (Rep.bool.pair (fieldR.slice.pair methR.slice))))
def cD (x : CTup) : ClsD := ⟨x.1, x.2.1, x.2.2.1, x.2.2.2.1, x.2.2.2.2.1, x.2.2.2.2.2⟩
theorem classR_in {w : World} {cs : List Value} {x : CTup} (h : classR.In w cs x) :
    ∃ vc vh, cs = [.string (cD x).name, .string (cD x).super, .bool (cD x).fin, .bool (cD x).abs, vc, vh] ∧ (cD x).name.size ≤ maxLen ∧ (cD x).super.size ≤ maxLen ∧ fieldR.slice.In w [vc] (cD x).fields ∧ methR.slice.In w [vh] (cD x).meths := by
  obtain ⟨x0, x1, x2, x3, x4, x5⟩ := x
  obtain ⟨_, _, rfl, ⟨rfl, s0⟩, ⟨_, _, rfl, ⟨rfl, s1⟩, ⟨_, _, rfl, h2, ⟨_, _, rfl, h3, ⟨c7, c8, rfl, h7, h8⟩⟩⟩⟩⟩ := h
  have e7 : ∃ v, c7 = [v] := by obtain ⟨a, cap, e, _⟩ := h7; exact ⟨_, e⟩
  have e8 : ∃ v, c8 = [v] := by obtain ⟨a, cap, e, _⟩ := h8; exact ⟨_, e⟩
  obtain ⟨vc, rfl⟩ := e7
  obtain ⟨vh, rfl⟩ := e8
  have h2' : _ = _ := h2
  have h3' : _ = _ := h3
  subst h2' h3'
  exact ⟨vc, vh, rfl, s0, s1, h7, h8⟩

section
variable {H : Type} {enc : TypeId × Value → H} {base : Nat} {spare : Nat → Bool} {held : Bool}
theorem opensClass : Opens Tryz.prog enc base spare held classR 25 :=
  opens_struct6 (R0 := Rep.str) (R1 := Rep.str) (R2 := Rep.bool) (R3 := Rep.bool) (R4 := fieldR.slice) (R5 := methR.slice) Tryz.underlying25 ⟨rfl, rfl, rfl, rfl, rfl, rfl⟩
    ⟨by kernel_rfl, by kernel_rfl, by kernel_rfl, by kernel_rfl, by kernel_rfl, by kernel_rfl⟩ (by kernel_rfl)
    (opens_str Tryz.underlying9) (opens_str Tryz.underlying9) (opens_bool Tryz.underlying4) (opens_bool Tryz.underlying4)
    (opens_slice Tryz.underlying22 (by kernel_rfl) opensField) (opens_slice Tryz.underlying23 (by kernel_rfl) opensMethod)
end
end Go.Proofs.YtgmlooemiokhfajGreatDoor
