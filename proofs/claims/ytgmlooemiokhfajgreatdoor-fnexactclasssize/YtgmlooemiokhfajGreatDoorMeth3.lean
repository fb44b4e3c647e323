/-
  The laws' own eqMethod.
-/
import Derived.Test.YtgmlooemiokhfajGreatDoorMeth2
namespace Go.Proofs.YtgmlooemiokhfajGreatDoor
open Go.RowKit
set_option maxRecDepth 20000
set_option linter.unusedVariables false

set_option maxHeartbeats 4000000 in
theorem lawEqMethod (m : MethD) (vc vh uc uh : Value) (w : World) (h1 : insR.slice.In w [vc] m.code) (h2 : handlerR.slice.In w [vh] m.hands) (h3 : insR.slice.In w [uc] m.code) (h4 : handlerR.slice.In w [uh] m.hands) :
    Calls Tryz.prog 43 #[methV m vc vh, methV m uc uh] w fun e w' => e = .returned (.bool true) ∧ Below w.heap.size w w' := by
  obtain ⟨a, ca, rfl⟩ := slice_form h1
  obtain ⟨b, cb, rfl⟩ := slice_form h2
  obtain ⟨c, cc, rfl⟩ := slice_form h3
  obtain ⟨d, cd, rfl⟩ := slice_form h4
  obtain ⟨nm, ds, st, ab, fi, sk, lo, code, hands⟩ := m
  simp only at h1 h2 h3 h4
  unfold methV
  simp only
  have HB0 : Hid (∀ o1 o2, Below w.heap.size w ((w.alloc o1).alloc o2)) := fun o1 o2 => ((Below.refl _ _).alloc (Nat.le_refl _) o1).alloc (by simp) o2
  have H1 : Hid (insR.slice.In w [.slice a code.length ca] code) := h1
  have H2 : Hid (handlerR.slice.In w [.slice b hands.length cb] hands) := h2
  have H3 : Hid (insR.slice.In w [.slice c code.length cc] code) := h3
  have H4 : Hid (handlerR.slice.In w [.slice d hands.length cd] hands) := h4
  clear h1 h2 h3 h4
  have enm : (nm.toList == nm.toList) = true := by simp
  have eds : (ds.toList == ds.toList) = true := by simp
  have est : (st == st) = true := by simp
  have fst : (st != st) = false := by simp
  have eab : (ab == ab) = true := by simp
  have fab : (ab != ab) = false := by simp
  have efi : (fi == fi) = true := by simp
  have ffi : (fi != fi) = false := by simp
  have esk : (sk == sk) = true := by simp
  have elo : (lo == lo) = true := by simp
  go_enter Tryz.func43, Tryz.ntmps43
  go_wp2_with fail
  refine (lawEqInsS _ _ code _ (insR.slice.mono _ _ _ _ (HB0.out _ _) H1.out) (insR.slice.mono _ _ _ _ (HB0.out _ _) H3.out)).mono ?_
  rintro e w1 ⟨rfl, hb1⟩
  have HB1 : Hid (Below w.heap.size w w1) := (HB0.out _ _).trans (hb1.mono (by simp; omega))
  have x8 : w1.cell? ⟨w.heap.size, 8, none⟩ = some (.slice b hands.length cb) := (hb1.cell (p := ⟨w.heap.size, 8, none⟩) (by simp; omega)).trans (by simp [go_sem])
  have y8 : w1.cell? ⟨w.heap.size + 1, 8, none⟩ = some (.slice d hands.length cd) := (hb1.cell (p := ⟨w.heap.size + 1, 8, none⟩) (by simp)).trans (by simp [go_sem])
  clear hb1
  go_wp2_with fail
  refine (lawEqHandlerS _ _ hands _ (handlerR.slice.mono _ _ _ _ HB1.out H2.out) (handlerR.slice.mono _ _ _ _ HB1.out H4.out)).mono ?_
  rintro e w2 ⟨rfl, hb2⟩
  have HB2 : Hid (Below w.heap.size w w2) := HB1.out.trans (hb2.mono HB1.out.size)
  clear hb2
  go_wp2
  go_ret
  exact ⟨rfl, HB2.out⟩
end Go.Proofs.YtgmlooemiokhfajGreatDoor
