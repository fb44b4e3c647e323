import Derived.Test.YtgmlooemiokhfajGreatDoorMR2i
import Derived.Test.YtgmlooemiokhfajGreatDoorMR2n
/-
  MethodRight of the model.
-/
namespace Go.Proofs.YtgmlooemiokhfajGreatDoor
open Go.RowKit
set_option maxRecDepth 20000
set_option linter.unusedVariables false

set_option maxRecDepth 8000 in
theorem specMethWrong (nm ds : ByteArray) (st ab fi : Bool) (sk lo : Int) (code : List InsD) (hands : List HandlerD) (a b : Option Addr) (ca cb : Nat) (w : World) (hnm : nm.size ≤ maxLen) (hds : ds.size ≤ maxLen) (hi : (nm.toList == [60, 105, 110, 105, 116, 62]) = false) (hbn : nameB nm = false) :
    Calls Tryz.prog 35 #[methV ⟨nm, ds, st, ab, fi, sk, lo, code, hands⟩ (.slice a code.length ca) (.slice b hands.length cb)] w fun e w' => e = .returned (.bool (mOk ⟨nm, ds, st, ab, fi, sk, lo, code, hands⟩)) ∧ Below w.heap.size w w' := by
  have HD : Hid (∀ w, Calls Tryz.prog 54 #[.string ds] w fun e w' => (∃ v cap, e = .returned (outV (.slice v (dN ds) cap) (dR ds) (dA ds) (dC ds))) ∧ Below w.heap.size w w') := fun w => (specDescRead ds w hds).mono fun e w' h => ⟨dv_form h.1, h.2⟩
  have HN : Hid (∀ w, Calls Tryz.prog 33 #[.string nm] w fun e w' => e = .returned (.bool (nameB nm)) ∧ w' = w) := fun w => specNameRight nm w hnm
  have hmn : mNameB nm = false := by unfold mNameB; rw [hi, hbn]; rfl
  have hi' : (nm.toList != [60, 105, 110, 105, 116, 62]) = true := by rw [bne, hi]; rfl
  rw [hbn] at HN
  have HZ : Hid (false = mOk ⟨nm, ds, st, ab, fi, sk, lo, code, hands⟩) := by show _ = _; unfold mOk; simp only; rw [hmn]; rfl
  clear hbn hmn hnm hds
  unfold methV
  simp only
  generalize dC ds = dc at *
  generalize dN ds = dn at *
  generalize dR ds = dr at *
  generalize dA ds = da at *
  go_enter Tryz.func35, Tryz.ntmps35
  go_wp2_with fail
  refine Calls.mono (HD.out _) ?_
  rintro e w1 ⟨⟨v, cap, rfl⟩, hb1⟩
  have x0 : ∀ o, (w1.alloc o).cell? ⟨w.heap.size, 0, none⟩ = some (.string nm) := fun o => carry ((Below.refl _ _).alloc (Nat.le_refl _) o) (by have := hb1.size; simp at this; show w.heap.size < w1.heap.size; omega) (carry hb1 (by simp) (by simp [go_sem]))
  have x1 : ∀ o, (w1.alloc o).cell? ⟨w.heap.size, 1, none⟩ = some (.string ds) := fun o => carry ((Below.refl _ _).alloc (Nat.le_refl _) o) (by have := hb1.size; simp at this; show w.heap.size < w1.heap.size; omega) (carry hb1 (by simp) (by simp [go_sem]))
  have x2 : ∀ o, (w1.alloc o).cell? ⟨w.heap.size, 2, none⟩ = some (.bool st) := fun o => carry ((Below.refl _ _).alloc (Nat.le_refl _) o) (by have := hb1.size; simp at this; show w.heap.size < w1.heap.size; omega) (carry hb1 (by simp) (by simp [go_sem]))
  have x3 : ∀ o, (w1.alloc o).cell? ⟨w.heap.size, 3, none⟩ = some (.bool ab) := fun o => carry ((Below.refl _ _).alloc (Nat.le_refl _) o) (by have := hb1.size; simp at this; show w.heap.size < w1.heap.size; omega) (carry hb1 (by simp) (by simp [go_sem]))
  have x4 : ∀ o, (w1.alloc o).cell? ⟨w.heap.size, 4, none⟩ = some (.bool fi) := fun o => carry ((Below.refl _ _).alloc (Nat.le_refl _) o) (by have := hb1.size; simp at this; show w.heap.size < w1.heap.size; omega) (carry hb1 (by simp) (by simp [go_sem]))
  have x5 : ∀ o, (w1.alloc o).cell? ⟨w.heap.size, 5, none⟩ = some (.int .i64 sk) := fun o => carry ((Below.refl _ _).alloc (Nat.le_refl _) o) (by have := hb1.size; simp at this; show w.heap.size < w1.heap.size; omega) (carry hb1 (by simp) (by simp [go_sem]))
  have x6 : ∀ o, (w1.alloc o).cell? ⟨w.heap.size, 6, none⟩ = some (.int .i64 lo) := fun o => carry ((Below.refl _ _).alloc (Nat.le_refl _) o) (by have := hb1.size; simp at this; show w.heap.size < w1.heap.size; omega) (carry hb1 (by simp) (by simp [go_sem]))
  have x7 : ∀ o, (w1.alloc o).cell? ⟨w.heap.size, 7, none⟩ = some (.slice a code.length ca) := fun o => carry ((Below.refl _ _).alloc (Nat.le_refl _) o) (by have := hb1.size; simp at this; show w.heap.size < w1.heap.size; omega) (carry hb1 (by simp) (by simp [go_sem]))
  have x8 : ∀ o, (w1.alloc o).cell? ⟨w.heap.size, 8, none⟩ = some (.slice b hands.length cb) := fun o => carry ((Below.refl _ _).alloc (Nat.le_refl _) o) (by have := hb1.size; simp at this; show w.heap.size < w1.heap.size; omega) (carry hb1 (by simp) (by simp [go_sem]))
  have hz0 : w.heap.size < w1.heap.size := by have := hb1.size; simp at this; omega
  have HB1 : Hid (∀ o, Below w.heap.size w (w1.alloc o)) := fun o => (((Below.refl _ _).alloc (Nat.le_refl _) _).trans (hb1.mono (by simp))).alloc (by omega) o
  clear hb1
  unfold outV
  go_wp2_with fail
  have hz1 : w1.heap.size < (w1.alloc (.cells #[.slice v dn cap, .string dr, .int .i64 da, .int .i64 dc] 97)).heap.size := by simp
  have y0 : (w1.alloc (.cells #[.slice v dn cap, .string dr, .int .i64 da, .int .i64 dc] 97)).cell? ⟨w1.heap.size, 0, none⟩ = some (.slice v dn cap) := by simp [go_sem]
  have y1 : (w1.alloc (.cells #[.slice v dn cap, .string dr, .int .i64 da, .int .i64 dc] 97)).cell? ⟨w1.heap.size, 1, none⟩ = some (.string dr) := by simp [go_sem]
  have y2 : (w1.alloc (.cells #[.slice v dn cap, .string dr, .int .i64 da, .int .i64 dc] 97)).cell? ⟨w1.heap.size, 2, none⟩ = some (.int .i64 da) := by simp [go_sem]
  have y3 : (w1.alloc (.cells #[.slice v dn cap, .string dr, .int .i64 da, .int .i64 dc] 97)).cell? ⟨w1.heap.size, 3, none⟩ = some (.int .i64 dc) := by simp [go_sem]
  replace x0 := x0 (.cells #[.slice v dn cap, .string dr, .int .i64 da, .int .i64 dc] 97)
  replace x1 := x1 (.cells #[.slice v dn cap, .string dr, .int .i64 da, .int .i64 dc] 97)
  replace x2 := x2 (.cells #[.slice v dn cap, .string dr, .int .i64 da, .int .i64 dc] 97)
  replace x3 := x3 (.cells #[.slice v dn cap, .string dr, .int .i64 da, .int .i64 dc] 97)
  replace x4 := x4 (.cells #[.slice v dn cap, .string dr, .int .i64 da, .int .i64 dc] 97)
  replace x5 := x5 (.cells #[.slice v dn cap, .string dr, .int .i64 da, .int .i64 dc] 97)
  replace x6 := x6 (.cells #[.slice v dn cap, .string dr, .int .i64 da, .int .i64 dc] 97)
  replace x7 := x7 (.cells #[.slice v dn cap, .string dr, .int .i64 da, .int .i64 dc] 97)
  replace x8 := x8 (.cells #[.slice v dn cap, .string dr, .int .i64 da, .int .i64 dc] 97)
  have HB : Hid (Below w.heap.size w (w1.alloc (.cells #[.slice v dn cap, .string dr, .int .i64 da, .int .i64 dc] 97))) := HB1.out _
  clear HB1
  generalize w1.alloc (.cells #[.slice v dn cap, .string dr, .int .i64 da, .int .i64 dc] 97) = W at *
  generalize w1.heap.size = B1 at *
  refine Calls.mono (HN.out _) ?_
  rintro e w2 ⟨rfl, hw2⟩
  subst w2
  go_wp2
  go_ret
  exact ⟨congrArg (fun b => Ending.returned (Value.bool b)) HZ.out, HB.out⟩

theorem specMethodRight (m : MethD) (vc vh : Value) (w : World) (hnm : m.name.size ≤ maxLen) (hds : m.desc.size ≤ maxLen) (hc : insR.slice.In w [vc] m.code) (hh : handlerR.slice.In w [vh] m.hands) :
    Calls Tryz.prog 35 #[methV m vc vh] w fun e w' => e = .returned (.bool (mOk m)) ∧ Below w.heap.size w w' := by
  obtain ⟨a, ca, rfl⟩ := slice_form hc
  obtain ⟨b, cb, rfl⟩ := slice_form hh
  obtain ⟨nm, ds, st, ab, fi, sk, lo, code, hands⟩ := m
  cases hi : (nm.toList == [60, 105, 110, 105, 116, 62])
  · cases hbn : nameB nm
    · exact specMethWrong nm ds st ab fi sk lo code hands a b ca cb w hnm hds hi hbn
    · exact specMethN nm ds st ab fi sk lo code hands a b ca cb w hnm hds hc hh hi hbn
  · exact specMethI nm ds st ab fi sk lo code hands a b ca cb w hnm hds hc hh hi
end Go.Proofs.YtgmlooemiokhfajGreatDoor
