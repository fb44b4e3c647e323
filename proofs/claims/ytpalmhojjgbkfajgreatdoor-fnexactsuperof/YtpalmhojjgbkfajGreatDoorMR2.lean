import Derived.Test.YtpalmhojjgbkfajGreatDoorMR2i
import Derived.Test.YtpalmhojjgbkfajGreatDoorMR2n
/-
 MethodRight of the model.
-/
namespace Go.Proofs.YtpalmhojjgbkfajGreatDoor
open Go.RowKit
set_option maxRecDepth 20000
set_option linter.unusedVariables false

set_option maxRecDepth 8000 in
theorem specMethWrong (nm ds : ByteArray) (st ab fi : Bool) (sk lo : Int) (code : List InsD) (hands : List HandlerD) (a b : Option Addr) (ca cb : Nat) (w : World) (hnm : nm.size ≤ maxLen) (hds : ds.size ≤ maxLen) (hi : (nm.toList == [60, 105, 110, 105, 116, 62]) = false) (hbn : nameB nm = false) :
  Calls Tryz.prog 58 #[methV ⟨nm, ds, st, ab, fi, sk, lo, code, hands⟩ (.slice a code.length ca) (.slice b hands.length cb)] w fun e w' => e = .returned (.bool (mOk ⟨nm, ds, st, ab, fi, sk, lo, code, hands⟩)) ∧ Below w.heap.size w w' := by
 have HD : Hid (∀ w, Calls Tryz.prog 88 #[.string ds] w fun e w' => (∃ v cap, e = .returned (outV (.slice v (dN ds) cap) (dR ds) (dA ds) (dC ds))) ∧ Below w.heap.size w w') := fun w => (specDescRead ds w hds).mono fun e w' h => ⟨dv_form h.1, h.2⟩
 have HN : Hid (∀ w, Calls Tryz.prog 56 #[.string nm] w fun e w' => e = .returned (.bool (nameB nm)) ∧ w' = w) := fun w => specNameRight nm w hnm
 have hmn : mNameB nm = false := by unfold mNameB; rw [hi, hbn]; rfl
 have hi' : (nm.toList != [60, 105, 110, 105, 116, 62]) = true := by rw [bne, hi]; rfl
 rw [hbn] at HN
 have HZ : Hid (false = mOk ⟨nm, ds, st, ab, fi, sk, lo, code, hands⟩) := by show _ = _; unfold mOk; simp only; rw [hmn]; rfl
 clear hbn hmn hnm hds
 unfold methV
 simp only
 generalize dC ds = dc at *
 generalize dN ds = dn at *
 generalize dR ds = dr at *
 generalize dA ds = da at *
 go_enter Tryz.func58, Tryz.ntmps58
 go_wp2_with fail
 refine Calls.mono (HD.out _) ?_
 rintro e w1 ⟨⟨v, cap, rfl⟩, hb1⟩
 have x0 := c1A hb1 0 (.string nm) (by simp [go_sem])
 have x1 := c1A hb1 1 (.string ds) (by simp [go_sem])
 have x2 := c1A hb1 2 (.bool st) (by simp [go_sem])
 have x3 := c1A hb1 3 (.bool ab) (by simp [go_sem])
 have x4 := c1A hb1 4 (.bool fi) (by simp [go_sem])
 have x5 := c1A hb1 5 (.int .i64 sk) (by simp [go_sem])
 have x6 := c1A hb1 6 (.int .i64 lo) (by simp [go_sem])
 have x7 := c1A hb1 7 (.slice a code.length ca) (by simp [go_sem])
 have x8 := c1A hb1 8 (.slice b hands.length cb) (by simp [go_sem])
 have hz0 : w.heap.size < w1.heap.size := by have := hb1.size; simp at this; omega
 have HB1 : Hid (∀ o, Below w.heap.size w (w1.alloc o)) := b1A hb1
 clear hb1
 unfold outV
 go_wp2_with fail
 obtain ⟨W, hW⟩ : ∃ W, w1.alloc (.cells #[.slice v dn cap, .string dr, .int .i64 da, .int .i64 dc] 131) = W := ⟨_, rfl⟩
 have hz1 := zW hW
 have y0 := yW hW 0 (.slice v dn cap) rfl
 have y1 := yW hW 1 (.string dr) rfl
 have y2 := yW hW 2 (.int .i64 da) rfl
 have y3 := yW hW 3 (.int .i64 dc) rfl
 replace x0 := sW hW x0
 replace x1 := sW hW x1
 replace x2 := sW hW x2
 replace x3 := sW hW x3
 replace x4 := sW hW x4
 replace x5 := sW hW x5
 replace x6 := sW hW x6
 replace x7 := sW hW x7
 replace x8 := sW hW x8
 have HB : Hid (Below w.heap.size w W) := hW ▸ HB1.out _
 clear HB1
 rw [hW]
 clear hW
 generalize w1.heap.size = B1 at *
 refine Calls.mono (HN.out _) ?_
 rintro e w2 ⟨rfl, hw2⟩
 subst w2
 go_wp2
 go_ret
 exact ⟨rB HZ.out, HB.out⟩

theorem specMethodRight (m : MethD) (vc vh : Value) (w : World) (hnm : m.name.size ≤ maxLen) (hds : m.desc.size ≤ maxLen) (hc : insR.slice.In w [vc] m.code) (hh : handlerR.slice.In w [vh] m.hands) :
  Calls Tryz.prog 58 #[methV m vc vh] w fun e w' => e = .returned (.bool (mOk m)) ∧ Below w.heap.size w w' := by
 obtain ⟨a, ca, rfl⟩ := slice_form hc
 obtain ⟨b, cb, rfl⟩ := slice_form hh
 obtain ⟨nm, ds, st, ab, fi, sk, lo, code, hands⟩ := m
 cases hi : (nm.toList == [60, 105, 110, 105, 116, 62])
 ·cases hbn : nameB nm
  ·exact specMethWrong nm ds st ab fi sk lo code hands a b ca cb w hnm hds hi hbn
  ·exact specMethN nm ds st ab fi sk lo code hands a b ca cb w hnm hds hc hh hi hbn
 ·exact specMethI nm ds st ab fi sk lo code hands a b ca cb w hnm hds hc hh hi
end Go.Proofs.YtpalmhojjgbkfajGreatDoor
