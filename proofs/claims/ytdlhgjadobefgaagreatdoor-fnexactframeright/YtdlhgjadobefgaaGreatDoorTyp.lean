import Derived.Test.YtdlhgjadobefgaaGreatDoorFlat
import Derived.Test.YtdlhgjadobefgaaGreatDoorSplit
/-
 How a Type of the check lies; the laws' own helpers on it.
-/
namespace Go.Proofs.YtdlhgjadobefgaaGreatDoor
open Go.RowKit
set_option maxRecDepth 20000
set_option linter.unusedVariables false

def typeR : Rep (Int × ByteArray × Int) := Rep.int.pair (Rep.str.pair Rep.int)
theorem i64wT {n : Int} (h : (Lit.int .i64 n).wf = true) : -9223372036854775808 ≤ n ∧ n ≤ 9223372036854775807 := by
 unfold Lit.wf at h
 simp only [Bool.and_eq_true, decide_eq_true_eq] at h
 exact h
section
variable {H : Type} {enc : TypeId × Value → H} {base : Nat} {spare : Nat → Bool} {held : Bool}
theorem opensType : Opens Tryz.prog enc base spare held typeR 24 :=
 opens_struct3 (R0 := Rep.int) (R1 := Rep.str) (R2 := Rep.int) Tryz.underlying24 ⟨rfl, rfl, rfl⟩ ⟨by kernel_rfl, by kernel_rfl, by kernel_rfl⟩ (by kernel_rfl)
  (opens_int Tryz.underlying2) (opens_str Tryz.underlying9) (opens_int Tryz.underlying2)
end
theorem lawSzType (k a : Int) (c : ByteArray) (left : Int) (w : World) (hc : c.size ≤ maxLen) (hl : 0 ≤ left ∧ left ≤ 1048576) :
  Calls Tryz.prog 10 #[.agg #[.int .i64 k, .string c, .int .i64 a], .int .i64 left] w fun e w' => e = .returned (.int .i64 (if left - (c.size : Int) < 0 then -1 else left - (c.size : Int))) ∧ Below w.heap.size w w' := by
 unfold maxLen at hc
 by_cases h : left - (c.size : Int) < 0
 ·rw [if_pos h]
  have d0 : decide (left - (c.size : Int) < 0) = true := by simpa using h
  go_enter Tryz.func10, Tryz.ntmps10
  go_wp2
  go_ret
  exact ⟨rfl, below_al _ _⟩
 ·rw [if_neg h]
  have d0 : decide (left - (c.size : Int) < 0) = false := by simpa using h
  go_enter Tryz.func10, Tryz.ntmps10
  go_wp2
  go_ret
  exact ⟨rfl, below_al _ _⟩
theorem lawToType (k a : Int) (c : ByteArray) (w : World) :
  Calls Tryz.prog 13 #[.agg #[.int .i64 k, .string c, .int .i64 a]] w fun e w' => e = .returned (.agg #[.int .i64 k, .string c, .int .i64 a]) ∧ Below w.heap.size w w' := by
 go_enter Tryz.func13, Tryz.ntmps13
 go_wp2
 refine bodyPost_ret (v := .agg #[.int .i64 k, .string c, .int .i64 a]) (by simp [results, Tryz.results13, go_sem]) rfl ⟨rfl, ?_⟩
 exact ((((Below.refl _ _).alloc (Nat.le_refl _) _).alloc (by simp) _).alloc (by simp; omega) _)
end Go.Proofs.YtdlhgjadobefgaaGreatDoor
