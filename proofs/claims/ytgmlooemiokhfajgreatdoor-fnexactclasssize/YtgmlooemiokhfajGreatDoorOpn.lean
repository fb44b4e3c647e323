/-
  Arguments of the laws that are structs: how they lie.
-/
import Derived.Test.YtgmlooemiokhfajGreatDoorFlat
namespace Go.Proofs.YtgmlooemiokhfajGreatDoor
open Go.RowKit
set_option maxRecDepth 20000
set_option linter.unusedVariables false

theorem i64w {n : Int} (h : (Lit.int .i64 n).wf = true) : -9223372036854775808 ≤ n ∧ n ≤ 9223372036854775807 := by
  unfold Lit.wf at h
  simp only [Bool.and_eq_true, decide_eq_true_eq] at h
  exact h

section
variable {H : Type} {enc : TypeId × Value → H} {base : Nat} {spare : Nat → Bool} {held : Bool}

theorem opensIns : Opens Tryz.prog enc base spare held insR 124 :=
  opens_struct5 (R0 := Rep.int) (R1 := Rep.int) (R2 := Rep.str) (R3 := Rep.str) (R4 := Rep.str) Tryz.underlying124 ⟨rfl, rfl, rfl, rfl, rfl⟩ ⟨by kernel_rfl, by kernel_rfl, by kernel_rfl, by kernel_rfl, by kernel_rfl⟩ (by kernel_rfl)
    (opens_int Tryz.underlying2) (opens_int Tryz.underlying2) (opens_str Tryz.underlying9) (opens_str Tryz.underlying9) (opens_str Tryz.underlying9)
theorem opensHandler : Opens Tryz.prog enc base spare held handlerR 126 :=
  opens_struct4 (R0 := Rep.int) (R1 := Rep.int) (R2 := Rep.int) (R3 := Rep.str) Tryz.underlying126 ⟨rfl, rfl, rfl, rfl⟩ ⟨by kernel_rfl, by kernel_rfl, by kernel_rfl, by kernel_rfl⟩ (by kernel_rfl)
    (opens_int Tryz.underlying2) (opens_int Tryz.underlying2) (opens_int Tryz.underlying2) (opens_str Tryz.underlying9)
theorem opensField : Opens Tryz.prog enc base spare held fieldR 67 :=
  opens_struct3 (R0 := Rep.str) (R1 := Rep.str) (R2 := Rep.bool) Tryz.underlying67 ⟨rfl, rfl, rfl⟩ ⟨by kernel_rfl, by kernel_rfl, by kernel_rfl⟩ (by kernel_rfl)
    (opens_str Tryz.underlying9) (opens_str Tryz.underlying9) (opens_bool Tryz.underlying4)
end
end Go.Proofs.YtgmlooemiokhfajGreatDoor
