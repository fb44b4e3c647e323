/-
  Arguments of the laws that are structs: how they lie.
-/
import Derived.Test.YtiaefillccilgaiDoorFlat
namespace Go.Proofs.YtiaefillccilgaiDoor
open Go.RowKit
set_option linter.unusedVariables false

theorem i64w {n : Int} (h : (Lit.int .i64 n).wf = true) : -9223372036854775808 ≤ n ∧ n ≤ 9223372036854775807 := by
  unfold Lit.wf at h
  simp only [Bool.and_eq_true, decide_eq_true_eq] at h
  exact h

section
variable {H : Type} {enc : TypeId × Value → H} {base : Nat} {spare : Nat → Bool} {held : Bool}

theorem opensIns : Opens Tryd.prog enc base spare held insR 23 :=
  opens_struct5 (R0 := Rep.int) (R1 := Rep.int) (R2 := Rep.str) (R3 := Rep.str) (R4 := Rep.str) Tryd.underlying23 ⟨rfl, rfl, rfl, rfl, rfl⟩ ⟨by kernel_rfl, by kernel_rfl, by kernel_rfl, by kernel_rfl, by kernel_rfl⟩ (by kernel_rfl)
    (opens_int Tryd.underlying2) (opens_int Tryd.underlying2) (opens_str Tryd.underlying9) (opens_str Tryd.underlying9) (opens_str Tryd.underlying9)
theorem opensHandler : Opens Tryd.prog enc base spare held handlerR 107 :=
  opens_struct4 (R0 := Rep.int) (R1 := Rep.int) (R2 := Rep.int) (R3 := Rep.str) Tryd.underlying107 ⟨rfl, rfl, rfl, rfl⟩ ⟨by kernel_rfl, by kernel_rfl, by kernel_rfl, by kernel_rfl⟩ (by kernel_rfl)
    (opens_int Tryd.underlying2) (opens_int Tryd.underlying2) (opens_int Tryd.underlying2) (opens_str Tryd.underlying9)
theorem opensField : Opens Tryd.prog enc base spare held fieldR 112 :=
  opens_struct3 (R0 := Rep.str) (R1 := Rep.str) (R2 := Rep.bool) Tryd.underlying112 ⟨rfl, rfl, rfl⟩ ⟨by kernel_rfl, by kernel_rfl, by kernel_rfl⟩ (by kernel_rfl)
    (opens_str Tryd.underlying9) (opens_str Tryd.underlying9) (opens_bool Tryd.underlying4)
end
end Go.Proofs.YtiaefillccilgaiDoor
