/-
  FlowEnds and FlowJumps: of the model, and of the program.
-/
import Derived.Test.YtpjbhdoiffmgiaaRows
import Derived.WalkKit
import Derived.ProofKit
import Derived.Below
namespace Go.Proofs.Ytpjbhdoiffmgiaa
open Go.RowKit
set_option linter.unusedVariables false

def endB (op : Int) : Bool := op == 19 || (op == 26 || (op == 27 || (op == 28 || op == 29)))

set_option maxHeartbeats 1000000 in
theorem implFlowEnds (op : Int) (w : World) :
    Calls Try.prog 5 #[.int .i64 op] w fun e w' => e = .returned (.bool (endB op)) ∧ Below w.heap.size w w' := by
  have HE : Hid (endB op = endB op) := rfl
  unfold endB at HE
  unfold endB
  clear HE
  by_cases c1 : op = 19
  · subst c1
    go_enter Try.func5, Try.ntmps5
    go_wp2
    go_ret
    exact ⟨rfl, Below.refl _ _⟩
  by_cases c2 : op = 26
  · subst c2
    go_enter Try.func5, Try.ntmps5
    go_wp2
    go_ret
    exact ⟨rfl, Below.refl _ _⟩
  by_cases c3 : op = 27
  · subst c3
    go_enter Try.func5, Try.ntmps5
    go_wp2
    go_ret
    exact ⟨rfl, Below.refl _ _⟩
  by_cases c4 : op = 28
  · subst c4
    go_enter Try.func5, Try.ntmps5
    go_wp2
    go_ret
    exact ⟨rfl, Below.refl _ _⟩
  by_cases c5 : op = 29
  · subst c5
    go_enter Try.func5, Try.ntmps5
    go_wp2
    go_ret
    exact ⟨rfl, Below.refl _ _⟩
  have d1 : (op == 19) = false := by simpa using c1
  have d2 : (op == 26) = false := by simpa using c2
  have d3 : (op == 27) = false := by simpa using c3
  have d4 : (op == 28) = false := by simpa using c4
  have d5 : (op == 29) = false := by simpa using c5
  rw [d1, d2, d3, d4, d5]
  go_enter Try.func5, Try.ntmps5
  go_wp2
  go_ret
  exact ⟨rfl, Below.refl _ _⟩

set_option maxHeartbeats 1000000 in
theorem specFlowEnds (op : Int) (w : World) :
    Calls Try.prog 4 #[.int .i64 op] w fun e w' => e = .returned (.bool (endB op)) ∧ Below w.heap.size w w' := by
  by_cases c1 : op = 19
  · subst c1
    go_enter Try.func4, Try.ntmps4
    go_wp2
    go_ret
    exact ⟨rfl, Below.refl _ _⟩
  have d1 : (op == 19) = false := by simpa using c1
  by_cases c2 : 26 ≤ op
  · by_cases c3 : op ≤ 29
    · have he : endB op = true := by
        unfold endB
        have : op = 26 ∨ op = 27 ∨ op = 28 ∨ op = 29 := by omega
        rcases this with rfl | rfl | rfl | rfl <;> rfl
      rw [he]
      have d2 : decide (26 ≤ op) = true := by simpa using c2
      have d3 : decide (op ≤ 29) = true := by simpa using c3
      go_enter Try.func4, Try.ntmps4
      go_wp2
      go_ret
      exact ⟨rfl, Below.refl _ _⟩
    · have he : endB op = false := by
        unfold endB
        simp
        omega
      rw [he]
      have d2 : decide (26 ≤ op) = true := by simpa using c2
      have d3 : decide (op ≤ 29) = false := by simpa using c3
      go_enter Try.func4, Try.ntmps4
      go_wp2
      go_ret
      exact ⟨rfl, Below.refl _ _⟩
  · have he : endB op = false := by
      unfold endB
      simp
      omega
    rw [he]
    have d2 : decide (26 ≤ op) = false := by simpa using c2
    go_enter Try.func4, Try.ntmps4
    go_wp2
    go_ret
    exact ⟨rfl, Below.refl _ _⟩
end Go.Proofs.Ytpjbhdoiffmgiaa
