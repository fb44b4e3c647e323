/-
  InsRight of the model.
-/
import Derived.Test.YtiaefillccilgafDoorIns1
namespace Go.Proofs.YtiaefillccilgafDoor
open Go.RowKit
set_option linter.unusedVariables false

theorem fmS_cases (op : Int) : fmS op = ⟨#[]⟩ ∨ fmS op = ⟨#[110]⟩ ∨ fmS op = ⟨#[105]⟩ ∨ fmS op = ⟨#[116]⟩ ∨ fmS op = ⟨#[99]⟩ ∨ fmS op = ⟨#[121]⟩ ∨ fmS op = ⟨#[102]⟩ ∨ fmS op = ⟨#[109]⟩ ∨ fmS op = ⟨#[33]⟩ := by
  by_cases h : 1 ≤ op ∧ op < 45
  · obtain ⟨i, rfl⟩ : ∃ i : Nat, op = (i : Int) := ⟨op.toNat, by omega⟩
    have key : ∀ j : Fin 45, fmS (j.val : Int) = ⟨#[]⟩ ∨ fmS (j.val : Int) = ⟨#[110]⟩ ∨ fmS (j.val : Int) = ⟨#[105]⟩ ∨ fmS (j.val : Int) = ⟨#[116]⟩ ∨ fmS (j.val : Int) = ⟨#[99]⟩ ∨ fmS (j.val : Int) = ⟨#[121]⟩ ∨ fmS (j.val : Int) = ⟨#[102]⟩ ∨ fmS (j.val : Int) = ⟨#[109]⟩ ∨ fmS (j.val : Int) = ⟨#[33]⟩ := by decide +kernel
    exact key ⟨i, by omega⟩
  · have e : fmS op = ⟨#[33]⟩ := by unfold fmS; rw [if_neg h]
    simp [e]

def insOk (f : ByteArray) (a : Int) (c n d : ByteArray) : Bool :=
  if f = ⟨#[]⟩ then (a == 0) && empB c n d
  else if f = ⟨#[110]⟩ then i32B a && empB c n d
  else if f = ⟨#[105]⟩ then isP a 16 && empB c n d
  else if f = ⟨#[116]⟩ then isP a 60 && empB c n d
  else if f = ⟨#[99]⟩ then (a == 0) && (nameB c && (n.toList.isEmpty && d.toList.isEmpty))
  else if f = ⟨#[121]⟩ then (a == 0) && (c.toList.isEmpty && (n.toList.isEmpty && itemB d))
  else if f = ⟨#[102]⟩ then (a == 0) && (nameB c && (nameB n && tyB d))
  else if f = ⟨#[109]⟩ then (a == 0) && (nameB c && (mNameB n && (dC d == 0)))
  else false
theorem insOk_e (a : Int) (c n d : ByteArray) : insOk ⟨#[]⟩ a c n d = ((a == 0) && empB c n d) := by unfold insOk; rfl
theorem insOk_n (a : Int) (c n d : ByteArray) : insOk ⟨#[110]⟩ a c n d = (i32B a && empB c n d) := by unfold insOk; rfl
theorem insOk_i (a : Int) (c n d : ByteArray) : insOk ⟨#[105]⟩ a c n d = (isP a 16 && empB c n d) := by unfold insOk; rfl
theorem insOk_t (a : Int) (c n d : ByteArray) : insOk ⟨#[116]⟩ a c n d = (isP a 60 && empB c n d) := by unfold insOk; rfl
theorem insOk_c (a : Int) (c n d : ByteArray) : insOk ⟨#[99]⟩ a c n d = ((a == 0) && (nameB c && (n.toList.isEmpty && d.toList.isEmpty))) := by unfold insOk; rfl
theorem insOk_y (a : Int) (c n d : ByteArray) : insOk ⟨#[121]⟩ a c n d = ((a == 0) && (c.toList.isEmpty && (n.toList.isEmpty && itemB d))) := by unfold insOk; rfl
theorem insOk_f (a : Int) (c n d : ByteArray) : insOk ⟨#[102]⟩ a c n d = ((a == 0) && (nameB c && (nameB n && tyB d))) := by unfold insOk; rfl
theorem insOk_m (a : Int) (c n d : ByteArray) : insOk ⟨#[109]⟩ a c n d = ((a == 0) && (nameB c && (mNameB n && (dC d == 0)))) := by unfold insOk; rfl
theorem insOk_x (a : Int) (c n d : ByteArray) : insOk ⟨#[33]⟩ a c n d = (false) := by unfold insOk; rfl

theorem fieldDesc2 (v q x y : Value) (w : World) : (Instr.field 42 (.agg #[v, q, x, y]) 2).run Tryd.prog w = .ok y w := by kernel_rfl

end Go.Proofs.YtiaefillccilgafDoor
