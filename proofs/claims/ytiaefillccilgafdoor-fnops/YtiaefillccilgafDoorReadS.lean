/-
  The contract of DescRead of the model: it tells what rdD tells, in a DescOut.
-/
import Derived.Test.YtiaefillccilgafDoorReadO
import Derived.Deep.RegionLaw
namespace Go.Proofs.YtiaefillccilgafDoor
open Go.RowKit
set_option linter.unusedVariables false

def rdWs (w : World) : World := (w.alloc (.cells #[.slice none 0 0, .string ⟨#[]⟩, .int .i64 0, .int .i64 0] 42)).alloc (.cells #[.slice none 0 0, .string ⟨#[]⟩] 40)

theorem RdSt.startS (w : World) : RdSt w (rdWs w) (rdWs w) [] (.slice none 0 0) := by
  have hz : (rdWs w).heap.size = w.heap.size + 2 := by simp [rdWs]
  refine ⟨?_, by omega, World.ownsRow_nil _ _ _ _, ?_, fun p _ _ => rfl, fun p _ => rfl⟩
  · exact ((Below.refl _ _).alloc (Nat.le_refl _) _).alloc (by simp) _
  · simp [rdWs, go_sem]

theorem RdSt.cellsS {w wr : World} {ps : List ByteArray} {v : Value} (h : RdSt w (rdWs w) wr ps v) :
    wr.cell? ⟨w.heap.size, 0, none⟩ = some (.slice none 0 0) ∧ wr.cell? ⟨w.heap.size, 1, none⟩ = some (.string ⟨#[]⟩) ∧ wr.cell? ⟨w.heap.size, 2, none⟩ = some (.int .i64 0) ∧ wr.cell? ⟨w.heap.size, 3, none⟩ = some (.int .i64 0) ∧
    wr.cell? ⟨w.heap.size + 1, 1, none⟩ = some (.string ⟨#[]⟩) ∧
    (∀ j, wr.frozen? ⟨w.heap.size, j, none⟩ = false) ∧ (∀ j, wr.frozen? ⟨w.heap.size + 1, j, none⟩ = false) := by
  refine ⟨(h.keep _ (by simp) (by simp)).trans ?_, (h.keep _ (by simp) (by simp)).trans ?_, (h.keep _ (by simp) (by simp)).trans ?_, (h.keep _ (by simp) (by simp)).trans ?_, (h.keep _ (by simp) (by simp)).trans ?_, fun j => (h.frz _ (by simp)).trans ?_, fun j => (h.frz _ (by simp)).trans ?_⟩
  all_goals simp [rdWs, go_sem]

theorem tyE_end (s : ByteArray) (i : Nat) (h : s.size ≤ i) : tyE s i = (false, i) := by
  have h0 := byt_out s i h
  unfold tyE tyO
  rw [h0]
  rfl
theorem rdFrom_end (s : ByteArray) (k i : Nat) (ps : List ByteArray) (h : s.size ≤ i) : rdFrom s k i ps = .error i := by
  have h0 : byt s i ≠ 41 := by rw [byt_out s i h]; decide
  cases k with
  | zero => exact rdFrom_full s i ps h0
  | succ k => exact rdFrom_no s k i i ps h0 (tyE_end s i h)

theorem one_V (s : ByteArray) (j : Nat) (h : byt s j = 86) : s.extract j (j + 1) = ⟨#[86]⟩ := by
  have hj := byt_in s j (by rw [h]; decide)
  have hb := byt_eq s j hj
  have hv : s[j] = 86 := by
    have h' : s[j].toNat = 86 := by omega
    exact UInt8.toNat_inj.1 (by simpa using h')
  apply ByteArray.ext
  apply Array.toList_inj.1
  apply List.ext_getElem
  · simp [ByteArray.data_extract]; omega
  · intro i h1 h2
    have hi : i = 0 := by simp at h2; omega
    subst hi
    simp [ByteArray.data_extract]
    exact hv

end Go.Proofs.YtiaefillccilgafDoor
