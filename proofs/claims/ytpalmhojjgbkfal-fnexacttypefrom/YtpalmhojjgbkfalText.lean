/-
  The contracts of PutText and NameRight of the model and of the program and of what they call: each answers what putT and nameB tell, at every text.
-/
import Derived.Test.YtpalmhojjgbkfalPut
import Derived.Test.YtpalmhojjgbkfalGet
namespace Go.Proofs.Ytpalmhojjgbkfal
open Go.RowKit

/-- Each byte is 32 to 126. -/
def okB (s : ByteArray) : Bool := s.data.toList.all fun c => decide (32 ≤ c.toNat) && decide (c.toNat ≤ 126)

theorem mem_at (s : ByteArray) (c : UInt8) (h : c ∈ s.data.toList) : ∃ i, ∃ hi : i < s.size, s[i] = c := by
  obtain ⟨i, hi, e⟩ := List.mem_iff_getElem.1 h
  exact ⟨i, by simpa using hi, by rw [← e]; rfl⟩

theorem at_mem (s : ByteArray) (i : Nat) (hi : i < s.size) : s[i] ∈ s.data.toList :=
  List.mem_iff_getElem.2 ⟨i, by simpa using hi, rfl⟩

theorem okB_true (s : ByteArray) (h : ∀ i (hi : i < s.size), 32 ≤ s[i].toNat ∧ s[i].toNat ≤ 126) : okB s = true := by
  unfold okB
  rw [List.all_eq_true]
  intro c hc
  obtain ⟨i, hi, rfl⟩ := mem_at s c hc
  have := h i hi
  simp [this]

theorem okB_false (s : ByteArray) (i : Nat) (hi : i < s.size) (h : ¬ (32 ≤ s[i].toNat ∧ s[i].toNat ≤ 126)) : okB s = false := by
  unfold okB
  rw [List.all_eq_false]
  refine ⟨s[i], at_mem s i hi, ?_⟩
  simp
  intro h1
  omega

theorem below_iter (w : World) (s : ByteArray) (pos : Nat) : Below w.heap.size w (w.iter s pos) :=
  (Below.refl _ _).alloc (Nat.le_refl _) _

/-- What PutText tells of a text. -/
def putT (s : ByteArray) : ByteArray := if s.size ≤ 255 ∧ okB s = true then p1 s.size ++ s else ⟨#[]⟩

theorem p1_size (n : Int) : (p1 n).size ≤ 1 := by
  unfold p1; split
  · rw [strOfNums_size]; simp
  · simp [ByteArray.size]

end Go.Proofs.Ytpalmhojjgbkfal
