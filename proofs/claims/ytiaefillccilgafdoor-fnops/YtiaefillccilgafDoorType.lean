/-
  The contracts of the readers of types, of the model (l02Type) and of the program (typeEnd): each tells what tyE tells, at every text and place.
-/
import Derived.Test.YtiaefillccilgafDoorName
import Derived.Test.YtiaefillccilgafDoorScope
namespace Go.Proofs.YtiaefillccilgafDoor
open Go.RowKit
set_option linter.unusedVariables false

theorem byt_out (s : ByteArray) (i : Nat) (h : s.size ≤ i) : byt s i = 0 := by
  unfold byt
  have : s.data.toList[i]? = none := List.getElem?_eq_none (by simpa using h)
  simp [List.getD, this]

/-- The first place from i on that has no byte of a name that begins at frm, k places on at most. -/
def nmRun (s : ByteArray) (frm : Nat) : Nat → Nat → Nat
  | 0, i => i
  | k + 1, i => if nbI (byt s i) (decide (i = frm)) = true then nmRun s frm k (i + 1) else i

/-- Is there a type's end, and where; behind the first byte of a name. -/
def tyR (s : ByteArray) (frm k i : Nat) : Bool × Nat := if byt s (nmRun s frm k i) = 59 then (true, nmRun s frm k i + 1) else (false, nmRun s frm k i)
def tyL (s : ByteArray) (frm : Nat) : Bool × Nat := if nbI (byt s frm) true = true then tyR s frm 19 (frm + 1) else (false, frm)
def tyO (s : ByteArray) (i : Nat) : Bool × Nat := if byt s i = 73 then (true, i + 1) else if byt s i = 76 then tyL s (i + 1) else (false, i)
def tyE (s : ByteArray) (i : Nat) : Bool × Nat := if byt s i = 91 then tyO s (i + 1) else tyO s i

theorem byt_in (s : ByteArray) (i : Nat) (h : byt s i ≠ 0) : i < s.size := by
  rcases Nat.lt_or_ge i s.size with h1 | h1
  · exact h1
  · exact absurd (byt_out s i h1) h

theorem nb_in (s : ByteArray) (i : Nat) (f : Bool) (h : nbI (byt s i) f = true) : i < s.size := by
  refine byt_in s i fun h0 => ?_
  rw [h0] at h
  cases f <;> revert h <;> decide

theorem nmRun_le (s : ByteArray) (frm k i : Nat) (h : i ≤ s.size) : nmRun s frm k i ≤ s.size := by
  induction k generalizing i with
  | zero => exact h
  | succ k ih =>
    unfold nmRun
    split
    · rename_i hb; exact ih _ (nb_in s i _ hb)
    · exact h

theorem nmRun_ge (s : ByteArray) (frm k i : Nat) : i ≤ nmRun s frm k i := by
  induction k generalizing i with
  | zero => exact Nat.le_refl _
  | succ k ih =>
    unfold nmRun
    split
    · exact Nat.le_trans (Nat.le_succ i) (ih _)
    · exact Nat.le_refl _

set_option maxHeartbeats 1000000 in
theorem implByteAt (s : ByteArray) (i : Nat) (w : World) (hs : s.size ≤ maxLen) (hi : i ≤ s.size) :
    Calls Tryd.prog 26 #[.string s, .int .i64 (i : Int)] w fun e w' => e = .returned (.int .u8 (byt s i)) ∧ w' = w := by
  unfold maxLen at hs
  by_cases h : i < s.size
  · have d : decide ((s.size : Int) ≤ (i : Int)) = false := by simp; omega
    have HT : Hid ((s[i].toNat : Int) = byt s i) := byt_eq s i h
    go_enter Tryd.func26, Tryd.ntmps26
    go_wp2
    go_ret
    exact ⟨congrArg (fun b => Ending.returned (Value.int .u8 b)) HT.out, rfl⟩
  · have d : decide ((s.size : Int) ≤ (i : Int)) = true := by simp; omega
    have HT : Hid (0 = byt s i) := (byt_out s i (by omega)).symm
    go_enter Tryd.func26, Tryd.ntmps26
    go_wp2
    go_ret
    exact ⟨congrArg (fun b => Ending.returned (Value.int .u8 b)) HT.out, rfl⟩
theorem tyL_alt (s : ByteArray) (f m : Nat) (hm : nmRun s f 20 f = m) : tyL s f = if byt s m = 59 ∧ m ≠ f then (true, m + 1) else (false, m) := by
  subst hm
  unfold tyL tyR
  have e : nmRun s f 20 f = if nbI (byt s f) (decide (f = f)) = true then nmRun s f 19 (f + 1) else f := by rw [nmRun]
  rw [e]
  simp only [decide_true]
  by_cases h : nbI (byt s f) true = true
  · have hg := nmRun_ge s f 19 (f + 1)
    simp only [if_pos h]
    have hne : nmRun s f 19 (f + 1) ≠ f := by omega
    simp [hne]
  · simp [h]

theorem nmRun_on (s : ByteArray) (f k m : Nat) (h : nbI (byt s m) (decide (m = f)) = true) : nmRun s f (k + 1) m = nmRun s f k (m + 1) := by
  rw [nmRun, if_pos h]
theorem nmRun_off (s : ByteArray) (f k m : Nat) (h : nbI (byt s m) (decide (m = f)) = false) : nmRun s f k m = m := by
  cases k with
  | zero => rfl
  | succ k => rw [nmRun, if_neg (by simp [h])]

/-- What a type's reader hands back. -/
def tyV (r : Bool × Nat) : Value := .tuple #[.int .i64 (r.2 : Int), .bool r.1]

end Go.Proofs.YtiaefillccilgafDoor
