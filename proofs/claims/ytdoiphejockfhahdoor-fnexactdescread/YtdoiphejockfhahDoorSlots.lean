/-
  The contracts of DescSlots of the model and of the program: each tells what slV tells.
-/
import Derived.Test.YtdoiphejockfhahDoorReadS
namespace Go.Proofs.YtdoiphejockfhahDoor
open Go.RowKit
set_option linter.unusedVariables false

def slV (s : ByteArray) : Int := if 20000 < s.size then 0 else match rdD s with
  | .error _ => -1
  | .ok (ps, _) => (ps.length : Int)

theorem slV_big (s : ByteArray) (h : 20000 < s.size) : slV s = 0 := by unfold slV; rw [if_pos h]
theorem slV_no (s : ByteArray) (k : Nat) (h : ¬ 20000 < s.size) (hr : rdD s = .error k) : slV s = -1 := by unfold slV; rw [if_neg h, hr]
theorem slV_ok (s : ByteArray) (ps : List ByteArray) (q : ByteArray) (h : ¬ 20000 < s.size) (hr : rdD s = .ok (ps, q)) : slV s = (ps.length : Int) := by unfold slV; rw [if_neg h, hr]

/-- What a DescOut is, in three cases. -/
theorem dvOut_cases {s : ByteArray} {w w' : World} {e : Ending} (h : dvOut s w w' e) :
    (20000 < s.size ∧ e = .returned (outV (.slice none 0 0) ⟨#[]⟩ 0 2)) ∨
    (¬ 20000 < s.size ∧ ∃ k, rdD s = .error k ∧ e = .returned (outV (.slice none 0 0) ⟨#[]⟩ (k : Int) 3)) ∨
    (¬ 20000 < s.size ∧ ∃ ps q a cap, rdD s = .ok (ps, q) ∧ e = .returned (outV (.slice a ps.length cap) q 0 0) ∧ w'.ownsRow w.heap.size 9 1 (.slice a ps.length cap) ps.length (cellsOfS ps)) := by
  unfold dvOut at h
  by_cases hb : 20000 < s.size
  · rw [if_pos hb] at h; exact .inl ⟨hb, h⟩
  · rw [if_neg hb] at h
    right
    rcases hr : rdD s with k | ⟨ps, q⟩
    · rw [hr] at h; exact .inl ⟨hb, k, rfl, h⟩
    · rw [hr] at h
      obtain ⟨v, he, ho⟩ := h
      obtain ⟨a, cap, rfl⟩ := own_slice ho
      exact .inr ⟨hb, ps, q, a, cap, rfl, he, ho⟩

set_option maxHeartbeats 1000000 in
theorem implDescSlots (s : ByteArray) (w : World) (hs : s.size ≤ maxLen) (hg : Glob w) :
    Calls Tryd.prog 11 #[.string s] w fun e w' => e = .returned (.int .i64 (slV s)) ∧ Below w.heap.size w w' := by
  have HC : Hid (Calls Tryd.prog 6 #[.string s] w fun e w' => dvOut s w w' e ∧ Below w.heap.size w w') := implDescRead s w hs hg
  clear hg
  go_enter Tryd.func11, Tryd.ntmps11
  go_wp2_with fail
  refine HC.out.mono ?_
  rintro e w1 ⟨hout, hb1⟩
  have HB1 : Hid (∀ o, Below w.heap.size w (w1.alloc o)) := fun o => hb1.alloc hb1.size o
  clear hb1
  rcases dvOut_cases hout with ⟨h1, rfl⟩ | ⟨h1, k, h2, rfl⟩ | ⟨h1, ps, q, a, cap, h2, rfl, ho⟩
  · have HT : Hid (0 = slV s) := (slV_big s h1).symm
    clear hout h1
    unfold outV
    go_wp2
    go_ret
    exact ⟨congrArg (fun b => Ending.returned (Value.int .i64 b)) HT.out, HB1.out _⟩
  · have HT : Hid (-1 = slV s) := (slV_no s k h1 h2).symm
    clear hout h1 h2
    unfold outV
    go_wp2
    go_ret
    exact ⟨congrArg (fun b => Ending.returned (Value.int .i64 b)) HT.out, HB1.out _⟩
  · have HT : Hid ((ps.length : Int) = slV s) := (slV_ok s ps q h1 h2).symm
    clear hout h1 h2 ho
    unfold outV
    go_wp2
    go_ret
    exact ⟨congrArg (fun b => Ending.returned (Value.int .i64 b)) HT.out, HB1.out _⟩
set_option maxHeartbeats 1000000 in
theorem specDescSlots (s : ByteArray) (w : World) (hs : s.size ≤ maxLen) :
    Calls Tryd.prog 10 #[.string s] w fun e w' => e = .returned (.int .i64 (slV s)) ∧ Below w.heap.size w w' := by
  have HC : Hid (Calls Tryd.prog 5 #[.string s] w fun e w' => dvOut s w w' e ∧ Below w.heap.size w w') := specDescRead s w hs
  by_cases hbig : 20000 < s.size
  · have d0 : decide ((20000 : Int) < (s.size : Int)) = true := by simp; omega
    have HT : Hid (0 = slV s) := (slV_big s hbig).symm
    go_enter Tryd.func10, Tryd.ntmps10
    go_wp2
    go_ret
    exact ⟨congrArg (fun b => Ending.returned (Value.int .i64 b)) HT.out, Below.refl _ _⟩
  · have d0 : decide ((20000 : Int) < (s.size : Int)) = false := by simp; omega
    go_enter Tryd.func10, Tryd.ntmps10
    go_wp2_with fail
    refine HC.out.mono ?_
    rintro e w1 ⟨hout, hb1⟩
    have HB1 : Hid (∀ o, Below w.heap.size w (w1.alloc o)) := fun o => hb1.alloc hb1.size o
    clear hb1
    rcases dvOut_cases hout with ⟨h1, rfl⟩ | ⟨h1, k, h2, rfl⟩ | ⟨h1, ps, q, a, cap, h2, rfl, ho⟩
    · exact absurd h1 hbig
    · have HT : Hid (-1 = slV s) := (slV_no s k h1 h2).symm
      clear hout h1 h2
      unfold outV
      go_wp2
      go_ret
      exact ⟨congrArg (fun b => Ending.returned (Value.int .i64 b)) HT.out, HB1.out _⟩
    · have HT : Hid ((ps.length : Int) = slV s) := (slV_ok s ps q h1 h2).symm
      clear hout h1 h2 ho
      unfold outV
      go_wp2
      go_ret
      exact ⟨congrArg (fun b => Ending.returned (Value.int .i64 b)) HT.out, HB1.out _⟩
end Go.Proofs.YtdoiphejockfhahDoor
