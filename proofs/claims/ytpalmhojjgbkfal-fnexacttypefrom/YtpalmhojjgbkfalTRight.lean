/-
  The contracts of TypeRight of the model and of the program: each answers what tyB tells, at every text.
-/
import Derived.Test.YtpalmhojjgbkfalTypeI
namespace Go.Proofs.Ytpalmhojjgbkfal
open Go.RowKit
set_option linter.unusedVariables false

/-- Is a text a type? -/
def tyB (s : ByteArray) : Bool := (tyE s 0).1 && decide ((tyE s 0).2 = s.size)

theorem nmRun_far (s : ByteArray) (f k i : Nat) : nmRun s f k i ≤ i + k := by
  induction k generalizing i with
  | zero => exact Nat.le_refl _
  | succ k ih =>
    unfold nmRun
    split
    · have := ih (i + 1); omega
    · omega
theorem tyL_far (s : ByteArray) (f : Nat) : (tyL s f).2 ≤ f + 21 := by
  unfold tyL tyR
  have := nmRun_far s f 19 (f + 1)
  split
  · split <;> simp <;> omega
  · simp
theorem tyO_far (s : ByteArray) (i : Nat) : (tyO s i).2 ≤ i + 22 := by
  unfold tyO
  have := tyL_far s (i + 1)
  split
  · simp
  · split
    · omega
    · simp
theorem tyE_far (s : ByteArray) (i : Nat) : (tyE s i).2 ≤ i + 23 := by
  unfold tyE
  have h1 := tyO_far s i
  have h2 := tyO_far s (i + 1)
  split <;> omega

theorem tyB_size (s : ByteArray) (h : tyB s = true) : s.size ≤ 23 := by
  unfold tyB at h
  simp at h
  have := tyE_far s 0
  omega

set_option maxHeartbeats 1000000 in
theorem specTypeRight (s : ByteArray) (w : World) (hs : s.size ≤ maxLen) :
    Calls Try.prog 16 #[.string s] w fun e w' => e = .returned (.bool (tyB s)) ∧ w' = w := by
  have hm := hs
  unfold maxLen at hs
  by_cases hbig : 20000 < s.size
  · have d0 : decide ((20000 : Int) < (s.size : Int)) = true := by simp; omega
    have HT : Hid (false = tyB s) := by
      show false = tyB s
      cases h : tyB s
      · rfl
      · have := tyB_size s h; omega
    go_enter Try.func16, Try.ntmps16
    go_wp2
    go_ret
    exact ⟨congrArg (fun b => Ending.returned (Value.bool b)) HT.out, rfl⟩
  · have d0 : decide ((20000 : Int) < (s.size : Int)) = false := by simp; omega
    have hc := specTypeE s 0
    have HC : Hid (∀ (w : World), s.size ≤ maxLen → 0 ≤ s.size → Calls Try.prog 22 #[.string s, .int .i64 0, .bool false] w fun e w' => e = .returned (tyV (tyE s 0)) ∧ w' = w) := hc
    clear hc
    unfold tyB
    generalize tyE s 0 = r at *
    obtain ⟨b, n⟩ := r
    cases b
    · go_enter Try.func16, Try.ntmps16
      go_wp2_with fail
      refine (HC.out _ hm (Nat.zero_le _)).mono ?_
      rintro e w1 ⟨rfl, rfl⟩
      unfold tyV
      go_wp2
      go_ret
      exact ⟨rfl, rfl⟩
    · by_cases hn : n = s.size
      · have d1 : ((n : Int) == (s.size : Int)) = true := by rw [beq_iff_eq]; omega
        have HT : Hid (true = (true && decide (n = s.size))) := by show true = _; simp [hn]
        go_enter Try.func16, Try.ntmps16
        go_wp2_with fail
        refine (HC.out _ hm (Nat.zero_le _)).mono ?_
        rintro e w1 ⟨rfl, rfl⟩
        unfold tyV
        go_wp2
        go_ret
        exact ⟨congrArg (fun b => Ending.returned (Value.bool b)) HT.out, rfl⟩
      · have d1 : ((n : Int) == (s.size : Int)) = false := by rw [beq_eq_false_iff_ne]; omega
        have HT : Hid (false = (true && decide (n = s.size))) := by show false = _; simp [hn]
        clear hn
        go_enter Try.func16, Try.ntmps16
        go_wp2_with fail
        refine (HC.out _ hm (Nat.zero_le _)).mono ?_
        rintro e w1 ⟨rfl, rfl⟩
        unfold tyV
        go_wp2
        go_ret
        exact ⟨congrArg (fun b => Ending.returned (Value.bool b)) HT.out, rfl⟩
set_option maxHeartbeats 1000000 in
theorem implTypeRight (s : ByteArray) (w : World) (hs : s.size ≤ maxLen) :
    Calls Try.prog 8 #[.string s] w fun e w' => e = .returned (.bool (tyB s)) ∧ w' = w := by
  have hm := hs
  unfold maxLen at hs
  have hc := implTypeEnd s 0
  have HC : Hid (∀ (w : World), s.size ≤ maxLen → 0 ≤ s.size → Calls Try.prog 12 #[.string s, .int .i64 0] w fun e w' => e = .returned (teV (tyE s 0)) ∧ w' = w) := hc
  clear hc
  unfold tyB
  generalize tyE s 0 = r at *
  obtain ⟨b, n⟩ := r
  cases b
  · go_enter Try.func8, Try.ntmps8
    go_wp2_with fail
    refine (HC.out _ hm (Nat.zero_le _)).mono ?_
    rintro e w1 ⟨rfl, rfl⟩
    rw [teV_no]
    go_wp2
    go_ret
    exact ⟨rfl, rfl⟩
  · by_cases hn : n = s.size
    · have d1 : ((n : Int) == (s.size : Int)) = true := by rw [beq_iff_eq]; omega
      have HT : Hid (true = (true && decide (n = s.size))) := by show true = _; simp [hn]
      go_enter Try.func8, Try.ntmps8
      go_wp2_with fail
      refine (HC.out _ hm (Nat.zero_le _)).mono ?_
      rintro e w1 ⟨rfl, rfl⟩
      rw [teV_yes]
      go_wp2
      go_ret
      exact ⟨congrArg (fun b => Ending.returned (Value.bool b)) HT.out, rfl⟩
    · have d1 : ((n : Int) == (s.size : Int)) = false := by rw [beq_eq_false_iff_ne]; omega
      have HT : Hid (false = (true && decide (n = s.size))) := by show false = _; simp [hn]
      clear hn
      go_enter Try.func8, Try.ntmps8
      go_wp2_with fail
      refine (HC.out _ hm (Nat.zero_le _)).mono ?_
      rintro e w1 ⟨rfl, rfl⟩
      rw [teV_yes]
      go_wp2
      go_ret
      exact ⟨congrArg (fun b => Ending.returned (Value.bool b)) HT.out, rfl⟩
end Go.Proofs.Ytpalmhojjgbkfal
