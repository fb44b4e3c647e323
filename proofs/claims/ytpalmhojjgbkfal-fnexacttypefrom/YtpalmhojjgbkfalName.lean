/-
  The contracts of NameRight of the model and of the program and of what they call: each answers what nameB tells, at every text.
-/
import Derived.Test.YtpalmhojjgbkfalText
namespace Go.Proofs.Ytpalmhojjgbkfal
open Go.RowKit

def ltrI (n : Int) : Bool := decide ((97 ≤ n ∧ n ≤ 122) ∨ (65 ≤ n ∧ n ≤ 90) ∨ n = 36)
def digI (n : Int) : Bool := decide (48 ≤ n ∧ n ≤ 57)

/-- May a byte stand in a name, at its first place or behind it? -/
def nbI (n : Int) (first : Bool) : Bool := ltrI n || (!first && digI n)

theorem byte_parts (n : Int) (h : 0 ≤ n ∧ n ≤ 255) : (0 ≤ n ∧ n ≤ 35) ∨ (36 = n) ∨ (37 ≤ n ∧ n ≤ 47) ∨ (48 ≤ n ∧ n ≤ 57) ∨ (58 ≤ n ∧ n ≤ 64) ∨ (65 ≤ n ∧ n ≤ 90) ∨ (91 ≤ n ∧ n ≤ 96) ∨ (97 ≤ n ∧ n ≤ 122) ∨ (123 ≤ n ∧ n ≤ 255) := by omega

set_option maxHeartbeats 1000000 in
theorem implDigit (n : Int) (w : World) (h : 0 ≤ n ∧ n ≤ 255) :
    Calls Try.prog 18 #[.int .u8 n] w fun e w' => e = .returned (.bool (digI n)) ∧ w' = w := by
  by_cases h1 : 48 ≤ n
  · have d1 : decide (48 ≤ n) = true := by simpa using h1
    by_cases h2 : n ≤ 57
    · have d2 : decide (n ≤ 57) = true := by simpa using h2
      have HF : Hid (digI n = true) := by show digI n = true; unfold digI; simp; omega
      clear h h1 h2
      go_enter Try.func18, Try.ntmps18
      go_wp2
      go_ret
      exact ⟨by rw [HF.out]; rfl, rfl⟩
    · have d2 : decide (n ≤ 57) = false := by simp; omega
      have HF : Hid (digI n = false) := by show digI n = false; unfold digI; simp; omega
      clear h h1 h2
      go_enter Try.func18, Try.ntmps18
      go_wp2
      go_ret
      exact ⟨by rw [HF.out]; rfl, rfl⟩
  · have d1 : decide (48 ≤ n) = false := by simp; omega
    have HF : Hid (digI n = false) := by show digI n = false; unfold digI; simp; omega
    clear h h1
    go_enter Try.func18, Try.ntmps18
    go_wp2
    go_ret
    exact ⟨by rw [HF.out]; rfl, rfl⟩

/-- What holds of a byte by where it lies. -/
theorem byte_facts (n : Int) (h : 0 ≤ n ∧ n ≤ 255) :
    (∃ b c : Bool, digI n = b ∧ (n == 36) = c ∧ (ltrI n || digI n) = true ∧ ltrI n = !b ∧ ((97 ≤ n ∧ n ≤ 122) ∨ (65 ≤ n ∧ n ≤ 90) ∨ (48 ≤ n ∧ n ≤ 57) ∨ n = 36)) ∨
    (digI n = false ∧ (n == 36) = false ∧ ltrI n = false ∧ ((0 ≤ n ∧ n ≤ 35) ∨ (37 ≤ n ∧ n ≤ 47) ∨ (58 ≤ n ∧ n ≤ 64) ∨ (91 ≤ n ∧ n ≤ 96) ∨ (123 ≤ n ∧ n ≤ 255))) := by
  by_cases hl : (97 ≤ n ∧ n ≤ 122) ∨ (65 ≤ n ∧ n ≤ 90) ∨ n = 36
  · left
    refine ⟨false, (n == 36), ?_, rfl, ?_, ?_, by omega⟩
    · unfold digI; simp; omega
    · unfold ltrI; simp [hl]
    · unfold ltrI; simp [hl]
  · by_cases hd : 48 ≤ n ∧ n ≤ 57
    · left
      refine ⟨true, (n == 36), ?_, rfl, ?_, ?_, by omega⟩
      · unfold digI; simp [hd]
      · unfold digI; simp [hd]
      · unfold ltrI; simp [hl]
    · right
      refine ⟨?_, ?_, ?_, by omega⟩
      · unfold digI; simp; omega
      · rw [beq_eq_false_iff_ne]; omega
      · unfold ltrI; simp [hl]

set_option maxHeartbeats 1000000 in
theorem implNameByte (n : Int) (w : World) (h : 0 ≤ n ∧ n ≤ 255) :
    Calls Try.prog 19 #[.int .u8 n] w fun e w' => e = .returned (.bool (ltrI n || digI n)) ∧ w' = w := by
  rcases byte_facts n h with ⟨b, c, hd, hc, ht, hq, hr⟩ | ⟨hd, hc, hl, hr⟩
  · have HT : Hid (true = (ltrI n || digI n)) := ht.symm
    rcases hr with ⟨h1, h2⟩ | ⟨h1, h2⟩ | ⟨h1, h2⟩ | rfl
    · clear ht hd hc hq
      go_enter Try.func19, Try.ntmps19
      go_wp2
      go_ret
      exact ⟨congrArg (fun b => Ending.returned (Value.bool b)) HT.out, rfl⟩
    · clear ht hd hc hq
      go_enter Try.func19, Try.ntmps19
      go_wp2
      go_ret
      exact ⟨congrArg (fun b => Ending.returned (Value.bool b)) HT.out, rfl⟩
    · have hd2 : digI n = true := by unfold digI; simp; omega
      clear ht hd hc hq
      go_enter Try.func19, Try.ntmps19
      go_wp2_with (go_at_call 18; refine (implDigit _ _ (by omega)).mono ?_; rintro e w1 ⟨rfl, rfl⟩)
      go_ret
      exact ⟨congrArg (fun b => Ending.returned (Value.bool b)) HT.out, rfl⟩
    · have hd2 : digI 36 = false := by decide
      clear ht hd hc hq
      go_enter Try.func19, Try.ntmps19
      go_wp2_with (go_at_call 18; refine (implDigit _ _ (by omega)).mono ?_; rintro e w1 ⟨rfl, rfl⟩)
      go_ret
      exact ⟨congrArg (fun b => Ending.returned (Value.bool b)) HT.out, rfl⟩
  · have HT : Hid (false = (ltrI n || digI n)) := by show false = _; rw [hd, hl]; rfl
    rcases hr with ⟨h1, h2⟩ | ⟨h1, h2⟩ | ⟨h1, h2⟩ | ⟨h1, h2⟩ | ⟨h1, h2⟩
    · clear hl
      go_enter Try.func19, Try.ntmps19
      go_wp2_with (go_at_call 18; refine (implDigit _ _ (by omega)).mono ?_; rintro e w1 ⟨rfl, rfl⟩)
      go_ret
      exact ⟨congrArg (fun b => Ending.returned (Value.bool b)) HT.out, rfl⟩
    · clear hl
      go_enter Try.func19, Try.ntmps19
      go_wp2_with (go_at_call 18; refine (implDigit _ _ (by omega)).mono ?_; rintro e w1 ⟨rfl, rfl⟩)
      go_ret
      exact ⟨congrArg (fun b => Ending.returned (Value.bool b)) HT.out, rfl⟩
    · clear hl
      go_enter Try.func19, Try.ntmps19
      go_wp2_with (go_at_call 18; refine (implDigit _ _ (by omega)).mono ?_; rintro e w1 ⟨rfl, rfl⟩)
      go_ret
      exact ⟨congrArg (fun b => Ending.returned (Value.bool b)) HT.out, rfl⟩
    · have d90 : decide (n ≤ 90) = false := by simp; omega
      clear hl
      go_enter Try.func19, Try.ntmps19
      go_wp2_with (go_at_call 18; refine (implDigit _ _ (by omega)).mono ?_; rintro e w1 ⟨rfl, rfl⟩)
      go_ret
      exact ⟨congrArg (fun b => Ending.returned (Value.bool b)) HT.out, rfl⟩
    · have d90 : decide (n ≤ 90) = false := by simp; omega
      have d122 : decide (n ≤ 122) = false := by simp; omega
      clear hl
      go_enter Try.func19, Try.ntmps19
      go_wp2_with (go_at_call 18; refine (implDigit _ _ (by omega)).mono ?_; rintro e w1 ⟨rfl, rfl⟩)
      go_ret
      exact ⟨congrArg (fun b => Ending.returned (Value.bool b)) HT.out, rfl⟩

set_option maxHeartbeats 1000000 in
theorem specNameByte (n : Int) (first : Bool) (w : World) (h : 0 ≤ n ∧ n ≤ 255) :
    Calls Try.prog 23 #[.int .u8 n, .bool first] w fun e w' => e = .returned (.bool (nbI n first)) ∧ w' = w := by
  by_cases hl : (97 ≤ n ∧ n ≤ 122) ∨ (65 ≤ n ∧ n ≤ 90) ∨ n = 36
  · have HT : Hid (true = nbI n first) := by show true = _; unfold nbI ltrI; simp [hl]
    rcases hl with ⟨h1, h2⟩ | ⟨h1, h2⟩ | rfl
    all_goals
      go_enter Try.func23, Try.ntmps23
      go_wp2
      go_ret
      exact ⟨congrArg (fun b => Ending.returned (Value.bool b)) HT.out, rfl⟩
  · have hc : (n == 36) = false := by rw [beq_eq_false_iff_ne]; omega
    have hl2 : ltrI n = false := by unfold ltrI; simp [hl]
    by_cases hd : 48 ≤ n ∧ n ≤ 57
    · have hd2 : digI n = true := by unfold digI; simp [hd]
      obtain ⟨h1, h2⟩ := hd
      cases first
      · have HT : Hid (true = nbI n false) := by show true = _; unfold nbI; rw [hl2, hd2]; rfl
        clear hl hl2 hd2
        go_enter Try.func23, Try.ntmps23
        go_wp2
        go_ret
        exact ⟨congrArg (fun b => Ending.returned (Value.bool b)) HT.out, rfl⟩
      · have HT : Hid (false = nbI n true) := by show false = _; unfold nbI; rw [hl2]; rfl
        clear hl hl2 hd2
        go_enter Try.func23, Try.ntmps23
        go_wp2
        go_ret
        exact ⟨congrArg (fun b => Ending.returned (Value.bool b)) HT.out, rfl⟩
    · have hd2 : digI n = false := by unfold digI; simp; omega
      have HT : Hid (false = nbI n first) := by show false = _; unfold nbI; rw [hl2, hd2]; cases first <;> rfl
      have hr : (0 ≤ n ∧ n ≤ 35) ∨ (37 ≤ n ∧ n ≤ 47) ∨ (58 ≤ n ∧ n ≤ 64) ∨ (91 ≤ n ∧ n ≤ 96) ∨ (123 ≤ n ∧ n ≤ 255) := by omega
      clear hl hl2 hd hd2
      rcases hr with ⟨h1, h2⟩ | ⟨h1, h2⟩ | ⟨h1, h2⟩ | ⟨h1, h2⟩ | ⟨h1, h2⟩
      · have e1 : decide (48 ≤ n) = false := by simp; omega
        cases first
        all_goals
          go_enter Try.func23, Try.ntmps23
          go_wp2
          go_ret
          exact ⟨congrArg (fun b => Ending.returned (Value.bool b)) HT.out, rfl⟩
      · have e1 : decide (48 ≤ n) = false := by simp; omega
        cases first
        all_goals
          go_enter Try.func23, Try.ntmps23
          go_wp2
          go_ret
          exact ⟨congrArg (fun b => Ending.returned (Value.bool b)) HT.out, rfl⟩
      · have e2 : decide (n ≤ 57) = false := by simp; omega
        cases first
        all_goals
          go_enter Try.func23, Try.ntmps23
          go_wp2
          go_ret
          exact ⟨congrArg (fun b => Ending.returned (Value.bool b)) HT.out, rfl⟩
      · have e2 : decide (n ≤ 57) = false := by simp; omega
        have e3 : decide (n ≤ 90) = false := by simp; omega
        cases first
        all_goals
          go_enter Try.func23, Try.ntmps23
          go_wp2
          go_ret
          exact ⟨congrArg (fun b => Ending.returned (Value.bool b)) HT.out, rfl⟩
      · have e2 : decide (n ≤ 57) = false := by simp; omega
        have e3 : decide (n ≤ 90) = false := by simp; omega
        have e4 : decide (n ≤ 122) = false := by simp; omega
        cases first
        all_goals
          go_enter Try.func23, Try.ntmps23
          go_wp2
          go_ret
          exact ⟨congrArg (fun b => Ending.returned (Value.bool b)) HT.out, rfl⟩
/-- Is a text a name? -/
def nameB (s : ByteArray) : Bool := decide (1 ≤ s.size ∧ s.size ≤ 20 ∧ ∀ i, i < s.size → nbI (byt s i) (decide (i = 0)) = true)

theorem nameB_size (s : ByteArray) (h : ¬ (1 ≤ s.size ∧ s.size ≤ 20)) : nameB s = false := by
  unfold nameB; rw [decide_eq_false_iff_not]; intro hh; exact h ⟨hh.1, hh.2.1⟩
theorem nameB_at (s : ByteArray) (i : Nat) (hi : i < s.size) (h : nbI (byt s i) (decide (i = 0)) = false) : nameB s = false := by
  unfold nameB; rw [decide_eq_false_iff_not]; intro hh; rw [hh.2.2 i hi] at h; cases h
theorem nameB_true (s : ByteArray) (h1 : 1 ≤ s.size) (h2 : s.size ≤ 20) (h : ∀ i, i < s.size → nbI (byt s i) (decide (i = 0)) = true) : nameB s = true := by
  unfold nameB; rw [decide_eq_true_eq]; exact ⟨h1, h2, h⟩

theorem ltr_ascii (n : Int) (h : (ltrI n || digI n) = true) : n < 128 := by
  unfold ltrI digI at h; simp at h; omega

/-- What the program asks of a byte, given that the first is no digit, is what the model asks. -/
theorem nb_same (s : ByteArray) (i : Nat) (h0 : digI (byt s 0) = false) : (ltrI (byt s i) || digI (byt s i)) = nbI (byt s i) (decide (i = 0)) := by
  unfold nbI
  by_cases e : i = 0
  · subst e; simp [h0]
  · simp [e]

end Go.Proofs.Ytpalmhojjgbkfal
