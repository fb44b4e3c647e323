/-
  The contract of resultEnd of the program.
-/
import Derived.Test.YtgmlooemiokhfaiGreatDoorRead
namespace Go.Proofs.YtgmlooemiokhfaiGreatDoor
open Go.RowKit
set_option maxRecDepth 20000
set_option linter.unusedVariables false

theorem from_list (s : ByteArray) (i : Nat) : (s.extract i s.size).data.toList = s.data.toList.drop i := by
  obtain ⟨⟨l⟩⟩ := s
  simp [ByteArray.data_extract, ByteArray.size]
  exact List.take_of_length_le (by simp)
theorem pre_V (s : ByteArray) (i : Nat) : Lib.hasPrefix (s.extract i s.size).data.toList [86] = decide (byt s i = 86) := by
  rw [from_list]
  unfold Lib.hasPrefix byt
  have e : s.data.toList.getD i 0 = (s.data.toList.drop i).getD 0 0 := by simp [List.getD]
  rw [e]
  cases s.data.toList.drop i with
  | nil => simp [List.isPrefixOf]
  | cons c t =>
    by_cases hc : c = 86
    · subst hc; simp [List.isPrefixOf]
    · have : ¬ ((c.toNat : Int) = 86) := fun h => hc (UInt8.toNat_inj.1 (by
        have h' : c.toNat = 86 := by omega
        simpa using h'))
      simp [List.isPrefixOf, this]
      exact fun h => hc h.symm

set_option maxHeartbeats 1000000 in
theorem implResultEnd (s : ByteArray) (i : Nat) (w : World) (hs : s.size ≤ maxLen) (hi : i ≤ s.size) :
    Calls Tryz.prog 170 #[.string s, .int .i64 (i : Int)] w fun e w' => e = .returned (teV (reE s i)) ∧ w' = w := by
  have hm := hs
  unfold maxLen at hs
  have htr : ∀ w : World, Calls Tryz.prog 179 #[.string (s.extract i s.size), .string ⟨#[86]⟩] w fun e w' => e = .returned (.bool (decide (byt s i = 86))) ∧ w' = w := by
    intro w
    have h := Tryz.strings_HasPrefix (s.extract i s.size) ⟨#[86]⟩ w
    rw [show (⟨#[86]⟩ : ByteArray).data.toList = [86] from rfl, pre_V s i] at h
    exact h
  have HU : Hid (∀ w : World, Calls Tryz.prog 179 #[.string (s.extract i s.size), .string ⟨#[86]⟩] w fun e w' => e = .returned (.bool (decide (byt s i = 86))) ∧ w' = w) := htr
  clear htr
  by_cases h86 : byt s i = 86
  · have HT : Hid (teV (reE s i) = .tuple #[.int .i64 ((i : Int) + 1), .nilIface]) := by show _ = _; unfold reE; rw [if_pos h86]; rfl
    have HD : Hid (decide (byt s i = 86) = true) := by show _ = _; simpa using h86
    have hlt : i < s.size := byt_in s i (by rw [h86]; decide)
    clear h86
    go_enter Tryz.func170, Tryz.ntmps170
    go_wp2_with fail
    refine (HU.out _).mono ?_
    rintro e w1 ⟨rfl, hw1⟩; subst hw1
    rw [HD.out]
    go_wp2
    go_ret2
    exact ⟨congrArg Ending.returned HT.out.symm, rfl⟩
  · have HT : Hid (reE s i = tyE s i) := by show _ = _; unfold reE; rw [if_neg h86]
    have HD : Hid (decide (byt s i = 86) = false) := by show _ = _; simpa using h86
    clear h86
    obtain ⟨⟨b, n⟩, hr⟩ : ∃ r, tyE s i = r := ⟨_, rfl⟩
    have HQ : Hid (tyE s i = (b, n)) := hr
    have HT2 : Hid (reE s i = (b, n)) := HT.out.trans hr
    clear hr HT
    cases b
    · go_enter Tryz.func170, Tryz.ntmps170
      go_wp2_with fail
      refine (HU.out _).mono ?_
      rintro e w1 ⟨rfl, hw1⟩; subst hw1
      rw [HD.out]
      go_wp2_with fail
      refine (implTypeEnd s i _ hm hi).mono ?_
      rintro e w1 ⟨rfl, hw1⟩; subst hw1
      rw [HQ.out, teV_no]
      go_wp2
      go_ret2
      exact ⟨by rw [HT2.out]; rfl, rfl⟩
    · go_enter Tryz.func170, Tryz.ntmps170
      go_wp2_with fail
      refine (HU.out _).mono ?_
      rintro e w1 ⟨rfl, hw1⟩; subst hw1
      rw [HD.out]
      go_wp2_with fail
      refine (implTypeEnd s i _ hm hi).mono ?_
      rintro e w1 ⟨rfl, hw1⟩; subst hw1
      rw [HQ.out, teV_yes]
      go_wp2
      go_ret2
      exact ⟨by rw [HT2.out]; rfl, rfl⟩
end Go.Proofs.YtgmlooemiokhfaiGreatDoor
