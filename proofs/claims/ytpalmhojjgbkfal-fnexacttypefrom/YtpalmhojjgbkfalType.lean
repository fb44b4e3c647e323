/-
  The contracts of the readers of types, of the model (l02Type) and of the program (typeEnd): each tells what tyE tells, at every text and place.
-/
import Derived.Test.YtpalmhojjgbkfalName
import Derived.Test.YtpalmhojjgbkfalScope
namespace Go.Proofs.Ytpalmhojjgbkfal
open Go.RowKit
set_option linter.unusedVariables false

theorem byt_out (s : ByteArray) (i : Nat) (h : s.size ≤ i) : byt s i = 0 := by
  unfold byt
  have : s.data.toList[i]? = none := List.getElem?_eq_none (by simpa using h)
  simp [List.getD, this]

/-- The first place from i on that has no byte of a name that begins at frm, k places on at most. -/
def nmRun (s : ByteArray) (frm : Nat) : Nat → Nat → Nat
  | 0, i => i
  | k + 1, i => if nbI (byt s i) (decide (i = frm)) = true then nmRun s frm k (i + 1) else i

/-- Is there a type's end, and where; behind the first byte of a name. -/
def tyR (s : ByteArray) (frm k i : Nat) : Bool × Nat := if byt s (nmRun s frm k i) = 59 then (true, nmRun s frm k i + 1) else (false, nmRun s frm k i)
def tyL (s : ByteArray) (frm : Nat) : Bool × Nat := if nbI (byt s frm) true = true then tyR s frm 19 (frm + 1) else (false, frm)
def tyO (s : ByteArray) (i : Nat) : Bool × Nat := if byt s i = 73 then (true, i + 1) else if byt s i = 76 then tyL s (i + 1) else (false, i)
def tyE (s : ByteArray) (i : Nat) : Bool × Nat := if byt s i = 91 then tyO s (i + 1) else tyO s i

theorem byt_in (s : ByteArray) (i : Nat) (h : byt s i ≠ 0) : i < s.size := by
  rcases Nat.lt_or_ge i s.size with h1 | h1
  · exact h1
  · exact absurd (byt_out s i h1) h

theorem nb_in (s : ByteArray) (i : Nat) (f : Bool) (h : nbI (byt s i) f = true) : i < s.size := by
  refine byt_in s i fun h0 => ?_
  rw [h0] at h
  cases f <;> revert h <;> decide

theorem nmRun_le (s : ByteArray) (frm k i : Nat) (h : i ≤ s.size) : nmRun s frm k i ≤ s.size := by
  induction k generalizing i with
  | zero => exact h
  | succ k ih =>
    unfold nmRun
    split
    · rename_i hb; exact ih _ (nb_in s i _ hb)
    · exact h

theorem nmRun_ge (s : ByteArray) (frm k i : Nat) : i ≤ nmRun s frm k i := by
  induction k generalizing i with
  | zero => exact Nat.le_refl _
  | succ k ih =>
    unfold nmRun
    split
    · exact Nat.le_trans (Nat.le_succ i) (ih _)
    · exact Nat.le_refl _

set_option maxHeartbeats 1000000 in
theorem implByteAt (s : ByteArray) (i : Nat) (w : World) (hs : s.size ≤ maxLen) (hi : i ≤ s.size) :
    Calls Try.prog 17 #[.string s, .int .i64 (i : Int)] w fun e w' => e = .returned (.int .u8 (byt s i)) ∧ w' = w := by
  unfold maxLen at hs
  by_cases h : i < s.size
  · have d : decide ((s.size : Int) ≤ (i : Int)) = false := by simp; omega
    have HT : Hid ((s[i].toNat : Int) = byt s i) := byt_eq s i h
    go_enter Try.func17, Try.ntmps17
    go_wp2
    go_ret
    exact ⟨congrArg (fun b => Ending.returned (Value.int .u8 b)) HT.out, rfl⟩
  · have d : decide ((s.size : Int) ≤ (i : Int)) = true := by simp; omega
    have HT : Hid (0 = byt s i) := (byt_out s i (by omega)).symm
    go_enter Try.func17, Try.ntmps17
    go_wp2
    go_ret
    exact ⟨congrArg (fun b => Ending.returned (Value.int .u8 b)) HT.out, rfl⟩
theorem tyL_alt (s : ByteArray) (f m : Nat) (hm : nmRun s f 20 f = m) : tyL s f = if byt s m = 59 ∧ m ≠ f then (true, m + 1) else (false, m) := by
  subst hm
  unfold tyL tyR
  have e : nmRun s f 20 f = if nbI (byt s f) (decide (f = f)) = true then nmRun s f 19 (f + 1) else f := by rw [nmRun]
  rw [e]
  simp only [decide_true]
  by_cases h : nbI (byt s f) true = true
  · have hg := nmRun_ge s f 19 (f + 1)
    simp only [if_pos h]
    have hne : nmRun s f 19 (f + 1) ≠ f := by omega
    simp [hne]
  · simp [h]

theorem nmRun_on (s : ByteArray) (f k m : Nat) (h : nbI (byt s m) (decide (m = f)) = true) : nmRun s f (k + 1) m = nmRun s f k (m + 1) := by
  rw [nmRun, if_pos h]
theorem nmRun_off (s : ByteArray) (f k m : Nat) (h : nbI (byt s m) (decide (m = f)) = false) : nmRun s f k m = m := by
  cases k with
  | zero => rfl
  | succ k => rw [nmRun, if_neg (by simp [h])]

/-- What a type's reader hands back. -/
def tyV (r : Bool × Nat) : Value := .tuple #[.int .i64 (r.2 : Int), .bool r.1]

set_option maxHeartbeats 1000000 in
theorem specTypeO (s : ByteArray) (i : Nat) (list : Bool) (w : World) (hs : s.size ≤ maxLen) (hi : i ≤ s.size) (hl : byt s i = 91 → list = true) :
    Calls Try.prog 22 #[.string s, .int .i64 (i : Int), .bool list] w fun e w' => e = .returned (tyV (tyO s i)) ∧ w' = w := by
  unfold maxLen at hs
  by_cases hlt : i < s.size
  · have d0 : decide ((s.size : Int) ≤ (i : Int)) = false := by simp; omega
    have hb := byt_eq s i hlt
    by_cases h1 : byt s i = 73
    · have d1 : ((s[i].toNat : Int) == 73) = true := by rw [hb, h1]; rfl
      have HT : Hid (tyO s i = (true, i + 1)) := by show _ = _; unfold tyO; rw [if_pos h1]
      clear hb h1 hl
      go_enter Try.func22, Try.ntmps22
      go_wp2
      go_ret2
      exact ⟨congrArg Ending.returned (by rw [HT.out]; rfl), rfl⟩
    · have d1 : ((s[i].toNat : Int) == 73) = false := by rw [hb, beq_eq_false_iff_ne]; exact h1
      by_cases h2 : byt s i = 76
      · have d2 : ((s[i].toNat : Int) == 76) = true := by rw [hb, h2]; rfl
        have d3 : ((s[i].toNat : Int) == 91) = false := by rw [hb, h2]; rfl
        have HT : Hid (tyO s i = tyL s (i + 1)) := by show _ = _; unfold tyO; rw [if_neg h1, if_pos h2]
        have hd0 : decide (s.size ≤ i) = false := by simp; omega
        clear hb h1 h2 hl
        go_enter Try.func22, Try.ntmps22
        go_wp2_with fail
        go_loop [9] (fun j => ∃ m : Nat, i + 1 ≤ m ∧ m ≤ s.size ∧ m ≤ i + 21 ∧ j = .int .i64 (m : Int) ∧ nmRun s (i + 1) (i + 21 - m) m = nmRun s (i + 1) 20 (i + 1)) (fun j => s.size - (intOf j).toNat)
        case atStart => exact ⟨i + 1, by omega, by omega, by omega, by go_num, by rw [show i + 21 - (i + 1) = 20 by omega]⟩
        case round =>
          obtain ⟨m, hm1, hm2, hm3, rfl, hrun⟩ := hrel
          have HR : Hid (nmRun s (i + 1) (i + 21 - m) m = nmRun s (i + 1) 20 (i + 1)) := hrun
          clear hrun
          by_cases hms : m < s.size
          · have hby := byt_eq s m hms
            have hbd := byt_bd s m
            have hbq : (s[m].toNat : Int) ≤ 255 := by omega
            have hb0 : 0 ≤ (s[m].toNat : Int) := by omega
            by_cases hm20 : m < i + 21
            · have dd : decide ((m : Int) - ((i : Int) + 1) < 20) = true := by simp; omega
              have HE : Hid (nbI (s[m].toNat : Int) ((m : Int) == (i : Int) + 1) = nbI (byt s m) (decide (m = i + 1))) := by
                show _ = _
                rw [hby]
                congr 1
                by_cases e : m = i + 1
                · subst e; simp
                · have : ¬ ((m : Int) = (i : Int) + 1) := by omega
                  simp [e, this]
              cases hn : nbI (byt s m) (decide (m = i + 1))
              · have HM : Hid (nbI (s[m].toNat : Int) ((m : Int) == (i : Int) + 1) = false) := HE.out.trans hn
                have HX : Hid (nmRun s (i + 1) 20 (i + 1) = m) := by show _ = _; rw [← HR.out]; exact nmRun_off _ _ _ _ hn
                have dA : ((m : Int) == (s.size : Int)) = false := by rw [beq_eq_false_iff_ne]; omega
                by_cases h59 : byt s m = 59
                · have dB : ((s[m].toNat : Int) == 59) = true := by rw [hby, h59]; rfl
                  have dB' : ((s[m].toNat : Int) != 59) = false := by rw [hby, h59]; rfl
                  by_cases hf : m = i + 1
                  · have dC : ((m : Int) == (i : Int) + 1) = true := by rw [beq_iff_eq]; omega
                    have HM2 : Hid (nbI (s[m].toNat : Int) true = false) := by show _ = _; rw [← dC]; exact HM.out
                    have HF : Hid (tyV (tyO s i) = .tuple #[.int .i64 (m : Int), .bool false]) := by
                      show _ = _
                      rw [HT.out, tyL_alt s (i + 1) m HX.out, if_neg (fun h => h.2 hf)]; rfl
                    clear hn HE hby hbd h59 hf
                    go_wp2_with fail
                    refine (specNameByte _ _ _ (by omega)).mono ?_
                    rintro e w1 ⟨rfl, rfl⟩
                    rw [HM2.out]
                    go_wp2
                    go_ret2
                    exact ⟨congrArg Ending.returned HF.out.symm, rfl⟩
                  · have dC : ((m : Int) == (i : Int) + 1) = false := by rw [beq_eq_false_iff_ne]; omega
                    have HM2 : Hid (nbI (s[m].toNat : Int) false = false) := by show _ = _; have h := HM.out; rw [dC] at h; exact h
                    have HF : Hid (tyV (tyO s i) = .tuple #[.int .i64 ((m : Int) + 1), .bool true]) := by
                      show _ = _
                      rw [HT.out, tyL_alt s (i + 1) m HX.out, if_pos ⟨h59, hf⟩]; rfl
                    clear hn HE hby hbd h59 hf
                    go_wp2_with fail
                    refine (specNameByte _ _ _ (by omega)).mono ?_
                    rintro e w1 ⟨rfl, rfl⟩
                    rw [HM2.out]
                    go_wp2
                    go_ret2
                    exact ⟨congrArg Ending.returned HF.out.symm, rfl⟩
                · have dB : ((s[m].toNat : Int) == 59) = false := by rw [hby, beq_eq_false_iff_ne]; exact h59
                  have dB' : ((s[m].toNat : Int) != 59) = true := by simp [dB, bne]
                  have HF : Hid (tyV (tyO s i) = .tuple #[.int .i64 (m : Int), .bool false]) := by
                    show _ = _
                    rw [HT.out, tyL_alt s (i + 1) m HX.out, if_neg (fun h => h59 h.1)]; rfl
                  clear hn HE hby hbd h59
                  go_wp2_with fail
                  refine (specNameByte _ _ _ (by omega)).mono ?_
                  rintro e w1 ⟨rfl, rfl⟩
                  rw [HM.out]
                  go_wp2
                  go_ret2
                  exact ⟨congrArg Ending.returned HF.out.symm, rfl⟩
              · have HM : Hid (nbI (s[m].toNat : Int) ((m : Int) == (i : Int) + 1) = true) := HE.out.trans hn
                have HX : Hid (nmRun s (i + 1) (i + 21 - (m + 1)) (m + 1) = nmRun s (i + 1) 20 (i + 1)) := by
                  show _ = _
                  rw [← HR.out, show i + 21 - m = (i + 21 - (m + 1)) + 1 by omega]
                  exact (nmRun_on _ _ _ _ hn).symm
                clear hn HE hby hbd
                go_wp2_with fail
                refine (specNameByte _ _ _ (by omega)).mono ?_
                rintro e w1 ⟨rfl, rfl⟩
                rw [HM.out]
                go_wp2
                go_round
                case rel => exact ⟨m + 1, by omega, by omega, by omega, by go_num, HX.out⟩
                case measure => simp [intOf]; omega
            · have dd : decide ((m : Int) - ((i : Int) + 1) < 20) = false := by simp; omega
              have HX : Hid (nmRun s (i + 1) 20 (i + 1) = m) := by
                show _ = _
                rw [← HR.out, show i + 21 - m = 0 by omega]; rfl
              have dA : ((m : Int) == (s.size : Int)) = false := by rw [beq_eq_false_iff_ne]; omega
              by_cases h59 : byt s m = 59
              · have dB : ((s[m].toNat : Int) == 59) = true := by rw [hby, h59]; rfl
                have dB' : ((s[m].toNat : Int) != 59) = false := by rw [hby, h59]; rfl
                by_cases hf : m = i + 1
                · have dC : ((m : Int) == (i : Int) + 1) = true := by rw [beq_iff_eq]; omega
                  have HF : Hid (tyV (tyO s i) = .tuple #[.int .i64 (m : Int), .bool false]) := by
                    show _ = _
                    rw [HT.out, tyL_alt s (i + 1) m HX.out, if_neg (fun h => h.2 hf)]; rfl
                  clear hby hbd h59 hf
                  go_wp2
                  go_ret2
                  exact ⟨congrArg Ending.returned HF.out.symm, rfl⟩
                · have dC : ((m : Int) == (i : Int) + 1) = false := by rw [beq_eq_false_iff_ne]; omega
                  have HF : Hid (tyV (tyO s i) = .tuple #[.int .i64 ((m : Int) + 1), .bool true]) := by
                    show _ = _
                    rw [HT.out, tyL_alt s (i + 1) m HX.out, if_pos ⟨h59, hf⟩]; rfl
                  clear hby hbd h59 hf
                  go_wp2
                  go_ret2
                  exact ⟨congrArg Ending.returned HF.out.symm, rfl⟩
              · have dB : ((s[m].toNat : Int) == 59) = false := by rw [hby, beq_eq_false_iff_ne]; exact h59
                have dB' : ((s[m].toNat : Int) != 59) = true := by simp [dB, bne]
                have HF : Hid (tyV (tyO s i) = .tuple #[.int .i64 (m : Int), .bool false]) := by
                  show _ = _
                  rw [HT.out, tyL_alt s (i + 1) m HX.out, if_neg (fun h => h59 h.1)]; rfl
                clear hby hbd h59
                go_wp2
                go_ret2
                exact ⟨congrArg Ending.returned HF.out.symm, rfl⟩
          · have dA : ((m : Int) == (s.size : Int)) = true := by rw [beq_iff_eq]; omega
            have HX : Hid (nmRun s (i + 1) 20 (i + 1) = m) := by
              show _ = _
              rw [← HR.out]
              refine nmRun_off _ _ _ _ ?_
              cases hq : nbI (byt s m) (decide (m = i + 1))
              · rfl
              · exact absurd (nb_in s m _ hq) hms
            have HF : Hid (tyV (tyO s i) = .tuple #[.int .i64 (m : Int), .bool false]) := by
              show _ = _
              have h0 := byt_out s m (by omega)
              rw [HT.out, tyL_alt s (i + 1) m HX.out, if_neg (fun h => by rw [h0] at h; exact absurd h.1 (by decide))]; rfl
            go_wp2
            go_ret2
            exact ⟨congrArg Ending.returned HF.out.symm, rfl⟩
      · have d2 : ((s[i].toNat : Int) == 76) = false := by rw [hb, beq_eq_false_iff_ne]; exact h2
        have HT : Hid (tyO s i = (false, i)) := by show _ = _; unfold tyO; rw [if_neg h1, if_neg h2]
        by_cases h3 : byt s i = 91
        · have d3 : ((s[i].toNat : Int) == 91) = true := by rw [hb, h3]; rfl
          obtain rfl := hl h3
          clear hb h1 h2 h3 hl
          go_enter Try.func22, Try.ntmps22
          go_wp2
          go_ret2
          exact ⟨congrArg Ending.returned (by rw [HT.out]; rfl), rfl⟩
        · have d3 : ((s[i].toNat : Int) == 91) = false := by rw [hb, beq_eq_false_iff_ne]; exact h3
          clear hb h1 h2 h3 hl
          go_enter Try.func22, Try.ntmps22
          go_wp2
          go_ret2
          exact ⟨congrArg Ending.returned (by rw [HT.out]; rfl), rfl⟩
  · have d0 : decide ((s.size : Int) ≤ (i : Int)) = true := by simp; omega
    have HT : Hid (tyO s i = (false, i)) := by
      show _ = _
      have h0 := byt_out s i (by omega)
      unfold tyO; rw [h0]; rfl
    clear hl
    go_enter Try.func22, Try.ntmps22
    go_wp2
    go_ret2
    exact ⟨congrArg Ending.returned (by rw [HT.out]; rfl), rfl⟩
end Go.Proofs.Ytpalmhojjgbkfal
