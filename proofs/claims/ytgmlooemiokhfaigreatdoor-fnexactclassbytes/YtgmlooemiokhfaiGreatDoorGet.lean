/-
  The contracts of Get1, Get2 and Get4 of the model and of the program, of what they call, and of the comparison of two NumOuts: each returns what gN, gAt and gC tell, at every text and place.
-/
import Derived.Test.YtgmlooemiokhfaiGreatDoorRows
import Derived.WalkKit
import Derived.ProofKit
import Derived.OpenShut
import Derived.ShutString
import Derived.ChangeOld
import Derived.Below
import Derived.Laws.IdiomStrings
import Derived.Laws.BytesArg
import Derived.WalkLawsBesides
import Derived.BigQuiet
import Derived.Deep.QuietTactic
import Derived.Laws.BitsLemmas
namespace Go.Proofs.YtgmlooemiokhfaiGreatDoor
open Go.RowKit
set_option maxRecDepth 20000

/-- The code of a read of k bytes at a place of a text of z bytes. -/
def gC (k z at_ : Int) : Int := if 20000 < z then 2 else if at_ < 0 then 1 else if z - at_ < k then 4 else 0

theorem gC_zero {k z a : Int} (h : gC k z a = 0) : z ≤ 20000 ∧ 0 ≤ a ∧ a + k ≤ z := by
  unfold gC at h
  split at h
  · simp at h
  · split at h
    · simp at h
    · split at h
      · simp at h
      · omega

/-- Byte i of a text, as a number. -/
def byt (s : ByteArray) (i : Nat) : Int := ((s.data.toList.getD i 0).toNat : Int)

theorem byt_eq (s : ByteArray) (i : Nat) (h : i < s.size) : (s[i].toNat : Int) = byt s i := by
  unfold byt
  have : s.data.toList[i]? = some s[i] := by
    rw [List.getElem?_eq_getElem (by simpa using h)]; rfl
  simp [List.getD, this]

theorem byt_bd (s : ByteArray) (i : Nat) : 0 ≤ byt s i ∧ byt s i ≤ 255 := by
  unfold byt
  have := (s.data.toList.getD i 0).toNat_lt
  omega

/-- The number that k bytes from place i on tell, the highest first. -/
def be (s : ByteArray) (i : Nat) : Nat → Int
  | 0 => 0
  | k + 1 => 256 * be s i k + byt s (i + k)

/-- What lay in a block that was the last one still lies there, behind a call that kept what was there. -/
theorem kept {w w1 : World} {C : Array Value} {t : TypeId} (h : Below (w.alloc (.cells C t)).heap.size (w.alloc (.cells C t)) w1) (j : Nat) :
    w1.cell? ⟨w.heap.size, j, none⟩ = C[j]? ∧ w1.frozen? ⟨w.heap.size, j, none⟩ = false := by
  refine ⟨(h.cell (p := ⟨w.heap.size, j, none⟩) (by simp)).trans (World.cell?_alloc_mark w C t (0, 0) j), (h.frozen (p := ⟨w.heap.size, j, none⟩) (by simp)).trans ?_⟩
  simp

theorem below_alloc {w w1 : World} {o : Obj} (h : Below (w.alloc o).heap.size (w.alloc o) w1) : Below w.heap.size w w1 :=
  ((Below.refl _ _).alloc (Nat.le_refl _) _).trans (h.mono (by simp))

def numVal (N A C : Int) : Value := .agg #[.int .i64 N, .int .i64 A, .int .i64 C]

set_option maxHeartbeats 400000 in
theorem implReach (s : ByteArray) (at_ k : Int) (w : World) (hs : s.size ≤ maxLen) (ha : -9223372036854775808 ≤ at_ ∧ at_ ≤ 9223372036854775807) (hk : 0 ≤ k ∧ k ≤ 255) :
    Calls Tryz.prog 157 #[.string s, .int .i64 at_, .int .i64 k] w fun e w' => e = .returned (.int .i64 (gC k s.size at_)) ∧ w' = w := by
  unfold maxLen at hs
  unfold gC
  obtain ⟨ha0, ha1⟩ := ha
  obtain ⟨hk0, hk1⟩ := hk
  by_cases h1 : (20000 : Int) < s.size
  · rw [if_pos h1]
    go_enter Tryz.func157, Tryz.ntmps157
    go_wp2
    go_ret
    exact ⟨rfl, rfl⟩
  · rw [if_neg h1]
    by_cases h2 : at_ < 0
    · rw [if_pos h2]
      go_enter Tryz.func157, Tryz.ntmps157
      go_wp2
      go_ret
      exact ⟨rfl, rfl⟩
    · rw [if_neg h2]
      by_cases h3 : (s.size : Int) - at_ < k
      · rw [if_pos h3]
        go_enter Tryz.func157, Tryz.ntmps157
        go_wp2
        go_ret
        exact ⟨rfl, rfl⟩
      · rw [if_neg h3]
        go_enter Tryz.func157, Tryz.ntmps157
        go_wp2
        go_ret
        exact ⟨rfl, rfl⟩

set_option maxHeartbeats 400000 in
theorem implGet1_no (s : ByteArray) (at_ c : Int) (w : World) (hs : s.size ≤ maxLen) (ha : -9223372036854775808 ≤ at_ ∧ at_ ≤ 9223372036854775807) (hc : gC 1 s.size at_ = c) (h0 : c ≠ 0) :
    Calls Tryz.prog 120 #[.string s, .int .i64 at_] w fun e w' => e = .returned (numVal 0 0 c) ∧ Below w.heap.size w w' := by
  have H : Hid (gC 1 s.size at_ = c) := hc
  clear hc
  have hne : (c != 0) = true := by simpa using h0
  clear h0
  go_enter Tryz.func120, Tryz.ntmps120
  go_wp2_with fail
  refine (implReach _ _ _ _ hs ha (by omega)).mono ?_
  rintro e w1 ⟨rfl, rfl⟩
  rw [H.out]
  go_wp2
  unfold numVal
  exact bodyPost_ret (v := .agg #[.int .i64 0, .int .i64 0, .int .i64 c]) (by simp [results, Tryz.results120, go_sem]) rfl ⟨rfl, (Below.refl _ _).alloc (Nat.le_refl _) _⟩

set_option maxHeartbeats 400000 in
theorem implGet4_no (s : ByteArray) (at_ c : Int) (w : World) (hs : s.size ≤ maxLen) (ha : -9223372036854775808 ≤ at_ ∧ at_ ≤ 9223372036854775807) (hc : gC 4 s.size at_ = c) (h0 : c ≠ 0) :
    Calls Tryz.prog 168 #[.string s, .int .i64 at_] w fun e w' => e = .returned (numVal 0 0 c) ∧ Below w.heap.size w w' := by
  have H : Hid (gC 4 s.size at_ = c) := hc
  clear hc
  have hne : (c != 0) = true := by simpa using h0
  clear h0
  go_enter Tryz.func168, Tryz.ntmps168
  go_wp2_with fail
  refine (implReach _ _ _ _ hs ha (by omega)).mono ?_
  rintro e w1 ⟨rfl, rfl⟩
  rw [H.out]
  go_wp2
  unfold numVal
  exact bodyPost_ret (v := .agg #[.int .i64 0, .int .i64 0, .int .i64 c]) (by simp [results, Tryz.results168, go_sem]) rfl ⟨rfl, (Below.refl _ _).alloc (Nat.le_refl _) _⟩

set_option maxHeartbeats 400000 in
theorem implGet1_yes (s : ByteArray) (i : Nat) (w : World) (hs : s.size ≤ 20000) (hi : i + 1 ≤ s.size) :
    Calls Tryz.prog 120 #[.string s, .int .i64 i] w fun e w' => e = .returned (numVal (be s i 1) (i + 1) 0) ∧ Below w.heap.size w w' := by
  have H : Hid (gC 1 s.size i = 0) := by
    show gC 1 s.size i = 0
    unfold gC; rw [if_neg (by omega), if_neg (by omega), if_neg (by omega)]
  have hb : Hid ((s[i].toNat : Int) = be s i 1) := by
    show _ = _
    simp [be, byt_eq]
  go_enter Tryz.func120, Tryz.ntmps120
  go_wp2_with fail
  refine (implReach _ _ _ _ (by unfold maxLen; omega) (by omega) (by omega)).mono ?_
  rintro e w1 ⟨rfl, rfl⟩
  rw [H.out]
  go_wp2
  have e1 : wrap64 (s[i].toNat : Int) = be s i 1 := by
    have := byt_bd s i
    rw [← hb.out]; rw [byt_eq]; unfold wrap64; omega
  exact bodyPost_ret (v := .agg #[.int .i64 (wrap64 (s[i].toNat : Int)), .int .i64 ((i : Int) + 1), .int .i64 0]) (by simp [results, Tryz.results120, go_sem]) rfl ⟨by rw [e1]; rfl, (Below.refl _ _).alloc (Nat.le_refl _) _⟩

theorem wrap16 (n : Int) : IntKind.u16.wrap n = n % 65536 := by simp [IntKind.wrap, IntKind.bits, IntKind.signed]
theorem fits16 (n : Int) (h₀ : 0 ≤ n) (h₁ : n < 2 ^ 16) : IntKind.u16.wrap n = n := by rw [wrap16]; omega
theorem fits32 (n : Int) (h₀ : 0 ≤ n) (h₁ : n < 2 ^ 32) : IntKind.u32.wrap n = n := by rw [IntKind.wrap_u32]; omega

theorem or2 (a b : Int) (ha : 0 ≤ a ∧ a ≤ 255) (hb : 0 ≤ b ∧ b ≤ 255) :
    wrap64 (bits .or .u16 (IntKind.u16.wrap (IntKind.u16.wrap a * 256)) (IntKind.u16.wrap b)) = 256 * a + b := by
  rw [wrap16, wrap16, wrap16]
  have e1 : a % 65536 * 256 % 65536 = a * 256 := by omega
  have e2 : b % 65536 = b := by omega
  rw [e1, e2, bits_join .u16 16 (by decide) fits16 8 (a * 256) b (by omega) (by omega) (by omega) (by omega) (by omega) (by omega)]
  unfold wrap64; omega

theorem or4 (a b c d : Int) (ha : 0 ≤ a ∧ a ≤ 255) (hb : 0 ≤ b ∧ b ≤ 255) (hc : 0 ≤ c ∧ c ≤ 255) (hd : 0 ≤ d ∧ d ≤ 255) :
    wrap64 (wrap32 (bits .or .u32 (bits .or .u32 (a % 4294967296 * 16777216 % 4294967296) (b % 4294967296 * 65536 % 4294967296)) (bits .or .u32 (c % 4294967296 * 256 % 4294967296) (d % 4294967296)))) = wrap32 (16777216 * a + 65536 * b + 256 * c + d) := by
  have e1 : a % 4294967296 * 16777216 % 4294967296 = a * 16777216 := by omega
  have e2 : b % 4294967296 * 65536 % 4294967296 = b * 65536 := by omega
  have e3 : c % 4294967296 * 256 % 4294967296 = c * 256 := by omega
  have e4 : d % 4294967296 = d := by omega
  rw [e1, e2, e3, e4, bits_join .u32 32 (by decide) fits32 24 (a * 16777216) (b * 65536) (by omega) (by omega) (by omega) (by omega) (by omega) (by omega),
    bits_join .u32 32 (by decide) fits32 8 (c * 256) d (by omega) (by omega) (by omega) (by omega) (by omega) (by omega),
    bits_join .u32 32 (by decide) fits32 16 (a * 16777216 + b * 65536) (c * 256 + d) (by omega) (by omega) (by omega) (by omega) (by omega) (by omega)]
  unfold wrap64 wrap32; omega

set_option maxHeartbeats 400000 in
theorem implGet4_yes (s : ByteArray) (i : Nat) (w : World) (hs : s.size ≤ 20000) (hi : i + 4 ≤ s.size) :
    Calls Tryz.prog 168 #[.string s, .int .i64 i] w fun e w' => e = .returned (numVal (wrap32 (be s i 4)) (i + 4) 0) ∧ Below w.heap.size w w' := by
  have H : Hid (gC 4 s.size i = 0) := by
    show gC 4 s.size i = 0
    unfold gC; rw [if_neg (by omega), if_neg (by omega), if_neg (by omega)]
  have x0 : (i : Int) < (s.size : Int) := by omega
  have x1 : (i : Int) + 1 < (s.size : Int) := by omega
  have y0 : i < s.size := by omega
  have y1 : i + 1 < s.size := by omega
  have z1 : ((i : Int) + 1).toNat = i + 1 := by omega
  have o1 : (0 : Int) ≤ (i : Int) + 1 := by omega
  have x2 : (i : Int) + 2 < (s.size : Int) := by omega
  have x3 : (i : Int) + 3 < (s.size : Int) := by omega
  have y2 : i + 2 < s.size := by omega
  have y3 : i + 3 < s.size := by omega
  have z2 : ((i : Int) + 2).toNat = i + 2 := by omega
  have z3 : ((i : Int) + 3).toNat = i + 3 := by omega
  have o2 : (0 : Int) ≤ (i : Int) + 2 := by omega
  have o3 : (0 : Int) ≤ (i : Int) + 3 := by omega
  go_enter Tryz.func168, Tryz.ntmps168
  go_wp2_with fail
  refine (implReach _ _ _ _ (by unfold maxLen; omega) (by omega) (by omega)).mono ?_
  rintro e w1 ⟨rfl, rfl⟩
  rw [H.out]
  go_wp2
  go_quiet (fail)
  go_wp2
  go_quiet (fail)
  go_wp2
  have e1 : wrap64 (wrap32 (bits .or .u32 (bits .or .u32 ((s[i].toNat : Int) % 4294967296 * 16777216 % 4294967296) ((s[i + 1].toNat : Int) % 4294967296 * 65536 % 4294967296)) (bits .or .u32 ((s[i + 2].toNat : Int) % 4294967296 * 256 % 4294967296) ((s[i + 3].toNat : Int) % 4294967296)))) = wrap32 (be s i 4) := by
    rw [byt_eq s i y0, byt_eq s (i + 1) y1, byt_eq s (i + 2) y2, byt_eq s (i + 3) y3, or4 _ _ _ _ (byt_bd _ _) (byt_bd _ _) (byt_bd _ _) (byt_bd _ _)]
    congr 1
    simp [be]
    omega
  refine bodyPost_ret (v := .agg #[.int .i64 (wrap64 (wrap32 (bits .or .u32 (bits .or .u32 ((s[i].toNat : Int) % 4294967296 * 16777216 % 4294967296) ((s[i + 1].toNat : Int) % 4294967296 * 65536 % 4294967296)) (bits .or .u32 ((s[i + 2].toNat : Int) % 4294967296 * 256 % 4294967296) ((s[i + 3].toNat : Int) % 4294967296))))), .int .i64 ((i : Int) + 4), .int .i64 0]) (by simp [results, Tryz.results168, go_sem]) rfl ⟨by rw [e1]; rfl, ?_⟩
  exact (((below_drewN ((Below.refl _ _).alloc (Nat.le_refl _) _) _).setCell (Nat.le_refl _) _).setCell (Nat.le_refl _) _).setCell (Nat.le_refl _) _
set_option maxHeartbeats 400000 in
theorem specWrap (n : Int) (w : World) :
    Calls Tryz.prog 117 #[.int .i64 n] w fun e w' => e = .returned (.int .i64 (wrap32 n)) ∧ w' = w := by
  have e1 : wrap64 (wrap32 n) = wrap32 n := by unfold wrap64 wrap32; omega
  go_enter Tryz.func117, Tryz.ntmps117
  go_wp2
  go_ret
  exact ⟨congrArg (fun x => Ending.returned (Value.int .i64 x)) e1, rfl⟩

set_option maxHeartbeats 400000 in
theorem specGet_no (s : ByteArray) (at_ k c : Int) (w : World) (hs : s.size ≤ maxLen) (ha : -9223372036854775808 ≤ at_ ∧ at_ ≤ 9223372036854775807) (hk : 0 ≤ k ∧ k ≤ 255) (hc : gC k s.size at_ = c) (h0 : c ≠ 0) :
    Calls Tryz.prog 67 #[.string s, .int .i64 at_, .int .i64 k] w fun e w' => e = .returned (numVal 0 0 c) ∧ Below w.heap.size w w' := by
  unfold maxLen at hs
  obtain ⟨ha0, ha1⟩ := ha
  obtain ⟨hk0, hk1⟩ := hk
  unfold numVal
  unfold gC at hc
  by_cases h1 : (20000 : Int) < s.size
  · rw [if_pos h1] at hc
    subst hc
    go_enter Tryz.func67, Tryz.ntmps67
    go_wp2
    exact bodyPost_ret (v := .agg #[.int .i64 0, .int .i64 0, .int .i64 2]) (by simp [results, Tryz.results67, go_sem]) rfl ⟨rfl, (Below.refl _ _).alloc (Nat.le_refl _) _⟩
  · rw [if_neg h1] at hc
    by_cases h2 : at_ < 0
    · rw [if_pos h2] at hc
      subst hc
      go_enter Tryz.func67, Tryz.ntmps67
      go_wp2
      exact bodyPost_ret (v := .agg #[.int .i64 0, .int .i64 0, .int .i64 1]) (by simp [results, Tryz.results67, go_sem]) rfl ⟨rfl, (Below.refl _ _).alloc (Nat.le_refl _) _⟩
    · rw [if_neg h2] at hc
      by_cases h3 : (s.size : Int) - at_ < k
      · rw [if_pos h3] at hc
        subst hc
        have h4 : (s.size : Int) - k < at_ := by omega
        go_enter Tryz.func67, Tryz.ntmps67
        go_wp2
        exact bodyPost_ret (v := .agg #[.int .i64 0, .int .i64 0, .int .i64 4]) (by simp [results, Tryz.results67, go_sem]) rfl ⟨rfl, (Below.refl _ _).alloc (Nat.le_refl _) _⟩
      · rw [if_neg h3] at hc
        exact absurd hc.symm h0

theorem be_bd (s : ByteArray) (i : Nat) : ∀ k, k ≤ 4 → 0 ≤ be s i k ∧ be s i k ≤ 4294967295 := by
  intro k hk
  have h := fun j => byt_bd s (i + j)
  have a := h 0; have b := h 1; have c := h 2; have d := h 3
  match k, hk with
  | 0, _ => simp [be]
  | 1, _ => simp [be]; simp at a; omega
  | 2, _ => simp [be]; simp at a; omega
  | 3, _ => simp [be]; simp at a; omega
  | 4, _ => simp [be]; simp at a; omega

theorem be_step (s : ByteArray) (i m : Nat) (h : i + m < s.size) (hm : m < 4) : wrap64 (256 * be s i m + wrap64 (s[i + m].toNat : Int)) = be s i (m + 1) := by
  have hb := be_bd s i m (by omega)
  have hbb := byt_bd s (i + m)
  have hq : be s i (m + 1) = 256 * be s i m + byt s (i + m) := rfl
  rw [byt_eq, hq]; unfold wrap64; omega

set_option maxHeartbeats 1000000 in
theorem specGet_yes (s : ByteArray) (i k : Nat) (w : World) (hs : s.size ≤ 20000) (hi : i + k ≤ s.size) (hk : k ≤ 3) :
    Calls Tryz.prog 67 #[.string s, .int .i64 i, .int .i64 k] w fun e w' => e = .returned (numVal (be s i k) (i + k) 0) ∧ Below w.heap.size w w' := by
  unfold numVal
  have hn : ((k : Int) == 4) = false := by simp; omega
  go_enter Tryz.func67, Tryz.ntmps67
  go_wp2
  go_loop [7, 8] (fun n j => ∃ m : Nat, m ≤ k ∧ j = .int .i64 ((i : Int) + m) ∧ n = .int .i64 (be s i m)) (fun _ j => i + k - (intOf j).toNat)
  case atStart => exact ⟨0, Nat.zero_le _, by simp, rfl⟩
  case round =>
    obtain ⟨m, hm, rfl, rfl⟩ := hrel
    have hb := be_bd s i m (by omega)
    by_cases hlt : m < k
    · go_wp2
      exact ⟨⟨m + 1, by omega, congrArg (Value.int .i64) (by omega), congrArg (Value.int .i64) (be_step s i m (by omega) (by omega))⟩, by simp [intOf]; omega⟩
    · obtain rfl : m = k := by omega
      go_wp2
      exact bodyPost_ret (v := .agg #[.int .i64 (be s i m), .int .i64 ((i : Int) + m), .int .i64 0]) (by simp [results, Tryz.results67, go_sem]) rfl ⟨rfl, (Below.refl _ _).alloc (Nat.le_refl _) _⟩

set_option maxHeartbeats 1000000 in
theorem specGet_yes4 (s : ByteArray) (i : Nat) (w : World) (hs : s.size ≤ 20000) (hi : i + 4 ≤ s.size) :
    Calls Tryz.prog 67 #[.string s, .int .i64 i, .int .i64 4] w fun e w' => e = .returned (numVal (wrap32 (be s i 4)) (i + 4) 0) ∧ Below w.heap.size w w' := by
  unfold numVal
  go_enter Tryz.func67, Tryz.ntmps67
  go_wp2
  go_loop [7, 8] (fun n j => ∃ m : Nat, m ≤ 4 ∧ j = .int .i64 ((i : Int) + m) ∧ n = .int .i64 (be s i m)) (fun _ j => i + 4 - (intOf j).toNat)
  case atStart => exact ⟨0, Nat.zero_le _, by simp, rfl⟩
  case round =>
    obtain ⟨m, hm, rfl, rfl⟩ := hrel
    have hb := be_bd s i m (by omega)
    by_cases hlt : m < 4
    · go_wp2
      exact ⟨⟨m + 1, by omega, congrArg (Value.int .i64) (by omega), congrArg (Value.int .i64) (be_step s i m (by omega) (by omega))⟩, by simp [intOf]; omega⟩
    · obtain rfl : m = 4 := by omega
      go_wp2_with fail
      refine (specWrap _ _).mono ?_
      rintro e w1 ⟨rfl, rfl⟩
      go_wp2
      exact bodyPost_ret (v := .agg #[.int .i64 (wrap32 (be s i 4)), .int .i64 ((i : Int) + 4), .int .i64 0]) (by simp [results, Tryz.results67, go_sem]) rfl ⟨rfl, (Below.refl _ _).alloc (Nat.le_refl _) _⟩

/-- What Get1 tells, of the model and of the program. -/
theorem get1_both (s : ByteArray) (at_ : Int) (hs : s.size ≤ maxLen) (ha : -9223372036854775808 ≤ at_ ∧ at_ ≤ 9223372036854775807) :
    ∃ N A C : Int, (∀ w, Calls Tryz.prog 120 #[.string s, .int .i64 at_] w fun e w' => e = .returned (numVal N A C) ∧ Below w.heap.size w w')
      ∧ ∀ w, Calls Tryz.prog 67 #[.string s, .int .i64 at_, .int .i64 1] w fun e w' => e = .returned (numVal N A C) ∧ Below w.heap.size w w' := by
  by_cases h : gC 1 s.size at_ = 0
  · obtain ⟨h1, h2, h3⟩ := gC_zero h
    obtain ⟨i, rfl⟩ := Int.eq_ofNat_of_zero_le h2
    exact ⟨be s i 1, i + 1, 0, fun w => implGet1_yes s i w (by omega) (by omega), fun w => specGet_yes s i 1 w (by omega) (by omega) (by omega)⟩
  · exact ⟨0, 0, gC 1 s.size at_, fun w => implGet1_no s at_ _ w hs ha rfl h, fun w => specGet_no s at_ 1 _ w hs ha (by omega) rfl h⟩

set_option maxHeartbeats 400000 in
theorem specGet1_of (s : ByteArray) (at_ N A C : Int) (h : ∀ w, Calls Tryz.prog 67 #[.string s, .int .i64 at_, .int .i64 1] w fun e w' => e = .returned (numVal N A C) ∧ Below w.heap.size w w') (w : World) :
    Calls Tryz.prog 68 #[.string s, .int .i64 at_] w fun e w' => e = .returned (numVal N A C) ∧ Below w.heap.size w w' := by
  have H : Hid (∀ w, Calls Tryz.prog 67 #[.string s, .int .i64 at_, .int .i64 1] w fun e w' => e = .returned (numVal N A C) ∧ Below w.heap.size w w') := h
  clear h
  go_enter Tryz.func68, Tryz.ntmps68
  go_wp2_with fail
  refine (H.out _).mono ?_
  rintro e w1 ⟨rfl, hb1⟩
  unfold numVal
  have k0 := kept hb1 0
  have k1 := kept hb1 1
  have k2 := kept hb1 2
  simp at k0 k1 k2
  obtain ⟨k0, f0⟩ := k0
  obtain ⟨k1, f1⟩ := k1
  obtain ⟨k2, f2⟩ := k2
  have hb := below_alloc hb1
  clear hb1
  go_wp2
  exact bodyPost_ret (v := .agg #[.int .i64 N, .int .i64 A, .int .i64 C]) (by simp [results, Tryz.results68, go_sem, k0, k1, k2]) rfl ⟨rfl, ((hb.setCell (Nat.le_refl _) _).setCell (Nat.le_refl _) _).setCell (Nat.le_refl _) _⟩
/-- What Get4 tells, of the model and of the program. -/
theorem get4_both (s : ByteArray) (at_ : Int) (hs : s.size ≤ maxLen) (ha : -9223372036854775808 ≤ at_ ∧ at_ ≤ 9223372036854775807) :
    ∃ N A C : Int, (∀ w, Calls Tryz.prog 168 #[.string s, .int .i64 at_] w fun e w' => e = .returned (numVal N A C) ∧ Below w.heap.size w w')
      ∧ ∀ w, Calls Tryz.prog 67 #[.string s, .int .i64 at_, .int .i64 4] w fun e w' => e = .returned (numVal N A C) ∧ Below w.heap.size w w' := by
  by_cases h : gC 4 s.size at_ = 0
  · obtain ⟨h1, h2, h3⟩ := gC_zero h
    obtain ⟨i, rfl⟩ := Int.eq_ofNat_of_zero_le h2
    exact ⟨wrap32 (be s i 4), i + 4, 0, fun w => implGet4_yes s i w (by omega) (by omega), fun w => specGet_yes4 s i w (by omega) (by omega)⟩
  · exact ⟨0, 0, gC 4 s.size at_, fun w => implGet4_no s at_ _ w hs ha rfl h, fun w => specGet_no s at_ 4 _ w hs ha (by omega) rfl h⟩

end Go.Proofs.YtgmlooemiokhfaiGreatDoor
