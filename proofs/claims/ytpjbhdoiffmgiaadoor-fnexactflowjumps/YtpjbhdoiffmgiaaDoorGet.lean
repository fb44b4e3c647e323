/-
  The contracts of Get1, Get2 and Get4 of the model and of the program, of what they call, and of the comparison of two NumOuts: each returns what gN, gAt and gC tell, at every text and place.
-/
import Derived.Test.YtpjbhdoiffmgiaaDoorRows
import Derived.WalkKit
import Derived.ProofKit
import Derived.OpenShut
import Derived.ShutString
import Derived.ChangeOld
import Derived.Below
import Derived.Laws.IdiomStrings
import Derived.Laws.BytesArg
import Derived.WalkLawsBesides
import Derived.BigQuiet
import Derived.Deep.QuietTactic
import Derived.Laws.BitsLemmas
namespace Go.Proofs.YtpjbhdoiffmgiaaDoor
open Go.RowKit

/-- The code of a read of k bytes at a place of a text of z bytes. -/
def gC (k z at_ : Int) : Int := if 20000 < z then 2 else if at_ < 0 then 1 else if z - at_ < k then 4 else 0

theorem gC_zero {k z a : Int} (h : gC k z a = 0) : z ≤ 20000 ∧ 0 ≤ a ∧ a + k ≤ z := by
  unfold gC at h
  split at h
  · simp at h
  · split at h
    · simp at h
    · split at h
      · simp at h
      · omega

/-- Byte i of a text, as a number. -/
def byt (s : ByteArray) (i : Nat) : Int := ((s.data.toList.getD i 0).toNat : Int)

theorem byt_eq (s : ByteArray) (i : Nat) (h : i < s.size) : (s[i].toNat : Int) = byt s i := by
  unfold byt
  have : s.data.toList[i]? = some s[i] := by
    rw [List.getElem?_eq_getElem (by simpa using h)]; rfl
  simp [List.getD, this]

theorem byt_bd (s : ByteArray) (i : Nat) : 0 ≤ byt s i ∧ byt s i ≤ 255 := by
  unfold byt
  have := (s.data.toList.getD i 0).toNat_lt
  omega

/-- The number that k bytes from place i on tell, the highest first. -/
def be (s : ByteArray) (i : Nat) : Nat → Int
  | 0 => 0
  | k + 1 => 256 * be s i k + byt s (i + k)

/-- What lay in a block that was the last one still lies there, behind a call that kept what was there. -/
theorem kept {w w1 : World} {C : Array Value} {t : TypeId} (h : Below (w.alloc (.cells C t)).heap.size (w.alloc (.cells C t)) w1) (j : Nat) :
    w1.cell? ⟨w.heap.size, j, none⟩ = C[j]? ∧ w1.frozen? ⟨w.heap.size, j, none⟩ = false := by
  refine ⟨(h.cell (p := ⟨w.heap.size, j, none⟩) (by simp)).trans (World.cell?_alloc_mark w C t (0, 0) j), (h.frozen (p := ⟨w.heap.size, j, none⟩) (by simp)).trans ?_⟩
  simp

theorem below_alloc {w w1 : World} {o : Obj} (h : Below (w.alloc o).heap.size (w.alloc o) w1) : Below w.heap.size w w1 :=
  ((Below.refl _ _).alloc (Nat.le_refl _) _).trans (h.mono (by simp))

def numVal (N A C : Int) : Value := .agg #[.int .i64 N, .int .i64 A, .int .i64 C]

theorem wrap16 (n : Int) : IntKind.u16.wrap n = n % 65536 := by simp [IntKind.wrap, IntKind.bits, IntKind.signed]
theorem fits16 (n : Int) (h₀ : 0 ≤ n) (h₁ : n < 2 ^ 16) : IntKind.u16.wrap n = n := by rw [wrap16]; omega
theorem fits32 (n : Int) (h₀ : 0 ≤ n) (h₁ : n < 2 ^ 32) : IntKind.u32.wrap n = n := by rw [IntKind.wrap_u32]; omega

theorem or2 (a b : Int) (ha : 0 ≤ a ∧ a ≤ 255) (hb : 0 ≤ b ∧ b ≤ 255) :
    wrap64 (bits .or .u16 (IntKind.u16.wrap (IntKind.u16.wrap a * 256)) (IntKind.u16.wrap b)) = 256 * a + b := by
  rw [wrap16, wrap16, wrap16]
  have e1 : a % 65536 * 256 % 65536 = a * 256 := by omega
  have e2 : b % 65536 = b := by omega
  rw [e1, e2, bits_join .u16 16 (by decide) fits16 8 (a * 256) b (by omega) (by omega) (by omega) (by omega) (by omega) (by omega)]
  unfold wrap64; omega

theorem or4 (a b c d : Int) (ha : 0 ≤ a ∧ a ≤ 255) (hb : 0 ≤ b ∧ b ≤ 255) (hc : 0 ≤ c ∧ c ≤ 255) (hd : 0 ≤ d ∧ d ≤ 255) :
    wrap64 (wrap32 (bits .or .u32 (bits .or .u32 (a % 4294967296 * 16777216 % 4294967296) (b % 4294967296 * 65536 % 4294967296)) (bits .or .u32 (c % 4294967296 * 256 % 4294967296) (d % 4294967296)))) = wrap32 (16777216 * a + 65536 * b + 256 * c + d) := by
  have e1 : a % 4294967296 * 16777216 % 4294967296 = a * 16777216 := by omega
  have e2 : b % 4294967296 * 65536 % 4294967296 = b * 65536 := by omega
  have e3 : c % 4294967296 * 256 % 4294967296 = c * 256 := by omega
  have e4 : d % 4294967296 = d := by omega
  rw [e1, e2, e3, e4, bits_join .u32 32 (by decide) fits32 24 (a * 16777216) (b * 65536) (by omega) (by omega) (by omega) (by omega) (by omega) (by omega),
    bits_join .u32 32 (by decide) fits32 8 (c * 256) d (by omega) (by omega) (by omega) (by omega) (by omega) (by omega),
    bits_join .u32 32 (by decide) fits32 16 (a * 16777216 + b * 65536) (c * 256 + d) (by omega) (by omega) (by omega) (by omega) (by omega) (by omega)]
  unfold wrap64 wrap32; omega

theorem be_bd (s : ByteArray) (i : Nat) : ∀ k, k ≤ 4 → 0 ≤ be s i k ∧ be s i k ≤ 4294967295 := by
  intro k hk
  have h := fun j => byt_bd s (i + j)
  have a := h 0; have b := h 1; have c := h 2; have d := h 3
  match k, hk with
  | 0, _ => simp [be]
  | 1, _ => simp [be]; simp at a; omega
  | 2, _ => simp [be]; simp at a; omega
  | 3, _ => simp [be]; simp at a; omega
  | 4, _ => simp [be]; simp at a; omega

theorem be_step (s : ByteArray) (i m : Nat) (h : i + m < s.size) (hm : m < 4) : wrap64 (256 * be s i m + wrap64 (s[i + m].toNat : Int)) = be s i (m + 1) := by
  have hb := be_bd s i m (by omega)
  have hbb := byt_bd s (i + m)
  have hq : be s i (m + 1) = 256 * be s i m + byt s (i + m) := rfl
  rw [byt_eq, hq]; unfold wrap64; omega

end Go.Proofs.YtpjbhdoiffmgiaaDoor
