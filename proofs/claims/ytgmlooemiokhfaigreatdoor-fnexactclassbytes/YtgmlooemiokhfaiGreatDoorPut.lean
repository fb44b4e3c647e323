/-
  The contracts of Put1, Put2 and Put4 of the model and of the program: each returns the bytes told by p1, p2, p4, at every number, and changes nothing that was there.
-/
import Derived.Test.YtgmlooemiokhfaiGreatDoorRows
import Derived.WalkKit
import Derived.ProofKit
import Derived.OpenShut
import Derived.ShutString
import Derived.ChangeOld
import Derived.Below
import Derived.Laws.IdiomStrings
import Derived.Laws.BytesArg
import Derived.WalkLawsBesides
namespace Go.Proofs.YtgmlooemiokhfaiGreatDoor
open Go.RowKit
set_option maxRecDepth 20000

theorem convLit (w : World) (xs : List Int) :
    (convert 59 9 (.slice (some ⟨w.heap.size, 0, none⟩) xs.length xs.length)).run Tryz.prog (w.alloc (.cells (xs.map (Value.int .u8)).toArray 5)) = .ok (.string (strOfNums xs)) (w.alloc (.cells (xs.map (Value.int .u8)).toArray 5)) := by
  refine run_convert_bytes_arg (P := Tryz.prog) (w.alloc (.cells (xs.map (Value.int .u8)).toArray 5)) 59 5 Tryz.underlying59 Tryz.underlying5 w.heap.size 0 xs.length xs.length xs rfl ?_ 9 Tryz.underlying9
  intro i hi
  have := World.cell?_alloc_mark w (xs.map (Value.int .u8)).toArray 5 (0, 0) i
  simp only [Nat.zero_add]
  refine this.trans ?_
  simp [List.getD, List.getElem?_eq_getElem hi]

def p1 (n : Int) : ByteArray := if 0 ≤ n ∧ n ≤ 255 then strOfNums [n] else ⟨#[]⟩
def p2 (n : Int) : ByteArray := if 0 ≤ n ∧ n ≤ 65535 then strOfNums [n / 256, n % 256] else ⟨#[]⟩
def p4 (n : Int) : ByteArray := if -2147483648 ≤ n ∧ n ≤ 2147483647 then strOfNums [n % 4294967296 / 16777216, n % 4294967296 / 65536 % 256, n % 4294967296 / 256 % 256, n % 256] else ⟨#[]⟩

set_option maxHeartbeats 400000 in
theorem specPut1 (n : Int) (w : World) :
    Calls Tryz.prog 63 #[.int .i64 n] w fun e w' => e = .returned (.string (p1 n)) ∧ Below w.heap.size w w' := by
  unfold p1
  have hc := convLit w [n]
  simp only [List.length_cons, List.length_nil, List.map_cons, List.map_nil] at hc
  by_cases h : 0 ≤ n ∧ n ≤ 255
  · rw [if_pos h]
    obtain ⟨h0, h1⟩ := h
    go_enter Tryz.func63, Tryz.ntmps63
    go_wp2
    go_ret
    exact ⟨rfl, (Below.refl _ _).alloc (Nat.le_refl _) _⟩
  · rw [if_neg h]
    by_cases h0 : n < 0
    · clear h
      go_enter Tryz.func63, Tryz.ntmps63
      go_wp2
      go_ret
      exact ⟨rfl, Below.refl _ _⟩
    · have h1 : 255 < n := by omega
      clear h
      go_enter Tryz.func63, Tryz.ntmps63
      go_wp2
      go_ret
      exact ⟨rfl, Below.refl _ _⟩

set_option maxHeartbeats 400000 in
theorem implPut1 (n : Int) (w : World) :
    Calls Tryz.prog 65 #[.int .i64 n] w fun e w' => e = .returned (.string (p1 n)) ∧ Below w.heap.size w w' := by
  unfold p1
  have hc := convLit w [n]
  simp only [List.length_cons, List.length_nil, List.map_cons, List.map_nil] at hc
  by_cases h : 0 ≤ n ∧ n ≤ 255
  · rw [if_pos h]
    obtain ⟨h0, h1⟩ := h
    go_enter Tryz.func65, Tryz.ntmps65
    go_wp2
    go_ret
    exact ⟨rfl, (Below.refl _ _).alloc (Nat.le_refl _) _⟩
  · rw [if_neg h]
    have hn : (n % 256 != n) = true := by rw [bne_iff_ne]; omega
    clear h
    go_enter Tryz.func65, Tryz.ntmps65
    go_wp2
    go_ret
    exact ⟨rfl, Below.refl _ _⟩

set_option maxHeartbeats 400000 in
theorem specPut4 (n : Int) (w : World) :
    Calls Tryz.prog 152 #[.int .i64 n] w fun e w' => e = .returned (.string (p4 n)) ∧ Below w.heap.size w w' := by
  unfold p4
  have hc := convLit w [n % 4294967296 / 16777216, n % 4294967296 / 65536 % 256, n % 4294967296 / 256 % 256, n % 256]
  simp only [List.length_cons, List.length_nil, List.map_cons, List.map_nil] at hc
  by_cases h : -2147483648 ≤ n ∧ n ≤ 2147483647
  · rw [if_pos h]
    obtain ⟨h0, h1⟩ := h
    go_enter Tryz.func152, Tryz.ntmps152
    go_wp2
    go_ret
    exact ⟨rfl, (Below.refl _ _).alloc (Nat.le_refl _) _⟩
  · rw [if_neg h]
    by_cases h0 : n < -2147483648
    · clear h
      go_enter Tryz.func152, Tryz.ntmps152
      go_wp2
      go_ret
      exact ⟨rfl, Below.refl _ _⟩
    · have h1 : 2147483647 < n := by omega
      have h2 : -2147483648 ≤ n := by omega
      have h3 : decide (n ≤ 2147483647) = false := by simpa using h1
      have h4 : decide (-2147483648 ≤ n) = true := by simpa using h2
      clear h h0
      go_enter Tryz.func152, Tryz.ntmps152
      go_wp2
      go_ret
      exact ⟨rfl, Below.refl _ _⟩

set_option maxHeartbeats 400000 in
theorem implPut4 (n : Int) (w : World) :
    Calls Tryz.prog 177 #[.int .i64 n] w fun e w' => e = .returned (.string (p4 n)) ∧ Below w.heap.size w w' := by
  unfold p4
  have hc := convLit w [n % 4294967296 / 16777216, n % 4294967296 / 65536 % 256, n % 4294967296 / 256 % 256, n % 256]
  simp only [List.length_cons, List.length_nil, List.map_cons, List.map_nil] at hc
  by_cases h : -2147483648 ≤ n ∧ n ≤ 2147483647
  · rw [if_pos h]
    obtain ⟨h0, h1⟩ := h
    go_enter Tryz.func177, Tryz.ntmps177
    go_wp2
    go_ret
    exact ⟨rfl, (Below.refl _ _).alloc (Nat.le_refl _) _⟩
  · rw [if_neg h]
    have hn : (wrap64 (wrap32 n) == n) = false := by
      rw [beq_eq_false_iff_ne]; unfold wrap64 wrap32; omega
    clear h
    go_enter Tryz.func177, Tryz.ntmps177
    go_wp2
    go_ret
    exact ⟨rfl, Below.refl _ _⟩
end Go.Proofs.YtgmlooemiokhfaiGreatDoor
