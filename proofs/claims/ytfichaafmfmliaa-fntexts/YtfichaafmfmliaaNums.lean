/-
  What is put is got back: the bytes of a number that fits, read by Get1, Get2 and Get4, tell that number.
-/
import Derived.Test.YtfichaafmfmliaaPut
import Derived.Test.YtfichaafmfmliaaGet
namespace Go.Proofs.Ytfichaafmfmliaa
open Go.RowKit

/-- The third field of a NumOut. -/
theorem fieldCode (x y z : Value) (w : World) : (Instr.field 26 (.agg #[x, y, z]) 2).run Try.prog w = .ok z w := by kernel_rfl

theorem byt_str (xs : List Int) (j : Nat) (h : ∀ x ∈ xs, 0 ≤ x ∧ x ≤ 255) : byt (strOfNums xs) j = xs.getD j 0 := by
  unfold byt
  rw [strOfNums_data]
  by_cases hj : j < xs.length
  · have hx := h xs[j] (List.getElem_mem hj)
    simp [List.getD, List.getElem?_eq_getElem hj]
    omega
  · simp [List.getD, List.getElem?_eq_none (by omega : xs.length ≤ j)]

theorem byt_right (x y : ByteArray) (j : Nat) : byt (x ++ y) (x.size + j) = byt y j := by
  unfold byt
  have e : (x ++ y).data.toList = x.data.toList ++ y.data.toList := by simp [ByteArray.data_append]
  have hl : x.data.toList.length = x.size := by simp
  rw [e, List.getD, List.getElem?_append_right (by omega), hl, Nat.add_sub_cancel_left]; rfl

theorem byt_left (x y : ByteArray) (j : Nat) (h : j < x.size) : byt (x ++ y) j = byt x j := by
  unfold byt
  have e : (x ++ y).data.toList = x.data.toList ++ y.data.toList := by simp [ByteArray.data_append]
  have hl : x.data.toList.length = x.size := by simp
  rw [e, List.getD, List.getElem?_append_left (by omega)]; rfl

theorem size_app (x y : ByteArray) : (x ++ y).size = x.size + y.size := by simp

theorem p1_eq (n : Int) (h : 0 ≤ n ∧ n ≤ 255) : p1 n = strOfNums [n] := by unfold p1; rw [if_pos h]
theorem p2_eq (n : Int) (h : 0 ≤ n ∧ n ≤ 65535) : p2 n = strOfNums [n / 256, n % 256] := by unfold p2; rw [if_pos h]
theorem p4_eq (n : Int) (h : -2147483648 ≤ n ∧ n ≤ 2147483647) : p4 n = strOfNums [n % 4294967296 / 16777216, n % 4294967296 / 65536 % 256, n % 4294967296 / 256 % 256, n % 256] := by unfold p4; rw [if_pos h]

theorem be_p1 (n : Int) (h : 0 ≤ n ∧ n ≤ 255) : be (p1 n) 0 1 = n := by
  rw [p1_eq n h]
  have hx : ∀ x ∈ [n], 0 ≤ x ∧ x ≤ 255 := by simp; omega
  simp [be, byt_str _ _ hx]

theorem be_p2 (n : Int) (h : 0 ≤ n ∧ n ≤ 65535) (y : ByteArray) : be (p2 n ++ y) 0 2 = n := by
  rw [p2_eq n h]
  have hx : ∀ x ∈ [n / 256, n % 256], 0 ≤ x ∧ x ≤ 255 := by simp; omega
  have hs : (strOfNums [n / 256, n % 256]).size = 2 := strOfNums_size _
  simp only [be]
  rw [byt_left _ _ _ (by omega), byt_left _ _ _ (by omega), byt_str _ _ hx, byt_str _ _ hx]
  simp
  omega

theorem be_p4 (n : Int) (h : -2147483648 ≤ n ∧ n ≤ 2147483647) (x : ByteArray) (hx1 : x.size = 1) : wrap32 (be (x ++ p4 n) 1 4) = n := by
  rw [p4_eq n h]
  have hx : ∀ x ∈ [n % 4294967296 / 16777216, n % 4294967296 / 65536 % 256, n % 4294967296 / 256 % 256, n % 256], 0 ≤ x ∧ x ≤ 255 := by
    simp; omega
  have hb : ∀ j, byt (x ++ strOfNums [n % 4294967296 / 16777216, n % 4294967296 / 65536 % 256, n % 4294967296 / 256 % 256, n % 256]) (1 + j) = [n % 4294967296 / 16777216, n % 4294967296 / 65536 % 256, n % 4294967296 / 256 % 256, n % 256].getD j 0 := fun j => by
    have := byt_right x (strOfNums [n % 4294967296 / 16777216, n % 4294967296 / 65536 % 256, n % 4294967296 / 256 % 256, n % 256]) j
    rw [hx1] at this
    rw [this, byt_str _ _ hx]
  simp only [be, hb]
  simp
  unfold wrap32
  omega

theorem get1_back (n : Int) (h : 0 ≤ n ∧ n ≤ 255) (w : World) :
    Calls Try.prog 11 #[.string (p1 n), .int .i64 0] w fun e w' => e = .returned (.agg #[.int .i64 n, .int .i64 1, .int .i64 0]) ∧ Below w.heap.size w w' := by
  have hs : (p1 n).size = 1 := by rw [p1_eq n h, strOfNums_size]; rfl
  have c := implGet1_yes (p1 n) 0 w (by omega) (by omega)
  rw [be_p1 n h] at c
  exact c

theorem get2_back (n : Int) (h : 0 ≤ n ∧ n ≤ 65535) (y : ByteArray) (hy : y.size = 1) (w : World) :
    Calls Try.prog 9 #[.string (p2 n ++ y), .int .i64 0] w fun e w' => e = .returned (.agg #[.int .i64 n, .int .i64 2, .int .i64 0]) ∧ Below w.heap.size w w' := by
  have hs : (p2 n).size = 2 := by rw [p2_eq n h, strOfNums_size]; rfl
  have ha := size_app (p2 n) y
  have c := implGet2_yes (p2 n ++ y) 0 w (by omega) (by omega)
  rw [be_p2 n h y] at c
  exact c

theorem get4_back (n : Int) (h : -2147483648 ≤ n ∧ n ≤ 2147483647) (x : ByteArray) (hx : x.size = 1) (w : World) :
    Calls Try.prog 7 #[.string (x ++ p4 n), .int .i64 1] w fun e w' => e = .returned (.agg #[.int .i64 n, .int .i64 5, .int .i64 0]) ∧ Below w.heap.size w w' := by
  have hs : (p4 n).size = 4 := by rw [p4_eq n h, strOfNums_size]; rfl
  have ha := size_app x (p4 n)
  have c := implGet4_yes (x ++ p4 n) 1 w (by omega) (by omega)
  rw [be_p4 n h x hx] at c
  exact c

theorem get4_short (n : Int) (h : -2147483648 ≤ n ∧ n ≤ 2147483647) (w : World) :
    Calls Try.prog 7 #[.string (p4 n), .int .i64 1] w fun e w' => e = .returned (.agg #[.int .i64 0, .int .i64 0, .int .i64 4]) ∧ Below w.heap.size w w' := by
  have hs : (p4 n).size = 4 := by rw [p4_eq n h, strOfNums_size]; rfl
  exact implGet4_no (p4 n) 1 4 w (by unfold maxLen; omega) (by omega) (by rw [hs]; decide) (by decide)
end Go.Proofs.Ytfichaafmfmliaa
