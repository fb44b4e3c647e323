/-
  What PutText puts is got back by GetText, also behind another text.
-/
import Derived.Test.YtfichaafmfmliaaGetText
import Derived.Test.YtfichaafmfmliaaNums
namespace Go.Proofs.Ytfichaafmfmliaa
open Go.RowKit

theorem putT_yes (a : ByteArray) (h : a.size ≤ 255) (ho : okB a = true) : putT a = strOfNums [(a.size : Int)] ++ a := by
  unfold putT
  rw [if_pos ⟨h, ho⟩, p1_eq _ (by omega)]

theorem putT_no (a : ByteArray) (h : ¬ (a.size ≤ 255 ∧ okB a = true)) : putT a = ⟨#[]⟩ := by
  unfold putT
  rw [if_neg h]

theorem not_empty (s : ByteArray) (h : 0 < s.size) : s.toList.isEmpty = false := by
  rw [ByteArray.toList_eq]
  have hl : s.data.toList.length = s.size := by simp
  cases hd : s.data.toList with
  | nil => rw [hd] at hl; simp at hl; omega
  | cons x l => rfl

theorem one_size (n : Int) : (strOfNums [n]).size = 1 := by rw [strOfNums_size]; rfl

theorem putT_size (a : ByteArray) (h : a.size ≤ 255) (ho : okB a = true) : (putT a).size = 1 + a.size := by
  rw [putT_yes a h ho, size_app, one_size]

theorem putT_first (a : ByteArray) (h : a.size ≤ 255) (ho : okB a = true) : byt (putT a) 0 = a.size := by
  rw [putT_yes a h ho, byt_left _ _ _ (by rw [one_size]; omega), byt_str _ _ (by simp; omega)]
  rfl

theorem extract_mid (x y z : ByteArray) (i j : Nat) (hi : i = x.size) (hj : j = x.size + y.size) : (x ++ y ++ z).extract i j = y := by
  subst hi hj
  apply ByteArray.ext
  apply Array.toList_inj.1
  have hx : x.data.toList.length = x.size := by simp
  have hy : y.data.toList.length = y.size := by simp
  simp [ByteArray.data_append]
  rw [List.drop_of_length_le (by omega), List.take_nil, List.nil_append, List.take_of_length_le (by omega)]

theorem putT_rest (a z : ByteArray) (h : a.size ≤ 255) (ho : okB a = true) : (putT a ++ z).extract 1 (1 + a.size) = a := by
  rw [putT_yes a h ho]
  exact extract_mid _ _ _ _ _ (one_size _).symm (by rw [one_size])

theorem putT_next (a b : ByteArray) (ha : a.size ≤ 255) (hoa : okB a = true) (hb : b.size ≤ 255) (hob : okB b = true) :
    (putT a ++ putT b).extract (1 + a.size + 1) (1 + a.size + 1 + b.size) = b := by
  have hs := putT_size a ha hoa
  rw [putT_yes b hb hob]
  have e : putT a ++ (strOfNums [(b.size : Int)] ++ b) = putT a ++ strOfNums [(b.size : Int)] ++ b ++ ⟨#[]⟩ := by
    apply ByteArray.ext
    apply Array.toList_inj.1
    simp [ByteArray.data_append]
  rw [e]
  refine extract_mid _ _ _ _ _ ?_ ?_
  · rw [size_app, one_size, hs]
  · rw [size_app, one_size, hs]

theorem getText_first (a b : ByteArray) (ha : a.size ≤ 255) (hoa : okB a = true) (hb : b.size ≤ 255) (hob : okB b = true) (w : World) :
    Calls Try.prog 15 #[.string (putT a ++ putT b), .int .i64 0] w fun e w' => e = .returned (.agg #[.string a, .int .i64 (1 + (a.size : Int)), .int .i64 0]) ∧ Below w.heap.size w w' := by
  have h1 := putT_size a ha hoa
  have h2 := putT_size b hb hob
  have h3 := size_app (putT a) (putT b)
  have hx := putT_rest a (putT b) ha hoa
  have c := implGetText_yes (putT a ++ putT b) 0 a.size w (by omega) (by omega) (by rw [byt_left _ _ _ (by omega)]; exact putT_first a ha hoa) (by rw [Nat.zero_add, hx]; exact hoa)
  rw [Nat.zero_add, hx] at c
  exact c

theorem getText_next (a b : ByteArray) (ha : a.size ≤ 255) (hoa : okB a = true) (hb : b.size ≤ 255) (hob : okB b = true) (w : World) :
    Calls Try.prog 15 #[.string (putT a ++ putT b), .int .i64 (1 + (a.size : Int))] w fun e w' => e = .returned (.agg #[.string b, .int .i64 (2 + (a.size : Int) + (b.size : Int)), .int .i64 0]) ∧ Below w.heap.size w w' := by
  have h1 := putT_size a ha hoa
  have h2 := putT_size b hb hob
  have h3 := size_app (putT a) (putT b)
  have hx := putT_next a b ha hoa hb hob
  have hy : byt (putT a ++ putT b) (1 + a.size) = (b.size : Int) := by
    have := byt_right (putT a) (putT b) 0
    rw [h1, Nat.add_zero, putT_first b hb hob] at this
    exact this
  have c := implGetText_yes (putT a ++ putT b) (1 + a.size) b.size w (by omega) (by omega) hy (by rw [hx]; exact hob)
  rw [hx] at c
  have e1 : ((1 + a.size : Nat) : Int) = 1 + (a.size : Int) := by omega
  have e2 : (1 : Int) + (a.size : Int) + 1 + (b.size : Int) = 2 + (a.size : Int) + (b.size : Int) := by omega
  rw [e1, e2] at c
  exact c
end Go.Proofs.Ytfichaafmfmliaa
