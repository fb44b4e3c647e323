/-
  The contracts of DescText of the model and of the program, and of what they call (l02Text, strings.Join).
-/
import Derived.Test.YtdoiphejockfhahDRight
import Derived.Test.YtdoiphejockfhahShelf
import Derived.Deep.RegionWith
namespace Go.Proofs.Ytdoiphejockfhah
open Go.RowKit
set_option linter.unusedVariables false

/-- '(' and the first m texts. -/
def catTo (xs : List ByteArray) (m : Nat) : ByteArray := (xs.take m).foldl (· ++ ·) ⟨#[40]⟩
def joinS (xs : List ByteArray) : ByteArray := ⟨((xs.map (·.data.toList)).flatten).toArray⟩
/-- A Desc's text. -/
def txS (xs : List ByteArray) (r : ByteArray) : ByteArray := catTo xs xs.length ++ ⟨#[41]⟩ ++ r

theorem catTo_succ (xs : List ByteArray) (m : Nat) (h : m < xs.length) : catTo xs (m + 1) = catTo xs m ++ xs.getD m ByteArray.empty := by
  unfold catTo
  rw [List.take_add_one, List.getElem?_eq_getElem h, List.getD_eq_getElem?_getD, List.getElem?_eq_getElem h]
  simp only [Option.toList_some, List.foldl_append, List.foldl_cons, List.foldl_nil, Option.getD_some]
theorem catTo_size (xs : List ByteArray) (m : Nat) (h : m ≤ xs.length) : (catTo xs m).size = 1 + sumTo xs m := by
  induction m with
  | zero => rfl
  | succ m ih =>
    rw [catTo_succ xs m h, ByteArray.size_append, ih (by omega), sumTo_succ xs m h]
    omega
theorem catTo_list (xs : List ByteArray) (m : Nat) (h : m ≤ xs.length) : (catTo xs m).data.toList = 40 :: ((xs.take m).map (·.data.toList)).flatten := by
  induction m with
  | zero => rfl
  | succ m ih =>
    rw [catTo_succ xs m h, List.take_add_one, List.getElem?_eq_getElem h, List.getD_eq_getElem?_getD, List.getElem?_eq_getElem h]
    simp only [Option.toList_some, List.map_append, List.map_cons, List.map_nil, List.flatten_append, Option.getD_some, ByteArray.data_append, Array.toList_append, ih (by omega)]
    simp
theorem catTo_join (xs : List ByteArray) : (⟨#[40]⟩ : ByteArray) ++ joinS xs = catTo xs xs.length := by
  apply ByteArray.ext
  apply Array.toList_inj.1
  rw [catTo_list xs xs.length (Nat.le_refl _), List.take_length]
  simp [joinS, ByteArray.data_append]
theorem intercalate_nil' (l : List (List UInt8)) : ([] : List UInt8).intercalate l = l.flatten := by
  unfold List.intercalate
  induction l with
  | nil => rfl
  | cons a t ih =>
    cases t with
    | nil => rfl
    | cons b t => simpa [List.intersperse] using ih
theorem joinS_len (xs : List ByteArray) : ((xs.map (·.data.toList)).flatten).length = sumTo xs xs.length := by
  unfold sumTo
  rw [List.take_length, List.length_flatten, List.map_map]
  congr 1
theorem joinS_size (xs : List ByteArray) : (joinS xs).size = sumTo xs xs.length := by
  rw [← joinS_len xs]; rfl

/-- How long a right Desc's texts are. -/
theorem all_sum (xs : List ByteArray) (h : xs.all tyB = true) (m : Nat) (hm : m ≤ xs.length) : sumTo xs m ≤ 23 * m := by
  induction m with
  | zero => simp [sumTo]
  | succ m ih =>
    have h1 := ih (by omega)
    rw [sumTo_succ xs m hm]
    have : tyB (xs.getD m ByteArray.empty) = true := by
      rw [List.all_eq_true] at h
      refine h _ ?_
      rw [List.getD_eq_getElem?_getD, List.getElem?_eq_getElem hm]
      exact List.getElem_mem hm
    have := tyB_size _ this
    omega
theorem one_size (r : ByteArray) (h : (r.toList == [86]) = true) : r.size = 1 := by
  rw [ByteArray.toList_eq, beq_iff_eq] at h
  have : r.data.toList.length = 1 := by rw [h]; rfl
  simpa using this
theorem dsB_size (xs : List ByteArray) (r : ByteArray) (h : dsB xs r = true) : xs.length ≤ 8 ∧ sumTo xs xs.length ≤ 184 ∧ r.size ≤ 23 := by
  unfold dsB at h
  simp only [Bool.and_eq_true, decide_eq_true_eq, Bool.or_eq_true] at h
  obtain ⟨h1, h2, h3⟩ := h
  have := all_sum xs h2 xs.length (Nat.le_refl _)
  refine ⟨h1, by omega, ?_⟩
  rcases h3 with h3 | h3
  · have := one_size r h3; omega
  · exact tyB_size r h3

set_option maxHeartbeats 1000000 in
theorem specText (a : Option Addr) (cap : Nat) (xs : List ByteArray) (r : ByteArray) (w : World) (h : Strs w a cap xs) (hz : sumTo xs xs.length + r.size + 2 ≤ 9223372036854775807) :
    Calls Try.prog 17 #[descV a xs.length cap r] w fun e w' => e = .returned (.string (txS xs r)) ∧ Below w.heap.size w w' := by
  have hcap := h.cap
  unfold maxLen at hcap
  have HS : Hid (Strs w a cap xs) := h
  clear h
  unfold descV
  go_enter Try.func17, Try.ntmps17
  go_wp2_with fail
  go_loop [3, 4] (fun j3 j4 => ∃ m : Nat, m ≤ xs.length ∧ j4 = .int .i64 (m : Int) ∧ j3 = .string (catTo xs m)) (fun _ j4 => xs.length - (intOf j4).toNat)
  case atStart => exact ⟨0, Nat.zero_le _, rfl, rfl⟩
  case round =>
    obtain ⟨m, hm, rfl, rfl⟩ := hrel
    by_cases hlt : m < xs.length
    · obtain ⟨x, rfl, hc0⟩ := HS.out.cell m hlt
      have hxb : x.block < w.heap.size := by have := World.block_lt_of_cell? _ _ hc0; rwa [add_blk] at this
      have hc : ∀ o, (w.alloc o).cell? (x.add m) = some (.string (xs.getD m ByteArray.empty)) := fun o =>
        (((Below.refl w.heap.size w).alloc (Nat.le_refl _) o).cell (p := x.add m) (by rw [add_blk]; exact hxb)).trans hc0
      have hsc := catTo_succ xs m hlt
      have hs1 := catTo_size xs m hm
      have hs2 := sumTo_succ xs m hlt
      have hs3 := sumTo_le xs (m + 1) xs.length hlt
      generalize xs.getD m ByteArray.empty = y at *
      have HX : Hid (catTo xs (m + 1) = catTo xs m ++ y) := hsc
      clear hsc
      generalize catTo xs m = t at *
      have hs4 : t.size + y.size ≤ 9223372036854775807 := by omega
      clear hs1 hs2 hs3
      go_wp2
      go_round
      case rel => exact ⟨m + 1, by omega, by go_num, by rw [HX.out]⟩
      case measure => simp [intOf]; omega
    · obtain rfl : m = xs.length := by omega
      have hs1 := catTo_size xs xs.length (Nat.le_refl _)
      have HT : Hid (catTo xs xs.length ++ ⟨#[41]⟩ ++ r = txS xs r) := rfl
      generalize catTo xs xs.length = t at *
      have hs4 : t.size + 1 + r.size ≤ 9223372036854775807 := by omega
      clear hs1
      go_wp2
      go_ret
      exact ⟨congrArg (fun b => Ending.returned (Value.string b)) HT.out, (Below.refl _ _).alloc (Nat.le_refl _) _⟩
/-- What DescText tells. -/
def dtS (xs : List ByteArray) (r : ByteArray) : ByteArray := if dsB xs r = true then txS xs r else ⟨#[]⟩

set_option maxHeartbeats 1000000 in
theorem specDescText (a : Option Addr) (cap : Nat) (xs : List ByteArray) (r : ByteArray) (w : World) (h : Strs w a cap xs) (hr : r.size ≤ maxLen) :
    Calls Try.prog 10 #[descV a xs.length cap r] w fun e w' => e = .returned (.string (dtS xs r)) ∧ Below w.heap.size w w' := by
  have HS : Hid (Strs w a cap xs) := h
  clear h
  have HB0 : Hid (∀ o, Below w.heap.size w (w.alloc o)) := fun o => (Below.refl _ _).alloc (Nat.le_refl _) o
  cases hd : dsB xs r
  · have HT : Hid ((⟨#[]⟩ : ByteArray) = dtS xs r) := by show _ = _; unfold dtS; rw [hd]; rfl
    have HQ : Hid (dsB xs r = false) := hd
    clear hd
    unfold descV
    go_enter Try.func10, Try.ntmps10
    go_wp2_with fail
    refine (specDescRight a cap xs r _ (HS.out.mono (HB0.out _)) hr).mono ?_
    rintro e w1 ⟨rfl, hb1⟩
    rw [HQ.out]
    have HB1 : Hid (Below w.heap.size w w1) := (HB0.out _).trans (hb1.mono (by simp))
    clear hb1
    go_wp2
    go_ret
    exact ⟨congrArg (fun b => Ending.returned (Value.string b)) HT.out, HB1.out⟩
  · have HT : Hid (txS xs r = dtS xs r) := by show _ = _; unfold dtS; rw [hd]; rfl
    have HQ : Hid (dsB xs r = true) := hd
    obtain ⟨_, hz1, hz2⟩ := dsB_size xs r hd
    clear hd
    unfold descV
    go_enter Try.func10, Try.ntmps10
    go_wp2_with fail
    refine (specDescRight a cap xs r _ (HS.out.mono (HB0.out _)) hr).mono ?_
    rintro e w1 ⟨rfl, hb1⟩
    rw [HQ.out]
    have HB1 : Hid (Below w.heap.size w w1) := (HB0.out _).trans (hb1.mono (by simp))
    have c0 : w1.cell? ⟨w.heap.size, 0, none⟩ = some (.slice a xs.length cap) := carry hb1 (by simp) (by simp [go_sem])
    have c1 : w1.cell? ⟨w.heap.size, 1, none⟩ = some (.string r) := carry hb1 (by simp) (by simp [go_sem])
    clear hb1
    go_wp2_with fail
    refine (specText a cap xs r _ (HS.out.mono HB1.out) (by omega)).mono ?_
    rintro e w2 ⟨rfl, hb2⟩
    have HB2 : Hid (Below w.heap.size w w2) := HB1.out.trans (hb2.mono HB1.out.size)
    clear hb2
    go_wp2
    go_ret
    exact ⟨congrArg (fun b => Ending.returned (Value.string b)) HT.out, HB2.out⟩
/-- The slice is nil, or leads to a row of one block. -/
def Plain (a : Option Addr) (xs : List ByteArray) : Prop := xs = [] ∨ ∃ b o, a = some ⟨b, o, none⟩

theorem libJoin (a : Option Addr) (cap : Nat) (xs : List ByteArray) (w : World) (h : Strs w a cap xs) (hp : Plain a xs) (hn : xs.length ≤ 8) (hz : sumTo xs xs.length ≤ 184) :
    Calls Try.prog 18 #[.slice a xs.length cap, .string ⟨#[]⟩] w.drew fun e w' => e = .returned (.string (joinS xs)) ∧ Below w.heap.size w w' := by
  have hb : Below w.heap.size w w.drew := (Below.refl _ _).drew
  rcases hp with rfl | ⟨b, o, rfl⟩
  · refine (Try.strings_Join_none a cap ⟨#[]⟩ w.drew).mono ?_
    rintro e w' ⟨rfl, rfl⟩
    exact ⟨rfl, hb⟩
  · by_cases h0 : xs = []
    · subst h0
      refine (Try.strings_Join_none (some ⟨b, o, none⟩) cap ⟨#[]⟩ w.drew).mono ?_
      rintro e w' ⟨rfl, rfl⟩
      exact ⟨rfl, hb⟩
    · have hpos : 0 < xs.length := List.length_pos_iff.2 h0
      have hcell : ∀ m, m < xs.length → w.cell? ⟨b, o + m, none⟩ = some (.string (xs.getD m ByteArray.empty)) := by
        intro m hm
        obtain ⟨x, e, hc⟩ := h.cell m hm
        cases e
        have ea : (⟨b, o, none⟩ : Addr).add m = ⟨b, o + m, none⟩ := by unfold Addr.add; split <;> simp_all
        rwa [ea] at hc
      have hbk : b < w.heap.size := World.block_lt_of_cell? _ ⟨b, o + 0, none⟩ (hcell 0 hpos)
      have hj : Lib.join (xs.map (·.data.toList)) (⟨#[]⟩ : ByteArray).data.toList = (xs.map (·.data.toList)).flatten := intercalate_nil' _
      refine (Try.strings_Join b o cap xs ⟨#[]⟩ w.drew (fun j x hx => ?_) hbk (by omega) h.cap.1 (by rw [hj, joinS_len]; omega)).mono ?_
      · have hm : j < xs.length := (List.getElem?_eq_some_iff.1 hx).1
        have := hcell j hm
        rw [List.getD_eq_getElem?_getD, hx] at this
        exact this
      · rintro e w' ⟨rfl, hb'⟩
        refine ⟨?_, hb.trans hb'⟩
        rw [hj]
        rfl

set_option maxHeartbeats 1000000 in
theorem implDescText (a : Option Addr) (cap : Nat) (xs : List ByteArray) (r : ByteArray) (w : World) (h : Strs w a cap xs) (hp : Plain a xs) (hr : r.size ≤ maxLen) :
    Calls Try.prog 11 #[descV a xs.length cap r] w fun e w' => e = .returned (.string (dtS xs r)) ∧ Below w.heap.size w w' := by
  have HS : Hid (Strs w a cap xs) := h
  clear h
  have HB0 : Hid (∀ o, Below w.heap.size w (w.alloc o)) := fun o => (Below.refl _ _).alloc (Nat.le_refl _) o
  cases hd : dsB xs r
  · have HT : Hid ((⟨#[]⟩ : ByteArray) = dtS xs r) := by show _ = _; unfold dtS; rw [hd]; rfl
    have HQ : Hid (dsB xs r = false) := hd
    clear hd
    unfold descV
    go_enter Try.func11, Try.ntmps11
    go_wp2_with fail
    refine (implDescRight a cap xs r _ (HS.out.mono (HB0.out _)) hr).mono ?_
    rintro e w1 ⟨rfl, hb1⟩
    rw [HQ.out]
    have HB1 : Hid (Below w.heap.size w w1) := (HB0.out _).trans (hb1.mono (by simp))
    clear hb1
    go_wp2
    go_ret
    exact ⟨congrArg (fun b => Ending.returned (Value.string b)) HT.out, HB1.out⟩
  · have HT : Hid ((⟨#[40]⟩ : ByteArray) ++ joinS xs ++ ⟨#[41]⟩ ++ r = dtS xs r) := by show _ = _; unfold dtS txS; rw [hd, catTo_join]; rfl
    have HQ : Hid (dsB xs r = true) := hd
    obtain ⟨hz0, hz1, hz2⟩ := dsB_size xs r hd
    have hjs := joinS_size xs
    clear hd
    unfold descV
    go_enter Try.func11, Try.ntmps11
    go_wp2_with fail
    refine (implDescRight a cap xs r _ (HS.out.mono (HB0.out _)) hr).mono ?_
    rintro e w1 ⟨rfl, hb1⟩
    rw [HQ.out]
    have HB1 : Hid (Below w.heap.size w w1) := (HB0.out _).trans (hb1.mono (by simp))
    have c0 : w1.cell? ⟨w.heap.size, 0, none⟩ = some (.slice a xs.length cap) := carry hb1 (by simp) (by simp [go_sem])
    have c1 : w1.cell? ⟨w.heap.size, 1, none⟩ = some (.string r) := carry hb1 (by simp) (by simp [go_sem])
    have hsz1 : w.heap.size < w1.heap.size := by have := hb1.size; simp at this; omega
    clear hb1
    have HJ : Hid (Calls Try.prog 18 #[.slice a xs.length cap, .string ⟨#[]⟩] w1.drew fun e w' => e = .returned (.string (joinS xs)) ∧ Below w1.heap.size w1 w') := libJoin a cap xs w1 (HS.out.mono HB1.out) hp hz0 hz1
    clear hp
    generalize joinS xs = t at *
    have hts : t.size ≤ 184 := by omega
    clear hjs hz1
    go_wp2_with fail
    go_region_with (go_at_call 18; refine HJ.out.mono ?_; rintro e w2 ⟨rfl, hb2⟩; have e0 := carry hb2 hsz1 c0; have e1 := carry hb2 hsz1 c1; have HB2 : Hid (Below w.heap.size w w2) := HB1.out.trans (hb2.mono HB1.out.size); clear hb2)
    all_goals
      go_wp2
      go_ret
      exact ⟨congrArg (fun b => Ending.returned (Value.string b)) HT.out, HB2.out⟩
end Go.Proofs.Ytdoiphejockfhah
