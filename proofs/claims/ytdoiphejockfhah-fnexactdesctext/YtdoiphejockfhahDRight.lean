/-
  The contracts of DescRight of the model and of the program, and of the laws' own helpers on Descs (szDesc, toDesc, eqDesc).
-/
import Derived.Test.YtdoiphejockfhahTRight
import Derived.Test.YtdoiphejockfhahStrs
namespace Go.Proofs.Ytdoiphejockfhah
open Go.RowKit
set_option linter.unusedVariables false

/-- Is it a right Desc? -/
def dsB (xs : List ByteArray) (r : ByteArray) : Bool := decide (xs.length ≤ 8) && (xs.all tyB && ((r.toList == [86]) || tyB r))

def descV (a : Option Addr) (n cap : Nat) (r : ByteArray) : Value := .agg #[.slice a n cap, .string r]

theorem all_take_succ (xs : List ByteArray) (m : Nat) (h : m < xs.length) : (xs.take (m + 1)).all tyB = ((xs.take m).all tyB && tyB (xs.getD m ByteArray.empty)) := by
  rw [List.take_add_one, List.getElem?_eq_getElem h, List.getD_eq_getElem?_getD, List.getElem?_eq_getElem h]
  simp only [List.all_append, Option.toList_some, List.all_cons, List.all_nil, Bool.and_true, Option.getD_some]
theorem all_no (xs : List ByteArray) (m : Nat) (h : m < xs.length) (hb : tyB (xs.getD m ByteArray.empty) = false) : xs.all tyB = false := by
  rw [List.all_eq_false]
  refine ⟨xs.getD m ByteArray.empty, ?_, by rw [hb]; exact Bool.false_ne_true⟩
  rw [List.getD_eq_getElem?_getD, List.getElem?_eq_getElem h]
  exact List.getElem_mem h

set_option maxHeartbeats 1000000 in
theorem specDescRight (a : Option Addr) (cap : Nat) (xs : List ByteArray) (r : ByteArray) (w : World) (h : Strs w a cap xs) (hr : r.size ≤ maxLen) :
    Calls Try.prog 6 #[descV a xs.length cap r] w fun e w' => e = .returned (.bool (dsB xs r)) ∧ Below w.heap.size w w' := by
  have hcap := h.cap
  unfold maxLen at hcap
  have HS : Hid (Strs w a cap xs) := h
  clear h
  unfold descV
  by_cases h8 : 8 < xs.length
  · have d0 : decide ((8 : Int) < (xs.length : Int)) = true := by simp; omega
    have HT : Hid (false = dsB xs r) := by show _ = _; unfold dsB; simp; omega
    go_enter Try.func6, Try.ntmps6
    go_wp2
    go_ret
    exact ⟨congrArg (fun b => Ending.returned (Value.bool b)) HT.out, (Below.refl _ _).alloc (Nat.le_refl _) _⟩
  · have d0 : decide ((8 : Int) < (xs.length : Int)) = false := by simp; omega
    go_enter Try.func6, Try.ntmps6
    go_wp2_with fail
    go_loop [3] (fun j3 => ∃ m : Nat, m ≤ xs.length ∧ j3 = .int .i64 (m : Int) ∧ (xs.take m).all tyB = true) (fun j3 => xs.length - (intOf j3).toNat)
    case atStart => exact ⟨0, Nat.zero_le _, rfl, by simp⟩
    case round =>
      obtain ⟨m, hm, rfl, hall⟩ := hrel
      have HA : Hid ((xs.take m).all tyB = true) := hall
      clear hall
      by_cases hlt : m < xs.length
      · obtain ⟨x, rfl, hc0⟩ := HS.out.cell m hlt
        have hxb : x.block < w.heap.size := by have := World.block_lt_of_cell? _ _ hc0; rwa [add_blk] at this
        have hc : ∀ o, (w.alloc o).cell? (x.add m) = some (.string (xs.getD m ByteArray.empty)) := fun o =>
          (((Below.refl w.heap.size w).alloc (Nat.le_refl _) o).cell (p := x.add m) (by rw [add_blk]; exact hxb)).trans hc0
        have hz := HS.out.at_size m
        have hsc := all_take_succ xs m hlt
        have hno := all_no xs m hlt
        generalize xs.getD m ByteArray.empty = y at *
        cases hy : tyB y
        · have HT : Hid (false = dsB xs r) := by show _ = _; unfold dsB; rw [hno hy]; simp
          have HY : Hid (tyB y = false) := hy
          clear hsc hno hy
          go_wp2_with fail
          refine (specTypeRight y _ hz).mono ?_
          rintro e w1 ⟨rfl, hw1⟩
          rw [HY.out]
          subst hw1
          go_wp2
          go_ret
          exact ⟨congrArg (fun b => Ending.returned (Value.bool b)) HT.out, (Below.refl _ _).alloc (Nat.le_refl _) _⟩
        · have HX : Hid ((xs.take (m + 1)).all tyB = true) := by show _ = _; rw [hsc, HA.out, hy]; rfl
          have HY : Hid (tyB y = true) := hy
          clear hsc hno hy
          go_wp2_with fail
          refine (specTypeRight y _ hz).mono ?_
          rintro e w1 ⟨rfl, hw1⟩
          rw [HY.out]
          subst hw1
          go_wp2
          go_round
          case rel => exact ⟨m + 1, by omega, by go_num, HX.out⟩
          case measure => simp [intOf]; omega
      · have hall : xs.all tyB = true := by
          have := HA.out
          rwa [List.take_of_length_le (by omega)] at this
        have h8' : decide (xs.length ≤ 8) = true := by simp; omega
        cases hv : (r.toList == [86])
        · have HT : Hid (tyB r = dsB xs r) := by show _ = _; unfold dsB; rw [hall, h8', hv]; simp
          clear hall h8'
          go_wp2_with fail
          refine (specTypeRight r _ hr).mono ?_
          rintro e w1 ⟨rfl, hw1⟩
          subst hw1
          rw [HT.out]
          go_wp2
          go_ret
          exact ⟨rfl, (Below.refl _ _).alloc (Nat.le_refl _) _⟩
        · have HT : Hid (true = dsB xs r) := by show _ = _; unfold dsB; rw [hall, h8', hv]; rfl
          clear hall h8'
          go_wp2
          go_ret
          exact ⟨congrArg (fun b => Ending.returned (Value.bool b)) HT.out, (Below.refl _ _).alloc (Nat.le_refl _) _⟩
set_option maxHeartbeats 1000000 in
theorem implDescRight (a : Option Addr) (cap : Nat) (xs : List ByteArray) (r : ByteArray) (w : World) (h : Strs w a cap xs) (hr : r.size ≤ maxLen) :
    Calls Try.prog 8 #[descV a xs.length cap r] w fun e w' => e = .returned (.bool (dsB xs r)) ∧ Below w.heap.size w w' := by
  have hcap := h.cap
  unfold maxLen at hcap
  have HS : Hid (Strs w a cap xs) := h
  clear h
  unfold descV
  by_cases h8 : 8 < xs.length
  · have d0 : decide ((8 : Int) < (xs.length : Int)) = true := by simp; omega
    have HT : Hid (false = dsB xs r) := by show _ = _; unfold dsB; simp; omega
    go_enter Try.func8, Try.ntmps8
    go_wp2
    go_ret
    exact ⟨congrArg (fun b => Ending.returned (Value.bool b)) HT.out, (Below.refl _ _).alloc (Nat.le_refl _) _⟩
  · have d0 : decide ((8 : Int) < (xs.length : Int)) = false := by simp; omega
    go_enter Try.func8, Try.ntmps8
    go_wp2_with fail
    go_loop [12] (fun j3 => ∃ m : Nat, m ≤ xs.length ∧ j3 = .int .i64 (m : Int) ∧ (xs.take m).all tyB = true) (fun j3 => xs.length - (intOf j3).toNat)
    case atStart => exact ⟨0, Nat.zero_le _, rfl, by simp⟩
    case round =>
      obtain ⟨m, hm, rfl, hall⟩ := hrel
      have HA : Hid ((xs.take m).all tyB = true) := hall
      clear hall
      by_cases hlt : m < xs.length
      · obtain ⟨x, rfl, hc0⟩ := HS.out.cell m hlt
        have hxb : x.block < w.heap.size := by have := World.block_lt_of_cell? _ _ hc0; rwa [add_blk] at this
        have hc : ∀ o, (w.alloc o).cell? (x.add m) = some (.string (xs.getD m ByteArray.empty)) := fun o =>
          (((Below.refl w.heap.size w).alloc (Nat.le_refl _) o).cell (p := x.add m) (by rw [add_blk]; exact hxb)).trans hc0
        have hz := HS.out.at_size m
        have hsc := all_take_succ xs m hlt
        have hno := all_no xs m hlt
        generalize xs.getD m ByteArray.empty = y at *
        cases hy : tyB y
        · have HT : Hid (false = dsB xs r) := by show _ = _; unfold dsB; rw [hno hy]; simp
          have HY : Hid (tyB y = false) := hy
          clear hsc hno hy
          go_wp2_with fail
          refine (implTypeRight y _ hz).mono ?_
          rintro e w1 ⟨rfl, hw1⟩
          rw [HY.out]
          subst hw1
          go_wp2
          go_ret
          exact ⟨congrArg (fun b => Ending.returned (Value.bool b)) HT.out, (Below.refl _ _).alloc (Nat.le_refl _) _⟩
        · have HX : Hid ((xs.take (m + 1)).all tyB = true) := by show _ = _; rw [hsc, HA.out, hy]; rfl
          have HY : Hid (tyB y = true) := hy
          clear hsc hno hy
          go_wp2_with fail
          refine (implTypeRight y _ hz).mono ?_
          rintro e w1 ⟨rfl, hw1⟩
          rw [HY.out]
          subst hw1
          go_wp2
          go_round
          case rel => exact ⟨m + 1, by omega, by go_num, HX.out⟩
          case measure => simp [intOf]; omega
      · have hall : xs.all tyB = true := by
          have := HA.out
          rwa [List.take_of_length_le (by omega)] at this
        have h8' : decide (xs.length ≤ 8) = true := by simp; omega
        cases hv : (r.toList == [86])
        · have HT : Hid (tyB r = dsB xs r) := by show _ = _; unfold dsB; rw [hall, h8', hv]; simp
          clear hall h8'
          go_wp2_with fail
          refine (implTypeRight r _ hr).mono ?_
          rintro e w1 ⟨rfl, hw1⟩
          subst hw1
          rw [HT.out]
          go_wp2
          go_ret
          exact ⟨rfl, (Below.refl _ _).alloc (Nat.le_refl _) _⟩
        · have HT : Hid (true = dsB xs r) := by show _ = _; unfold dsB; rw [hall, h8', hv]; rfl
          clear hall h8'
          go_wp2
          go_ret
          exact ⟨congrArg (fun b => Ending.returned (Value.bool b)) HT.out, (Below.refl _ _).alloc (Nat.le_refl _) _⟩
/-- How much is left behind a Desc. -/
def szD (xs : List ByteArray) (r : ByteArray) (left : Int) : Int := if left < (totS xs : Int) + (r.size : Int) then -1 else left - (totS xs : Int) - (r.size : Int)

set_option maxHeartbeats 1000000 in
theorem lawSzDesc (a : Option Addr) (cap : Nat) (xs : List ByteArray) (r : ByteArray) (left : Int) (w : World) (h : Strs w a cap xs) (hr : r.size ≤ maxLen) (hl : 0 ≤ left ∧ left ≤ 1048576) :
    Calls Try.prog 5 #[descV a xs.length cap r, .int .i64 left] w fun e w' => e = .returned (.int .i64 (szD xs r left)) ∧ Below w.heap.size w w' := by
  have HS : Hid (Strs w a cap xs) := h
  clear h
  unfold maxLen at hr
  unfold descV
  have hb0 : ∀ o, Below w.heap.size w (w.alloc o) := fun o => (Below.refl _ _).alloc (Nat.le_refl _) o
  have HB0 : Hid (∀ o, Below w.heap.size w (w.alloc o)) := hb0
  clear hb0
  by_cases h1 : left < (totS xs : Int)
  · have HZ : Hid (szS xs left = -1) := by show _ = _; unfold szS; rw [if_pos h1]
    have HT : Hid (-1 = szD xs r left) := by show _ = _; unfold szD; rw [if_pos (by omega)]
    go_enter Try.func5, Try.ntmps5
    go_wp2_with fail
    refine (lawSzStrs a cap xs left _ (HS.out.mono (HB0.out _)) hl).mono ?_
    rintro e w1 ⟨rfl, hw1⟩
    subst hw1
    rw [HZ.out]
    go_wp2
    go_ret
    exact ⟨congrArg (fun b => Ending.returned (Value.int .i64 b)) HT.out, HB0.out _⟩
  · have HZ : Hid (szS xs left = left - (totS xs : Int)) := by show _ = _; unfold szS; rw [if_neg h1]
    have d0 : decide (left - (totS xs : Int) < 0) = false := by simp; omega
    by_cases h2 : left - (totS xs : Int) < (r.size : Int)
    · have HT : Hid (-1 = szD xs r left) := by show _ = _; unfold szD; rw [if_pos (by omega)]
      have d1 : decide (left - (totS xs : Int) - (r.size : Int) < 0) = true := by simp; omega
      go_enter Try.func5, Try.ntmps5
      go_wp2_with fail
      refine (lawSzStrs a cap xs left _ (HS.out.mono (HB0.out _)) hl).mono ?_
      rintro e w1 ⟨rfl, hw1⟩
      subst hw1
      rw [HZ.out]
      go_wp2
      go_ret
      exact ⟨congrArg (fun b => Ending.returned (Value.int .i64 b)) HT.out, HB0.out _⟩
    · have HT : Hid (left - (totS xs : Int) - (r.size : Int) = szD xs r left) := by show _ = _; unfold szD; rw [if_neg (by omega)]
      have d1 : decide (left - (totS xs : Int) - (r.size : Int) < 0) = false := by simp; omega
      go_enter Try.func5, Try.ntmps5
      go_wp2_with fail
      refine (lawSzStrs a cap xs left _ (HS.out.mono (HB0.out _)) hl).mono ?_
      rintro e w1 ⟨rfl, hw1⟩
      subst hw1
      rw [HZ.out]
      go_wp2
      go_ret
      exact ⟨congrArg (fun b => Ending.returned (Value.int .i64 b)) HT.out, HB0.out _⟩
set_option maxHeartbeats 1000000 in
theorem lawToDesc (a : Option Addr) (cap : Nat) (xs : List ByteArray) (r : ByteArray) (w : World) (h : Strs w a cap xs) (hl : xs.length ≤ 1048576) :
    Calls Try.prog 7 #[descV a xs.length cap r] w fun e w' => ∃ b, w.heap.size ≤ b ∧ e = .returned (descV (some ⟨b, 0, none⟩) xs.length xs.length r) ∧ Below w.heap.size w w' ∧ w'.rowIs b 9 xs.length (strAt xs) := by
  have HS : Hid (Strs w a cap xs) := h
  clear h
  unfold descV
  have HB0 : Hid (∀ o1 o2 o3, Below w.heap.size w (((w.alloc o1).alloc o2).alloc o3)) := fun o1 o2 o3 => (((Below.refl _ _).alloc (Nat.le_refl _) o1).alloc (by simp) o2).alloc (by simp; omega) o3
  go_enter Try.func7, Try.ntmps7
  go_wp2_with fail
  refine (lawToStrs a cap xs _ (HS.out.mono (HB0.out _ _ _)) hl).mono ?_
  rintro e w1 ⟨rfl, hb1, hz1, hrow⟩
  have HB1 : Hid (Below w.heap.size w w1) := (HB0.out _ _ _).trans (hb1.mono (by simp; omega))
  have c1 : w1.cell? ⟨w.heap.size, 1, none⟩ = some (.string r) := (hb1.cell (p := ⟨w.heap.size, 1, none⟩) (by simp; omega)).trans (by simp [go_sem])
  have p0 : w1.cell? ⟨w.heap.size + 1, 0, none⟩ = some (.slice none 0 0) := (hb1.cell (p := ⟨w.heap.size + 1, 0, none⟩) (by simp)).trans (by simp [go_sem])
  have p1 : w1.cell? ⟨w.heap.size + 1, 1, none⟩ = some (.string ⟨#[]⟩) := (hb1.cell (p := ⟨w.heap.size + 1, 1, none⟩) (by simp)).trans (by simp [go_sem])
  have q0 : w1.cell? ⟨w.heap.size + 1 + 1, 0, none⟩ = some (.slice none 0 0) := (hb1.cell (p := ⟨w.heap.size + 1 + 1, 0, none⟩) (by simp)).trans (by simp [go_sem])
  have q1 : w1.cell? ⟨w.heap.size + 1 + 1, 1, none⟩ = some (.string ⟨#[]⟩) := (hb1.cell (p := ⟨w.heap.size + 1 + 1, 1, none⟩) (by simp)).trans (by simp [go_sem])
  have fp : ∀ j, w1.frozen? ⟨w.heap.size + 1, j, none⟩ = false := fun j => (hb1.frozen (p := ⟨w.heap.size + 1, j, none⟩) (by simp)).trans (by simp [go_sem])
  have fq : ∀ j, w1.frozen? ⟨w.heap.size + 1 + 1, j, none⟩ = false := fun j => (hb1.frozen (p := ⟨w.heap.size + 1 + 1, j, none⟩) (by simp)).trans (by simp [go_sem])
  simp at hz1 hrow
  have HR : Hid (w1.rowIs (w.heap.size + 1 + 1 + 1) 9 xs.length (strAt xs)) := hrow
  clear hb1 hz1 hrow
  go_wp2
  refine bodyPost_ret (v := .agg #[.slice (some ⟨w.heap.size + 1 + 1 + 1, 0, none⟩) xs.length xs.length, .string r]) (by simp [results, Try.results7, go_sem, p0, p1]) rfl ⟨w.heap.size + 1 + 1 + 1, by omega, rfl, ?_, ?_⟩
  · exact (((HB1.out.setCell (by simp; omega) _).setCell (by simp; omega) _).setCell (by simp) _).setCell (by simp) _
  · exact (((HR.out.setOther (by show w.heap.size + 1 + 1 + 1 ≠ w.heap.size + 1 + 1; omega) _).setOther (by show w.heap.size + 1 + 1 + 1 ≠ w.heap.size + 1 + 1; omega) _).setOther (by show w.heap.size + 1 + 1 + 1 ≠ w.heap.size + 1; omega) _).setOther (by show w.heap.size + 1 + 1 + 1 ≠ w.heap.size + 1; omega) _
theorem lawToDescD (a : Option Addr) (cap : Nat) (xs : List ByteArray) (r : ByteArray) (w : World) (h : Strs w a cap xs) (hl : xs.length ≤ 1048576) :
    Calls Try.prog 7 #[.agg #[.slice a xs.length cap, .string r]] w.drew fun e w' => ∃ b, e = .returned (.agg #[.slice (some ⟨b, 0, none⟩) xs.length xs.length, .string r]) ∧ Below w.heap.size w w' ∧ Strs w' (some ⟨b, 0, none⟩) xs.length xs := by
  refine (lawToDesc a cap xs r w.drew (h.mono (Below.refl _ _).drew) hl).mono ?_
  rintro e w' ⟨b, hb, rfl, hbel, hrow⟩
  exact ⟨b, rfl, (Below.refl _ _).drew.trans hbel, Strs.of_row hrow (Nat.le_refl _) (by unfold maxLen; omega) h.size⟩
set_option maxHeartbeats 1000000 in
theorem lawEqDesc (a b : Option Addr) (ca cb : Nat) (xs : List ByteArray) (r : ByteArray) (w : World) (ha : Strs w a ca xs) (hb : Strs w b cb xs) :
    Calls Try.prog 9 #[descV a xs.length ca r, descV b xs.length cb r] w fun e w' => e = .returned (.bool true) ∧ Below w.heap.size w w' := by
  have HA : Hid (Strs w a ca xs) := ha
  have HB : Hid (Strs w b cb xs) := hb
  clear ha hb
  unfold descV
  have hbb : (r.toList == r.toList) = true := by simp
  have HB0 : Hid (∀ o1 o2, Below w.heap.size w ((w.alloc o1).alloc o2)) := fun o1 o2 => ((Below.refl _ _).alloc (Nat.le_refl _) o1).alloc (by simp) o2
  go_enter Try.func9, Try.ntmps9
  go_wp2_with fail
  refine (lawEqStrs a b ca cb xs _ (HA.out.mono (HB0.out _ _)) (HB.out.mono (HB0.out _ _))).mono ?_
  rintro e w1 ⟨rfl, hb1⟩
  have HB1 : Hid (Below w.heap.size w w1) := (HB0.out _ _).trans (hb1.mono (by simp; omega))
  have c1 : w1.cell? ⟨w.heap.size, 1, none⟩ = some (.string r) := (hb1.cell (p := ⟨w.heap.size, 1, none⟩) (by simp; omega)).trans (by simp [go_sem])
  have p1 : w1.cell? ⟨w.heap.size + 1, 1, none⟩ = some (.string r) := (hb1.cell (p := ⟨w.heap.size + 1, 1, none⟩) (by simp)).trans (by simp [go_sem])
  clear hb1
  go_wp2
  go_ret
  exact ⟨rfl, HB1.out⟩
end Go.Proofs.Ytdoiphejockfhah
