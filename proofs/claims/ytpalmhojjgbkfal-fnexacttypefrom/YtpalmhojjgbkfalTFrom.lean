/-
  The contracts of TypeFrom of the model and of the program: each tells what frK and clS tell, at every text.
-/
import Derived.Test.YtpalmhojjgbkfalTClass
import Derived.Test.YtpalmhojjgbkfalStrs
namespace Go.Proofs.Ytpalmhojjgbkfal
open Go.RowKit
set_option linter.unusedVariables false

/-- The kind of a type that a text tells. -/
def frK (s : ByteArray) : Int := if tyB s = true then (if byt s 0 = 91 then (if clS s = ⟨#[]⟩ then 4 else 5) else (if clS s = ⟨#[]⟩ then 1 else 3)) else 0
def frV (s : ByteArray) : Value := .agg #[.int .i64 (frK s), .string (clS s), .int .i64 0]

theorem lst_ne {a : ByteArray} {l : List UInt8} (h : a ≠ ⟨l.toArray⟩) : (a.toList == l) = false := by
  rw [beq_eq_false_iff_ne]
  intro e
  rw [ByteArray.toList_eq] at e
  obtain ⟨⟨m⟩⟩ := a
  simp at e
  exact h (by rw [e])
theorem lst_eq {a : ByteArray} {l : List UInt8} (h : a = ⟨l.toArray⟩) : (a.toList == l) = true := by
  rw [h, ByteArray.toList_eq]
  simp
theorem pre_91 (s : ByteArray) : Lib.hasPrefix s.data.toList [91] = decide (byt s 0 = 91) := by
  unfold Lib.hasPrefix
  obtain ⟨⟨l⟩⟩ := s
  cases l with
  | nil => simp [byt, List.isPrefixOf]
  | cons c t =>
    by_cases hc : c = 91
    · subst hc
      simp [byt, List.isPrefixOf]
    · have h2 : ¬ (byt ⟨(c :: t).toArray⟩ 0 = 91) := by
        unfold byt; simp; intro h; exact hc (UInt8.toNat_inj.1 (by
          have h' : c.toNat = 91 := by omega
          simpa using h'))
      rw [decide_eq_false h2]
      simp [List.isPrefixOf]
      exact fun h => hc h.symm
theorem is_LI (u : ByteArray) : u = ⟨#[91, 73]⟩ ↔ (byt u 0 = 91 ∧ byt (u.extract 1 u.size) 0 = 73 ∧ (u.extract 1 u.size).size = 1) := by
  constructor
  · rintro rfl; exact ⟨by decide, by decide, by decide⟩
  · rintro ⟨h1, h2, h3⟩
    have e := (is_I _).2 ⟨h3, h2⟩
    have hz : 0 < u.size := byt_in u 0 (by rw [h1]; decide)
    have hl := ext_list u
    rw [e] at hl
    obtain ⟨⟨l⟩⟩ := u
    match l, hl with
    | c :: t, hl =>
      simp at hl
      have : c = 91 := by
        unfold byt at h1
        simp at h1
        have h' : c.toNat = 91 := by omega
        exact UInt8.toNat_inj.1 (by simpa using h')
      rw [this, ← hl]
theorem clS_size (s : ByteArray) (h : tyB s = true) (h2 : byt (item s) 0 ≠ 73) (h3 : 3 ≤ (item s).size) : clS s ≠ ⟨#[]⟩ := by
  unfold clS
  rw [if_pos h, if_neg h2]
  intro e
  have := congrArg ByteArray.size e
  rw [ByteArray.size_extract] at this
  have h0 : (⟨#[]⟩ : ByteArray).size = 0 := rfl
  rw [h0] at this
  omega
theorem fr_cases (s : ByteArray) : (tyB s = false ∧ s ≠ ⟨#[73]⟩ ∧ s ≠ ⟨#[91, 73]⟩ ∧ clS s = ⟨#[]⟩ ∧ frK s = 0) ∨
    (tyB s = true ∧ s = ⟨#[73]⟩ ∧ byt s 0 ≠ 91 ∧ clS s = ⟨#[]⟩ ∧ frK s = 1) ∨ (tyB s = true ∧ s ≠ ⟨#[73]⟩ ∧ s = ⟨#[91, 73]⟩ ∧ byt s 0 = 91 ∧ clS s = ⟨#[]⟩ ∧ frK s = 4) ∨
    (tyB s = true ∧ s ≠ ⟨#[73]⟩ ∧ s ≠ ⟨#[91, 73]⟩ ∧ 0 < s.size ∧ byt s 0 = 91 ∧ clS s ≠ ⟨#[]⟩ ∧ frK s = 5) ∨
    (tyB s = true ∧ s ≠ ⟨#[73]⟩ ∧ s ≠ ⟨#[91, 73]⟩ ∧ 0 < s.size ∧ byt s 0 ≠ 91 ∧ clS s ≠ ⟨#[]⟩ ∧ frK s = 3) := by
  cases hb : tyB s with
  | false =>
    refine .inl ⟨rfl, ?_, ?_, ?_, ?_⟩
    · rintro rfl; revert hb; decide
    · rintro rfl; revert hb; decide
    · unfold clS; rw [hb]; rfl
    · unfold frK; rw [hb]; rfl
  | true =>
    right
    obtain ⟨h1, hf⟩ := item_facts s hb
    by_cases h91 : byt s 0 = 91
    · have ei : item s = s.extract 1 s.size := by unfold item; rw [if_pos h91]
      have n1 : s ≠ ⟨#[73]⟩ := fun e => by have := ((is_I s).1 e).2; rw [h91] at this; exact absurd this (by decide)
      rcases hf with ⟨h73, hz⟩ | ⟨h76, hz⟩
      · have ec : clS s = ⟨#[]⟩ := by unfold clS; rw [if_pos hb, if_pos h73]
        rw [ei] at h73 hz
        exact .inr (.inl ⟨rfl, n1, (is_LI s).2 ⟨h91, h73, hz⟩, h91, ec, by unfold frK; rw [if_pos hb, if_pos h91, if_pos ec]⟩)
      · have ec := clS_size s hb (by rw [h76]; decide) hz
        refine .inr (.inr (.inl ⟨rfl, n1, fun e => ?_, h1, h91, ec, by unfold frK; rw [if_pos hb, if_pos h91, if_neg ec]⟩))
        have := ((is_LI s).1 e).2.1
        rw [ei] at h76
        rw [h76] at this
        exact absurd this (by decide)
    · have ei : item s = s := by unfold item; rw [if_neg h91]
      rw [ei] at hf
      rcases hf with ⟨h73, hz⟩ | ⟨h76, hz⟩
      · have ec : clS s = ⟨#[]⟩ := by unfold clS; rw [if_pos hb, if_pos (by rw [ei]; exact h73)]
        exact .inl ⟨rfl, (is_I s).2 ⟨hz, h73⟩, h91, ec, by unfold frK; rw [if_pos hb, if_neg h91, if_pos ec]⟩
      · have ec := clS_size s hb (by rw [ei, h76]; decide) (by rw [ei]; exact hz)
        refine .inr (.inr (.inr ⟨rfl, fun e => ?_, fun e => ?_, h1, h91, ec, by unfold frK; rw [if_pos hb, if_neg h91, if_neg ec]⟩))
        · have := ((is_I s).1 e).2; rw [h76] at this; exact absurd this (by decide)
        · exact h91 ((is_LI s).1 e).1
set_option maxHeartbeats 1000000 in
theorem specL06From (s : ByteArray) (w : World) (hs : s.size ≤ maxLen) :
    Calls Try.prog 7 #[.string s] w fun e w' => e = .returned (frV s) ∧ Below w.heap.size w w' := by
  have HC : Hid (∀ w, Calls Try.prog 11 #[.string s] w fun e w' => e = .returned (.string (clS s)) ∧ w' = w) := fun w => specTypeClass s w hs
  unfold maxLen at hs
  unfold frV
  rcases fr_cases s with ⟨h0, h1, h2, h3, h4⟩ | ⟨h0, h1, h2, h3, h4⟩ | ⟨h0, h1, h2, h3, h4, h5⟩ | ⟨h0, h1, h2, h3, h4, h5, h6⟩ | ⟨h0, h1, h2, h3, h4, h5, h6⟩
  · have d1 := lst_ne h1
    have d2 := lst_ne h2
    rw [h3] at HC
    rw [h3, h4]
    clear h0 h1 h2 h3 h4
    go_enter Try.func7, Try.ntmps7
    go_wp2_with fail
    refine (HC.out _).mono ?_
    rintro e w1 ⟨rfl, rfl⟩
    go_wp2
    exact bodyPost_ret (v := .agg #[.int .i64 0, .string ⟨#[]⟩, .int .i64 0]) (by simp [results, Try.results7, go_sem]) rfl ⟨rfl, by first | exact below_al _ _ | exact (below_al _ _).setCell (by simp) _ | exact ((below_al _ _).setCell (by simp) _).setCell (by simp) _ | exact (((below_al _ _).setCell (by simp) _).setCell (by simp) _).setCell (by simp) _⟩
  · have d1 := lst_eq h1
    rw [h3] at HC
    rw [h3, h4]
    clear h0 h1 h2 h3 h4
    go_enter Try.func7, Try.ntmps7
    go_wp2_with fail
    refine (HC.out _).mono ?_
    rintro e w1 ⟨rfl, rfl⟩
    go_wp2
    exact bodyPost_ret (v := .agg #[.int .i64 1, .string ⟨#[]⟩, .int .i64 0]) (by simp [results, Try.results7, go_sem]) rfl ⟨rfl, by first | exact below_al _ _ | exact (below_al _ _).setCell (by simp) _ | exact ((below_al _ _).setCell (by simp) _).setCell (by simp) _ | exact (((below_al _ _).setCell (by simp) _).setCell (by simp) _).setCell (by simp) _⟩
  · have d1 := lst_ne h1
    have d2 := lst_eq h2
    rw [h4] at HC
    rw [h4, h5]
    clear h0 h1 h2 h3 h4 h5
    go_enter Try.func7, Try.ntmps7
    go_wp2_with fail
    refine (HC.out _).mono ?_
    rintro e w1 ⟨rfl, rfl⟩
    go_wp2
    exact bodyPost_ret (v := .agg #[.int .i64 4, .string ⟨#[]⟩, .int .i64 0]) (by simp [results, Try.results7, go_sem]) rfl ⟨rfl, by first | exact below_al _ _ | exact (below_al _ _).setCell (by simp) _ | exact ((below_al _ _).setCell (by simp) _).setCell (by simp) _ | exact (((below_al _ _).setCell (by simp) _).setCell (by simp) _).setCell (by simp) _⟩
  · have d1 := lst_ne h1
    have d2 := lst_ne h2
    have d3 := lst_ne (l := []) h5
    have hb0 := byt_eq s 0 h3
    have d4 : ((s[0].toNat : Int) == 91) = true := by rw [hb0, h4]; rfl
    rw [h6]
    clear h0 h1 h2 h4 h5 h6 hb0
    generalize clS s = c at *
    go_enter Try.func7, Try.ntmps7
    go_wp2_with fail
    refine (HC.out _).mono ?_
    rintro e w1 ⟨rfl, rfl⟩
    go_wp2
    exact bodyPost_ret (v := .agg #[.int .i64 5, .string c, .int .i64 0]) (by simp [results, Try.results7, go_sem]) rfl ⟨rfl, by first | exact below_al _ _ | exact (below_al _ _).setCell (by simp) _ | exact ((below_al _ _).setCell (by simp) _).setCell (by simp) _ | exact (((below_al _ _).setCell (by simp) _).setCell (by simp) _).setCell (by simp) _⟩
  · have d1 := lst_ne h1
    have d2 := lst_ne h2
    have d3 := lst_ne (l := []) h5
    have hb0 := byt_eq s 0 h3
    have d4 : ((s[0].toNat : Int) == 91) = false := by rw [hb0, beq_eq_false_iff_ne]; exact h4
    rw [h6]
    clear h0 h1 h2 h4 h5 h6 hb0
    generalize clS s = c at *
    go_enter Try.func7, Try.ntmps7
    go_wp2_with fail
    refine (HC.out _).mono ?_
    rintro e w1 ⟨rfl, rfl⟩
    go_wp2
    exact bodyPost_ret (v := .agg #[.int .i64 3, .string c, .int .i64 0]) (by simp [results, Try.results7, go_sem]) rfl ⟨rfl, by first | exact below_al _ _ | exact (below_al _ _).setCell (by simp) _ | exact ((below_al _ _).setCell (by simp) _).setCell (by simp) _ | exact (((below_al _ _).setCell (by simp) _).setCell (by simp) _).setCell (by simp) _⟩
theorem specTypeFrom (s : ByteArray) (w : World) (hs : s.size ≤ maxLen) :
    Calls Try.prog 4 #[.string s] w fun e w' => e = .returned (frV s) ∧ Below w.heap.size w w' := by
  have HC : Hid (∀ w, Calls Try.prog 7 #[.string s] w fun e w' => e = .returned (frV s) ∧ Below w.heap.size w w') := fun w => specL06From s w hs
  unfold maxLen at hs
  by_cases hbig : 20000 < s.size
  · have HV : Hid (frV s = .agg #[.int .i64 0, .string ⟨#[]⟩, .int .i64 0]) := by
      have hb : tyB s = false := by
        cases hb : tyB s with
        | false => rfl
        | true => have := tyB_size s hb; omega
      show _ = _
      unfold frV frK clS
      rw [hb]
      rfl
    have d0 : decide ((20000 : Int) < (s.size : Int)) = true := by simp; omega
    go_enter Try.func4, Try.ntmps4
    go_wp2
    exact bodyPost_ret (v := .agg #[.int .i64 0, .string ⟨#[]⟩, .int .i64 0]) (by simp [results, Try.results4, go_sem]) rfl ⟨by rw [HV.out], by first | exact below_al _ _ | exact (((below_al _ _).setCell (by simp) _).setCell (by simp) _).setCell (by simp) _⟩
  · have d0 : decide ((20000 : Int) < (s.size : Int)) = false := by simp; omega
    unfold frV at *
    generalize clS s = c at *
    generalize frK s = k at *
    go_enter Try.func4, Try.ntmps4
    go_wp2_with fail
    refine (HC.out _).mono ?_
    rintro e w1 ⟨rfl, hb1⟩
    have r0 : w1.cell? ⟨w.heap.size, 0, none⟩ = some (.int .i64 0) := carry hb1 (by simp) (by simp [go_sem])
    have r1 : w1.cell? ⟨w.heap.size, 1, none⟩ = some (.string ⟨#[]⟩) := carry hb1 (by simp) (by simp [go_sem])
    have r2 : w1.cell? ⟨w.heap.size, 2, none⟩ = some (.int .i64 0) := carry hb1 (by simp) (by simp [go_sem])
    have fr : ∀ j, w1.frozen? ⟨w.heap.size, j, none⟩ = false := fun j => carryF hb1 (by simp) (by simp [go_sem])
    have HB1 : Hid (Below w.heap.size w w1) := (below_al _ _).trans (hb1.mono (by simp))
    clear hb1
    go_wp2
    exact bodyPost_ret (v := .agg #[.int .i64 k, .string c, .int .i64 0]) (by simp [results, Try.results4, go_sem, r0, r1, r2]) rfl ⟨rfl, ((HB1.out.setCell (by simp) _).setCell (by simp) _).setCell (by simp) _⟩
set_option maxHeartbeats 1000000 in
theorem implTypeFrom (s : ByteArray) (w : World) (hs : s.size ≤ maxLen) :
    Calls Try.prog 5 #[.string s] w fun e w' => e = .returned (frV s) ∧ Below w.heap.size w w' := by
  have HC : Hid (∀ w, Calls Try.prog 9 #[.string s] w fun e w' => e = .returned (.string (clS s)) ∧ Below w.heap.size w w') := fun w => implTypeClass s w hs
  have HT : Hid (∀ w, Calls Try.prog 8 #[.string s] w fun e w' => e = .returned (.bool (tyB s)) ∧ w' = w) := fun w => implTypeRight s w hs
  have HP : Hid (∀ w, Calls Try.prog 10 #[.string s, .string ⟨#[91]⟩] w fun e w' => e = .returned (.bool (decide (byt s 0 = 91))) ∧ w' = w) := fun w => by
    have h := Try.strings_HasPrefix s ⟨#[91]⟩ w
    rw [show (Lib.hasPrefix s.data.toList (⟨#[91]⟩ : ByteArray).data.toList) = decide (byt s 0 = 91) from pre_91 s] at h
    exact h
  unfold maxLen at hs
  unfold frV
  rcases fr_cases s with ⟨h0, h1, h2, h3, h4⟩ | ⟨h0, h1, h2, h3, h4⟩ | ⟨h0, h1, h2, h3, h4, h5⟩ | ⟨h0, h1, h2, h3, h4, h5, h6⟩ | ⟨h0, h1, h2, h3, h4, h5, h6⟩
  · rw [h0] at HT
    rw [h3, h4]
    clear h0 h1 h2 h3 h4 HC HP
    go_enter Try.func5, Try.ntmps5
    go_wp2_with fail
    refine (HT.out _).mono ?_
    rintro e w1 ⟨rfl, rfl⟩
    go_wp2
    exact bodyPost_ret (v := .agg #[.int .i64 0, .string ⟨#[]⟩, .int .i64 0]) (by simp [results, Try.results5, go_sem]) rfl ⟨rfl, by first | exact below_al _ _ | exact (((below_al _ _).setCell (by simp) _).setCell (by simp) _).setCell (by simp) _⟩
  · rw [h0] at HT
    rw [decide_eq_false h2] at HP
    rw [h3] at HC
    rw [h3, h4]
    clear h0 h1 h2 h3 h4
    go_enter Try.func5, Try.ntmps5
    go_wp2_with fail
    refine (HT.out _).mono ?_
    rintro e w1 ⟨rfl, rfl⟩
    go_wp2_with fail
    refine (HC.out _).mono ?_
    rintro e w2 ⟨rfl, hb1⟩
    have r0 : w2.cell? ⟨w.heap.size, 0, none⟩ = some (.int .i64 0) := carry hb1 (by simp) (by simp [go_sem])
    have r1 : w2.cell? ⟨w.heap.size, 1, none⟩ = some (.string ⟨#[]⟩) := carry hb1 (by simp) (by simp [go_sem])
    have r2 : w2.cell? ⟨w.heap.size, 2, none⟩ = some (.int .i64 0) := carry hb1 (by simp) (by simp [go_sem])
    have fr : ∀ j, w2.frozen? ⟨w.heap.size, j, none⟩ = false := fun j => carryF hb1 (by simp) (by simp [go_sem])
    have HB1 : Hid (Below w.heap.size w w2) := (below_al _ _).trans (hb1.mono (by simp))
    clear hb1
    go_wp2_with fail
    refine (HP.out _).mono ?_
    rintro e w3 ⟨rfl, rfl⟩
    go_wp2
    exact bodyPost_ret (v := .agg #[.int .i64 1, .string ⟨#[]⟩, .int .i64 0]) (by simp [results, Try.results5, go_sem, r0, r1, r2]) rfl ⟨rfl, ((HB1.out.setCell (by simp) _).setCell (by simp) _).setCell (by simp) _⟩
  · rw [h0] at HT
    rw [decide_eq_true h3] at HP
    rw [h4] at HC
    rw [h4, h5]
    clear h0 h1 h2 h3 h4 h5
    go_enter Try.func5, Try.ntmps5
    go_wp2_with fail
    refine (HT.out _).mono ?_
    rintro e w1 ⟨rfl, rfl⟩
    go_wp2_with fail
    refine (HC.out _).mono ?_
    rintro e w2 ⟨rfl, hb1⟩
    have r0 : w2.cell? ⟨w.heap.size, 0, none⟩ = some (.int .i64 0) := carry hb1 (by simp) (by simp [go_sem])
    have r1 : w2.cell? ⟨w.heap.size, 1, none⟩ = some (.string ⟨#[]⟩) := carry hb1 (by simp) (by simp [go_sem])
    have r2 : w2.cell? ⟨w.heap.size, 2, none⟩ = some (.int .i64 0) := carry hb1 (by simp) (by simp [go_sem])
    have fr : ∀ j, w2.frozen? ⟨w.heap.size, j, none⟩ = false := fun j => carryF hb1 (by simp) (by simp [go_sem])
    have HB1 : Hid (Below w.heap.size w w2) := (below_al _ _).trans (hb1.mono (by simp))
    clear hb1
    go_wp2_with fail
    refine (HP.out _).mono ?_
    rintro e w3 ⟨rfl, rfl⟩
    go_wp2
    exact bodyPost_ret (v := .agg #[.int .i64 4, .string ⟨#[]⟩, .int .i64 0]) (by simp [results, Try.results5, go_sem, r0, r1, r2]) rfl ⟨rfl, ((HB1.out.setCell (by simp) _).setCell (by simp) _).setCell (by simp) _⟩
  · rw [h0] at HT
    rw [decide_eq_true h4] at HP
    have d3 := lst_ne (l := []) h5
    rw [h6]
    clear h0 h1 h2 h4 h5 h6
    generalize clS s = c at *
    go_enter Try.func5, Try.ntmps5
    go_wp2_with fail
    refine (HT.out _).mono ?_
    rintro e w1 ⟨rfl, rfl⟩
    go_wp2_with fail
    refine (HC.out _).mono ?_
    rintro e w2 ⟨rfl, hb1⟩
    have r0 : w2.cell? ⟨w.heap.size, 0, none⟩ = some (.int .i64 0) := carry hb1 (by simp) (by simp [go_sem])
    have r1 : w2.cell? ⟨w.heap.size, 1, none⟩ = some (.string ⟨#[]⟩) := carry hb1 (by simp) (by simp [go_sem])
    have r2 : w2.cell? ⟨w.heap.size, 2, none⟩ = some (.int .i64 0) := carry hb1 (by simp) (by simp [go_sem])
    have fr : ∀ j, w2.frozen? ⟨w.heap.size, j, none⟩ = false := fun j => carryF hb1 (by simp) (by simp [go_sem])
    have HB1 : Hid (Below w.heap.size w w2) := (below_al _ _).trans (hb1.mono (by simp))
    clear hb1
    go_wp2_with fail
    refine (HP.out _).mono ?_
    rintro e w3 ⟨rfl, rfl⟩
    go_wp2
    exact bodyPost_ret (v := .agg #[.int .i64 5, .string c, .int .i64 0]) (by simp [results, Try.results5, go_sem, r0, r1, r2]) rfl ⟨rfl, ((HB1.out.setCell (by simp) _).setCell (by simp) _).setCell (by simp) _⟩
  · rw [h0] at HT
    rw [decide_eq_false h4] at HP
    have d3 := lst_ne (l := []) h5
    rw [h6]
    clear h0 h1 h2 h4 h5 h6
    generalize clS s = c at *
    go_enter Try.func5, Try.ntmps5
    go_wp2_with fail
    refine (HT.out _).mono ?_
    rintro e w1 ⟨rfl, rfl⟩
    go_wp2_with fail
    refine (HC.out _).mono ?_
    rintro e w2 ⟨rfl, hb1⟩
    have r0 : w2.cell? ⟨w.heap.size, 0, none⟩ = some (.int .i64 0) := carry hb1 (by simp) (by simp [go_sem])
    have r1 : w2.cell? ⟨w.heap.size, 1, none⟩ = some (.string ⟨#[]⟩) := carry hb1 (by simp) (by simp [go_sem])
    have r2 : w2.cell? ⟨w.heap.size, 2, none⟩ = some (.int .i64 0) := carry hb1 (by simp) (by simp [go_sem])
    have fr : ∀ j, w2.frozen? ⟨w.heap.size, j, none⟩ = false := fun j => carryF hb1 (by simp) (by simp [go_sem])
    have HB1 : Hid (Below w.heap.size w w2) := (below_al _ _).trans (hb1.mono (by simp))
    clear hb1
    go_wp2_with fail
    refine (HP.out _).mono ?_
    rintro e w3 ⟨rfl, rfl⟩
    go_wp2
    exact bodyPost_ret (v := .agg #[.int .i64 3, .string c, .int .i64 0]) (by simp [results, Try.results5, go_sem, r0, r1, r2]) rfl ⟨rfl, ((HB1.out.setCell (by simp) _).setCell (by simp) _).setCell (by simp) _⟩
theorem lawEqType (k1 k2 a1 a2 : Int) (c1 c2 : ByteArray) (w : World) (h1 : k1 = k2) (h2 : c1 = c2) (h3 : a1 = a2) :
    Calls Try.prog 6 #[.agg #[.int .i64 k1, .string c1, .int .i64 a1], .agg #[.int .i64 k2, .string c2, .int .i64 a2]] w fun e w' => e = .returned (.bool true) ∧ Below w.heap.size w w' := by
  subst h1 h2 h3
  have d1 : (k1 != k1) = false := by simp
  have d2 : (c1.toList == c1.toList) = true := by simp
  have d3 : (a1 != a1) = false := by simp
  go_enter Try.func6, Try.ntmps6
  go_wp2
  go_ret
  exact ⟨rfl, by first | exact Below.refl _ _ | exact (below_al _ _).alloc (by simp) _⟩
end Go.Proofs.Ytpalmhojjgbkfal
