import Derived.Test.YtnenhhlgabghfaaGreatDoorTokC
import Derived.Test.YtnenhhlgabghfaaGreatDoorCR0
import Derived.Test.YtnenhhlgabghfaaGreatDoorScope
/-
 A right class's numbers are bytes.
-/
namespace Go.Proofs.YtnenhhlgabghfaaGreatDoor
open Go.RowKit
set_option maxRecDepth 20000
set_option linter.unusedVariables false

theorem mOk_facts (m : MethD) (h : mOk m = true) : m.code.length ≤ 60 ∧ m.hands.length ≤ 6 ∧ (0 ≤ m.stack ∧ m.stack ≤ 16) ∧ (0 ≤ m.locals ∧ m.locals ≤ 16) ∧ codeB m.code m.code.length = true ∧ handsB m.hands m.code.length = true := by
 unfold mOk at h
 simp only [Bool.and_eq_true, decide_eq_true_eq] at h
 obtain ⟨_, _, h1, h2, h3, h4, h5⟩ := h
 cases ha : m.abs
 ·rw [ha] at h5
  simp only [cond_false] at h5
  unfold restB at h5
  simp only [Bool.and_eq_true, decide_eq_true_eq] at h5
  exact ⟨h5.1.2, h5.2.2.1, ⟨h1, h2⟩, ⟨h3, h4⟩, h5.2.2.2.1, h5.2.2.2.2.1⟩
 ·rw [ha] at h5
  simp only [cond_true] at h5
  unfold absB at h5
  simp only [Bool.and_eq_true, beq_iff_eq] at h5
  have e1 : m.code = [] := List.eq_nil_of_length_eq_zero h5.2.2.1
  have e2 : m.hands = [] := List.eq_nil_of_length_eq_zero h5.2.2.2.1
  refine ⟨by omega, by omega, ⟨h1, h2⟩, ⟨h3, h4⟩, ?_, ?_⟩
  ·rw [e1]; rfl
  ·rw [e2]; rfl

theorem fl3_ok (a b c : Bool) : 0 ≤ fl3 a b c ∧ fl3 a b c ≤ 255 := by cases a <;> cases b <;> cases c <;> decide

theorem insTok_ok (x : InsD) (many : Int) (h : insGood x many = true) : ∀ t ∈ insTok x, numOk t := by
 have h1 : insOk (fmS x.1) x.2.1 x.2.2.1 x.2.2.2.1 x.2.2.2.2 = true := by
  unfold insGood at h
  simp only [Bool.and_eq_true] at h
  exact h.1
 have hop : 1 ≤ x.1 ∧ x.1 < 45 := by
  rcases Classical.em (1 ≤ x.1 ∧ x.1 < 45) with k | k
  ·exact k
  ·have e : fmS x.1 = ⟨#[33]⟩ := by unfold fmS; rw [if_neg k]
   rw [e, insOk_x] at h1
   cases h1
 intro t ht
 unfold insTok at ht
 rcases List.mem_cons.1 ht with rfl | ht
 ·show 0 ≤ x.1 ∧ x.1 ≤ 255
  omega
 ·rcases fmS_cases x.1 with e | e | e | e | e | e | e | e | e <;> rw [e] at ht h1
  ·rw [insArg_e] at ht; cases ht
  ·rw [insArg_n] at ht; simp only [List.mem_singleton] at ht; subst ht; trivial
  ·rw [insArg_i] at ht; simp only [List.mem_singleton] at ht; subst ht
   rw [insOk_i] at h1
   simp only [isP, Bool.and_eq_true, decide_eq_true_eq] at h1
   show 0 ≤ x.2.1 ∧ x.2.1 ≤ 255
   omega
  ·rw [insArg_t] at ht; simp only [List.mem_singleton] at ht; subst ht
   rw [insOk_t] at h1
   simp only [isP, Bool.and_eq_true, decide_eq_true_eq] at h1
   show 0 ≤ x.2.1 ∧ x.2.1 ≤ 255
   omega
  ·rw [insArg_c] at ht; simp only [List.mem_singleton] at ht; subst ht; trivial
  ·rw [insArg_y] at ht; simp only [List.mem_singleton] at ht; subst ht; trivial
  ·rw [insArg_f] at ht; simp only [List.mem_cons, List.not_mem_nil, or_false] at ht; rcases ht with rfl | rfl | rfl <;> trivial
  ·rw [insArg_m] at ht; simp only [List.mem_cons, List.not_mem_nil, or_false] at ht; rcases ht with rfl | rfl | rfl <;> trivial
  ·rw [insArg_x] at ht; cases ht

theorem hanTok_ok (x : HandlerD) (many : Nat) (hm : many ≤ 60) (h : hGood x many = true) : ∀ t ∈ hanTok x, numOk t := by
 unfold hGood at h
 simp only [Bool.and_eq_true, decide_eq_true_eq] at h
 intro t ht
 unfold hanTok at ht
 simp only [List.mem_cons, List.not_mem_nil, or_false] at ht
 rcases ht with rfl | rfl | rfl | rfl
 ·show 0 ≤ _ ∧ _; omega
 ·show 0 ≤ _ ∧ _; omega
 ·show 0 ≤ _ ∧ _; omega
 ·trivial
theorem fldTok_ok (x : FieldD) : ∀ t ∈ fldTok x, numOk t := by
 intro t ht
 unfold fldTok at ht
 simp only [List.mem_cons, List.not_mem_nil, or_false] at ht
 rcases ht with rfl | rfl | rfl
 ·trivial
 ·trivial
 ·exact fl3_ok _ _ _
theorem mthTok_ok (x : MTup) (h : mOk (mD x) = true) : ∀ t ∈ mthTok x, numOk t := by
 obtain ⟨h1, h2, h3, h4, h5, h6⟩ := mOk_facts _ h
 intro t ht
 unfold mthTok at ht
 simp only [List.mem_append, List.mem_cons, List.not_mem_nil, or_false, List.mem_flatMap] at ht
 rcases ht with (rfl | rfl | rfl | rfl | rfl | rfl) | ⟨y, hy, ht⟩ | rfl | ⟨y, hy, ht⟩
 ·trivial
 ·trivial
 ·exact fl3_ok _ _ _
 ·show 0 ≤ _ ∧ _; omega
 ·show 0 ≤ _ ∧ _; omega
 ·show 0 ≤ _ ∧ _; omega
 ·exact insTok_ok y _ (List.all_eq_true.1 h5 y hy) t ht
 ·show 0 ≤ _ ∧ _; omega
 ·exact hanTok_ok y _ h1 (List.all_eq_true.1 h6 y hy) t ht
theorem clsTok_ok (c : ClsD) (h : ClsP c) : ∀ t ∈ clsTok c, numOk t := by
 intro t ht
 have := h.fl
 have := h.ml
 unfold clsTok at ht
 simp only [List.mem_append, List.mem_cons, List.not_mem_nil, or_false, List.mem_flatMap] at ht
 rcases ht with (rfl | rfl | rfl | rfl) | ⟨y, hy, ht⟩ | rfl | ⟨y, hy, ht⟩
 ·trivial
 ·trivial
 ·exact fl3_ok _ _ _
 ·show 0 ≤ _ ∧ _; omega
 ·exact fldTok_ok y t ht
 ·show 0 ≤ _ ∧ _; omega
 ·obtain ⟨i, hi, rfl⟩ := List.mem_iff_getElem.1 hy
  exact mthTok_ok _ (h.mg i hi).1 t ht
theorem clsP_lens (c : ClsD) (h : ClsP c) : ∀ x ∈ c.meths, (mD x).code.length ≤ 60 ∧ (mD x).hands.length ≤ 6 := by
 intro x hx
 obtain ⟨i, hi, rfl⟩ := List.mem_iff_getElem.1 hx
 obtain ⟨h1, h2, _⟩ := mOk_facts _ (h.mg i hi).1
 exact ⟨h1, h2⟩
/-- What a class's bytes hold: its pool and what stands behind it. -/
def madeS (m : ClsD) : WS := tksS ([], []) (clsTok m)
theorem tksS_bytes_le (l : List Tok) : ∀ a : WS, a.2.length ≤ (tksS a l).2.length := by
 induction l with
 | nil => intro a; exact Nat.le_refl _
 | cons t l ih =>
  intro a
  rw [tksS_cons]
  refine Nat.le_trans ?_ (ih _)
  cases t <;> simp [tkS]
theorem made_pos (m : ClsD) : 0 < (madeS m).2.length := by
 have h := tksS_bytes_le ((clsTok m).tail) (tkS ([], []) (.t m.name))
 have e : madeS m = tksS (tkS ([], []) (.t m.name)) (clsTok m).tail := rfl
 rw [e]
 refine Nat.lt_of_lt_of_le ?_ h
 simp [tkS]
theorem tksS_mem (l : List Tok) : ∀ (a : WS) (p : ByteArray), p ∈ (tksS a l).1 → p ∈ a.1 ∨ Tok.t p ∈ l := by
 induction l with
 | nil => intro a p h; exact .inl h
 | cons t l ih =>
  intro a p h
  rw [tksS_cons] at h
  rcases ih _ p h with h | h
  ·cases t with
   | n x => exact .inl h
   | r s => exact .inl h
   | t s =>
    have h2 : p ∈ mkPool a.1 s := h
    unfold mkPool at h2
    split at h2
    ·exact .inl h2
    ·rcases List.mem_append.1 h2 with h3 | h3
     ·exact .inl h3
     ·rw [List.mem_singleton] at h3; subst h3; exact .inr (by simp)
  ·exact .inr (by simp [h])
theorem cls_sizes {m : ClsD} {vc vh : Value} {w : World} (s0 : m.name.size ≤ maxLen) (s1 : m.super.size ≤ maxLen) (hc : fieldR.slice.In w [vc] m.fields) (hh : methR.slice.In w [vh] m.meths) : ∀ p, Tok.t p ∈ clsTok m → p.size ≤ maxLen := by
 intro p hp
 obtain ⟨a, ca, _, _, _, hat⟩ := slice_open (by decide) hc
 obtain ⟨b, cb, _, _, _, hbt⟩ := slice_open (by decide) hh
 unfold clsTok at hp
 simp only [List.mem_append, List.mem_cons, List.not_mem_nil, or_false, List.mem_flatMap, reduceCtorEq, false_or, Tok.t.injEq] at hp
 rcases hp with (rfl | rfl) | ⟨y, hy, hp⟩ | ⟨y, hy, hp⟩
 ·exact s0
 ·exact s1
 ·obtain ⟨i, hi, rfl⟩ := List.mem_iff_getElem.1 hy
  obtain ⟨_, _, _, hx⟩ := hat i hi
  obtain ⟨_, _, _, z0, z1⟩ := fieldAt hx
  unfold fldTok at hp
  simp only [List.mem_cons, List.not_mem_nil, or_false, reduceCtorEq, Tok.t.injEq] at hp
  rcases hp with rfl | rfl
  ·exact z0
  ·exact z1
 ·obtain ⟨i, hi, rfl⟩ := List.mem_iff_getElem.1 hy
  obtain ⟨_, _, _, hx⟩ := hbt i hi
  obtain ⟨vc, vh, _, _, _, _, _, _, _, _, _, z0, z1, _, _, h7, h8⟩ := methAt hx
  obtain ⟨xa, xca, _, _, _, hxa⟩ := slice_open (by decide) h7
  obtain ⟨xb, xcb, _, _, _, hxb⟩ := slice_open (by decide) h8
  unfold mthTok at hp
  simp only [List.mem_append, List.mem_cons, List.not_mem_nil, or_false, List.mem_flatMap, reduceCtorEq, false_or, Tok.t.injEq] at hp
  rcases hp with (rfl | rfl) | ⟨q, hq, hp⟩ | ⟨q, hq, hp⟩
  ·exact z0
  ·exact z1
  ·obtain ⟨j, hj, rfl⟩ := List.mem_iff_getElem.1 hq
   obtain ⟨_, _, _, hx⟩ := hxa j hj
   obtain ⟨_, _, _, _, _, _, _, y0, y1, y2⟩ := insAt hx
   unfold insTok insArg at hp
   rcases List.mem_cons.1 hp with hp | hp
   ·cases hp
   ·repeat' split at hp
    all_goals simp only [List.mem_cons, List.not_mem_nil, or_false, reduceCtorEq, Tok.t.injEq] at hp
    all_goals first
     | (subst hp; assumption)
     | (rcases hp with rfl | rfl | rfl <;> assumption)
  ·obtain ⟨j, hj, rfl⟩ := List.mem_iff_getElem.1 hq
   obtain ⟨_, _, _, hx⟩ := hxb j hj
   obtain ⟨_, _, _, _, y0⟩ := handlerAt hx
   unfold hanTok at hp
   simp only [List.mem_cons, List.not_mem_nil, or_false, reduceCtorEq, false_or, Tok.t.injEq] at hp
   subst hp
   exact y0
theorem made_sizes {m : ClsD} {vc vh : Value} {w : World} (s0 : m.name.size ≤ maxLen) (s1 : m.super.size ≤ maxLen) (hc : fieldR.slice.In w [vc] m.fields) (hh : methR.slice.In w [vh] m.meths) : ∀ p ∈ (madeS m).1, p.size ≤ maxLen := fun p hp => by
 rcases tksS_mem (clsTok m) ([], []) p hp with h | h
 ·cases h
 ·exact cls_sizes s0 s1 hc hh p h

/-- The pool's texts, as they are put. -/
def poolNums (ps : List ByteArray) : List Int := ps.flatMap fun t => nums (putT t)
def bytesOf (st : WS) : ByteArray := strOfNums ([67, 70, 1, (st.1.length : Int)] ++ poolNums st.1 ++ st.2)
noncomputable def clsT (m : ClsD) : ByteArray := @ite _ (ClsP m ∧ (madeS m).1.length ≤ 200) (Classical.propDecidable _) (bytesOf (madeS m)) ⟨#[]⟩
theorem clsT_yes {m : ClsD} (h : ClsP m) (hl : (madeS m).1.length ≤ 200) : clsT m = bytesOf (madeS m) := by unfold clsT; exact @if_pos _ (Classical.propDecidable _) ⟨h, hl⟩ _ _ _
theorem clsT_no {m : ClsD} (h : ¬ (ClsP m ∧ (madeS m).1.length ≤ 200)) : clsT m = ⟨#[]⟩ := by unfold clsT; exact @if_neg _ (Classical.propDecidable _) h _ _ _
theorem putT_size (s : ByteArray) : (putT s).size ≤ 256 := by
 unfold putT
 split
 ·next h =>
  have := p1_size (s.size : Int)
  rw [ByteArray.size_append]
  omega
 ·decide
theorem poolNums_length (ps : List ByteArray) : (poolNums ps).length ≤ ps.length * 256 := by
 induction ps with
 | nil => simp [poolNums]
 | cons a l ih =>
  have h := putT_size a
  unfold poolNums at *
  rw [List.flatMap_cons, List.length_append, nums_length, List.length_cons]
  omega
theorem poolNums_take (ps : List ByteArray) (i : Nat) (h : i < ps.length) : poolNums (ps.take (i + 1)) = poolNums (ps.take i) ++ nums (putT ps[i]) := by
 have e : ps.take (i + 1) = ps.take i ++ [ps[i]] := by rw [List.take_add_one, List.getElem?_eq_getElem h]; rfl
 unfold poolNums
 rw [e, List.flatMap_append]
 simp
theorem strOfNums_nums (a b : List Int) : strOfNums (a ++ nums (strOfNums b)) = strOfNums (a ++ b) := by
 have e : ∀ x : Int, UInt8.ofNat (Int.toNat ((UInt8.ofNat x.toNat).toNat : Int)) = UInt8.ofNat x.toNat := fun x => by
  rw [Int.toNat_natCast, UInt8.ofNat_toNat]
 apply ByteArray.ext
 apply Array.ext'
 rw [strOfNums_data, strOfNums_data, List.map_append, List.map_append]
 congr 1
 unfold nums
 rw [strOfNums_data, List.map_map, List.map_map]
 apply List.map_congr_left
 intro x _
 exact e x
end Go.Proofs.YtnenhhlgabghfaaGreatDoor
