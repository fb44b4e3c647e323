import Derived.Test.YtlfmedfclgabdaaGreatDoorLa2
import Derived.Test.YtlfmedfclgabdaaGreatDoorWdT
/-
 The least type above two: what the program finds is what the model tells, and 'below' goes by it.
-/
namespace Go.Proofs.YtlfmedfclgabdaaGreatDoor
open Go.RowKit
set_option maxRecDepth 20000
set_option linter.unusedVariables false
theorem com_mem {L : List CTup} {b : ByteArray} (hb : b ≠ tE) : ∀ W, comL L b W = b → b ∈ W.map nmC := by
 intro W
 induction W with
 | nil => intro h; exact absurd h.symm hb
 | cons c t ih =>
  intro h
  unfold comL at h
  split at h
  ·exact List.mem_map.2 ⟨c, List.mem_cons_self, h⟩
  ·exact List.mem_cons_of_mem _ (ih h)
theorem CH_suf {L : List CTup} (hA : AcyG nmC suC (allC L)) : ∀ (W : List CTup) (n : ByteArray), CH nmC suC (allC L) n = W → ∀ c ∈ W, CH nmC suC (allC L) (nmC c) <:+ W := by
 intro W
 induction W with
 | nil => intro n _ c hc; cases hc
 | cons d t ih =>
  intro n hn c hc
  cases e : lkG nmC (allC L) n with
  | none => rw [CH_none e] at hn; cases hn
  | some x =>
   have h2 := hA.CH_some e
   rw [hn] at h2
   have hx : d = x ∧ t = CH nmC suC (allC L) (suC x) := by simpa using h2
   obtain ⟨rfl, ht⟩ := hx
   rcases List.mem_cons.1 hc with rfl | hc
   ·rw [(lkG_some e).2, hn]
    exact List.suffix_refl _
   ·exact (ih _ ht.symm c hc).trans (List.suffix_cons _ _)
theorem sb_self {L : List CTup} (hA : AcyG nmC suC (allC L)) {b : ByteArray} (hk : knB L b = true) : sbC L b b = true := by
 rcases kn_alt L b with ⟨k, _⟩ | ⟨c, _, _, hn, e, _⟩
 ·rw [k] at hk; cases hk
 ·unfold sbC
  rw [hA.CH_some e]
  simp [hn]
theorem com_at {L : List CTup} (hA : AcyG nmC suC (allC L)) {b : ByteArray} (hk : knB L b = true) : ∀ (W : List CTup) (n : ByteArray), CH nmC suC (allC L) n = W → b ∈ W.map nmC → comL L b W = b := by
 intro W
 induction W with
 | nil => intro n _ h; cases h
 | cons d t ih =>
  intro n hn hm
  cases e : lkG nmC (allC L) n with
  | none => rw [CH_none e] at hn; cases hn
  | some x =>
   have h2 := hA.CH_some e
   rw [hn] at h2
   have hx : d = x ∧ t = CH nmC suC (allC L) (suC x) := by simpa using h2
   obtain ⟨rfl, ht⟩ := hx
   have hnd := hA.CH_nodup n
   rw [hn] at hnd
   unfold comL
   by_cases hd : nmC d = b
   ·rw [hd, sb_self hA hk]; rfl
   ·have hmt : b ∈ t.map nmC := by
     rcases List.mem_cons.1 (by simpa using hm : b ∈ nmC d :: t.map nmC) with h | h
     ·exact absurd h.symm hd
     ·exact h
    have hno : sbC L b (nmC d) = false := by
     cases hs : sbC L b (nmC d) with
     | false => rfl
     | true =>
      unfold sbC at hs
      obtain ⟨y, hy, ey⟩ := List.any_eq_true.1 hs
      simp only [decide_eq_true_eq] at ey
      obtain ⟨c, hc, hcb⟩ := List.mem_map.1 hmt
      have hsf := CH_suf hA t _ ht.symm c hc
      rw [hcb] at hsf
      have : nmC d ∈ t.map nmC := List.mem_map.2 ⟨y, hsf.subset hy, ey⟩
      rw [List.map_cons, List.nodup_cons] at hnd
      exact absurd this hnd.1
    rw [hno]
    exact ih _ ht.symm hmt
theorem com_sub {L : List CTup} (hR : Right L) {a b : ByteArray} (hk : knB L b = true) : (comL L b (CH nmC suC (allC L) a) = b) ↔ sbC L a b = true := by
 constructor
 ·intro h
  obtain ⟨c, hc, e⟩ := List.mem_map.1 (com_mem (kn_size hR hk).2 _ h)
  unfold sbC
  exact List.any_eq_true.2 ⟨c, hc, by simpa using e⟩
 ·intro h
  unfold sbC at h
  obtain ⟨c, hc, e⟩ := List.any_eq_true.1 h
  exact com_at hR.acy hk _ a rfl (List.mem_map.2 ⟨c, hc, by simpa using e⟩)
theorem tk_cases {L : List CTup} {k a : Int} {c : ByteArray} (h : tkB L k c a = true) :
  ((k = 0 ∨ k = 1 ∨ k = 2 ∨ k = 4 ∨ k = 7) ∧ c = tE ∧ a = 0) ∨ ((k = 3 ∨ k = 5) ∧ knB L c = true ∧ a = 0) ∨ (k = 6 ∧ knB L c = true ∧ 0 ≤ a ∧ a < 60) := by
 unfold tkB at h
 split at h
 ·rename_i hk
  simp only [Bool.and_eq_true, decide_eq_true_eq] at h
  exact .inl ⟨hk, h⟩
 ·split at h
  ·rename_i hk
   simp only [Bool.and_eq_true, decide_eq_true_eq] at h
   exact .inr (.inl ⟨hk, h⟩)
  ·split at h
   ·rename_i hk
    simp only [Bool.and_eq_true, decide_eq_true_eq] at h
    exact .inr (.inr ⟨hk, h⟩)
   ·cases h
/-- Is a type below another, as the model tells it? -/
noncomputable def sle (L : List CTup) (a b : TyD) : Bool :=
 if a = b ∨ b.1 = 0 then true else if a.1 = 2 then decide (b.1 = 3 ∨ b.1 = 4 ∨ b.1 = 5)
 else if (a.1 = 3 ∧ b.1 = 3) ∨ (a.1 = 5 ∧ b.1 = 5) then sbC L a.2.1 b.2.1
 else if (a.1 = 4 ∨ a.1 = 5) ∧ b.1 = 3 then decide (b.2.1 = objN) else false
theorem le_eq {L : List CTup} (hR : Right L) {a b : TyD} (ha : tkB L a.1 a.2.1 a.2.2 = true) (hb : tkB L b.1 b.2.1 b.2.2 = true) : sle L a b = decide (flub L a b = b) := by
 obtain ⟨k, c, x⟩ := a
 obtain ⟨l, d, y⟩ := b
 have key : ∀ c d : ByteArray, knB L d = true → ¬ c = d → sbC L c d = decide (comL L d (CH nmC suC (allC L) c) = d) := fun c d hd hcd => by
  rw [Bool.eq_iff_iff, decide_eq_true_eq]
  exact (com_sub hR hd).symm
 have hoN : ∀ c : ByteArray, knB L c = true → ¬ c = tE := fun c h => (kn_size hR h).2
 rcases tk_cases ha with ⟨hk, hc, hx⟩ | ⟨hk, hc, hx⟩ | ⟨hk, hc, hx⟩ <;> rcases tk_cases hb with ⟨hl, hd, hy⟩ | ⟨hl, hd, hy⟩ | ⟨hl, hd, hy⟩
 all_goals simp only at hk hl hc hd hx hy
 all_goals first | (rcases hk with rfl | rfl | rfl | rfl | rfl) | (rcases hk with rfl | rfl) | subst hk
 all_goals first | (rcases hl with rfl | rfl | rfl | rfl | rfl) | (rcases hl with rfl | rfl) | subst hl
 all_goals try subst hx
 all_goals try subst hy
 all_goals first
  | (by_cases e : c = d
     ·subst e; simp [sle, flub, obK, zT]; done
     ·have := key c d hd e; simp [sle, flub, obK, zT, e, this]; done)
  | (simp [sle, flub, obK, zT, hc, hd]; done)
  | (simp [sle, flub, obK, zT, hc]; exact eq_comm)
  | (by_cases e : c = d <;> by_cases e2 : x = y <;> simp [sle, flub, obK, zT, e, e2]; done)
end Go.Proofs.YtlfmedfclgabdaaGreatDoor
