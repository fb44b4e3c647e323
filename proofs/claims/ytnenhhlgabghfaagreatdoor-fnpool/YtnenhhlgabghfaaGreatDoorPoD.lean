/-
  The draw of a class for its pool, and what the pool of a class of texts of U is: no text twice, the name and the super first, each method's name among them, at most 200.
-/
import Derived.Test.YtnenhhlgabghfaaGreatDoorPool
import Derived.Test.YtnenhhlgabghfaaGreatDoorDrd
namespace Go.Proofs.YtnenhhlgabghfaaGreatDoor
open Go.RowKit
set_option maxRecDepth 20000
set_option linter.unusedVariables false
theorem tksS_nodup (l : List Tok) : ∀ a : WS, a.1.Nodup → (tksS a l).1.Nodup := by
  induction l with
  | nil => intro a h; exact h
  | cons t l ih =>
    intro a h
    rw [tksS_cons]
    cases t with
    | n x => exact ih _ h
    | r s => exact ih _ h
    | t s => exact ih _ (mkPool_nodup h s)
theorem made_nodup (m : ClsD) : (madeS m).1.Nodup := tksS_nodup _ _ List.nodup_nil
theorem mkPool_mem {ps : List ByteArray} {t : ByteArray} : (∀ p ∈ ps, p ∈ mkPool ps t) ∧ t ∈ mkPool ps t := by
  unfold mkPool
  split
  · next h =>
    refine ⟨fun p hp => hp, ?_⟩
    unfold plc at h
    obtain ⟨x, hx, he⟩ := List.findIdx_lt_length.1 h
    by_cases e : x = t
    · rw [← e]; exact hx
    · rw [text_ne' e] at he; cases he
  · exact ⟨fun p hp => List.mem_append_left _ hp, by simp⟩
theorem tksS_has (l : List Tok) : ∀ (a : WS) (p : ByteArray), (p ∈ a.1 ∨ Tok.t p ∈ l) → p ∈ (tksS a l).1 := by
  induction l with
  | nil => intro a p h; exact h.elim id (fun h => by cases h)
  | cons t l ih =>
    intro a p h
    rw [tksS_cons]
    refine ih _ _ ?_
    rcases h with h | h
    · refine .inl ?_
      cases t with
      | n x => exact h
      | r s => exact h
      | t s => exact mkPool_mem.1 p h
    · rcases List.mem_cons.1 h with h | h
      · subst h
        exact .inl mkPool_mem.2
      · exact .inr h
theorem tksS_pre (l : List Tok) : ∀ a : WS, ∃ r, (tksS a l).1 = a.1 ++ r := by
  induction l with
  | nil => intro a; exact ⟨[], by simp [tksS]⟩
  | cons t l ih =>
    intro a
    rw [tksS_cons]
    obtain ⟨r, hr⟩ := ih (tkS a t)
    rw [hr]
    cases t with
    | n x => exact ⟨r, rfl⟩
    | r s => exact ⟨r, rfl⟩
    | t s =>
      show ∃ r', mkPool a.1 s ++ r = a.1 ++ r'
      unfold mkPool
      split
      · exact ⟨r, rfl⟩
      · exact ⟨s :: r, by simp⟩
theorem made_two {m : ClsD} (hne : m.name ≠ m.super) : ∃ r, (madeS m).1 = m.name :: m.super :: r := by
  have e1 : mkPool [] m.name = [m.name] := by
    unfold mkPool
    rw [plc_none (by intro j hj; simp at hj), if_neg (by simp)]
    rfl
  have e2 : mkPool [m.name] m.super = [m.name, m.super] := by
    unfold mkPool
    rw [plc_none (by intro j hj; match j, hj with | 0, _ => exact text_ne' hne), if_neg (by simp)]
    rfl
  unfold madeS clsTok
  simp only [List.cons_append, List.nil_append, tksS_cons]
  obtain ⟨r, hr⟩ := tksS_pre (m.fields.flatMap fldTok ++ ([Tok.n (m.meths.length : Int)] ++ m.meths.flatMap mthTok)) (tkS (tkS (tkS (tkS ([], []) (.t m.name)) (.t m.super)) (.n (fl3 m.fin m.abs false))) (.n (m.fields.length : Int)))
  refine ⟨r, ?_⟩
  have : (tkS (tkS (tkS (tkS ([], []) (.t m.name)) (.t m.super)) (.n (fl3 m.fin m.abs false))) (.n (m.fields.length : Int))).1 = [m.name, m.super] := by
    show mkPool (mkPool [] m.name) m.super = _
    rw [e1, e2]
  rw [this] at hr
  simpa using hr
theorem made_names (m : ClsD) : ∀ x ∈ m.meths, (mD x).name ∈ (madeS m).1 := fun x hx => tksS_has _ _ _ (.inr (by
  unfold clsTok
  refine List.mem_append_right _ (List.mem_append_right _ (List.mem_append_right _ (List.mem_flatMap.2 ⟨x, hx, ?_⟩)))
  unfold mthTok
  simp))
theorem nodup_len : ∀ (l L : List ByteArray), l.Nodup → (∀ x ∈ l, x ∈ L) → l.length ≤ L.length
  | [], _, _, _ => Nat.zero_le _
  | x :: xs, L, hn, hs => by
    have hx := hs x (by simp)
    have h1 := nodup_len xs (L.eraseP fun y => decide (y = x)) (List.nodup_cons.1 hn).2 fun y hy => (List.mem_eraseP_of_neg (by simp only [decide_eq_true_eq]; intro e; subst e; exact (List.nodup_cons.1 hn).1 hy)).2 (hs y (by simp [hy]))
    have h2 := List.length_eraseP_of_mem (p := fun y => decide (y = x)) hx (by simp)
    have h3 := List.length_pos_of_mem hx
    simp only [List.length_cons]
    omega
theorem cls_U {n0 s0 : ByteArray} {c : CT} (ho : okC n0 s0 c) : ∀ p, Tok.t p ∈ clsTok (cOf c) → p ∈ n0 :: s0 :: U := by
  intro p hp
  unfold clsTok at hp
  simp only [List.mem_append, List.mem_cons, List.not_mem_nil, or_false, List.mem_flatMap, reduceCtorEq, false_or, Tok.t.injEq] at hp
  have up : ∀ {t : ByteArray}, t ∈ U → t ∈ n0 :: s0 :: U := fun h => List.mem_cons_of_mem _ (List.mem_cons_of_mem _ h)
  rcases hp with (rfl | rfl) | ⟨y, hy, hp⟩ | ⟨y, hy, hp⟩
  · exact ho.nm
  · exact ho.su
  · have h1 := ho.fs y hy
    unfold fldTok at hp
    simp only [List.mem_cons, List.not_mem_nil, or_false, reduceCtorEq, Tok.t.injEq] at hp
    rcases hp with rfl | rfl
    · exact up h1.1
    · exact up h1.2
  · obtain ⟨x, hx, rfl⟩ := List.mem_map.1 hy
    have h1 := ho.ms x hx
    unfold mthTok at hp
    simp only [List.mem_append, List.mem_cons, List.not_mem_nil, or_false, List.mem_flatMap, reduceCtorEq, false_or, Tok.t.injEq] at hp
    rcases hp with (rfl | rfl) | ⟨d, hd, hp⟩ | ⟨d, hd, hp⟩
    · exact up h1.nm
    · exact up h1.ds
    · have h2 := h1.cs d hd
      unfold insTok insArg at hp
      rcases List.mem_cons.1 hp with hp | hp
      · cases hp
      · repeat' split at hp
        all_goals simp only [List.mem_cons, List.not_mem_nil, or_false, reduceCtorEq, Tok.t.injEq] at hp
        all_goals first
          | (subst hp; first | exact up h2.2.2.1 | exact up h2.2.2.2.1 | exact up h2.2.2.2.2)
          | (rcases hp with rfl | rfl | rfl <;> first | exact up h2.2.2.1 | exact up h2.2.2.2.1 | exact up h2.2.2.2.2)
    · have h2 := h1.hs d hd
      unfold hanTok at hp
      simp only [List.mem_cons, List.not_mem_nil, or_false, reduceCtorEq, false_or, Tok.t.injEq] at hp
      subst hp
      exact up h2.2.2.2
theorem made_U {n0 s0 : ByteArray} {c : CT} (ho : okC n0 s0 c) : ∀ p ∈ (madeS (cOf c)).1, p ∈ n0 :: s0 :: U := fun p hp => by
  rcases tksS_mem (clsTok (cOf c)) ([], []) p hp with h | h
  · cases h
  · exact cls_U ho p h
theorem made_200 {n0 s0 : ByteArray} {c : CT} (ho : okC n0 s0 c) : (madeS (cOf c)).1.length ≤ 200 := by
  have h := nodup_len _ _ (made_nodup (cOf c)) (made_U ho)
  have := U_len
  simp only [List.length_cons] at h
  omega
/-- How many of the first so many names are just this text. -/
def hits (ms : List ByteArray) (t : ByteArray) : Nat → Nat
  | 0 => 0
  | k + 1 => hits ms t k + if ms[k]? = some t then 1 else 0
def tot (ms ps : List ByteArray) : Nat → Nat
  | 0 => 0
  | i + 1 => tot ms ps i + (match ps[i]? with | some t => hits ms t ms.length | none => 0)
theorem hits_le (ms : List ByteArray) (t : ByteArray) : ∀ k, hits ms t k ≤ k
  | 0 => Nat.le_refl _
  | k + 1 => by have := hits_le ms t k; unfold hits; split <;> omega
/-- The other way round: of the first so many pool texts, how many are the names at each place. -/
def col (ps : List ByteArray) (x : Option ByteArray) : Nat → Nat
  | 0 => 0
  | i + 1 => col ps x i + if ps[i]? = x ∧ i < ps.length then 1 else 0
def tot2 (ms ps : List ByteArray) (i : Nat) : Nat → Nat
  | 0 => 0
  | k + 1 => tot2 ms ps i k + col ps ms[k]? i
theorem tot2_s (ms ps : List ByteArray) (i k : Nat) : tot2 ms ps i (k + 1) = tot2 ms ps i k + col ps ms[k]? i := rfl
theorem col_s (ps : List ByteArray) (x : Option ByteArray) (i : Nat) : col ps x (i + 1) = col ps x i + if ps[i]? = x ∧ i < ps.length then 1 else 0 := rfl
theorem hits_s (ms : List ByteArray) (t : ByteArray) (k : Nat) : hits ms t (k + 1) = hits ms t k + if ms[k]? = some t then 1 else 0 := rfl
theorem tot2_zero (ms ps : List ByteArray) : ∀ k, tot2 ms ps 0 k = 0
  | 0 => rfl
  | k + 1 => by unfold tot2; rw [tot2_zero ms ps k]; rfl
theorem tot2_succ (ms ps : List ByteArray) (i : Nat) (hi : i < ps.length) : ∀ k, tot2 ms ps (i + 1) k = tot2 ms ps i k + hits ms ps[i] k
  | 0 => rfl
  | k + 1 => by
    rw [tot2_s, tot2_s, tot2_succ ms ps i hi k, col_s, hits_s, List.getElem?_eq_getElem hi]
    by_cases h : ms[k]? = some ps[i]
    · rw [if_pos ⟨h.symm, hi⟩, if_pos h]; omega
    · rw [if_neg (fun q => h q.1.symm), if_neg h]; omega
theorem tot_eq (ms ps : List ByteArray) : ∀ i, i ≤ ps.length → tot ms ps i = tot2 ms ps i ms.length
  | 0, _ => (tot2_zero _ _ _).symm
  | i + 1, h => by
    rw [tot2_succ ms ps i (by omega)]
    unfold tot
    rw [tot_eq ms ps i (by omega), List.getElem?_eq_getElem (by omega)]
theorem col_none {ps : List ByteArray} {x : ByteArray} : ∀ i, (∀ j, j < i → ps[j]? ≠ some x) → col ps (some x) i = 0
  | 0, _ => rfl
  | i + 1, h => by
    unfold col
    rw [col_none i fun j hj => h j (by omega), if_neg (fun q => h i (by omega) q.1)]
theorem col_one {ps : List ByteArray} (hn : ps.Nodup) {x : ByteArray} {j : Nat} (hj : j < ps.length) (hx : ps[j] = x) : ∀ i, j < i → col ps (some x) i = 1
  | 0, h => by omega
  | i + 1, h => by
    unfold col
    have ne : ∀ a, a < ps.length → a ≠ j → ps[a]? ≠ some x := fun a ha hne e => by
      rw [List.getElem?_eq_getElem ha] at e
      have e2 : ps[a] = ps[j] := (Option.some.inj e).trans hx.symm
      rcases Nat.lt_or_ge a j with h1 | h1
      · exact (List.pairwise_iff_getElem.1 hn) a j ha hj h1 e2
      · exact (List.pairwise_iff_getElem.1 hn) j a hj ha (by omega) e2.symm
    by_cases hij : i = j
    · subst hij
      rw [col_none i fun a ha => ne a (by omega) (by omega), if_pos ⟨by rw [List.getElem?_eq_getElem hj, hx], hj⟩]
    · rw [col_one hn hj hx i (by omega), if_neg (fun q => ne i q.2 hij q.1)]
theorem tot2_all {ms ps : List ByteArray} (hn : ps.Nodup) (hm : ∀ x ∈ ms, x ∈ ps) : ∀ k, k ≤ ms.length → tot2 ms ps ps.length k = k
  | 0, _ => rfl
  | k + 1, h => by
    unfold tot2
    rw [tot2_all hn hm k (by omega), List.getElem?_eq_getElem (by omega)]
    obtain ⟨j, hj, hx⟩ := List.mem_iff_getElem.1 (hm ms[k] (List.getElem_mem _))
    rw [col_one hn hj hx _ hj]
theorem tot_all {ms ps : List ByteArray} (hn : ps.Nodup) (hm : ∀ x ∈ ms, x ∈ ps) : tot ms ps ps.length = ms.length := by
  rw [tot_eq ms ps _ (Nat.le_refl _), tot2_all hn hm _ (Nat.le_refl _)]
set_option maxHeartbeats 1000000 in
theorem drawPoolOf (a : Option Addr) (len cap : Nat) (zs : List Int) (w : World) (hr : IsRow .u8 w a len cap zs) (hl : len ≤ 1048576) :
    Calls Tryz.prog 4 #[.slice a len cap] w fun e w' => ∃ c vf vm, e = .returned (.agg #[.string (CT.nm c), .string c.su, .bool c.fi, .bool c.ab, vf, vm]) ∧ okC ⟨#[65]⟩ ⟨#[79, 98, 106, 101, 99, 116]⟩ c ∧ RwC w' w.heap.size c vf vm ∧ Below w.heap.size w w' := by
  have HR : Hid (RB ⟨a, len, cap, zs⟩ w.heap.size) := fun x hx hz => by
    rcases hr with ⟨h, _⟩ | ⟨y, hy, h1, h2, h3, h4, h5⟩
    · simp_all
    · have e : x = y := by simpa [hy] using hx.symm
      subst e
      have hl := World.block_lt_of_cell? w _ (h4 0 hz)
      rwa [add_block] at hl
  have HC0 : Hid (C6 (w.alloc (cObj ⟨#[]⟩ ⟨#[]⟩ false false)) w.heap.size CT.zero (.slice none 0 0) (.slice none 0 0)) := C6.made w _ _ _ _
  have HB0 : Hid (Below w.heap.size w (w.alloc (cObj ⟨#[]⟩ ⟨#[]⟩ false false))) := lit_below
  have hr0 : IsRow .u8 (w.alloc (cObj ⟨#[]⟩ ⟨#[]⟩ false false)) a len cap zs := hr.mono fun x hx i hi => by
    rcases hr with ⟨h, _⟩ | ⟨y, hy, h1, h2, h3, h4, h5⟩
    · simp_all
    · have e : x = y := by simpa [hy] using hx.symm
      subst e
      have := h4 i hi
      exact (carry lit_below (World.block_lt_of_cell? w _ this) this).trans this.symm
  clear hr
  go_enter Tryz.func4, Tryz.ntmps4
  go_wp2_with fail
  refine (srcMake a len cap zs _ hr0 hl).mono ?_
  rintro e w1 ⟨rfl, hS1, hb1⟩
  have hz : w.heap.size < w1.heap.size := by have := hb1.size; simp [cObj] at this; omega
  have HB : Hid (Below w.heap.size w w1) := HB0.out.trans (hb1.mono (by simp [cObj]))
  have HC1 : Hid (C6 w1 w.heap.size CT.zero (.slice none 0 0) (.slice none 0 0)) := HC0.out.of_block (hb1.block _ (by simp [cObj]))
  have hS2 : Src ⟨a, len, cap, zs⟩ w1 (w.heap.size + 1) := by simpa [cObj] using hS1
  clear hr0 hb1 HC0 HB0 hS1
  go_wp2_with fail
  refine (srcClass (w.heap.size + 1) _ _ _ hS2 (HR.out.mono (Nat.le_of_lt hz))).mono ?_
  rintro e w2 ⟨c, vf, vm, rfl, ho, hw, hs, hk⟩
  have HX : Hid (okC ⟨#[65]⟩ ⟨#[79, 98, 106, 101, 99, 116]⟩ c ∧ RwC w2 (w.heap.size + 1) c vf vm ∧ Below w.heap.size w w2) := ⟨ho, hw.low hz, HB.out.trans ⟨hk.os, hk.tape, hk.output, hk.size, fun j hj => hk.block j (by omega) (by omega)⟩⟩
  obtain ⟨y0, y1, y2, y3, y4, y5, fy⟩ := HC1.out.of_block (hk.block _ hz (by show w.heap.size ≠ w.heap.size + 1; omega))
  clear hl hS2 ho hw hs hk HC1
  have st : ∀ (X : World) (j : Nat) (v : Value), RwC X (w.heap.size + 1) c vf vm ∧ Below w.heap.size w X → RwC (X.setCell ⟨w.heap.size, j, none⟩ v) (w.heap.size + 1) c vf vm ∧ Below w.heap.size w (X.setCell ⟨w.heap.size, j, none⟩ v) := fun X j v h =>
    ⟨h.1.blocks fun k hk _ => Below.heap_setCell _ _ _ _ (by show k ≠ w.heap.size; omega), h.2.setCell (p := ⟨w.heap.size, j, none⟩) (Nat.le_refl _) v⟩
  have HY : Hid (RwC ((((((w2.setCell ⟨w.heap.size, 0, none⟩ (.string c.nm)).setCell ⟨w.heap.size, 1, none⟩ (.string c.su)).setCell ⟨w.heap.size, 2, none⟩ (.bool c.fi)).setCell ⟨w.heap.size, 3, none⟩ (.bool c.ab)).setCell ⟨w.heap.size, 4, none⟩ vf).setCell ⟨w.heap.size, 5, none⟩ vm) (w.heap.size + 1) c vf vm ∧ Below w.heap.size w ((((((w2.setCell ⟨w.heap.size, 0, none⟩ (.string c.nm)).setCell ⟨w.heap.size, 1, none⟩ (.string c.su)).setCell ⟨w.heap.size, 2, none⟩ (.bool c.fi)).setCell ⟨w.heap.size, 3, none⟩ (.bool c.ab)).setCell ⟨w.heap.size, 4, none⟩ vf).setCell ⟨w.heap.size, 5, none⟩ vm)) := st _ _ _ (st _ _ _ (st _ _ _ (st _ _ _ (st _ _ _ (st _ _ _ HX.out.2)))))
  clear st
  obtain ⟨tp, tc, rfl⟩ := own_sn HX.out.2.1.f
  obtain ⟨up, uc, rfl⟩ := own_sn HX.out.2.1.m
  go_wp2
  exact bodyPost_ret (v := .agg #[.string c.nm, .string c.su, .bool c.fi, .bool c.ab, .slice tp c.fs.length tc, .slice up c.ms.length uc]) (by simp [results, Tryz.results4, go_sem, y0, y1, y2, y3, y4, y5]) rfl ⟨c, _, _, rfl, HX.out.1, HY.out.1.low (by omega), HY.out.2⟩
end Go.Proofs.YtnenhhlgabghfaaGreatDoor
