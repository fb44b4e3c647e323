import Derived.Test.YtlfmedfclgabdaaGreatDoorLb
import Derived.Test.YtlfmedfclgabdaaGreatDoorLc
import Derived.Deep.RegionHeld3
/-
 The least type above two of the model.
-/
namespace Go.Proofs.YtlfmedfclgabdaaGreatDoor
open Go.RowKit
set_option maxRecDepth 20000
set_option linter.unusedVariables false
theorem cp1 {w : World} {p q : Addr} {v : Value} (h : q.block ≠ p.block) : (w.setCell p v).cell? q = w.cell? q := World.cell?_of_block (Below.heap_setCell _ _ _ _ (by simpa using h))
theorem cp3 {w : World} {b : Nat} {v0 v1 v2 : Value} {q : Addr} (h : q.block ≠ b) : (((w.setCell ⟨b, 0, none⟩ v0).setCell ⟨b, 1, none⟩ v1).setCell ⟨b, 2, none⟩ v2).cell? q = w.cell? q := (cp1 h).trans ((cp1 h).trans (cp1 h))
set_option maxRecDepth 100000 in
set_option maxHeartbeats 16000000 in
theorem specL06LubB (L : List CTup) (v : Value) (a b : TyD) (w : World) (h : classR.slice.In w [v] L) (hR : Right L) (ha : tkB L a.1 a.2.1 a.2.2 = true) (hb : tkB L b.1 b.2.1 b.2.2 = true) (hn : nmK a.1 ∧ nmK b.1) :
  Calls Tryz.prog 40 #[v, tvL a, tvL b] w fun e w' => e = .returned (tvL (flub L a b)) ∧ Below w.heap.size w w' := by
 obtain ⟨k, c, x⟩ := a
 obtain ⟨l, d, y⟩ := b
 have HC : Hid (∀ w' c d, knB L c = true → Below w.heap.size w w' → Calls Tryz.prog 73 #[v, .string c, .string d] w' fun e w2 => e = .returned (.string (comL L d (CH nmC suC (allC L) c))) ∧ Below w'.heap.size w' w2) := fun w' c d hk hb => specCommon L v c d w' (classR.slice.mono _ _ _ _ hb h) hR hk
 obtain ⟨va, vcap, rfl, _⟩ := slice_open (by decide) h
 have HB4 : Hid (∀ o1 o2 o3 o4, Below w.heap.size w ((((w.alloc o1).alloc o2).alloc o3).alloc o4)) := fun o1 o2 o3 o4 => (below_al3 w o1 o2 o3).alloc (by simp; omega) o4
 have HB5 : Hid (∀ o1 o2 o3 o4 o5, Below w.heap.size w (((((w.alloc o1).alloc o2).alloc o3).alloc o4).alloc o5)) := fun o1 o2 o3 o4 o5 => (HB4.out o1 o2 o3 o4).alloc (by simp; omega) o5
 have HB6 : Hid (∀ o1 o2 o3 o4 o5 o6, Below w.heap.size w ((((((w.alloc o1).alloc o2).alloc o3).alloc o4).alloc o5).alloc o6)) := fun o1 o2 o3 o4 o5 o6 => (HB5.out o1 o2 o3 o4 o5).alloc (by simp; omega) o6
 have hcd : ∀ {c d : ByteArray}, c.toList = d.toList → c = d := fun {c d} e => WideShapes.bytes_inj (by rw [← ByteArray.toList_eq, ← ByteArray.toList_eq, e])
 clear h
 obtain ⟨hk, hl⟩ := hn
 unfold nmK at hk hl
 have hck : knB L c = true ∧ (k = 6 ∨ x = 0) := by
  rcases tk_cases ha with ⟨h1, _⟩ | ⟨_, h2, h3⟩ | ⟨h1, h2, _⟩
  ·simp only at h1 hk; omega
  ·exact ⟨h2, .inr h3⟩
  ·exact ⟨h2, .inl h1⟩
 have hdk : knB L d = true ∧ (l = 6 ∨ y = 0) := by
  rcases tk_cases hb with ⟨h1, _⟩ | ⟨_, h2, h3⟩ | ⟨h1, h2, _⟩
  ·simp only at h1 hl; omega
  ·exact ⟨h2, .inr h3⟩
  ·exact ⟨h2, .inl h1⟩
 clear ha hb
 simp only at hk hl
 unfold tvL
 simp only
 by_cases hab : k = l ∧ c = d ∧ x = y
 ·obtain ⟨rfl, rfl, rfl⟩ := hab
  have HF : Hid (flub L (k, c, x) (k, c, x) = (k, c, x)) := by show _ = _; unfold flub; rw [if_pos rfl]
  rw [HF.out]
  clear HF HC hdk hck hl
  rcases hk with rfl | rfl | rfl
  all_goals
   go_enter Tryz.func40, Tryz.ntmps40
   go_wp2
  all_goals exact bodyPost_ret (v := .agg #[.int .i64 _, .string c, .int .i64 x]) (by simp [results, Tryz.results40, go_sem]) rfl ⟨rfl, by first | exact HB4.out _ _ _ _ | exact HB5.out _ _ _ _ _ | exact HB6.out _ _ _ _ _ _⟩
 have HN := (show Hid _ from hab)
 clear hab
 have HF : Hid (flub L (k, c, x) (l, d, y) = if (!obK k || !obK l) = true then zT else if k = 2 then (l, d, y) else if l = 2 then (k, c, x) else if k = l then (k, comL L d (CH nmC suC (allC L) c), 0) else (3, objN, 0)) := by
  show _ = _
  unfold flub
  rw [if_neg (fun e => HN.out (by simpa using e))]
 rcases hk with rfl | rfl | rfl <;> rcases hl with rfl | rfl | rfl
 -- 33
 ·obtain rfl : x = 0 := by omega
  obtain rfl : y = 0 := by omega
  have hct : ¬ c.toList = d.toList := fun e => HN.out ⟨rfl, hcd e, rfl⟩
  have HZ : Hid (flub L (3, c, 0) (3, d, 0) = (3, comL L d (CH nmC suC (allC L) c), 0)) := by show _ = _; rw [HF.out]; simp [obK]
  have HC1 := (show Hid _ from fun w' => HC.out w' c d hck.1)
  have HSX : Hid (∀ o3 o4 w', Below ((((w.alloc (.cells #[.int .i64 3, .string c, .int .i64 0] 30)).alloc (.cells #[.int .i64 3, .string d, .int .i64 0] 30)).alloc o3).alloc o4).heap.size ((((w.alloc (.cells #[.int .i64 3, .string c, .int .i64 0] 30)).alloc (.cells #[.int .i64 3, .string d, .int .i64 0] 30)).alloc o3).alloc o4) w' → w'.cell? ⟨w.heap.size, 0, none⟩ = some (.int .i64 3) ∧ w'.cell? ⟨w.heap.size, 1, none⟩ = some (.string c) ∧ w'.cell? ⟨w.heap.size + 1, 1, none⟩ = some (.string d)) := fun o3 o4 w' hb => ⟨carry hb (by first | (simp; done) | (simp; omega)) (by simp [go_sem]), carry hb (by first | (simp; done) | (simp; omega)) (by simp [go_sem]), carry hb (by first | (simp; done) | (simp; omega)) (by simp [go_sem])⟩
  clear HF HC hck hdk HN
  go_enter Tryz.func40, Tryz.ntmps40
  go_wp2
  go_region_held3 (fun w' => w'.cell? ⟨w.heap.size, 0, none⟩ = some (.int .i64 3) ∧ w'.cell? ⟨w.heap.size, 1, none⟩ = some (.string c) ∧ w'.cell? ⟨w.heap.size + 1, 1, none⟩ = some (.string d))
   (first | exact HSX.out _ _ _ (Below.refl _ _) | exact HSX.out _ _ _ (Below.refl _ _).drew | (go_split_ands; first | exact HST.out _ _ _ | exact HSX.out _ _ _ hb1x))
   (first | (go_at_call 73; refine Calls.mono (HC1.out _ (HB4.out _ _ _ _).drew) ?_; rintro e w1 ⟨rfl, hb1⟩; have hb1x := (Below.refl _ _).drew.trans hb1; have HB1 : Hid (Below w.heap.size w w1) := (HB4.out _ _ _ _).trans (hb1x.mono (by first | (simp; done) | (simp; omega))); have hz : w.heap.size + 1 + 1 < w1.heap.size := Nat.lt_of_lt_of_le (by first | (simp; done) | (simp; omega)) hb1x.size; have s0 : w1.cell? ⟨w.heap.size + 1 + 1, 0, none⟩ = some (.int .i64 0) := carry hb1x (by first | (simp; done) | (simp; omega)) (by simp [go_sem]); have s1 : w1.cell? ⟨w.heap.size + 1 + 1, 1, none⟩ = some (.string ⟨#[]⟩) := carry hb1x (by first | (simp; done) | (simp; omega)) (by simp [go_sem]); have s2 : w1.cell? ⟨w.heap.size + 1 + 1, 2, none⟩ = some (.int .i64 0) := carry hb1x (by first | (simp; done) | (simp; omega)) (by simp [go_sem]); have fs : ∀ j, w1.frozen? ⟨w.heap.size + 1 + 1, j, none⟩ = false := fun j => carryF hb1x (by first | (simp; done) | (simp; omega)) (by simp [go_sem]); have HST : Hid (∀ v0 v1 v2, (((w1.setCell ⟨w.heap.size + 1 + 1, 0, none⟩ v0).setCell ⟨w.heap.size + 1 + 1, 1, none⟩ v1).setCell ⟨w.heap.size + 1 + 1, 2, none⟩ v2).cell? ⟨w.heap.size, 0, none⟩ = some (.int .i64 3) ∧ (((w1.setCell ⟨w.heap.size + 1 + 1, 0, none⟩ v0).setCell ⟨w.heap.size + 1 + 1, 1, none⟩ v1).setCell ⟨w.heap.size + 1 + 1, 2, none⟩ v2).cell? ⟨w.heap.size, 1, none⟩ = some (.string c) ∧ (((w1.setCell ⟨w.heap.size + 1 + 1, 0, none⟩ v0).setCell ⟨w.heap.size + 1 + 1, 1, none⟩ v1).setCell ⟨w.heap.size + 1 + 1, 2, none⟩ v2).cell? ⟨w.heap.size + 1, 1, none⟩ = some (.string d)) := fun v0 v1 v2 => ⟨(cp3 (by show w.heap.size ≠ _; omega)).trans (HSX.out _ _ _ hb1x).1, (cp3 (by show w.heap.size ≠ _; omega)).trans (HSX.out _ _ _ hb1x).2.1, (cp3 (by show w.heap.size + 1 ≠ _; omega)).trans (HSX.out _ _ _ hb1x).2.2⟩))
  all_goals
   clear hb1 hb1x HSX HST HC1
   go_wp2
   exact bodyPost_ret (v := .agg #[.int .i64 3, .string (comL L d (CH nmC suC (allC L) c)), .int .i64 0]) (by simp [results, Tryz.results40, go_sem, s0, s1, s2]) rfl ⟨by rw [HZ.out], ((HB1.out.setCell (by simp; omega) _).setCell (by simp; omega) _).setCell (by simp; omega) _⟩
 ·go_enter Tryz.func40, Tryz.ntmps40
  go_wp2
  all_goals exact bodyPost_ret (v := .agg #[.int .i64 3, .string objN, .int .i64 0]) (by simp [results, Tryz.results40, go_sem, objN]) rfl ⟨by rw [HF.out]; rfl, by first | exact HB4.out _ _ _ _ | exact HB5.out _ _ _ _ _ | exact HB6.out _ _ _ _ _ _⟩
 ·go_enter Tryz.func40, Tryz.ntmps40
  go_wp2
  all_goals exact bodyPost_ret (v := .agg #[.int .i64 0, .string ⟨#[]⟩, .int .i64 0]) (by simp [results, Tryz.results40, go_sem]) rfl ⟨by rw [HF.out]; rfl, by first | exact HB4.out _ _ _ _ | exact HB5.out _ _ _ _ _ | exact HB6.out _ _ _ _ _ _⟩
 ·go_enter Tryz.func40, Tryz.ntmps40
  go_wp2
  all_goals exact bodyPost_ret (v := .agg #[.int .i64 3, .string objN, .int .i64 0]) (by simp [results, Tryz.results40, go_sem, objN]) rfl ⟨by rw [HF.out]; rfl, by first | exact HB4.out _ _ _ _ | exact HB5.out _ _ _ _ _ | exact HB6.out _ _ _ _ _ _⟩
 -- 55
 ·obtain rfl : x = 0 := by omega
  obtain rfl : y = 0 := by omega
  have hct : ¬ c.toList = d.toList := fun e => HN.out ⟨rfl, hcd e, rfl⟩
  have HZ : Hid (flub L (5, c, 0) (5, d, 0) = (5, comL L d (CH nmC suC (allC L) c), 0)) := by show _ = _; rw [HF.out]; simp [obK]
  have HC1 := (show Hid _ from fun w' => HC.out w' c d hck.1)
  have HSX : Hid (∀ o3 o4 o5 o6 w', Below ((((((w.alloc (.cells #[.int .i64 5, .string c, .int .i64 0] 30)).alloc (.cells #[.int .i64 5, .string d, .int .i64 0] 30)).alloc o3).alloc o4).alloc o5).alloc o6).heap.size ((((((w.alloc (.cells #[.int .i64 5, .string c, .int .i64 0] 30)).alloc (.cells #[.int .i64 5, .string d, .int .i64 0] 30)).alloc o3).alloc o4).alloc o5).alloc o6) w' → w'.cell? ⟨w.heap.size, 0, none⟩ = some (.int .i64 5) ∧ w'.cell? ⟨w.heap.size, 1, none⟩ = some (.string c) ∧ w'.cell? ⟨w.heap.size + 1, 1, none⟩ = some (.string d)) := fun o3 o4 o5 o6 w' hb => ⟨carry hb (by first | (simp; done) | (simp; omega)) (by simp [go_sem]), carry hb (by first | (simp; done) | (simp; omega)) (by simp [go_sem]), carry hb (by first | (simp; done) | (simp; omega)) (by simp [go_sem])⟩
  clear HF HC hck hdk HN
  go_enter Tryz.func40, Tryz.ntmps40
  go_wp2
  go_region_held3 (fun w' => w'.cell? ⟨w.heap.size, 0, none⟩ = some (.int .i64 5) ∧ w'.cell? ⟨w.heap.size, 1, none⟩ = some (.string c) ∧ w'.cell? ⟨w.heap.size + 1, 1, none⟩ = some (.string d))
   (first | exact HSX.out _ _ _ _ _ (Below.refl _ _) | exact HSX.out _ _ _ _ _ (Below.refl _ _).drew | (go_split_ands; first | exact HST.out _ _ _ | exact HSX.out _ _ _ _ _ hb1x))
   (first | (go_at_call 73; refine Calls.mono (HC1.out _ (HB6.out _ _ _ _ _ _).drew) ?_; rintro e w1 ⟨rfl, hb1⟩; have hb1x := (Below.refl _ _).drew.trans hb1; have HB1 : Hid (Below w.heap.size w w1) := (HB6.out _ _ _ _ _ _).trans (hb1x.mono (by first | (simp; done) | (simp; omega))); have hz : w.heap.size + 1 + 1 < w1.heap.size := Nat.lt_of_lt_of_le (by first | (simp; done) | (simp; omega)) hb1x.size; have s0 : w1.cell? ⟨w.heap.size + 1 + 1, 0, none⟩ = some (.int .i64 0) := carry hb1x (by first | (simp; done) | (simp; omega)) (by simp [go_sem]); have s1 : w1.cell? ⟨w.heap.size + 1 + 1, 1, none⟩ = some (.string ⟨#[]⟩) := carry hb1x (by first | (simp; done) | (simp; omega)) (by simp [go_sem]); have s2 : w1.cell? ⟨w.heap.size + 1 + 1, 2, none⟩ = some (.int .i64 0) := carry hb1x (by first | (simp; done) | (simp; omega)) (by simp [go_sem]); have fs : ∀ j, w1.frozen? ⟨w.heap.size + 1 + 1, j, none⟩ = false := fun j => carryF hb1x (by first | (simp; done) | (simp; omega)) (by simp [go_sem]); have HST : Hid (∀ v0 v1 v2, (((w1.setCell ⟨w.heap.size + 1 + 1, 0, none⟩ v0).setCell ⟨w.heap.size + 1 + 1, 1, none⟩ v1).setCell ⟨w.heap.size + 1 + 1, 2, none⟩ v2).cell? ⟨w.heap.size, 0, none⟩ = some (.int .i64 5) ∧ (((w1.setCell ⟨w.heap.size + 1 + 1, 0, none⟩ v0).setCell ⟨w.heap.size + 1 + 1, 1, none⟩ v1).setCell ⟨w.heap.size + 1 + 1, 2, none⟩ v2).cell? ⟨w.heap.size, 1, none⟩ = some (.string c) ∧ (((w1.setCell ⟨w.heap.size + 1 + 1, 0, none⟩ v0).setCell ⟨w.heap.size + 1 + 1, 1, none⟩ v1).setCell ⟨w.heap.size + 1 + 1, 2, none⟩ v2).cell? ⟨w.heap.size + 1, 1, none⟩ = some (.string d)) := fun v0 v1 v2 => ⟨(cp3 (by show w.heap.size ≠ _; omega)).trans (HSX.out _ _ _ _ _ hb1x).1, (cp3 (by show w.heap.size ≠ _; omega)).trans (HSX.out _ _ _ _ _ hb1x).2.1, (cp3 (by show w.heap.size + 1 ≠ _; omega)).trans (HSX.out _ _ _ _ _ hb1x).2.2⟩))
  all_goals
   clear hb1 hb1x HSX HST HC1
   go_wp2
   exact bodyPost_ret (v := .agg #[.int .i64 5, .string (comL L d (CH nmC suC (allC L) c)), .int .i64 0]) (by simp [results, Tryz.results40, go_sem, s0, s1, s2]) rfl ⟨by rw [HZ.out], ((HB1.out.setCell (by simp; omega) _).setCell (by simp; omega) _).setCell (by simp; omega) _⟩
 ·go_enter Tryz.func40, Tryz.ntmps40
  go_wp2
  all_goals exact bodyPost_ret (v := .agg #[.int .i64 0, .string ⟨#[]⟩, .int .i64 0]) (by simp [results, Tryz.results40, go_sem]) rfl ⟨by rw [HF.out]; rfl, by first | exact HB4.out _ _ _ _ | exact HB5.out _ _ _ _ _ | exact HB6.out _ _ _ _ _ _⟩
 ·go_enter Tryz.func40, Tryz.ntmps40
  go_wp2
  all_goals exact bodyPost_ret (v := .agg #[.int .i64 0, .string ⟨#[]⟩, .int .i64 0]) (by simp [results, Tryz.results40, go_sem]) rfl ⟨by rw [HF.out]; rfl, by first | exact HB4.out _ _ _ _ | exact HB5.out _ _ _ _ _ | exact HB6.out _ _ _ _ _ _⟩
 ·go_enter Tryz.func40, Tryz.ntmps40
  go_wp2
  all_goals exact bodyPost_ret (v := .agg #[.int .i64 0, .string ⟨#[]⟩, .int .i64 0]) (by simp [results, Tryz.results40, go_sem]) rfl ⟨by rw [HF.out]; rfl, by first | exact HB4.out _ _ _ _ | exact HB5.out _ _ _ _ _ | exact HB6.out _ _ _ _ _ _⟩
 -- 66
 ·have HZ : Hid (flub L (6, c, x) (6, d, y) = zT) := by show _ = _; rw [HF.out]; rfl
  rw [HZ.out]
  go_enter Tryz.func40, Tryz.ntmps40
  go_wp2
  all_goals first
   | exact absurd ⟨by simp, hcd ‹_›, ‹_›⟩ HN.out
   | exact bodyPost_ret (v := .agg #[.int .i64 0, .string ⟨#[]⟩, .int .i64 0]) (by simp [results, Tryz.results40, go_sem]) rfl ⟨rfl, by first | exact HB4.out _ _ _ _ | exact HB5.out _ _ _ _ _ | exact HB6.out _ _ _ _ _ _⟩
end Go.Proofs.YtlfmedfclgabdaaGreatDoor
