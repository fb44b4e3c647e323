import Derived.Test.YtlfmedfclgabdaaGreatDoorLa2
import Derived.Test.YtlfmedfclgabdaaGreatDoorWi14
import Derived.Deep.RegionHeld3
/-
 The least type above two of the program.
-/
namespace Go.Proofs.YtlfmedfclgabdaaGreatDoor
open Go.RowKit
set_option maxRecDepth 20000
set_option linter.unusedVariables false
theorem co1 {w : World} {p q : Addr} {v : Value} (h : q.block ≠ p.block) : (w.setCell p v).cell? q = w.cell? q := World.cell?_of_block (Below.heap_setCell _ _ _ _ (by simpa using h))
theorem co3 {w : World} {b : Nat} {v0 v1 v2 : Value} {q : Addr} (h : q.block ≠ b) : (((w.setCell ⟨b, 0, none⟩ v0).setCell ⟨b, 1, none⟩ v1).setCell ⟨b, 2, none⟩ v2).cell? q = w.cell? q := (co1 h).trans ((co1 h).trans (co1 h))
theorem implIsObject (k x : Int) (c : ByteArray) (w : World) :
  Calls Tryz.prog 138 #[.agg #[.int .i64 k, .string c, .int .i64 x]] w fun e w' => e = .returned (.bool (obK k)) ∧ Below w.heap.size w w' := by
 have h0 : obK k = (k == 2 || k == 3 || k == 4 || k == 5) := rfl
 go_enter Tryz.func138, Tryz.ntmps138
 go_wp2
 all_goals
  go_ret
  exact ⟨by simp [*], below_al _ _⟩
set_option maxRecDepth 100000 in
set_option maxHeartbeats 8000000 in
theorem implFindLub (L : List CTup) (lv rv : Value) (m : Nat) (a b : TyD) (w : World) (hV : LatV L lv rv m w) (hr : rtB L = true) (ha : twL a) (hb : twL b) :
  Calls Tryz.prog 105 #[laV L lv rv m, tvL a, tvL b] w fun e w' => e = .returned (tvL (flub L a b)) ∧ Below w.heap.size w w' := by
 have hmlt : m < w.heap.size := by obtain ⟨o, hl⟩ := hV.hl; exact hl.lt
 have hR := rt_right hr
 obtain ⟨r, E, es, ck, hrv, hE, hwm⟩ := hV.hk hr
 obtain ⟨la, lk, lc, hlv⟩ := hV.hlv
 subst hrv hlv
 have HC : Hid (∀ w' (c d : ByteArray), c.size ≤ maxLen → d.size ≤ maxLen → Below w.heap.size w w' → Calls Tryz.prog 139 #[.agg #[.slice la lk lc, .map (some r)], .string c, .string d] w' fun e w2 => e = .returned (.string (comL L d (CH nmC suC (allC L) c))) ∧ Below w'.heap.size w' w2) := fun w' c d h1 h2 hb => by
  have := implCommonW (.slice la lk lc) r E es ck c d w' (hwm w' (hb.mono (Nat.le_of_lt hmlt))) ⟨_, _, _, rfl⟩ (all_len' hE hR) h1 h2
  rw [com_eq hR hE, wyE hR.acy hE] at this
  exact this
 have HO : Hid (∀ k x c w', Calls Tryz.prog 138 #[.agg #[.int .i64 k, .string c, .int .i64 x]] w' fun e w2 => e = .returned (.bool (obK k)) ∧ Below w'.heap.size w' w2) := fun k x c w' => implIsObject k x c w'
 obtain ⟨k, c, x⟩ := a
 obtain ⟨l, d, y⟩ := b
 have hc := ha.c
 have hd := hb.c
 clear hV hwm hE ha hb
 simp only [laV, tvL] at *
 rw [hr]
 have HB4 : Hid (∀ o1 o2 o3 o4, Below w.heap.size w ((((w.alloc o1).alloc o2).alloc o3).alloc o4)) := fun o1 o2 o3 o4 => (below_al3 w o1 o2 o3).alloc (by simp; omega) o4
 have hcd : ∀ {c d : ByteArray}, c.toList = d.toList → c = d := fun {c d} e => WideShapes.bytes_inj (by rw [← ByteArray.toList_eq, ← ByteArray.toList_eq, e])
 by_cases hab : k = l ∧ c = d ∧ x = y
 ·obtain ⟨rfl, rfl, rfl⟩ := hab
  have HF : Hid (flub L (k, c, x) (k, c, x) = (k, c, x)) := by show _ = _; unfold flub; rw [if_pos rfl]
  rw [HF.out]
  clear HF HC HO
  go_enter Tryz.func105, Tryz.ntmps105
  go_wp2
  exact bodyPost_ret (v := .agg #[.int .i64 k, .string c, .int .i64 x]) (by simp [results, Tryz.results105, go_sem]) rfl ⟨rfl, HB4.out _ _ _ _⟩
 have HN := (show Hid _ from hab)
 have HF : Hid (flub L (k, c, x) (l, d, y) = if (!obK k || !obK l) = true then zT else if k = 2 then (l, d, y) else if l = 2 then (k, c, x) else if k = l then (k, comL L d (CH nmC suC (allC L) c), 0) else (3, objN, 0)) := by
  show _ = _
  unfold flub
  rw [if_neg (fun e => hab (by simpa using e))]
 by_cases hne : ¬ k = l
 ·skip
  go_enter Tryz.func105, Tryz.ntmps105
  go_wp2_with fail
  refine Calls.mono (HO.out _ _ _ _) ?_
  rintro e w1 ⟨rfl, hb1⟩
  have l0 := cC hb1 (w.heap.size) 0 (.slice la lk lc) (by first | (simp; done) | (simp; omega)) (by simp [go_sem])
  have l1 := cC hb1 (w.heap.size) 1 (.map (some r)) (by first | (simp; done) | (simp; omega)) (by simp [go_sem])
  have a0 := cC hb1 (w.heap.size + 1) 0 (.int .i64 k) (by first | (simp; done) | (simp; omega)) (by simp [go_sem])
  have a1 := cC hb1 (w.heap.size + 1) 1 (.string c) (by first | (simp; done) | (simp; omega)) (by simp [go_sem])
  have a2 := cC hb1 (w.heap.size + 1) 2 (.int .i64 x) (by first | (simp; done) | (simp; omega)) (by simp [go_sem])
  have b0 := cC hb1 (w.heap.size + 1 + 1) 0 (.int .i64 l) (by first | (simp; done) | (simp; omega)) (by simp [go_sem])
  have b1 := cC hb1 (w.heap.size + 1 + 1) 1 (.string d) (by first | (simp; done) | (simp; omega)) (by simp [go_sem])
  have b2 := cC hb1 (w.heap.size + 1 + 1) 2 (.int .i64 y) (by first | (simp; done) | (simp; omega)) (by simp [go_sem])
  have r0 := cC hb1 (w.heap.size + 1 + 1 + 1) 0 (.int .i64 0) (by first | (simp; done) | (simp; omega)) (by simp [go_sem])
  have r1 := cC hb1 (w.heap.size + 1 + 1 + 1) 1 (.string ⟨#[]⟩) (by first | (simp; done) | (simp; omega)) (by simp [go_sem])
  have r2 := cC hb1 (w.heap.size + 1 + 1 + 1) 2 (.int .i64 0) (by first | (simp; done) | (simp; omega)) (by simp [go_sem])
  have fr : ∀ j, w1.frozen? ⟨w.heap.size + 1 + 1 + 1, j, none⟩ = false := fun j => carryF hb1 (by first | (simp; done) | (simp; omega)) (by simp [go_sem])
  have hz : w.heap.size + 1 + 1 + 1 < w1.heap.size := by have := hb1.size; simp at this; omega
  have HB1 : Hid (Below w.heap.size w w1) := (HB4.out _ _ _ _).trans (hb1.mono (by simp; omega))
  clear hb1
  cases hok : obK k
  ·have HZ : Hid (flub L (k, c, x) (l, d, y) = zT) := by show _ = _; rw [HF.out, hok]; rfl
   clear HF HC HO
   go_wp2
   exact bodyPost_ret (v := .agg #[.int .i64 0, .string ⟨#[]⟩, .int .i64 0]) (by simp [results, Tryz.results105, go_sem, r0, r1, r2]) rfl ⟨by rw [HZ.out]; rfl, by first | exact HB1.out | exact (((HB1.out.setCell (by simp; omega) _).setCell (by simp; omega) _).setCell (by simp; omega) _)⟩
  go_wp2_with fail
  refine Calls.mono (HO.out _ _ _ _) ?_
  rintro e w2 ⟨rfl, hb2⟩
  replace l0 := carry hb2 (by show w.heap.size < w1.heap.size; omega) l0
  replace l1 := carry hb2 (by show w.heap.size < w1.heap.size; omega) l1
  replace a0 := carry hb2 (by show w.heap.size + 1 < w1.heap.size; omega) a0
  replace a1 := carry hb2 (by show w.heap.size + 1 < w1.heap.size; omega) a1
  replace a2 := carry hb2 (by show w.heap.size + 1 < w1.heap.size; omega) a2
  replace b0 := carry hb2 (by show w.heap.size + 1 + 1 < w1.heap.size; omega) b0
  replace b1 := carry hb2 (by show w.heap.size + 1 + 1 < w1.heap.size; omega) b1
  replace b2 := carry hb2 (by show w.heap.size + 1 + 1 < w1.heap.size; omega) b2
  replace r0 := carry hb2 (by show w.heap.size + 1 + 1 + 1 < w1.heap.size; omega) r0
  replace r1 := carry hb2 (by show w.heap.size + 1 + 1 + 1 < w1.heap.size; omega) r1
  replace r2 := carry hb2 (by show w.heap.size + 1 + 1 + 1 < w1.heap.size; omega) r2
  replace fr := fun j => carryF hb2 (by show w.heap.size + 1 + 1 + 1 < w1.heap.size; omega) (fr j)
  have HB2 : Hid (Below w.heap.size w w2) := HB1.out.trans (hb2.mono HB1.out.size)
  have hz2 : w.heap.size + 1 + 1 + 1 < w2.heap.size := Nat.lt_of_lt_of_le hz hb2.size
  clear hb2
  cases hol : obK l
  ·have HZ : Hid (flub L (k, c, x) (l, d, y) = zT) := by show _ = _; rw [HF.out, hok, hol]; rfl
   clear HF HC HO
   go_wp2
   exact bodyPost_ret (v := .agg #[.int .i64 0, .string ⟨#[]⟩, .int .i64 0]) (by simp [results, Tryz.results105, go_sem, r0, r1, r2]) rfl ⟨by rw [HZ.out]; rfl, by first | exact HB2.out | exact (((HB2.out.setCell (by simp; omega) _).setCell (by simp; omega) _).setCell (by simp; omega) _)⟩
  have HG : Hid (flub L (k, c, x) (l, d, y) = if k = 2 then (l, d, y) else if l = 2 then (k, c, x) else if k = l then (k, comL L d (CH nmC suC (allC L) c), 0) else (3, objN, 0)) := by show _ = _; rw [HF.out, hok, hol]; rfl
  clear HF HO hok hol
  by_cases k2 : k = 2
  ·have HZ : Hid (flub L (k, c, x) (l, d, y) = (l, d, y)) := by show _ = _; rw [HG.out]; simp [k2]
   have e2 : (k == 2) = true := by simpa using k2
   clear HG HC k2
   go_wp2
   exact bodyPost_ret (v := .agg #[.int .i64 l, .string d, .int .i64 y]) (by simp [results, Tryz.results105, go_sem, r0, r1, r2]) rfl ⟨by rw [HZ.out], by first | exact HB2.out | exact (((HB2.out.setCell (by simp; omega) _).setCell (by simp; omega) _).setCell (by simp; omega) _)⟩
  have e2 : (k == 2) = false := by simpa using k2
  by_cases l2 : l = 2
  ·have HZ : Hid (flub L (k, c, x) (l, d, y) = (k, c, x)) := by show _ = _; rw [HG.out, if_neg k2, if_pos l2]
   have e3 : (l == 2) = true := by simpa using l2
   clear HG HC k2 l2 hne
   go_wp2
   exact bodyPost_ret (v := .agg #[.int .i64 k, .string c, .int .i64 x]) (by simp [results, Tryz.results105, go_sem, r0, r1, r2]) rfl ⟨by rw [HZ.out], by first | exact HB2.out | exact (((HB2.out.setCell (by simp; omega) _).setCell (by simp; omega) _).setCell (by simp; omega) _)⟩
  have e3 : (l == 2) = false := by simpa using l2
  have e4 : (k == l) = false := by simpa using hne
  have HZ : Hid (flub L (k, c, x) (l, d, y) = (3, objN, 0)) := by show _ = _; rw [HG.out, if_neg k2, if_neg l2, if_neg hne]
  clear HG HC k2 l2 hne
  go_wp2
  exact bodyPost_ret (v := .agg #[.int .i64 3, .string ⟨#[79, 98, 106, 101, 99, 116]⟩, .int .i64 0]) (by simp [results, Tryz.results105, go_sem, r0, r1, r2]) rfl ⟨by rw [HZ.out]; rfl, by first | exact HB2.out | exact (((HB2.out.setCell (by simp; omega) _).setCell (by simp; omega) _).setCell (by simp; omega) _)⟩
 ·have hkl : k = l := Classical.byContradiction hne
  subst hkl
  clear hne
  by_cases hce : c = d
  ·subst hce
   have hxy : ¬ x = y := fun e => HN.out ⟨rfl, rfl, e⟩
   go_enter Tryz.func105, Tryz.ntmps105
   go_wp2_with fail
   refine Calls.mono (HO.out _ _ _ _) ?_
   rintro e w1 ⟨rfl, hb1⟩
   have l0 := cC hb1 (w.heap.size) 0 (.slice la lk lc) (by first | (simp; done) | (simp; omega)) (by simp [go_sem])
   have l1 := cC hb1 (w.heap.size) 1 (.map (some r)) (by first | (simp; done) | (simp; omega)) (by simp [go_sem])
   have a0 := cC hb1 (w.heap.size + 1) 0 (.int .i64 k) (by first | (simp; done) | (simp; omega)) (by simp [go_sem])
   have a1 := cC hb1 (w.heap.size + 1) 1 (.string c) (by first | (simp; done) | (simp; omega)) (by simp [go_sem])
   have a2 := cC hb1 (w.heap.size + 1) 2 (.int .i64 x) (by first | (simp; done) | (simp; omega)) (by simp [go_sem])
   have b0 := cC hb1 (w.heap.size + 1 + 1) 0 (.int .i64 k) (by first | (simp; done) | (simp; omega)) (by simp [go_sem])
   have b1 := cC hb1 (w.heap.size + 1 + 1) 1 (.string c) (by first | (simp; done) | (simp; omega)) (by simp [go_sem])
   have b2 := cC hb1 (w.heap.size + 1 + 1) 2 (.int .i64 y) (by first | (simp; done) | (simp; omega)) (by simp [go_sem])
   have r0 := cC hb1 (w.heap.size + 1 + 1 + 1) 0 (.int .i64 0) (by first | (simp; done) | (simp; omega)) (by simp [go_sem])
   have r1 := cC hb1 (w.heap.size + 1 + 1 + 1) 1 (.string ⟨#[]⟩) (by first | (simp; done) | (simp; omega)) (by simp [go_sem])
   have r2 := cC hb1 (w.heap.size + 1 + 1 + 1) 2 (.int .i64 0) (by first | (simp; done) | (simp; omega)) (by simp [go_sem])
   have fr : ∀ j, w1.frozen? ⟨w.heap.size + 1 + 1 + 1, j, none⟩ = false := fun j => carryF hb1 (by first | (simp; done) | (simp; omega)) (by simp [go_sem])
   have hz : w.heap.size + 1 + 1 + 1 < w1.heap.size := by have := hb1.size; simp at this; omega
   have HB1 : Hid (Below w.heap.size w w1) := (HB4.out _ _ _ _).trans (hb1.mono (by simp; omega))
   clear hb1
   cases hok : obK k
   ·have HZ : Hid (flub L (k, c, x) (k, c, y) = zT) := by show _ = _; rw [HF.out, hok]; rfl
    clear HF HC HO
    go_wp2
    exact bodyPost_ret (v := .agg #[.int .i64 0, .string ⟨#[]⟩, .int .i64 0]) (by simp [results, Tryz.results105, go_sem, r0, r1, r2]) rfl ⟨by rw [HZ.out]; rfl, by first | exact HB1.out | exact (((HB1.out.setCell (by simp; omega) _).setCell (by simp; omega) _).setCell (by simp; omega) _)⟩
   go_wp2_with fail
   refine Calls.mono (HO.out _ _ _ _) ?_
   rintro e w2 ⟨rfl, hb2⟩
   replace l0 := carry hb2 (by show w.heap.size < w1.heap.size; omega) l0
   replace l1 := carry hb2 (by show w.heap.size < w1.heap.size; omega) l1
   replace a0 := carry hb2 (by show w.heap.size + 1 < w1.heap.size; omega) a0
   replace a1 := carry hb2 (by show w.heap.size + 1 < w1.heap.size; omega) a1
   replace a2 := carry hb2 (by show w.heap.size + 1 < w1.heap.size; omega) a2
   replace b0 := carry hb2 (by show w.heap.size + 1 + 1 < w1.heap.size; omega) b0
   replace b1 := carry hb2 (by show w.heap.size + 1 + 1 < w1.heap.size; omega) b1
   replace b2 := carry hb2 (by show w.heap.size + 1 + 1 < w1.heap.size; omega) b2
   replace r0 := carry hb2 (by show w.heap.size + 1 + 1 + 1 < w1.heap.size; omega) r0
   replace r1 := carry hb2 (by show w.heap.size + 1 + 1 + 1 < w1.heap.size; omega) r1
   replace r2 := carry hb2 (by show w.heap.size + 1 + 1 + 1 < w1.heap.size; omega) r2
   replace fr := fun j => carryF hb2 (by show w.heap.size + 1 + 1 + 1 < w1.heap.size; omega) (fr j)
   have HB2 : Hid (Below w.heap.size w w2) := HB1.out.trans (hb2.mono HB1.out.size)
   have hz2 : w.heap.size + 1 + 1 + 1 < w2.heap.size := Nat.lt_of_lt_of_le hz hb2.size
   clear hb2
   rw [hok]
   have HG : Hid (flub L (k, c, x) (k, c, y) = if k = 2 then (k, c, y) else if k = 2 then (k, c, x) else if k = k then (k, comL L c (CH nmC suC (allC L) c), 0) else (3, objN, 0)) := by show _ = _; rw [HF.out]; simp [hok]
   clear HF HO hok
   by_cases k2 : k = 2
   ·have HZ : Hid (flub L (k, c, x) (k, c, y) = (k, c, y)) := by show _ = _; rw [HG.out]; simp [k2]
    have e2 : (k == 2) = true := by simpa using k2
    clear HG HC k2
    go_wp2
    exact bodyPost_ret (v := .agg #[.int .i64 k, .string c, .int .i64 y]) (by simp [results, Tryz.results105, go_sem, r0, r1, r2]) rfl ⟨by rw [HZ.out], by first | exact HB2.out | exact (((HB2.out.setCell (by simp; omega) _).setCell (by simp; omega) _).setCell (by simp; omega) _)⟩
   have e2 : (k == 2) = false := by simpa using k2
   have HZ : Hid (flub L (k, c, x) (k, c, y) = (k, comL L c (CH nmC suC (allC L) c), 0)) := by show _ = _; rw [HG.out]; simp [k2]
   have HC1 := (show Hid _ from fun w' => HC.out w' c c hc hd)
   clear HG HC k2
   go_wp2_with fail
   have hz20 : w.heap.size < w2.heap.size := by omega
   have hz21 : w.heap.size + 1 < w2.heap.size := by omega
   have hz22 : w.heap.size + 1 + 1 < w2.heap.size := by omega
   have HSX : Hid (∀ w', Below w2.heap.size w2 w' → w'.cell? ⟨w.heap.size, 0, none⟩ = some (.slice la lk lc) ∧ w'.cell? ⟨w.heap.size, 1, none⟩ = some (.map (some r)) ∧ w'.cell? ⟨w.heap.size + 1, 0, none⟩ = some (.int .i64 k) ∧ w'.cell? ⟨w.heap.size + 1, 1, none⟩ = some (.string c) ∧ w'.cell? ⟨w.heap.size + 1 + 1, 1, none⟩ = some (.string c)) := fun w' hb => ⟨carry hb hz20 l0, carry hb hz20 l1, carry hb hz21 a0, carry hb hz21 a1, carry hb hz22 b1⟩
   go_region_held3 (fun w' => w'.cell? ⟨w.heap.size, 0, none⟩ = some (.slice la lk lc) ∧ w'.cell? ⟨w.heap.size, 1, none⟩ = some (.map (some r)) ∧ w'.cell? ⟨w.heap.size + 1, 0, none⟩ = some (.int .i64 k) ∧ w'.cell? ⟨w.heap.size + 1, 1, none⟩ = some (.string c) ∧ w'.cell? ⟨w.heap.size + 1 + 1, 1, none⟩ = some (.string c))
    (first | exact HSX.out _ (Below.refl _ _) | exact HSX.out _ (Below.refl _ _).drew | (go_split_ands; first | exact HST.out _ _ _ | exact HSX.out _ hb3x))
    (first | (go_at_call 139; refine Calls.mono (HC1.out _ (HB2.out.trans ((Below.refl _ _).drew.mono HB2.out.size))) ?_; rintro e w3 ⟨rfl, hb3⟩; have hb3x : Below w2.heap.size w2 w3 := (Below.refl _ _).drew.trans hb3; have s0 := carry hb3x hz2 r0; have s1 := carry hb3x hz2 r1; have s2 := carry hb3x hz2 r2; have fs := fun j => carryF hb3x hz2 (fr j); have HST : Hid (∀ v0 v1 v2, (((w3.setCell ⟨w.heap.size + 1 + 1 + 1, 0, none⟩ v0).setCell ⟨w.heap.size + 1 + 1 + 1, 1, none⟩ v1).setCell ⟨w.heap.size + 1 + 1 + 1, 2, none⟩ v2).cell? ⟨w.heap.size, 0, none⟩ = some (.slice la lk lc) ∧ (((w3.setCell ⟨w.heap.size + 1 + 1 + 1, 0, none⟩ v0).setCell ⟨w.heap.size + 1 + 1 + 1, 1, none⟩ v1).setCell ⟨w.heap.size + 1 + 1 + 1, 2, none⟩ v2).cell? ⟨w.heap.size, 1, none⟩ = some (.map (some r)) ∧ (((w3.setCell ⟨w.heap.size + 1 + 1 + 1, 0, none⟩ v0).setCell ⟨w.heap.size + 1 + 1 + 1, 1, none⟩ v1).setCell ⟨w.heap.size + 1 + 1 + 1, 2, none⟩ v2).cell? ⟨w.heap.size + 1, 0, none⟩ = some (.int .i64 k) ∧ (((w3.setCell ⟨w.heap.size + 1 + 1 + 1, 0, none⟩ v0).setCell ⟨w.heap.size + 1 + 1 + 1, 1, none⟩ v1).setCell ⟨w.heap.size + 1 + 1 + 1, 2, none⟩ v2).cell? ⟨w.heap.size + 1, 1, none⟩ = some (.string c) ∧ (((w3.setCell ⟨w.heap.size + 1 + 1 + 1, 0, none⟩ v0).setCell ⟨w.heap.size + 1 + 1 + 1, 1, none⟩ v1).setCell ⟨w.heap.size + 1 + 1 + 1, 2, none⟩ v2).cell? ⟨w.heap.size + 1 + 1, 1, none⟩ = some (.string c)) := fun v0 v1 v2 => ⟨(co3 (by show w.heap.size ≠ _; omega)).trans (HSX.out _ hb3x).1, (co3 (by show w.heap.size ≠ _; omega)).trans (HSX.out _ hb3x).2.1, (co3 (by show w.heap.size + 1 ≠ _; omega)).trans (HSX.out _ hb3x).2.2.1, (co3 (by show w.heap.size + 1 ≠ _; omega)).trans (HSX.out _ hb3x).2.2.2.1, (co3 (by show w.heap.size + 1 + 1 ≠ _; omega)).trans (HSX.out _ hb3x).2.2.2.2⟩))
   all_goals
    have HB3 : Hid (Below w.heap.size w w3) := HB2.out.trans (hb3x.mono HB2.out.size)
    clear hb3 hb3x HSX HC1 HST
    go_wp2
    exact bodyPost_ret (v := .agg #[.int .i64 k, .string (comL L c (CH nmC suC (allC L) c)), .int .i64 0]) (by simp [results, Tryz.results105, go_sem, s0, s1, s2]) rfl ⟨by rw [HZ.out], ((HB3.out.setCell (by simp; omega) _).setCell (by simp; omega) _).setCell (by simp; omega) _⟩
  ·have hct : ¬ c.toList = d.toList := fun e => hce (hcd e)
   go_enter Tryz.func105, Tryz.ntmps105
   go_wp2_with fail
   refine Calls.mono (HO.out _ _ _ _) ?_
   rintro e w1 ⟨rfl, hb1⟩
   have l0 := cC hb1 (w.heap.size) 0 (.slice la lk lc) (by first | (simp; done) | (simp; omega)) (by simp [go_sem])
   have l1 := cC hb1 (w.heap.size) 1 (.map (some r)) (by first | (simp; done) | (simp; omega)) (by simp [go_sem])
   have a0 := cC hb1 (w.heap.size + 1) 0 (.int .i64 k) (by first | (simp; done) | (simp; omega)) (by simp [go_sem])
   have a1 := cC hb1 (w.heap.size + 1) 1 (.string c) (by first | (simp; done) | (simp; omega)) (by simp [go_sem])
   have a2 := cC hb1 (w.heap.size + 1) 2 (.int .i64 x) (by first | (simp; done) | (simp; omega)) (by simp [go_sem])
   have b0 := cC hb1 (w.heap.size + 1 + 1) 0 (.int .i64 k) (by first | (simp; done) | (simp; omega)) (by simp [go_sem])
   have b1 := cC hb1 (w.heap.size + 1 + 1) 1 (.string d) (by first | (simp; done) | (simp; omega)) (by simp [go_sem])
   have b2 := cC hb1 (w.heap.size + 1 + 1) 2 (.int .i64 y) (by first | (simp; done) | (simp; omega)) (by simp [go_sem])
   have r0 := cC hb1 (w.heap.size + 1 + 1 + 1) 0 (.int .i64 0) (by first | (simp; done) | (simp; omega)) (by simp [go_sem])
   have r1 := cC hb1 (w.heap.size + 1 + 1 + 1) 1 (.string ⟨#[]⟩) (by first | (simp; done) | (simp; omega)) (by simp [go_sem])
   have r2 := cC hb1 (w.heap.size + 1 + 1 + 1) 2 (.int .i64 0) (by first | (simp; done) | (simp; omega)) (by simp [go_sem])
   have fr : ∀ j, w1.frozen? ⟨w.heap.size + 1 + 1 + 1, j, none⟩ = false := fun j => carryF hb1 (by first | (simp; done) | (simp; omega)) (by simp [go_sem])
   have hz : w.heap.size + 1 + 1 + 1 < w1.heap.size := by have := hb1.size; simp at this; omega
   have HB1 : Hid (Below w.heap.size w w1) := (HB4.out _ _ _ _).trans (hb1.mono (by simp; omega))
   clear hb1
   cases hok : obK k
   ·have HZ : Hid (flub L (k, c, x) (k, d, y) = zT) := by show _ = _; rw [HF.out, hok]; rfl
    clear HF HC HO
    go_wp2
    exact bodyPost_ret (v := .agg #[.int .i64 0, .string ⟨#[]⟩, .int .i64 0]) (by simp [results, Tryz.results105, go_sem, r0, r1, r2]) rfl ⟨by rw [HZ.out]; rfl, by first | exact HB1.out | exact (((HB1.out.setCell (by simp; omega) _).setCell (by simp; omega) _).setCell (by simp; omega) _)⟩
   go_wp2_with fail
   refine Calls.mono (HO.out _ _ _ _) ?_
   rintro e w2 ⟨rfl, hb2⟩
   replace l0 := carry hb2 (by show w.heap.size < w1.heap.size; omega) l0
   replace l1 := carry hb2 (by show w.heap.size < w1.heap.size; omega) l1
   replace a0 := carry hb2 (by show w.heap.size + 1 < w1.heap.size; omega) a0
   replace a1 := carry hb2 (by show w.heap.size + 1 < w1.heap.size; omega) a1
   replace a2 := carry hb2 (by show w.heap.size + 1 < w1.heap.size; omega) a2
   replace b0 := carry hb2 (by show w.heap.size + 1 + 1 < w1.heap.size; omega) b0
   replace b1 := carry hb2 (by show w.heap.size + 1 + 1 < w1.heap.size; omega) b1
   replace b2 := carry hb2 (by show w.heap.size + 1 + 1 < w1.heap.size; omega) b2
   replace r0 := carry hb2 (by show w.heap.size + 1 + 1 + 1 < w1.heap.size; omega) r0
   replace r1 := carry hb2 (by show w.heap.size + 1 + 1 + 1 < w1.heap.size; omega) r1
   replace r2 := carry hb2 (by show w.heap.size + 1 + 1 + 1 < w1.heap.size; omega) r2
   replace fr := fun j => carryF hb2 (by show w.heap.size + 1 + 1 + 1 < w1.heap.size; omega) (fr j)
   have HB2 : Hid (Below w.heap.size w w2) := HB1.out.trans (hb2.mono HB1.out.size)
   have hz2 : w.heap.size + 1 + 1 + 1 < w2.heap.size := Nat.lt_of_lt_of_le hz hb2.size
   clear hb2
   rw [hok]
   have HG : Hid (flub L (k, c, x) (k, d, y) = if k = 2 then (k, d, y) else if k = 2 then (k, c, x) else if k = k then (k, comL L d (CH nmC suC (allC L) c), 0) else (3, objN, 0)) := by show _ = _; rw [HF.out]; simp [hok]
   clear HF HO hok
   by_cases k2 : k = 2
   ·have HZ : Hid (flub L (k, c, x) (k, d, y) = (k, d, y)) := by show _ = _; rw [HG.out]; simp [k2]
    have e2 : (k == 2) = true := by simpa using k2
    clear HG HC k2
    go_wp2
    exact bodyPost_ret (v := .agg #[.int .i64 k, .string d, .int .i64 y]) (by simp [results, Tryz.results105, go_sem, r0, r1, r2]) rfl ⟨by rw [HZ.out], by first | exact HB2.out | exact (((HB2.out.setCell (by simp; omega) _).setCell (by simp; omega) _).setCell (by simp; omega) _)⟩
   have e2 : (k == 2) = false := by simpa using k2
   have HZ : Hid (flub L (k, c, x) (k, d, y) = (k, comL L d (CH nmC suC (allC L) c), 0)) := by show _ = _; rw [HG.out]; simp [k2]
   have HC1 := (show Hid _ from fun w' => HC.out w' c d hc hd)
   clear HG HC k2
   go_wp2_with fail
   have hz20 : w.heap.size < w2.heap.size := by omega
   have hz21 : w.heap.size + 1 < w2.heap.size := by omega
   have hz22 : w.heap.size + 1 + 1 < w2.heap.size := by omega
   have HSX : Hid (∀ w', Below w2.heap.size w2 w' → w'.cell? ⟨w.heap.size, 0, none⟩ = some (.slice la lk lc) ∧ w'.cell? ⟨w.heap.size, 1, none⟩ = some (.map (some r)) ∧ w'.cell? ⟨w.heap.size + 1, 0, none⟩ = some (.int .i64 k) ∧ w'.cell? ⟨w.heap.size + 1, 1, none⟩ = some (.string c) ∧ w'.cell? ⟨w.heap.size + 1 + 1, 1, none⟩ = some (.string d)) := fun w' hb => ⟨carry hb hz20 l0, carry hb hz20 l1, carry hb hz21 a0, carry hb hz21 a1, carry hb hz22 b1⟩
   go_region_held3 (fun w' => w'.cell? ⟨w.heap.size, 0, none⟩ = some (.slice la lk lc) ∧ w'.cell? ⟨w.heap.size, 1, none⟩ = some (.map (some r)) ∧ w'.cell? ⟨w.heap.size + 1, 0, none⟩ = some (.int .i64 k) ∧ w'.cell? ⟨w.heap.size + 1, 1, none⟩ = some (.string c) ∧ w'.cell? ⟨w.heap.size + 1 + 1, 1, none⟩ = some (.string d))
    (first | exact HSX.out _ (Below.refl _ _) | exact HSX.out _ (Below.refl _ _).drew | (go_split_ands; first | exact HST.out _ _ _ | exact HSX.out _ hb3x))
    (first | (go_at_call 139; refine Calls.mono (HC1.out _ (HB2.out.trans ((Below.refl _ _).drew.mono HB2.out.size))) ?_; rintro e w3 ⟨rfl, hb3⟩; have hb3x : Below w2.heap.size w2 w3 := (Below.refl _ _).drew.trans hb3; have s0 := carry hb3x hz2 r0; have s1 := carry hb3x hz2 r1; have s2 := carry hb3x hz2 r2; have fs := fun j => carryF hb3x hz2 (fr j); have HST : Hid (∀ v0 v1 v2, (((w3.setCell ⟨w.heap.size + 1 + 1 + 1, 0, none⟩ v0).setCell ⟨w.heap.size + 1 + 1 + 1, 1, none⟩ v1).setCell ⟨w.heap.size + 1 + 1 + 1, 2, none⟩ v2).cell? ⟨w.heap.size, 0, none⟩ = some (.slice la lk lc) ∧ (((w3.setCell ⟨w.heap.size + 1 + 1 + 1, 0, none⟩ v0).setCell ⟨w.heap.size + 1 + 1 + 1, 1, none⟩ v1).setCell ⟨w.heap.size + 1 + 1 + 1, 2, none⟩ v2).cell? ⟨w.heap.size, 1, none⟩ = some (.map (some r)) ∧ (((w3.setCell ⟨w.heap.size + 1 + 1 + 1, 0, none⟩ v0).setCell ⟨w.heap.size + 1 + 1 + 1, 1, none⟩ v1).setCell ⟨w.heap.size + 1 + 1 + 1, 2, none⟩ v2).cell? ⟨w.heap.size + 1, 0, none⟩ = some (.int .i64 k) ∧ (((w3.setCell ⟨w.heap.size + 1 + 1 + 1, 0, none⟩ v0).setCell ⟨w.heap.size + 1 + 1 + 1, 1, none⟩ v1).setCell ⟨w.heap.size + 1 + 1 + 1, 2, none⟩ v2).cell? ⟨w.heap.size + 1, 1, none⟩ = some (.string c) ∧ (((w3.setCell ⟨w.heap.size + 1 + 1 + 1, 0, none⟩ v0).setCell ⟨w.heap.size + 1 + 1 + 1, 1, none⟩ v1).setCell ⟨w.heap.size + 1 + 1 + 1, 2, none⟩ v2).cell? ⟨w.heap.size + 1 + 1, 1, none⟩ = some (.string d)) := fun v0 v1 v2 => ⟨(co3 (by show w.heap.size ≠ _; omega)).trans (HSX.out _ hb3x).1, (co3 (by show w.heap.size ≠ _; omega)).trans (HSX.out _ hb3x).2.1, (co3 (by show w.heap.size + 1 ≠ _; omega)).trans (HSX.out _ hb3x).2.2.1, (co3 (by show w.heap.size + 1 ≠ _; omega)).trans (HSX.out _ hb3x).2.2.2.1, (co3 (by show w.heap.size + 1 + 1 ≠ _; omega)).trans (HSX.out _ hb3x).2.2.2.2⟩))
   all_goals
    have HB3 : Hid (Below w.heap.size w w3) := HB2.out.trans (hb3x.mono HB2.out.size)
    clear hb3 hb3x HSX HC1 HST
    go_wp2
    exact bodyPost_ret (v := .agg #[.int .i64 k, .string (comL L d (CH nmC suC (allC L) c)), .int .i64 0]) (by simp [results, Tryz.results105, go_sem, s0, s1, s2]) rfl ⟨by rw [HZ.out], ((HB3.out.setCell (by simp; omega) _).setCell (by simp; omega) _).setCell (by simp; omega) _⟩
end Go.Proofs.YtlfmedfclgabdaaGreatDoor
