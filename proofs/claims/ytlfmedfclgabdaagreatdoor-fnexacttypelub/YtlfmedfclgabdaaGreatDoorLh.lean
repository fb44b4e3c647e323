import Derived.Test.YtlfmedfclgabdaaGreatDoorLe
import Derived.Test.YtlfmedfclgabdaaGreatDoorLa
import Derived.Test.YtlfmedfclgabdaaGreatDoorLf
import Derived.Test.YtlfmedfclgabdaaGreatDoorLb
/-
 TypeLub of the model.
-/
namespace Go.Proofs.YtlfmedfclgabdaaGreatDoor
open Go.RowKit
set_option maxRecDepth 20000
set_option linter.unusedVariables false
theorem specL06Lub (L : List CTup) (v : Value) (a b : TyD) (w : World) (h : classR.slice.In w [v] L) (hR : Right L) (ha : tkB L a.1 a.2.1 a.2.2 = true) (hb : tkB L b.1 b.2.1 b.2.2 = true) :
  Calls Tryz.prog 40 #[v, tvL a, tvL b] w fun e w' => e = .returned (tvL (flub L a b)) ∧ Below w.heap.size w w' := by
 by_cases hn : nmK a.1 ∧ nmK b.1
 ·exact specL06LubB L v a b w h hR ha hb hn
 ·obtain ⟨va, vcap, rfl, _⟩ := slice_open (by decide) h
  exact specL06LubA L va L.length vcap a b w ha hb hn
set_option maxHeartbeats 2000000 in
theorem specTypeLub (L : List CTup) (v : Value) (a b : TyD) (w : World) (h : classR.slice.In w [v] L) (ha : twL a) (hb : twL b) :
  Calls Tryz.prog 15 #[v, tvL a, tvL b] w fun e w' => e = .returned (tvL (lubT L a b)) ∧ Below w.heap.size w w' := by
 have HK : Hid (∀ w', Below w.heap.size w w' → Calls Tryz.prog 33 #[v, tvL a] w' fun e w2 => e = .returned (.bool (tkT L a)) ∧ Below w'.heap.size w' w2) := fun w' hb => specTypeKnown L v a.1 a.2.2 a.2.1 w' (classR.slice.mono _ _ _ _ hb h) ha.c
 have HK2 : Hid (∀ w', Below w.heap.size w w' → Calls Tryz.prog 34 #[v, tvL b] w' fun e w2 => e = .returned (.bool (tkB L b.1 b.2.1 b.2.2)) ∧ Below w'.heap.size w' w2) := fun w' hb' => specL06Known L v b.1 b.2.2 b.2.1 w' (classR.slice.mono _ _ _ _ hb' h) hb.c
 have HL : Hid (Right L → tkB L a.1 a.2.1 a.2.2 = true → tkB L b.1 b.2.1 b.2.2 = true → ∀ w', Below w.heap.size w w' → Calls Tryz.prog 40 #[v, tvL a, tvL b] w' fun e w2 => e = .returned (tvL (flub L a b)) ∧ Below w'.heap.size w' w2) := fun hR h1 h2 w' hb => specL06Lub L v a b w' (classR.slice.mono _ _ _ _ hb h) hR h1 h2
 have HTa : Hid (tkT L a = (rtB L && tkB L a.1 a.2.1 a.2.2)) := rfl
 have HTb : Hid (tkT L b = (rtB L && tkB L b.1 b.2.1 b.2.2)) := rfl
 have HLt : Hid (lubT L a b = if (tkT L a && tkT L b) = true then flub L a b else zT) := rfl
 obtain ⟨va, vcap, rfl, _⟩ := slice_open (by decide) h
 obtain ⟨k, c, x⟩ := a
 obtain ⟨l, d, y⟩ := b
 clear h ha hb
 simp only [tvL] at HK HK2 HL HTa HTb ⊢
 cases hka : tkT L (k, c, x)
 ·have HZ : Hid (lubT L (k, c, x) (l, d, y) = zT) := by show _ = _; rw [HLt.out, hka]; rfl
  rw [hka] at HK
  clear HLt HTa HTb HL HK2
  go_enter Tryz.func15, Tryz.ntmps15
  go_wp2_with fail
  refine Calls.mono (HK.out _ (below_al3 w _ _ _)) ?_
  rintro e w1 ⟨rfl, hb1⟩
  have r0 := cC hb1 (w.heap.size + 1 + 1) 0 (.int .i64 0) (by simp) (by simp [go_sem])
  have r1 := cC hb1 (w.heap.size + 1 + 1) 1 (.string ⟨#[]⟩) (by simp) (by simp [go_sem])
  have r2 := cC hb1 (w.heap.size + 1 + 1) 2 (.int .i64 0) (by simp) (by simp [go_sem])
  have fr : ∀ j, w1.frozen? ⟨w.heap.size + 1 + 1, j, none⟩ = false := fun j => carryF hb1 (by simp) (by simp [go_sem])
  have HB1 : Hid (Below w.heap.size w w1) := (below_al3 w _ _ _).trans (hb1.mono (by simp; omega))
  clear hb1
  go_wp2
  exact bodyPost_ret (v := .agg #[.int .i64 0, .string ⟨#[]⟩, .int .i64 0]) (by simp [results, Tryz.results15, go_sem, r0, r1, r2]) rfl ⟨by rw [HZ.out]; rfl, ((HB1.out.setCell (by simp; omega) _).setCell (by simp; omega) _).setCell (by simp; omega) _⟩
 have hrt : rtB L = true ∧ tkB L k c x = true := by have := HTa.out; rw [hka] at this; simpa using this.symm
 rw [hka] at HK
 cases hkb : tkB L l d y
 ·have HZ : Hid (lubT L (k, c, x) (l, d, y) = zT) := by show _ = _; rw [HLt.out, HTb.out, hkb]; simp
  rw [hkb] at HK2
  clear HLt HTa HTb HL
  go_enter Tryz.func15, Tryz.ntmps15
  go_wp2_with fail
  refine Calls.mono (HK.out _ (below_al3 w _ _ _)) ?_
  rintro e w1 ⟨rfl, hb1⟩
  have b0 := cC hb1 (w.heap.size + 1) 0 (.int .i64 l) (by first | (simp; done) | (simp; omega)) (by simp [go_sem])
  have b1 := cC hb1 (w.heap.size + 1) 1 (.string d) (by first | (simp; done) | (simp; omega)) (by simp [go_sem])
  have b2 := cC hb1 (w.heap.size + 1) 2 (.int .i64 y) (by first | (simp; done) | (simp; omega)) (by simp [go_sem])
  have r0 := cC hb1 (w.heap.size + 1 + 1) 0 (.int .i64 0) (by simp) (by simp [go_sem])
  have r1 := cC hb1 (w.heap.size + 1 + 1) 1 (.string ⟨#[]⟩) (by simp) (by simp [go_sem])
  have r2 := cC hb1 (w.heap.size + 1 + 1) 2 (.int .i64 0) (by simp) (by simp [go_sem])
  have fr : ∀ j, w1.frozen? ⟨w.heap.size + 1 + 1, j, none⟩ = false := fun j => carryF hb1 (by simp) (by simp [go_sem])
  have HB1 : Hid (Below w.heap.size w w1) := (below_al3 w _ _ _).trans (hb1.mono (by simp; omega))
  have hz : w.heap.size + 1 + 1 < w1.heap.size := World.block_lt_of_cell? _ ⟨w.heap.size + 1 + 1, 0, none⟩ r0
  clear hb1
  go_wp2_with fail
  refine Calls.mono (HK2.out _ HB1.out) ?_
  rintro e w2 ⟨rfl, hb2⟩
  replace r0 := carry hb2 hz r0
  replace r1 := carry hb2 hz r1
  replace r2 := carry hb2 hz r2
  have fr2 : ∀ j, w2.frozen? ⟨w.heap.size + 1 + 1, j, none⟩ = false := fun j => carryF hb2 hz (fr j)
  have HB2 : Hid (Below w.heap.size w w2) := HB1.out.trans (hb2.mono HB1.out.size)
  clear hb2 b0 b1 b2 fr
  go_wp2
  exact bodyPost_ret (v := .agg #[.int .i64 0, .string ⟨#[]⟩, .int .i64 0]) (by simp [results, Tryz.results15, go_sem, r0, r1, r2]) rfl ⟨by rw [HZ.out]; rfl, ((HB2.out.setCell (by simp; omega) _).setCell (by simp; omega) _).setCell (by simp; omega) _⟩
 have HZ : Hid (lubT L (k, c, x) (l, d, y) = flub L (k, c, x) (l, d, y)) := by show _ = _; rw [HLt.out, hka, HTb.out, hkb, hrt.1]; rfl
 rw [hkb] at HK2
 have HL1 := (show Hid _ from HL.out (rt_right hrt.1) hrt.2 hkb)
 rw [← HZ.out] at HL1
 clear HLt HTa HTb HL HZ hrt hka hkb
 generalize lubT L (k, c, x) (l, d, y) = res at *
 obtain ⟨p, q, s⟩ := res
 simp only at HL1 ⊢
 go_enter Tryz.func15, Tryz.ntmps15
 go_wp2_with fail
 refine Calls.mono (HK.out _ (below_al3 w _ _ _)) ?_
 rintro e w1 ⟨rfl, hb1⟩
 have a0 := cC hb1 (w.heap.size) 0 (.int .i64 k) (by first | (simp; done) | (simp; omega)) (by simp [go_sem])
 have a1 := cC hb1 (w.heap.size) 1 (.string c) (by first | (simp; done) | (simp; omega)) (by simp [go_sem])
 have a2 := cC hb1 (w.heap.size) 2 (.int .i64 x) (by first | (simp; done) | (simp; omega)) (by simp [go_sem])
 have b0 := cC hb1 (w.heap.size + 1) 0 (.int .i64 l) (by first | (simp; done) | (simp; omega)) (by simp [go_sem])
 have b1 := cC hb1 (w.heap.size + 1) 1 (.string d) (by first | (simp; done) | (simp; omega)) (by simp [go_sem])
 have b2 := cC hb1 (w.heap.size + 1) 2 (.int .i64 y) (by first | (simp; done) | (simp; omega)) (by simp [go_sem])
 have r0 := cC hb1 (w.heap.size + 1 + 1) 0 (.int .i64 0) (by simp) (by simp [go_sem])
 have r1 := cC hb1 (w.heap.size + 1 + 1) 1 (.string ⟨#[]⟩) (by simp) (by simp [go_sem])
 have r2 := cC hb1 (w.heap.size + 1 + 1) 2 (.int .i64 0) (by simp) (by simp [go_sem])
 have fr : ∀ j, w1.frozen? ⟨w.heap.size + 1 + 1, j, none⟩ = false := fun j => carryF hb1 (by simp) (by simp [go_sem])
 have HB1 : Hid (Below w.heap.size w w1) := (below_al3 w _ _ _).trans (hb1.mono (by simp; omega))
 have hz : w.heap.size + 1 + 1 < w1.heap.size := World.block_lt_of_cell? _ ⟨w.heap.size + 1 + 1, 0, none⟩ r0
 clear hb1
 go_wp2_with fail
 refine Calls.mono (HK2.out _ HB1.out) ?_
 rintro e w2 ⟨rfl, hb2⟩
 replace a0 := carry hb2 (by show w.heap.size < _; omega) a0
 replace a1 := carry hb2 (by show w.heap.size < _; omega) a1
 replace a2 := carry hb2 (by show w.heap.size < _; omega) a2
 replace b0 := carry hb2 (by show w.heap.size + 1 < _; omega) b0
 replace b1 := carry hb2 (by show w.heap.size + 1 < _; omega) b1
 replace b2 := carry hb2 (by show w.heap.size + 1 < _; omega) b2
 replace r0 := carry hb2 hz r0
 replace r1 := carry hb2 hz r1
 replace r2 := carry hb2 hz r2
 have fr2 : ∀ j, w2.frozen? ⟨w.heap.size + 1 + 1, j, none⟩ = false := fun j => carryF hb2 hz (fr j)
 have HB2 : Hid (Below w.heap.size w w2) := HB1.out.trans (hb2.mono HB1.out.size)
 have hz2 : w.heap.size + 1 + 1 < w2.heap.size := Nat.lt_of_lt_of_le hz hb2.size
 clear hb2 fr
 go_wp2_with fail
 refine Calls.mono (HL1.out _ HB2.out) ?_
 rintro e w3 ⟨rfl, hb3⟩
 replace r0 := carry hb3 hz2 r0
 replace r1 := carry hb3 hz2 r1
 replace r2 := carry hb3 hz2 r2
 have fr3 : ∀ j, w3.frozen? ⟨w.heap.size + 1 + 1, j, none⟩ = false := fun j => carryF hb3 hz2 (fr2 j)
 have HB3 : Hid (Below w.heap.size w w3) := HB2.out.trans (hb3.mono HB2.out.size)
 clear hb3 a0 a1 a2 b0 b1 b2 fr2
 go_wp2
 exact bodyPost_ret (v := .agg #[.int .i64 p, .string q, .int .i64 s]) (by simp [results, Tryz.results15, go_sem, r0, r1, r2]) rfl ⟨rfl, ((HB3.out.setCell (by simp; omega) _).setCell (by simp; omega) _).setCell (by simp; omega) _⟩
end Go.Proofs.YtlfmedfclgabdaaGreatDoor

/-
 TypeLub of the program.
-/
namespace Go.Proofs.YtlfmedfclgabdaaGreatDoor
open Go.RowKit
set_option linter.unusedVariables false
theorem lub_size (L : List CTup) (a b : TyD) : (lubT L a b).2.1.size ≤ 20 := by
 have h6 : objN.size ≤ 20 := by decide
 have h0 : tE.size ≤ 20 := by decide
 unfold lubT
 by_cases h : (tkT L a && tkT L b) = true
 ·rw [if_pos h]
  simp only [Bool.and_eq_true] at h
  obtain ⟨ha, hb⟩ := h
  unfold tkT tkV at ha hb
  simp only [Bool.and_eq_true] at ha hb
  have hR := rt_right ha.1
  have hn : ∀ t : TyD, tkB L t.1 t.2.1 t.2.2 = true → t.2.1.size ≤ 20 := fun t ht => by
   rcases tk_cases ht with ⟨_, e, _⟩ | ⟨_, e, _⟩ | ⟨_, e, _⟩
   ·rw [e]; exact h0
   ·exact (kn_size hR e).1
   ·exact (kn_size hR e).1
  unfold flub
  repeat' split
  all_goals first
   | exact hn _ ha.2
   | exact hn _ hb.2
   | exact h0
   | exact h6
   | exact com_size hR _ (fun c hc => CH_sub c hc)
 ·rw [if_neg h]; exact h0
set_option maxRecDepth 100000 in
set_option maxHeartbeats 4000000 in
theorem implOwnType (k : Int) (c : ByteArray) (x : Int) (w : World) (hc : c.size ≤ 281474976710656) :
  Calls Tryz.prog 74 #[.agg #[.int .i64 k, .string c, .int .i64 x]] w fun e w' => e = .returned (.agg #[.int .i64 k, .string c, .int .i64 x]) ∧ Below w.heap.size w w' := by
 have HC : Hid (∀ w', Calls Tryz.prog 108 #[.string c] w' fun e w2 => e = .returned (.string c) ∧ Below w'.heap.size w' w2) := fun w' => libClone _ w' hc
 clear hc
 go_enter Tryz.func74, Tryz.ntmps74
 go_wp2_with fail
 refine Calls.mono (HC.out _) ?_
 rintro e w1 ⟨rfl, hb1⟩
 have x0 := cC hb1 (w.heap.size) 0 (.int .i64 k) (by first | (simp; done) | (simp; omega)) (by simp [go_sem])
 have x1 := cC hb1 (w.heap.size) 1 (.string c) (by first | (simp; done) | (simp; omega)) (by simp [go_sem])
 have x2 := cC hb1 (w.heap.size) 2 (.int .i64 x) (by first | (simp; done) | (simp; omega)) (by simp [go_sem])
 have fx : ∀ j, w1.frozen? ⟨w.heap.size, j, none⟩ = false := fun j => carryF hb1 (by first | (simp; done) | (simp; omega)) (by simp [go_sem])
 have r0 := cC hb1 (w.heap.size + 1) 0 (.int .i64 0) (by first | (simp; done) | (simp; omega)) (by simp [go_sem])
 have r1 := cC hb1 (w.heap.size + 1) 1 (.string ⟨#[]⟩) (by first | (simp; done) | (simp; omega)) (by simp [go_sem])
 have r2 := cC hb1 (w.heap.size + 1) 2 (.int .i64 0) (by first | (simp; done) | (simp; omega)) (by simp [go_sem])
 have fr : ∀ j, w1.frozen? ⟨w.heap.size + 1, j, none⟩ = false := fun j => carryF hb1 (by first | (simp; done) | (simp; omega)) (by simp [go_sem])
 have HB1 : Hid (Below w.heap.size w w1) := (below_al2 w _ _).trans (hb1.mono (by first | (simp; done) | (simp; omega)))
 clear hb1
 have s0 : ∀ v, (w1.setCell ⟨w.heap.size, 1, none⟩ v).cell? ⟨w.heap.size + 1, 0, none⟩ = some (.int .i64 0) := fun v => (co1 (by simp)).trans r0
 have s1 : ∀ v, (w1.setCell ⟨w.heap.size, 1, none⟩ v).cell? ⟨w.heap.size + 1, 1, none⟩ = some (.string ⟨#[]⟩) := fun v => (co1 (by simp)).trans r1
 have s2 : ∀ v, (w1.setCell ⟨w.heap.size, 1, none⟩ v).cell? ⟨w.heap.size + 1, 2, none⟩ = some (.int .i64 0) := fun v => (co1 (by simp)).trans r2
 go_wp2
 exact bodyPost_ret (v := .agg #[.int .i64 k, .string c, .int .i64 x]) (by simp [results, Tryz.results74, go_sem, s0, s1, s2]) rfl ⟨rfl, (((HB1.out.setCell (by simp) _).setCell (by simp) _).setCell (by simp) _).setCell (by simp) _⟩
set_option maxRecDepth 100000 in
set_option maxHeartbeats 4000000 in
theorem implOwnLub (L : List CTup) (lv rv : Value) (m : Nat) (a b : TyD) (w : World) (hV : LatV L lv rv m w) (ha : twL a) (hb : twL b) :
  Calls Tryz.prog 41 #[laV L lv rv m, tvL a, tvL b] w fun e w' => e = .returned (tvL (lubT L a b)) ∧ Below m w w' ∧ LatV L lv rv m w' ∧ Only w w' := by
 have hmlt : m < w.heap.size := by obtain ⟨o, hl⟩ := hV.hl; exact hl.lt
 have HL : Hid (∀ w', Below w.heap.size w w' → Calls Tryz.prog 70 #[laV L lv rv m, tvL a, tvL b] w' fun e w2 => e = .returned (tvL (lubT L a b)) ∧ Below m w' w2 ∧ LatV L lv rv m w2 ∧ Only w' w2) := fun w' h => implLub L lv rv m a b w' (hV.below h) ha hb
 have HC : Hid (∀ w', Calls Tryz.prog 74 #[tvL (lubT L a b)] w' fun e w2 => e = .returned (tvL (lubT L a b)) ∧ Below w'.heap.size w' w2) := fun w' => implOwnType _ _ _ w' (Nat.le_trans (lub_size L a b) (by decide))
 obtain ⟨la, lk, lc, rfl⟩ := hV.hlv
 obtain ⟨r, rfl⟩ := hV.hrv
 obtain ⟨k, c, x⟩ := a
 obtain ⟨l, d, y⟩ := b
 simp only [laV, tvL] at HL HC ⊢
 generalize rtB L = rt at *
 generalize lubT L (k, c, x) (l, d, y) = res at *
 obtain ⟨p, q, s⟩ := res
 simp only at HL HC ⊢
 have HB4 : Hid (∀ o1 o2 o3 o4, Below w.heap.size w ((((w.alloc o1).alloc o2).alloc o3).alloc o4)) := fun o1 o2 o3 o4 => (below_al3 w o1 o2 o3).alloc (by simp; omega) o4
 clear hV ha hb
 go_enter Tryz.func41, Tryz.ntmps41
 go_wp2_with fail
 refine Calls.mono (HL.out _ (HB4.out _ _ _ _)) ?_
 rintro e w1 ⟨rfl, hb1, hv1, ho1⟩
 have r0 : w1.cell? ⟨w.heap.size + 1 + 1 + 1, 0, none⟩ = some (.int .i64 0) := ho1.cell (by simp [go_sem])
 have r1 : w1.cell? ⟨w.heap.size + 1 + 1 + 1, 1, none⟩ = some (.string ⟨#[]⟩) := ho1.cell (by simp [go_sem])
 have r2 : w1.cell? ⟨w.heap.size + 1 + 1 + 1, 2, none⟩ = some (.int .i64 0) := ho1.cell (by simp [go_sem])
 have fr : ∀ j, w1.frozen? ⟨w.heap.size + 1 + 1 + 1, j, none⟩ = false := fun j => ho1.frozen (q := ⟨w.heap.size + 1 + 1 + 1, 0, none⟩) (v := .int .i64 0) (by simp [go_sem]) rfl (by simp [go_sem])
 have hz : w.heap.size + 1 + 1 + 1 < w1.heap.size := World.block_lt_of_cell? _ ⟨w.heap.size + 1 + 1 + 1, 0, none⟩ r0
 have HX1 : Hid (Below m w w1 ∧ LatV L (.slice la lk lc) (.map r) m w1 ∧ Only w w1) := ⟨((HB4.out _ _ _ _).mono (Nat.le_of_lt hmlt)).trans hb1, hv1, (Only.of_below (HB4.out _ _ _ _)).trans ho1⟩
 clear hb1 hv1 ho1
 go_wp2_with fail
 refine Calls.mono (HC.out _) ?_
 rintro e w2 ⟨rfl, hb2⟩
 have s0 : w2.cell? ⟨w.heap.size + 1 + 1 + 1, 0, none⟩ = some (.int .i64 0) := carry hb2 hz r0
 have s1 : w2.cell? ⟨w.heap.size + 1 + 1 + 1, 1, none⟩ = some (.string ⟨#[]⟩) := carry hb2 hz r1
 have s2 : w2.cell? ⟨w.heap.size + 1 + 1 + 1, 2, none⟩ = some (.int .i64 0) := carry hb2 hz r2
 have fs : ∀ j, w2.frozen? ⟨w.heap.size + 1 + 1 + 1, j, none⟩ = false := fun j => carryF hb2 hz (fr j)
 have HX2 : Hid (Below m w w2 ∧ LatV L (.slice la lk lc) (.map r) m w2 ∧ Only w w2) := ⟨HX1.out.1.trans (hb2.mono (by omega)), HX1.out.2.1.below hb2, HX1.out.2.2.trans (Only.of_below hb2)⟩
 clear hb2 r0 r1 r2 fr HX1
 go_wp2
 exact bodyPost_ret (v := .agg #[.int .i64 p, .string q, .int .i64 s]) (by simp [results, Tryz.results41, go_sem, s0, s1, s2]) rfl ⟨rfl, ((HX2.out.1.setCell (by simp; omega) _).setCell (by simp; omega) _).setCell (by simp; omega) _, HX2.out.2.1.set3 (by omega) s0 _ _ _, ((HX2.out.2.2.set (by simp; omega) _).set (by simp; omega) _).set (by simp; omega) _⟩
set_option maxRecDepth 100000 in
set_option maxHeartbeats 4000000 in
theorem implTypeLub (L : List CTup) (v : Value) (a b : TyD) (w : World) (h : classR.slice.In w [v] L) (ha : twL a) (hb : twL b) (htb : Tab w) (hg : Glob w) :
  Calls Tryz.prog 16 #[v, tvL a, tvL b] w fun e w' => e = .returned (tvL (lubT L a b)) ∧ Below w.heap.size w w' := by
 have HM : Hid (∀ w', Below w.heap.size w w' → Calls Tryz.prog 37 #[v] w' fun e w2 => Below w'.heap.size w' w2 ∧ ∃ lv rv m, w'.heap.size ≤ m ∧ e = .returned (.agg #[lv, rv, .bool (rtB L), .map (some m)]) ∧ LatV L lv rv m w2) := fun w' hb => implMakeLattice L v w' (classR.slice.mono _ _ _ _ hb h) (htb.mono hb) (hg.mono hb)
 have HT : Hid (∀ lv rv m w', LatV L lv rv m w' → Calls Tryz.prog 41 #[.agg #[lv, rv, .bool (rtB L), .map (some m)], tvL a, tvL b] w' fun e w2 => e = .returned (tvL (lubT L a b)) ∧ Below m w' w2 ∧ Only w' w2) := fun lv rv m w' hv => (implOwnLub L lv rv m a b w' hv ha hb).mono fun e w2 h => ⟨h.1, h.2.1, h.2.2.2⟩
 obtain ⟨va, vcap, rfl, _⟩ := slice_open (by decide) h
 obtain ⟨k, c, x⟩ := a
 obtain ⟨l, d, y⟩ := b
 simp only [tvL] at HT ⊢
 generalize lubT L (k, c, x) (l, d, y) = res at *
 obtain ⟨p, q, s⟩ := res
 simp only at HT ⊢
 clear h ha hb htb hg
 go_enter Tryz.func16, Tryz.ntmps16
 go_wp2_with fail
 have a0 : (((w.alloc (.cells #[.int .i64 k, .string c, .int .i64 x] 30)).alloc (.cells #[.int .i64 l, .string d, .int .i64 y] 30)).alloc (.cells #[.int .i64 0, .string ⟨#[]⟩, .int .i64 0] 30)).cell? ⟨w.heap.size, 0, none⟩ = some (.int .i64 k) := by simp [go_sem]
 have a1 : (((w.alloc (.cells #[.int .i64 k, .string c, .int .i64 x] 30)).alloc (.cells #[.int .i64 l, .string d, .int .i64 y] 30)).alloc (.cells #[.int .i64 0, .string ⟨#[]⟩, .int .i64 0] 30)).cell? ⟨w.heap.size, 1, none⟩ = some (.string c) := by simp [go_sem]
 have a2 : (((w.alloc (.cells #[.int .i64 k, .string c, .int .i64 x] 30)).alloc (.cells #[.int .i64 l, .string d, .int .i64 y] 30)).alloc (.cells #[.int .i64 0, .string ⟨#[]⟩, .int .i64 0] 30)).cell? ⟨w.heap.size, 2, none⟩ = some (.int .i64 x) := by simp [go_sem]
 have b0 : (((w.alloc (.cells #[.int .i64 k, .string c, .int .i64 x] 30)).alloc (.cells #[.int .i64 l, .string d, .int .i64 y] 30)).alloc (.cells #[.int .i64 0, .string ⟨#[]⟩, .int .i64 0] 30)).cell? ⟨w.heap.size + 1, 0, none⟩ = some (.int .i64 l) := by simp [go_sem]
 have b1 : (((w.alloc (.cells #[.int .i64 k, .string c, .int .i64 x] 30)).alloc (.cells #[.int .i64 l, .string d, .int .i64 y] 30)).alloc (.cells #[.int .i64 0, .string ⟨#[]⟩, .int .i64 0] 30)).cell? ⟨w.heap.size + 1, 1, none⟩ = some (.string d) := by simp [go_sem]
 have b2 : (((w.alloc (.cells #[.int .i64 k, .string c, .int .i64 x] 30)).alloc (.cells #[.int .i64 l, .string d, .int .i64 y] 30)).alloc (.cells #[.int .i64 0, .string ⟨#[]⟩, .int .i64 0] 30)).cell? ⟨w.heap.size + 1, 2, none⟩ = some (.int .i64 y) := by simp [go_sem]
 have r0 : (((w.alloc (.cells #[.int .i64 k, .string c, .int .i64 x] 30)).alloc (.cells #[.int .i64 l, .string d, .int .i64 y] 30)).alloc (.cells #[.int .i64 0, .string ⟨#[]⟩, .int .i64 0] 30)).cell? ⟨w.heap.size + 1 + 1, 0, none⟩ = some (.int .i64 0) := by simp [go_sem]
 have r1 : (((w.alloc (.cells #[.int .i64 k, .string c, .int .i64 x] 30)).alloc (.cells #[.int .i64 l, .string d, .int .i64 y] 30)).alloc (.cells #[.int .i64 0, .string ⟨#[]⟩, .int .i64 0] 30)).cell? ⟨w.heap.size + 1 + 1, 1, none⟩ = some (.string ⟨#[]⟩) := by simp [go_sem]
 have r2 : (((w.alloc (.cells #[.int .i64 k, .string c, .int .i64 x] 30)).alloc (.cells #[.int .i64 l, .string d, .int .i64 y] 30)).alloc (.cells #[.int .i64 0, .string ⟨#[]⟩, .int .i64 0] 30)).cell? ⟨w.heap.size + 1 + 1, 2, none⟩ = some (.int .i64 0) := by simp [go_sem]
 have fr : ∀ j, (((w.alloc (.cells #[.int .i64 k, .string c, .int .i64 x] 30)).alloc (.cells #[.int .i64 l, .string d, .int .i64 y] 30)).alloc (.cells #[.int .i64 0, .string ⟨#[]⟩, .int .i64 0] 30)).frozen? ⟨w.heap.size + 1 + 1, j, none⟩ = false := fun j => by simp [go_sem]
 have HW : Hid (Below w.heap.size w (((w.alloc (.cells #[.int .i64 k, .string c, .int .i64 x] 30)).alloc (.cells #[.int .i64 l, .string d, .int .i64 y] 30)).alloc (.cells #[.int .i64 0, .string ⟨#[]⟩, .int .i64 0] 30))) := below_al3 _ _ _ _
 have hz : w.heap.size + 1 + 1 < (((w.alloc (.cells #[.int .i64 k, .string c, .int .i64 x] 30)).alloc (.cells #[.int .i64 l, .string d, .int .i64 y] 30)).alloc (.cells #[.int .i64 0, .string ⟨#[]⟩, .int .i64 0] 30)).heap.size := by simp
 generalize (((w.alloc (.cells #[.int .i64 k, .string c, .int .i64 x] 30)).alloc (.cells #[.int .i64 l, .string d, .int .i64 y] 30)).alloc (.cells #[.int .i64 0, .string ⟨#[]⟩, .int .i64 0] 30)) = W at *
 have hz0 : w.heap.size < W.heap.size := by omega
 have hz1 : w.heap.size + 1 < W.heap.size := by omega
 go_region_with (first
  | (go_at_call 37; refine (HM.out _ (by first | exact HW.out | exact HW.out.drew | exact below_drewN HW.out _)).mono ?_; rintro e w1 ⟨hb1, lv, rv, m, hmw, rfl, hv1⟩; have a0' : w1.cell? ⟨w.heap.size, 0, none⟩ = some (.int .i64 k) := carry hb1 hz0 a0; have a1' : w1.cell? ⟨w.heap.size, 1, none⟩ = some (.string c) := carry hb1 hz0 a1; have a2' : w1.cell? ⟨w.heap.size, 2, none⟩ = some (.int .i64 x) := carry hb1 hz0 a2; have b0' : w1.cell? ⟨w.heap.size + 1, 0, none⟩ = some (.int .i64 l) := carry hb1 hz1 b0; have b1' : w1.cell? ⟨w.heap.size + 1, 1, none⟩ = some (.string d) := carry hb1 hz1 b1; have b2' : w1.cell? ⟨w.heap.size + 1, 2, none⟩ = some (.int .i64 y) := carry hb1 hz1 b2; have r0' : w1.cell? ⟨w.heap.size + 1 + 1, 0, none⟩ = some (.int .i64 0) := carry hb1 hz r0; have r1' : w1.cell? ⟨w.heap.size + 1 + 1, 1, none⟩ = some (.string ⟨#[]⟩) := carry hb1 hz r1; have r2' : w1.cell? ⟨w.heap.size + 1 + 1, 2, none⟩ = some (.int .i64 0) := carry hb1 hz r2; have fr' : ∀ j, w1.frozen? ⟨w.heap.size + 1 + 1, j, none⟩ = false := fun j => carryF hb1 hz (fr j); have HB1 : Hid (Below w.heap.size w w1) := HW.out.trans (((Below.refl _ _).drew.trans hb1).mono HW.out.size); have HMw : Hid (w.heap.size ≤ m) := Nat.le_trans HW.out.size hmw; have HV1 := (show Hid _ from hv1); clear hb1 hv1 hmw)
  | (go_at_call 41; refine (HT.out _ _ _ _ HV1.out).mono ?_; rintro e w2 ⟨rfl, hb2, ho2⟩; have HB2 : Hid (Below w.heap.size w w2) := HB1.out.trans (hb2.mono HMw.out); have s0 := ho2.cell r0'; have s1 := ho2.cell r1'; have s2 := ho2.cell r2'; have fs : ∀ j, w2.frozen? ⟨w.heap.size + 1 + 1, j, none⟩ = false := fun j => ho2.frozen r0' rfl (fr' j); clear hb2 ho2))
 all_goals
  go_wp2
  exact bodyPost_ret (v := .agg #[.int .i64 p, .string q, .int .i64 s]) (by simp [results, Tryz.results16, go_sem, s0, s1, s2]) rfl ⟨rfl, ((HB2.out.setCell (by simp; omega) _).setCell (by simp; omega) _).setCell (by simp; omega) _⟩
end Go.Proofs.YtlfmedfclgabdaaGreatDoor
