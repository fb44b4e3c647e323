import Derived.Test.YtlfmedfclgabdaaGreatDoorLd
import Derived.Test.YtlfmedfclgabdaaGreatDoorReadI
/-
 The least type above two, kept by the program's lattice; TypeLub of the program.
-/
namespace Go.Proofs.YtlfmedfclgabdaaGreatDoor
open Go.RowKit
set_option maxRecDepth 20000
set_option linter.unusedVariables false
theorem Lat.set {L : List CTup} {w : World} {m : Nat} {o : Nat → TyD} (h : Lat L w m o) {p : Addr} {u v : Value} (hc : w.cell? ⟨p.block, 0, none⟩ = some u) : Lat L (w.setCell p v) m o := by
 obtain ⟨es, ck, h1, h2⟩ := h.at'
 have hno := cell_no_map hc
 refine ⟨es, ck, (hs1 (fun e => hno _ _ (e ▸ h1))).trans h1, fun e he => ?_⟩
 obtain ⟨t, mt, a1, a2, a3, a4, a5, ls, lk, a6, a7⟩ := h2 e he
 exact ⟨t, mt, a1, a2, a3, a4, a5, ls, lk, (hs1 (fun e => hno _ _ (e ▸ a6))).trans a6, a7⟩
theorem Only.set {w w1 : World} (h : Only w w1) {p : Addr} (hp : w.heap.size ≤ p.block) (v : Value) : Only w (w1.setCell p v) :=
 ⟨by have := h.size; simpa using this, fun k hk hn => (hs1 (by omega)).trans (h.kept k hk hn)⟩
theorem Only.put {w w1 : World} (h : Only w w1) {mt : Nat} {es : Array MapEntry} {ck : Nat} {O : Obj} (hm : mt < w.heap.size → w.heap[mt]? = some (.map es ck)) : Only w (mapPut w1 mt O) :=
 ⟨by have := h.size; rw [mapPut_size]; exact this, fun k hk hn => (mapPut_other (fun e => by subst e; exact hn _ _ (hm hk))).trans (h.kept k hk hn)⟩
theorem LatV.set3 {L : List CTup} {lv rv : Value} {m : Nat} {w : World} (h : LatV L lv rv m w) {b : Nat} {u : Value} (hb : m ≤ b) (hc : w.cell? ⟨b, 0, none⟩ = some u) (v0 v1 v2 : Value) : LatV L lv rv m (((w.setCell ⟨b, 0, none⟩ v0).setCell ⟨b, 1, none⟩ v1).setCell ⟨b, 2, none⟩ v2) := by
 obtain ⟨o, hl⟩ := h.hl
 have h0 : ((w.setCell ⟨b, 0, none⟩ v0).cell? ⟨b, 0, none⟩) = some v0 := by simp [go_sem, hc]
 have h1 : (((w.setCell ⟨b, 0, none⟩ v0).setCell ⟨b, 1, none⟩ v1).cell? ⟨b, 0, none⟩) = some v0 := by simp [go_sem, hc]
 exact ⟨⟨o, ((hl.set hc).set h0).set h1⟩, h.hlv, h.hrv, h.hk.mono ((((Below.refl _ _).setCell hb _).setCell hb _).setCell hb _)⟩
set_option maxRecDepth 100000 in
set_option maxHeartbeats 8000000 in
theorem implLub (L : List CTup) (lv rv : Value) (m : Nat) (a b : TyD) (w : World) (hV : LatV L lv rv m w) (ha : twL a) (hb : twL b) :
  Calls Tryz.prog 70 #[laV L lv rv m, tvL a, tvL b] w fun e w' => e = .returned (tvL (lubT L a b)) ∧ Below m w w' ∧ LatV L lv rv m w' ∧ Only w w' := by
 have hmlt : m < w.heap.size := by obtain ⟨o, hl⟩ := hV.hl; exact hl.lt
 have HK : Hid (∀ w' t, LatV L lv rv m w' → twL t → Calls Tryz.prog 69 #[laV L lv rv m, tvL t] w' fun e w2 => e = .returned (.bool (tkT L t)) ∧ Below m w' w2 ∧ LatV L lv rv m w2 ∧ Only w' w2) := fun w' t h1 h2 => implTypeKnownV L lv rv m t w' h1 h2
 have HA : Hid (∀ w', LatV L lv rv m w' → Calls Tryz.prog 104 #[laV L lv rv m, tvL a] w' fun e w2 => Below m w' w2 ∧ Only w' w2 ∧ LatV L lv rv m w2 ∧ ∃ o' mt, e = .returned (.agg #[.bool (tkT L a), .map (some mt)]) ∧ Lat L w2 m o' ∧ m < mt ∧ o' mt = a ∧ LubAt L w2 mt a) := fun w' h => implAskV L lv rv m a w' h ha
 have HFl : Hid (rtB L = true → ∀ w', LatV L lv rv m w' → Calls Tryz.prog 105 #[laV L lv rv m, tvL a, tvL b] w' fun e w2 => e = .returned (tvL (flub L a b)) ∧ Below w'.heap.size w' w2) := fun hr w' h => implFindLub L lv rv m a b w' h hr ha hb
 have HV0 := (show Hid (∀ w', Below w.heap.size w w' → LatV L lv rv m w') from fun w' h => hV.below h)
 have HLV := (show Hid ((∃ a k c, lv = .slice a k c) ∧ (∃ r, rv = .map r)) from ⟨hV.hlv, hV.hrv⟩)
 obtain ⟨la, lk, lc, rfl⟩ := hV.hlv
 obtain ⟨r, rfl⟩ := hV.hrv
 clear hV
 have HTw := (show Hid (twL a ∧ twL b) from ⟨ha, hb⟩)
 have HKa : Hid (∀ w', LatV L (.slice la lk lc) (.map r) m w' → Calls Tryz.prog 69 #[laV L (.slice la lk lc) (.map r) m, tvL a] w' fun e w2 => e = .returned (.bool (tkT L a)) ∧ Below m w' w2 ∧ LatV L (.slice la lk lc) (.map r) m w2 ∧ Only w' w2) := fun w' h => HK.out w' a h ha
 have HKb : Hid (∀ w', LatV L (.slice la lk lc) (.map r) m w' → Calls Tryz.prog 69 #[laV L (.slice la lk lc) (.map r) m, tvL b] w' fun e w2 => e = .returned (.bool (tkT L b)) ∧ Below m w' w2 ∧ LatV L (.slice la lk lc) (.map r) m w2 ∧ Only w' w2) := fun w' h => HK.out w' b h hb
 have HLt : Hid (lubT L a b = if (tkT L a && tkT L b) = true then flub L a b else zT) := rfl
 have hra : tkT L a = true → rtB L = true := fun h => by unfold tkT tkV at h; simp only [Bool.and_eq_true] at h; exact h.1
 clear HK ha hb
 obtain ⟨k, c, x⟩ := a
 obtain ⟨l, d, y⟩ := b
 simp only [laV, tvL] at HA HFl HKa HKb ⊢
 generalize hrt : rtB L = rt at *
 have HB4 : Hid (∀ o1 o2 o3 o4, Below w.heap.size w ((((w.alloc o1).alloc o2).alloc o3).alloc o4)) := fun o1 o2 o3 o4 => (below_al3 w o1 o2 o3).alloc (by simp; omega) o4
 have f1 := fieldAT1
 have f0 := fieldAT0
 go_enter Tryz.func70, Tryz.ntmps70
 go_wp2_with fail
 refine Calls.mono (HKa.out _ (HV0.out _ (HB4.out _ _ _ _))) ?_
 rintro e w1 ⟨rfl, hb1, hv1, ho1⟩
 have l0 : w1.cell? ⟨w.heap.size, 0, none⟩ = some (.slice la lk lc) := ho1.cell (by simp [go_sem])
 have l1 : w1.cell? ⟨w.heap.size, 1, none⟩ = some (.map r) := ho1.cell (by simp [go_sem])
 have l2 : w1.cell? ⟨w.heap.size, 2, none⟩ = some (.bool rt) := ho1.cell (by simp [go_sem])
 have l3 : w1.cell? ⟨w.heap.size, 3, none⟩ = some (.map (some m)) := ho1.cell (by simp [go_sem])
 have a0 : w1.cell? ⟨w.heap.size + 1, 0, none⟩ = some (.int .i64 k) := ho1.cell (by simp [go_sem])
 have a1 : w1.cell? ⟨w.heap.size + 1, 1, none⟩ = some (.string c) := ho1.cell (by simp [go_sem])
 have a2 : w1.cell? ⟨w.heap.size + 1, 2, none⟩ = some (.int .i64 x) := ho1.cell (by simp [go_sem])
 have b0 : w1.cell? ⟨w.heap.size + 1 + 1, 0, none⟩ = some (.int .i64 l) := ho1.cell (by simp [go_sem])
 have b1 : w1.cell? ⟨w.heap.size + 1 + 1, 1, none⟩ = some (.string d) := ho1.cell (by simp [go_sem])
 have b2 : w1.cell? ⟨w.heap.size + 1 + 1, 2, none⟩ = some (.int .i64 y) := ho1.cell (by simp [go_sem])
 have r0 : w1.cell? ⟨w.heap.size + 1 + 1 + 1, 0, none⟩ = some (.int .i64 0) := ho1.cell (by simp [go_sem])
 have r1 : w1.cell? ⟨w.heap.size + 1 + 1 + 1, 1, none⟩ = some (.string ⟨#[]⟩) := ho1.cell (by simp [go_sem])
 have r2 : w1.cell? ⟨w.heap.size + 1 + 1 + 1, 2, none⟩ = some (.int .i64 0) := ho1.cell (by simp [go_sem])
 have fr : ∀ j, w1.frozen? ⟨w.heap.size + 1 + 1 + 1, j, none⟩ = false := fun j => ho1.frozen (q := ⟨w.heap.size + 1 + 1 + 1, 0, none⟩) (v := .int .i64 0) (by simp [go_sem]) rfl (by simp [go_sem])
 have HX1 : Hid (Below m w w1 ∧ LatV L (.slice la lk lc) (.map r) m w1 ∧ Only w w1) := ⟨((HB4.out _ _ _ _).mono (Nat.le_of_lt hmlt)).trans hb1, hv1, (Only.of_below (HB4.out _ _ _ _)).trans ho1⟩
 clear hb1 hv1 ho1
 cases hka : tkT L (k, c, x)
 ·have HZ : Hid (lubT L (k, c, x) (l, d, y) = zT) := by show _ = _; rw [HLt.out, hka]; rfl
  clear HLt HKa HKb HA HFl HV0
  go_wp2
  exact bodyPost_ret (v := .agg #[.int .i64 0, .string ⟨#[]⟩, .int .i64 0]) (by simp [results, Tryz.results70, go_sem, r0, r1, r2]) rfl ⟨by rw [HZ.out]; rfl, ((HX1.out.1.setCell (by simp; omega) _).setCell (by simp; omega) _).setCell (by simp; omega) _, HX1.out.2.1.set3 (by omega) r0 _ _ _, ((HX1.out.2.2.set (by simp; omega) _).set (by simp; omega) _).set (by simp; omega) _⟩
 have hr := hra hka
 clear hra
 subst hr
 go_wp2_with fail
 refine Calls.mono (HKb.out _ HX1.out.2.1) ?_
 rintro e w2 ⟨rfl, hb2, hv2, ho2⟩
 replace l0 := ho2.cell l0
 replace l1 := ho2.cell l1
 replace l2 := ho2.cell l2
 replace l3 := ho2.cell l3
 replace a0 := ho2.cell a0
 replace a1 := ho2.cell a1
 replace a2 := ho2.cell a2
 replace b0 := ho2.cell b0
 replace b1 := ho2.cell b1
 replace b2 := ho2.cell b2
 have fr2 : ∀ j, w2.frozen? ⟨w.heap.size + 1 + 1 + 1, j, none⟩ = false := fun j => ho2.frozen r0 rfl (fr j)
 replace r0 := ho2.cell r0
 replace r1 := ho2.cell r1
 replace r2 := ho2.cell r2
 have HX2 : Hid (Below m w w2 ∧ LatV L (.slice la lk lc) (.map r) m w2 ∧ Only w w2) := ⟨HX1.out.1.trans hb2, hv2, HX1.out.2.2.trans ho2⟩
 clear hb2 hv2 ho2 fr HX1
 cases hkb : tkT L (l, d, y)
 ·have HZ : Hid (lubT L (k, c, x) (l, d, y) = zT) := by show _ = _; rw [HLt.out, hka, hkb]; rfl
  clear HLt HKa HKb HA HFl HV0
  go_wp2
  exact bodyPost_ret (v := .agg #[.int .i64 0, .string ⟨#[]⟩, .int .i64 0]) (by simp [results, Tryz.results70, go_sem, r0, r1, r2]) rfl ⟨by rw [HZ.out]; rfl, ((HX2.out.1.setCell (by simp; omega) _).setCell (by simp; omega) _).setCell (by simp; omega) _, HX2.out.2.1.set3 (by omega) r0 _ _ _, ((HX2.out.2.2.set (by simp; omega) _).set (by simp; omega) _).set (by simp; omega) _⟩
 have HZ : Hid (lubT L (k, c, x) (l, d, y) = flub L (k, c, x) (l, d, y)) := by show _ = _; rw [HLt.out, hka, hkb]; rfl
 go_wp2_with fail
 refine Calls.mono (HA.out _ HX2.out.2.1) ?_
 rintro e w3 ⟨hb3, ho3, hv3, o, mt, rfl, hlat, hmt, homt, hlub⟩
 replace l0 := ho3.cell l0
 replace l1 := ho3.cell l1
 replace l2 := ho3.cell l2
 replace l3 := ho3.cell l3
 replace a0 := ho3.cell a0
 replace a1 := ho3.cell a1
 replace a2 := ho3.cell a2
 replace b0 := ho3.cell b0
 replace b1 := ho3.cell b1
 replace b2 := ho3.cell b2
 have fr3 : ∀ j, w3.frozen? ⟨w.heap.size + 1 + 1 + 1, j, none⟩ = false := fun j => ho3.frozen r0 rfl (fr2 j)
 replace r0 := ho3.cell r0
 replace r1 := ho3.cell r1
 replace r2 := ho3.cell r2
 have hz3 : w.heap.size + 1 + 1 + 1 < w3.heap.size := World.block_lt_of_cell? _ ⟨w.heap.size + 1 + 1 + 1, 0, none⟩ r0
 have HX3 : Hid (Below m w w3 ∧ LatV L (.slice la lk lc) (.map r) m w3 ∧ Only w w3) := ⟨HX2.out.1.trans hb3, hv3, HX2.out.2.2.trans ho3⟩
 have HM3 : Hid (mt < w3.heap.size ∧ (mt < w.heap.size → ∃ es ck, w.heap[mt]? = some (.map es ck)) ∧ w.heap.size + 1 + 1 + 1 ≠ mt) := by
  obtain ⟨ls, lk', h6, _⟩ := hlub
  refine ⟨(Array.getElem?_eq_some_iff.1 h6).1, fun hlt => ?_, fun e => cell_no_map r0 _ _ (e ▸ h6)⟩
  apply Classical.byContradiction
  intro hno
  have := HX3.out.2.2.kept mt hlt (fun es ck e => hno ⟨es, ck, e⟩)
  rw [this] at h6
  exact hno ⟨_, _, h6⟩
 have HLk := (show Hid _ from hlub.look hlat hmt homt HTw.out.2)
 have HMt := (show Hid (m < mt) from hmt)
 clear hb3 ho3 hv3 fr2 HX2 HA HKa HKb hlub hlat hmt homt
 have HFl1 := (show Hid _ from HFl.out (by simp))
 clear HFl
 simp only [tvL] at HLk
 obtain ⟨res, hres⟩ : ∃ t, lubT L (k, c, x) (l, d, y) = t := ⟨_, rfl⟩
 rw [← HZ.out] at HFl1
 rw [hres] at HLk HFl1
 obtain ⟨p, q, s⟩ := res
 have HRes := (show Hid _ from hres)
 clear hres HZ HLt
 rcases HLk.out with hhit | hmiss
 ·have hlk := hhit w3 (Below.refl _ _)
  have t0 : ∀ o, ((((w3.setCell ⟨w.heap.size + 1 + 1 + 1, 0, none⟩ (.int .i64 p)).setCell ⟨w.heap.size + 1 + 1 + 1, 1, none⟩ (.string q)).setCell ⟨w.heap.size + 1 + 1 + 1, 2, none⟩ (.int .i64 s)).alloc o).cell? ⟨w.heap.size + 1 + 1 + 1, 0, none⟩ = some (.int .i64 p) := fun o => carry (below_al _ o) (by simp; omega) (by simp [go_sem, r0])
  have t1 : ∀ o, ((((w3.setCell ⟨w.heap.size + 1 + 1 + 1, 0, none⟩ (.int .i64 p)).setCell ⟨w.heap.size + 1 + 1 + 1, 1, none⟩ (.string q)).setCell ⟨w.heap.size + 1 + 1 + 1, 2, none⟩ (.int .i64 s)).alloc o).cell? ⟨w.heap.size + 1 + 1 + 1, 1, none⟩ = some (.string q) := fun o => carry (below_al _ o) (by simp; omega) (by simp [go_sem, r1])
  have t2 : ∀ o, ((((w3.setCell ⟨w.heap.size + 1 + 1 + 1, 0, none⟩ (.int .i64 p)).setCell ⟨w.heap.size + 1 + 1 + 1, 1, none⟩ (.string q)).setCell ⟨w.heap.size + 1 + 1 + 1, 2, none⟩ (.int .i64 s)).alloc o).cell? ⟨w.heap.size + 1 + 1 + 1, 2, none⟩ = some (.int .i64 s) := fun o => carry (below_al _ o) (by simp; omega) (by simp [go_sem, r2])
  have HX4 : Hid (∀ o, Below m w ((((w3.setCell ⟨w.heap.size + 1 + 1 + 1, 0, none⟩ (.int .i64 p)).setCell ⟨w.heap.size + 1 + 1 + 1, 1, none⟩ (.string q)).setCell ⟨w.heap.size + 1 + 1 + 1, 2, none⟩ (.int .i64 s)).alloc o) ∧ LatV L (.slice la lk lc) (.map r) m ((((w3.setCell ⟨w.heap.size + 1 + 1 + 1, 0, none⟩ (.int .i64 p)).setCell ⟨w.heap.size + 1 + 1 + 1, 1, none⟩ (.string q)).setCell ⟨w.heap.size + 1 + 1 + 1, 2, none⟩ (.int .i64 s)).alloc o) ∧ Only w ((((w3.setCell ⟨w.heap.size + 1 + 1 + 1, 0, none⟩ (.int .i64 p)).setCell ⟨w.heap.size + 1 + 1 + 1, 1, none⟩ (.string q)).setCell ⟨w.heap.size + 1 + 1 + 1, 2, none⟩ (.int .i64 s)).alloc o)) := fun o => ⟨(((HX3.out.1.setCell (by simp; omega) _).setCell (by simp; omega) _).setCell (by simp; omega) _).alloc (by simp; omega) o, (HX3.out.2.1.set3 (by omega) r0 _ _ _).below (below_al _ o), (((HX3.out.2.2.set (by simp; omega) _).set (by simp; omega) _).set (by simp; omega) _).trans (Only.of_below (below_al _ o))⟩
  clear hhit HLk HFl1
  go_wp2
  exact bodyPost_ret (v := .agg #[.int .i64 p, .string q, .int .i64 s]) (by simp [results, Tryz.results70, go_sem, t0, t1, t2]) rfl ⟨by rw [HRes.out], (HX4.out _).1, (HX4.out _).2.1, (HX4.out _).2.2⟩
 ·have hlk := (hmiss w3 (Below.refl _ _)).1
  have HMs := (show Hid _ from hmiss)
  simp only [zT] at hlk
  unfold tE at hlk
  clear hmiss HLk
  have l0a : ∀ o, (w3.alloc o).cell? ⟨w.heap.size, 0, none⟩ = some (.slice la lk lc) := fun o => carry (below_al w3 o) (by show w.heap.size < w3.heap.size; omega) l0
  have l1a : ∀ o, (w3.alloc o).cell? ⟨w.heap.size, 1, none⟩ = some (.map r) := fun o => carry (below_al w3 o) (by show w.heap.size < w3.heap.size; omega) l1
  have l2a : ∀ o, (w3.alloc o).cell? ⟨w.heap.size, 2, none⟩ = some (.bool true) := fun o => carry (below_al w3 o) (by show w.heap.size < w3.heap.size; omega) l2
  have l3a : ∀ o, (w3.alloc o).cell? ⟨w.heap.size, 3, none⟩ = some (.map (some m)) := fun o => carry (below_al w3 o) (by show w.heap.size < w3.heap.size; omega) l3
  have a0a : ∀ o, (w3.alloc o).cell? ⟨w.heap.size + 1, 0, none⟩ = some (.int .i64 k) := fun o => carry (below_al w3 o) (by show w.heap.size + 1 < w3.heap.size; omega) a0
  have a1a : ∀ o, (w3.alloc o).cell? ⟨w.heap.size + 1, 1, none⟩ = some (.string c) := fun o => carry (below_al w3 o) (by show w.heap.size + 1 < w3.heap.size; omega) a1
  have a2a : ∀ o, (w3.alloc o).cell? ⟨w.heap.size + 1, 2, none⟩ = some (.int .i64 x) := fun o => carry (below_al w3 o) (by show w.heap.size + 1 < w3.heap.size; omega) a2
  have b0a : ∀ o, (w3.alloc o).cell? ⟨w.heap.size + 1 + 1, 0, none⟩ = some (.int .i64 l) := fun o => carry (below_al w3 o) (by show w.heap.size + 1 + 1 < w3.heap.size; omega) b0
  have b1a : ∀ o, (w3.alloc o).cell? ⟨w.heap.size + 1 + 1, 1, none⟩ = some (.string d) := fun o => carry (below_al w3 o) (by show w.heap.size + 1 + 1 < w3.heap.size; omega) b1
  have b2a : ∀ o, (w3.alloc o).cell? ⟨w.heap.size + 1 + 1, 2, none⟩ = some (.int .i64 y) := fun o => carry (below_al w3 o) (by show w.heap.size + 1 + 1 < w3.heap.size; omega) b2
  have r0a : ∀ o, (w3.alloc o).cell? ⟨w.heap.size + 1 + 1 + 1, 0, none⟩ = some (.int .i64 0) := fun o => carry (below_al w3 o) (by show w.heap.size + 1 + 1 + 1 < w3.heap.size; omega) r0
  have r1a : ∀ o, (w3.alloc o).cell? ⟨w.heap.size + 1 + 1 + 1, 1, none⟩ = some (.string ⟨#[]⟩) := fun o => carry (below_al w3 o) (by show w.heap.size + 1 + 1 + 1 < w3.heap.size; omega) r1
  have r2a : ∀ o, (w3.alloc o).cell? ⟨w.heap.size + 1 + 1 + 1, 2, none⟩ = some (.int .i64 0) := fun o => carry (below_al w3 o) (by show w.heap.size + 1 + 1 + 1 < w3.heap.size; omega) r2
  have fra : ∀ o j, (w3.alloc o).frozen? ⟨w.heap.size + 1 + 1 + 1, j, none⟩ = false := fun o j => carryF (below_al w3 o) hz3 (fr3 j)
  have HXa : Hid (∀ o, Below m w (w3.alloc o) ∧ Only w (w3.alloc o)) := fun o => ⟨HX3.out.1.alloc (by omega) o, HX3.out.2.2.trans (Only.of_below (below_al w3 o))⟩
  go_wp2_with fail
  refine Calls.mono (HFl1.out _ (HX3.out.2.1.below (below_al w3 _))) ?_
  rintro e w5 ⟨rfl, hb5⟩
  have b0b : w5.cell? ⟨w.heap.size + 1 + 1, 0, none⟩ = some (.int .i64 l) := carry hb5 (by simp; omega) (b0a _)
  have b1b : w5.cell? ⟨w.heap.size + 1 + 1, 1, none⟩ = some (.string d) := carry hb5 (by simp; omega) (b1a _)
  have b2b : w5.cell? ⟨w.heap.size + 1 + 1, 2, none⟩ = some (.int .i64 y) := carry hb5 (by simp; omega) (b2a _)
  have r0b : w5.cell? ⟨w.heap.size + 1 + 1 + 1, 0, none⟩ = some (.int .i64 0) := carry hb5 (by simp; omega) (r0a _)
  have r1b : w5.cell? ⟨w.heap.size + 1 + 1 + 1, 1, none⟩ = some (.string ⟨#[]⟩) := carry hb5 (by simp; omega) (r1a _)
  have r2b : w5.cell? ⟨w.heap.size + 1 + 1 + 1, 2, none⟩ = some (.int .i64 0) := carry hb5 (by simp; omega) (r2a _)
  have u0b := cC hb5 (w3.heap.size) 0 (.int .i64 0) (by simp) (by simp [go_sem])
  have u1b := cC hb5 (w3.heap.size) 1 (.string ⟨#[]⟩) (by simp) (by simp [go_sem])
  have u2b := cC hb5 (w3.heap.size) 2 (.int .i64 0) (by simp) (by simp [go_sem])
  have frb : ∀ j, w5.frozen? ⟨w.heap.size + 1 + 1 + 1, j, none⟩ = false := fun j => carryF hb5 (by simp; omega) (fra _ j)
  have fub : ∀ j, w5.frozen? ⟨w3.heap.size, j, none⟩ = false := fun j => carryF hb5 (by simp) (by simp [go_sem])
  have hz5 : w3.heap.size < w5.heap.size := World.block_lt_of_cell? _ ⟨w3.heap.size, 0, none⟩ u0b
  have H35 : Hid (Below w3.heap.size w3 w5) := (below_al w3 _).trans (hb5.mono (by simp))
  have H36 : Hid (Below w3.heap.size w3 (((w5.setCell ⟨w3.heap.size, 0, none⟩ (.int .i64 p)).setCell ⟨w3.heap.size, 1, none⟩ (.string q)).setCell ⟨w3.heap.size, 2, none⟩ (.int .i64 s))) := ((H35.out.setCell (by simp) _).setCell (by simp) _).setCell (by simp) _
  obtain ⟨O, hup, hlat6⟩ := (HMs.out (((w5.setCell ⟨w3.heap.size, 0, none⟩ (.int .i64 p)).setCell ⟨w3.heap.size, 1, none⟩ (.string q)).setCell ⟨w3.heap.size, 2, none⟩ (.int .i64 s)) H36.out).2
  have b0c : (((w5.setCell ⟨w3.heap.size, 0, none⟩ (.int .i64 p)).setCell ⟨w3.heap.size, 1, none⟩ (.string q)).setCell ⟨w3.heap.size, 2, none⟩ (.int .i64 s)).cell? ⟨w.heap.size + 1 + 1, 0, none⟩ = some (.int .i64 l) := (co3 (by show w.heap.size + 1 + 1 ≠ w3.heap.size; omega)).trans b0b
  have b1c : (((w5.setCell ⟨w3.heap.size, 0, none⟩ (.int .i64 p)).setCell ⟨w3.heap.size, 1, none⟩ (.string q)).setCell ⟨w3.heap.size, 2, none⟩ (.int .i64 s)).cell? ⟨w.heap.size + 1 + 1, 1, none⟩ = some (.string d) := (co3 (by show w.heap.size + 1 + 1 ≠ w3.heap.size; omega)).trans b1b
  have b2c : (((w5.setCell ⟨w3.heap.size, 0, none⟩ (.int .i64 p)).setCell ⟨w3.heap.size, 1, none⟩ (.string q)).setCell ⟨w3.heap.size, 2, none⟩ (.int .i64 s)).cell? ⟨w.heap.size + 1 + 1, 2, none⟩ = some (.int .i64 y) := (co3 (by show w.heap.size + 1 + 1 ≠ w3.heap.size; omega)).trans b2b
  have r0c : (((w5.setCell ⟨w3.heap.size, 0, none⟩ (.int .i64 p)).setCell ⟨w3.heap.size, 1, none⟩ (.string q)).setCell ⟨w3.heap.size, 2, none⟩ (.int .i64 s)).cell? ⟨w.heap.size + 1 + 1 + 1, 0, none⟩ = some (.int .i64 0) := (co3 (by show w.heap.size + 1 + 1 + 1 ≠ w3.heap.size; omega)).trans r0b
  have r1c : (((w5.setCell ⟨w3.heap.size, 0, none⟩ (.int .i64 p)).setCell ⟨w3.heap.size, 1, none⟩ (.string q)).setCell ⟨w3.heap.size, 2, none⟩ (.int .i64 s)).cell? ⟨w.heap.size + 1 + 1 + 1, 1, none⟩ = some (.string ⟨#[]⟩) := (co3 (by show w.heap.size + 1 + 1 + 1 ≠ w3.heap.size; omega)).trans r1b
  have r2c : (((w5.setCell ⟨w3.heap.size, 0, none⟩ (.int .i64 p)).setCell ⟨w3.heap.size, 1, none⟩ (.string q)).setCell ⟨w3.heap.size, 2, none⟩ (.int .i64 s)).cell? ⟨w.heap.size + 1 + 1 + 1, 2, none⟩ = some (.int .i64 0) := (co3 (by show w.heap.size + 1 + 1 + 1 ≠ w3.heap.size; omega)).trans r2b
  have u0c : (((w5.setCell ⟨w3.heap.size, 0, none⟩ (.int .i64 p)).setCell ⟨w3.heap.size, 1, none⟩ (.string q)).setCell ⟨w3.heap.size, 2, none⟩ (.int .i64 s)).cell? ⟨w3.heap.size, 0, none⟩ = some (.int .i64 p) := by simp [go_sem, u0b]
  have u1c : (((w5.setCell ⟨w3.heap.size, 0, none⟩ (.int .i64 p)).setCell ⟨w3.heap.size, 1, none⟩ (.string q)).setCell ⟨w3.heap.size, 2, none⟩ (.int .i64 s)).cell? ⟨w3.heap.size, 1, none⟩ = some (.string q) := by simp [go_sem, u1b]
  have u2c : (((w5.setCell ⟨w3.heap.size, 0, none⟩ (.int .i64 p)).setCell ⟨w3.heap.size, 1, none⟩ (.string q)).setCell ⟨w3.heap.size, 2, none⟩ (.int .i64 s)).cell? ⟨w3.heap.size, 2, none⟩ = some (.int .i64 s) := by simp [go_sem, u2b]
  have r0d : (mapPut (((w5.setCell ⟨w3.heap.size, 0, none⟩ (.int .i64 p)).setCell ⟨w3.heap.size, 1, none⟩ (.string q)).setCell ⟨w3.heap.size, 2, none⟩ (.int .i64 s)) mt O).cell? ⟨w.heap.size + 1 + 1 + 1, 0, none⟩ = some (.int .i64 0) := (cell_put (by show w.heap.size + 1 + 1 + 1 ≠ mt; exact HM3.out.2.2)).trans r0c
  have r1d : (mapPut (((w5.setCell ⟨w3.heap.size, 0, none⟩ (.int .i64 p)).setCell ⟨w3.heap.size, 1, none⟩ (.string q)).setCell ⟨w3.heap.size, 2, none⟩ (.int .i64 s)) mt O).cell? ⟨w.heap.size + 1 + 1 + 1, 1, none⟩ = some (.string ⟨#[]⟩) := (cell_put (by show w.heap.size + 1 + 1 + 1 ≠ mt; exact HM3.out.2.2)).trans r1c
  have r2d : (mapPut (((w5.setCell ⟨w3.heap.size, 0, none⟩ (.int .i64 p)).setCell ⟨w3.heap.size, 1, none⟩ (.string q)).setCell ⟨w3.heap.size, 2, none⟩ (.int .i64 s)) mt O).cell? ⟨w.heap.size + 1 + 1 + 1, 2, none⟩ = some (.int .i64 0) := (cell_put (by show w.heap.size + 1 + 1 + 1 ≠ mt; exact HM3.out.2.2)).trans r2c
  have u0d : (mapPut (((w5.setCell ⟨w3.heap.size, 0, none⟩ (.int .i64 p)).setCell ⟨w3.heap.size, 1, none⟩ (.string q)).setCell ⟨w3.heap.size, 2, none⟩ (.int .i64 s)) mt O).cell? ⟨w3.heap.size, 0, none⟩ = some (.int .i64 p) := (cell_put (by show w3.heap.size ≠ mt; have := HM3.out.1; omega)).trans u0c
  have u1d : (mapPut (((w5.setCell ⟨w3.heap.size, 0, none⟩ (.int .i64 p)).setCell ⟨w3.heap.size, 1, none⟩ (.string q)).setCell ⟨w3.heap.size, 2, none⟩ (.int .i64 s)) mt O).cell? ⟨w3.heap.size, 1, none⟩ = some (.string q) := (cell_put (by show w3.heap.size ≠ mt; have := HM3.out.1; omega)).trans u1c
  have u2d : (mapPut (((w5.setCell ⟨w3.heap.size, 0, none⟩ (.int .i64 p)).setCell ⟨w3.heap.size, 1, none⟩ (.string q)).setCell ⟨w3.heap.size, 2, none⟩ (.int .i64 s)) mt O).cell? ⟨w3.heap.size, 2, none⟩ = some (.int .i64 s) := (cell_put (by show w3.heap.size ≠ mt; have := HM3.out.1; omega)).trans u2c
  have frd : ∀ j, (mapPut (((w5.setCell ⟨w3.heap.size, 0, none⟩ (.int .i64 p)).setCell ⟨w3.heap.size, 1, none⟩ (.string q)).setCell ⟨w3.heap.size, 2, none⟩ (.int .i64 s)) mt O).frozen? ⟨w.heap.size + 1 + 1 + 1, j, none⟩ = false := fun j => (frozen_put (by show w.heap.size + 1 + 1 + 1 ≠ mt; exact HM3.out.2.2)).trans (by simp [go_sem, frb])
  have HX6 : Hid (Below m w (mapPut (((w5.setCell ⟨w3.heap.size, 0, none⟩ (.int .i64 p)).setCell ⟨w3.heap.size, 1, none⟩ (.string q)).setCell ⟨w3.heap.size, 2, none⟩ (.int .i64 s)) mt O) ∧ LatV L (.slice la lk lc) (.map r) m (mapPut (((w5.setCell ⟨w3.heap.size, 0, none⟩ (.int .i64 p)).setCell ⟨w3.heap.size, 1, none⟩ (.string q)).setCell ⟨w3.heap.size, 2, none⟩ (.int .i64 s)) mt O) ∧ Only w (mapPut (((w5.setCell ⟨w3.heap.size, 0, none⟩ (.int .i64 p)).setCell ⟨w3.heap.size, 1, none⟩ (.string q)).setCell ⟨w3.heap.size, 2, none⟩ (.int .i64 s)) mt O)) := by
   have hbm : Below m w (((w5.setCell ⟨w3.heap.size, 0, none⟩ (.int .i64 p)).setCell ⟨w3.heap.size, 1, none⟩ (.string q)).setCell ⟨w3.heap.size, 2, none⟩ (.int .i64 s)) := HX3.out.1.trans (H36.out.mono (by omega))
   have hom : Only w (((w5.setCell ⟨w3.heap.size, 0, none⟩ (.int .i64 p)).setCell ⟨w3.heap.size, 1, none⟩ (.string q)).setCell ⟨w3.heap.size, 2, none⟩ (.int .i64 s)) := HX3.out.2.2.trans (Only.of_below H36.out)
   have hpm : Below m w (mapPut (((w5.setCell ⟨w3.heap.size, 0, none⟩ (.int .i64 p)).setCell ⟨w3.heap.size, 1, none⟩ (.string q)).setCell ⟨w3.heap.size, 2, none⟩ (.int .i64 s)) mt O) := mapPut_below hbm (Nat.le_of_lt HMt.out) O
   refine ⟨hpm, ⟨⟨_, hlat6⟩, HLV.out.1, HLV.out.2, HX3.out.2.1.hk.mono ?_⟩, ?_⟩
   ·exact mapPut_below (H36.out.mono (by omega)) (Nat.le_of_lt HMt.out) O
   ·by_cases hlt : mt < w.heap.size
    ·obtain ⟨es, ck, he⟩ := HM3.out.2.1 hlt
     exact hom.put (fun _ => he)
    ·exact hom.put (es := #[]) (ck := 0) (fun h => absurd h hlt)
  have HXf : Hid (∀ v0 v1 v2, Below m w ((((mapPut (((w5.setCell ⟨w3.heap.size, 0, none⟩ (.int .i64 p)).setCell ⟨w3.heap.size, 1, none⟩ (.string q)).setCell ⟨w3.heap.size, 2, none⟩ (.int .i64 s)) mt O).setCell ⟨w.heap.size + 1 + 1 + 1, 0, none⟩ v0).setCell ⟨w.heap.size + 1 + 1 + 1, 1, none⟩ v1).setCell ⟨w.heap.size + 1 + 1 + 1, 2, none⟩ v2) ∧ LatV L (.slice la lk lc) (.map r) m ((((mapPut (((w5.setCell ⟨w3.heap.size, 0, none⟩ (.int .i64 p)).setCell ⟨w3.heap.size, 1, none⟩ (.string q)).setCell ⟨w3.heap.size, 2, none⟩ (.int .i64 s)) mt O).setCell ⟨w.heap.size + 1 + 1 + 1, 0, none⟩ v0).setCell ⟨w.heap.size + 1 + 1 + 1, 1, none⟩ v1).setCell ⟨w.heap.size + 1 + 1 + 1, 2, none⟩ v2) ∧ Only w ((((mapPut (((w5.setCell ⟨w3.heap.size, 0, none⟩ (.int .i64 p)).setCell ⟨w3.heap.size, 1, none⟩ (.string q)).setCell ⟨w3.heap.size, 2, none⟩ (.int .i64 s)) mt O).setCell ⟨w.heap.size + 1 + 1 + 1, 0, none⟩ v0).setCell ⟨w.heap.size + 1 + 1 + 1, 1, none⟩ v1).setCell ⟨w.heap.size + 1 + 1 + 1, 2, none⟩ v2)) := fun v0 v1 v2 => ⟨((HX6.out.1.setCell (by simp; omega) _).setCell (by simp; omega) _).setCell (by simp; omega) _, HX6.out.2.1.set3 (by omega) r0d _ _ _, ((HX6.out.2.2.set (by simp; omega) _).set (by simp; omega) _).set (by simp; omega) _⟩
  clear hb5 HMs hlat6 H35 H36 HX6 HFl1
  go_wp2
  exact bodyPost_ret (v := .agg #[.int .i64 p, .string q, .int .i64 s]) (by simp [results, Tryz.results70, go_sem, r0d, r1d, r2d]) rfl ⟨by rw [HRes.out], (HXf.out _ _ _).1, (HXf.out _ _ _).2.1, (HXf.out _ _ _).2.2⟩
end Go.Proofs.YtlfmedfclgabdaaGreatDoor
