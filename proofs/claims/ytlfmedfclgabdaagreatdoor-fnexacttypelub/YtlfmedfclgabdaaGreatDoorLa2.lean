import Derived.Test.YtlfmedfclgabdaaGreatDoorLa
/-
 What is asked of the program's lattice: ask, typeKnown; the lattice that is made.
-/
namespace Go.Proofs.YtlfmedfclgabdaaGreatDoor
open Go.RowKit
set_option maxRecDepth 20000
set_option linter.unusedVariables false
theorem tkT_eq (L : List CTup) (k a : Int) (c : ByteArray) : tkT L (k, c, a) = (rtB L && tkB L k c a) := rfl
theorem hs1 {w : World} {p : Addr} {v : Value} {k : Nat} (h : k ≠ p.block) : (w.setCell p v).heap[k]? = w.heap[k]? := Below.heap_setCell _ _ _ _ (by simpa using h)
/-- Nothing but maps has turned. -/
structure Only (w w' : World) : Prop where
 size : w.heap.size ≤ w'.heap.size
 kept : ∀ k, k < w.heap.size → (∀ es ck, w.heap[k]? ≠ some (.map es ck)) → w'.heap[k]? = w.heap[k]?
theorem Only.of_below {w w' : World} (h : Below w.heap.size w w') : Only w w' := ⟨h.size, fun k hk _ => h.block k hk⟩
theorem Only.trans {w w' w2 : World} (h : Only w w') (h2 : Only w' w2) : Only w w2 :=
 ⟨Nat.le_trans h.size h2.size, fun k hk hn => (h2.kept k (Nat.lt_of_lt_of_le hk h.size) (by rw [h.kept k hk hn]; exact hn)).trans (h.kept k hk hn)⟩
theorem Only.block {w w' : World} (h : Only w w') {p : Addr} {v : Value} (hc : w.cell? p = some v) : w'.heap[p.block]? = w.heap[p.block]? :=
 h.kept _ (World.block_lt_of_cell? _ _ hc) (fun es ck e => by
  have h0 := hc
  unfold World.cell? at h0
  simp [e] at h0)
theorem Only.cell {w w' : World} (h : Only w w') {p : Addr} {v : Value} (hc : w.cell? p = some v) : w'.cell? p = some v := (World.cell?_of_block (h.block hc)).trans hc
theorem Only.frozen {w w' : World} (h : Only w w') {p q : Addr} {v : Value} {b : Bool} (hc : w.cell? q = some v) (hq : q.block = p.block) (hf : w.frozen? p = b) : w'.frozen? p = b := (World.frozen?_of_block (hq ▸ h.block hc)).trans hf
set_option maxRecDepth 100000 in
set_option maxHeartbeats 4000000 in
theorem implAskG (L : List CTup) (lv rv : Value) (m : Nat) (o : Nat → TyD) (t : TyD) (w : World) (hL : Lat L w m o) (hl : ∃ a k c, lv = .slice a k c) (hrv : ∃ r, rv = .map r) (ht : twL t)
  (hf : rtB L = true → ∀ w', Below w.heap.size w w' → Calls Tryz.prog 137 #[.agg #[lv, rv, .bool true, .map (some m)], tvL t] w' fun e w2 => e = .returned (.bool (tkB L t.1 t.2.1 t.2.2)) ∧ Below w'.heap.size w' w2) :
  Calls Tryz.prog 104 #[.agg #[lv, rv, .bool (rtB L), .map (some m)], tvL t] w fun e w' => Below m w w' ∧ Only w w' ∧ ∃ o' mt, e = .returned (.agg #[.bool (tkT L t), .map (some mt)]) ∧ Lat L w' m o' ∧ m < mt ∧ o' mt = t ∧ LubAt L w' mt t := by
 have hmlt := hL.lt
 have hlook := hL.look ht
 obtain ⟨es0, ck0, hm0, _⟩ := hL.at'
 have HL := (show Hid (Lat L w m o) from hL)
 have HM := (show Hid (w.heap[m]? = some (.map es0 ck0)) from hm0)
 clear hL hm0
 have hmm := @run_makeMap Tryz.prog
 obtain ⟨la, lk, lc, rfl⟩ := hl
 obtain ⟨r, rfl⟩ := hrv
 obtain ⟨k, c, a⟩ := t
 have hc := ht.c
 unfold maxLen at hc
 have HF := (show Hid _ from hf)
 clear hf ht
 have HTE := (show Hid _ from tkT_eq L k a c)
 simp only [tvL] at hlook HF ⊢
 simp only at hc
 generalize tkB L k c a = q at *
 generalize rtB L = rt at *
 rcases hlook with hhit | ⟨OBJ, hmiss, hnew⟩
 ·obtain ⟨mt, h1, h2, h3, hlk⟩ := hhit (((w.alloc (.cells #[.slice la lk lc, .map r, .bool rt, .map (some m)] 72)).alloc (.cells #[.int .i64 k, .string c, .int .i64 a] 30)).alloc (.cells #[.bool false, .map none] 149)) (below_al3 w _ _ _)
  have HLu := (show Hid (LubAt L w mt (k, c, a)) from h3)
  have H12 := (show Hid (m < mt ∧ o mt = (k, c, a)) from ⟨h1, h2⟩)
  generalize tkT L (k, c, a) = kn at *
  clear h1 h2 h3 hhit HF HM hmm
  go_enter Tryz.func104, Tryz.ntmps104
  go_wp2
  have HBf : Hid (∀ o1 o2 o3 o4, Below w.heap.size w ((((w.alloc o1).alloc o2).alloc o3).alloc o4)) := fun o1 o2 o3 o4 => (below_al3 w o1 o2 o3).alloc (by simp; omega) o4
  exact bodyPost_ret (v := .agg #[.bool kn, .map (some mt)]) (by simp [results, Tryz.results104, go_sem]) rfl ⟨(HBf.out _ _ _ _).mono (by omega), Only.of_below (HBf.out _ _ _ _), o, mt, rfl, HL.out.below (HBf.out _ _ _ _), H12.out.1, H12.out.2, HLu.out.below (HBf.out _ _ _ _)⟩
 ·have HLk := (show Hid _ from hmiss)
  have HN := (show Hid _ from hnew)
  clear hmiss hnew
  have hlk := fun o1 o2 o3 => (HLk.out _ (below_al3 w o1 o2 o3)).1
  unfold zAT at hlk
  cases rt
  ·have hup := fun o1 o2 o3 o4 o5 => (HLk.out ((((((w.alloc o1).alloc o2).alloc o3).alloc o4).alloc o5)) (((below_al3 w o1 o2 o3).alloc (by simp; omega) o4).alloc (by simp; omega) o5)).2
   have kc0 : ∀ o1 o2 o3 (u0 u1 : Value) o5 O, (mapPut (((((w.alloc o1).alloc o2).alloc o3).alloc (.cells #[u0, u1] 149)).alloc o5) m O).cell? ⟨w.heap.size + 1 + 1 + 1, 0, none⟩ = some u0 := fun o1 o2 o3 u0 u1 o5 O => by
    rw [cell_put (by show w.heap.size + 1 + 1 + 1 ≠ m; omega)]
    simp [go_sem]
   have kc1 : ∀ o1 o2 o3 (u0 u1 : Value) o5 O, (mapPut (((((w.alloc o1).alloc o2).alloc o3).alloc (.cells #[u0, u1] 149)).alloc o5) m O).cell? ⟨w.heap.size + 1 + 1 + 1, 1, none⟩ = some u1 := fun o1 o2 o3 u0 u1 o5 O => by
    rw [cell_put (by show w.heap.size + 1 + 1 + 1 ≠ m; omega)]
    simp [go_sem]
   have rc0 : ∀ o1 o2 (u0 u1 : Value) o4 o5 O, (mapPut (((((w.alloc o1).alloc o2).alloc (.cells #[u0, u1] 149)).alloc o4).alloc o5) m O).cell? ⟨w.heap.size + 1 + 1, 0, none⟩ = some u0 := fun o1 o2 u0 u1 o4 o5 O => by
    rw [cell_put (by show w.heap.size + 1 + 1 ≠ m; omega)]
    exact carry (below_al2 _ o4 o5) (by simp) (by simp [go_sem])
   have rc1 : ∀ o1 o2 (u0 u1 : Value) o4 o5 O, (mapPut (((((w.alloc o1).alloc o2).alloc (.cells #[u0, u1] 149)).alloc o4).alloc o5) m O).cell? ⟨w.heap.size + 1 + 1, 1, none⟩ = some u1 := fun o1 o2 u0 u1 o4 o5 O => by
    rw [cell_put (by show w.heap.size + 1 + 1 ≠ m; omega)]
    exact carry (below_al2 _ o4 o5) (by simp) (by simp [go_sem])
   have rf : ∀ o1 o2 o3 o4 o5 O j, (mapPut (((((w.alloc o1).alloc o2).alloc (.cells o3 149)).alloc o4).alloc o5) m O).frozen? ⟨w.heap.size + 1 + 1, j, none⟩ = false := fun o1 o2 o3 o4 o5 O j => by
    rw [frozen_put (by show w.heap.size + 1 + 1 ≠ m; omega)]
    exact carryF (below_al2 _ o4 o5) (by simp) (by simp [go_sem])
   have HBe : Hid (∀ o1 o2 o3 o4 o5 O, Below m w (mapPut (((((w.alloc o1).alloc o2).alloc o3).alloc o4).alloc o5) m O)) := fun o1 o2 o3 o4 o5 O => mapPut_below ((((below_al3 w o1 o2 o3).alloc (by simp; omega) o4).alloc (by simp; omega) o5).mono (by omega)) (Nat.le_refl _) O
   have HFin : Hid (∀ o1 o2 o3 o4 v0 v1, Lat L (((mapPut (((((w.alloc o1).alloc o2).alloc o3).alloc o4).alloc (.map #[] 0)) m (OBJ (.agg #[.bool false, .map (some (w.heap.size + 1 + 1 + 1 + 1))]))).setCell ⟨w.heap.size + 1 + 1, 0, none⟩ v0).setCell ⟨w.heap.size + 1 + 1, 1, none⟩ v1) m (fun b => if b = w.heap.size + 1 + 1 + 1 + 1 then (k, c, a) else o b) ∧
     LubAt L (((mapPut (((((w.alloc o1).alloc o2).alloc o3).alloc o4).alloc (.map #[] 0)) m (OBJ (.agg #[.bool false, .map (some (w.heap.size + 1 + 1 + 1 + 1))]))).setCell ⟨w.heap.size + 1 + 1, 0, none⟩ v0).setCell ⟨w.heap.size + 1 + 1, 1, none⟩ v1) (w.heap.size + 1 + 1 + 1 + 1) (k, c, a)) := fun o1 o2 o3 o4 v0 v1 => by
    have hb5 : Below w.heap.size w (((((w.alloc o1).alloc o2).alloc o3).alloc o4).alloc (.map #[] 0)) := (((below_al3 w o1 o2 o3).alloc (by simp; omega) o4).alloc (by simp; omega) _)
    have hm5 := (hb5.block m hmlt).trans HM.out
    have hnb : (((mapPut (((((w.alloc o1).alloc o2).alloc o3).alloc o4).alloc (.map #[] 0)) m (OBJ (.agg #[.bool false, .map (some (w.heap.size + 1 + 1 + 1 + 1))]))).setCell ⟨w.heap.size + 1 + 1, 0, none⟩ v0).setCell ⟨w.heap.size + 1 + 1, 1, none⟩ v1).heap[w.heap.size + 1 + 1 + 1 + 1]? = some (.map #[] 0) := by
     rw [hs1 (by show _ ≠ w.heap.size + 1 + 1; omega), hs1 (by show _ ≠ w.heap.size + 1 + 1; omega), mapPut_other (by omega)]
     simpa using heap_alloc_new ((((w.alloc o1).alloc o2).alloc o3).alloc o4) (.map #[] 0)
    refine ⟨HN.out _ _ (by omega) ?_ hnb ?_, _, _, hnb, by simp⟩
    ·rw [hs1 (by show _ ≠ w.heap.size + 1 + 1; omega), hs1 (by show _ ≠ w.heap.size + 1 + 1; omega), HTE.out]
     exact mapPut_at hm5
    ·intro x hx hxm
     rw [hs1 (by show _ ≠ w.heap.size + 1 + 1; omega), hs1 (by show _ ≠ w.heap.size + 1 + 1; omega), mapPut_other hxm]
     exact hb5.block x hx
   have HOn : Hid (∀ o1 o2 o3 o4 v0 v1 O, Only w (((mapPut (((((w.alloc o1).alloc o2).alloc o3).alloc o4).alloc (.map #[] 0)) m O).setCell ⟨w.heap.size + 1 + 1, 0, none⟩ v0).setCell ⟨w.heap.size + 1 + 1, 1, none⟩ v1)) := fun o1 o2 o3 o4 v0 v1 O => by
    have hb5 : Below w.heap.size w (((((w.alloc o1).alloc o2).alloc o3).alloc o4).alloc (.map #[] 0)) := (((below_al3 w o1 o2 o3).alloc (by simp; omega) o4).alloc (by simp; omega) _)
    refine ⟨(((HBe.out o1 o2 o3 o4 (.map #[] 0) O).setCell (by simp; omega) _).setCell (by simp; omega) _).size, fun x hx hxm => ?_⟩
    rw [hs1 (by show _ ≠ w.heap.size + 1 + 1; omega), hs1 (by show _ ≠ w.heap.size + 1 + 1; omega), mapPut_other (fun e => hxm _ _ (e ▸ HM.out))]
    exact hb5.block x hx
   have HTF : Hid (tkT L (k, c, a) = false) := HTE.out
   clear HN HLk HF
   go_enter Tryz.func104, Tryz.ntmps104
   go_wp2
   refine bodyPost_ret (v := .agg #[.bool false, .map (some (w.heap.size + 1 + 1 + 1 + 1))]) (by simp [results, Tryz.results104, go_sem, rc0, rc1]) rfl ⟨((HBe.out _ _ _ _ _ _).setCell (by simp; omega) _).setCell (by simp; omega) _, HOn.out _ _ _ _ _ _ _, _, _, by rw [HTF.out], (HFin.out _ _ _ _ _ _).1, by omega, if_pos rfl, (HFin.out _ _ _ _ _ _).2⟩
  ·have HF1 := (show Hid _ from HF.out rfl)
   go_enter Tryz.func104, Tryz.ntmps104
   go_wp2_with fail
   refine Calls.mono (HF1.out _ ((below_al3 w _ _ _).alloc (by simp; omega) _)) ?_
   rintro e w1 ⟨rfl, hb1⟩
   have HB1 : Hid (Below w.heap.size w w1) := ((below_al3 w _ _ _).alloc (by simp; omega) _).trans (hb1.mono (by simp; omega))
   have x3 := cC hb1 (w.heap.size) 3 (.map (some m)) (by first | (simp; done) | (simp; omega)) (by simp [go_sem])
   have y0 := cC hb1 (w.heap.size + 1) 0 (.int .i64 k) (by first | (simp; done) | (simp; omega)) (by simp [go_sem])
   have y1 := cC hb1 (w.heap.size + 1) 1 (.string c) (by first | (simp; done) | (simp; omega)) (by simp [go_sem])
   have y2 := cC hb1 (w.heap.size + 1) 2 (.int .i64 a) (by first | (simp; done) | (simp; omega)) (by simp [go_sem])
   have r0 := cC hb1 (w.heap.size + 1 + 1) 0 (.bool false) (by first | (simp; done) | (simp; omega)) (by simp [go_sem])
   have r1 := cC hb1 (w.heap.size + 1 + 1) 1 (.map none) (by first | (simp; done) | (simp; omega)) (by simp [go_sem])
   have k0 := cC hb1 (w.heap.size + 1 + 1 + 1) 0 (.bool false) (by simp) (by simp [go_sem])
   have k1 := cC hb1 (w.heap.size + 1 + 1 + 1) 1 (.map none) (by simp) (by simp [go_sem])
   have fr : ∀ j, w1.frozen? ⟨w.heap.size + 1 + 1, j, none⟩ = false := fun j => carryF hb1 (by first | (simp; done) | (simp; omega)) (by simp [go_sem])
   have fk : ∀ j, w1.frozen? ⟨w.heap.size + 1 + 1 + 1, j, none⟩ = false := fun j => carryF hb1 (by simp) (by simp [go_sem])
   have hz : w.heap.size + 1 + 1 + 1 < w1.heap.size := by have := hb1.size; simp at this; omega
   clear hb1
   obtain ⟨W, hW⟩ : ∃ W, ((w1.setCell ⟨w.heap.size + 1 + 1 + 1, 0, none⟩ (.bool q)).setCell ⟨w.heap.size + 1 + 1 + 1, 1, none⟩ (.map (some w1.heap.size))).alloc (.map #[] 0) = W := ⟨_, rfl⟩
   have hin : ∀ {p : Addr} {v : Value}, p.block < w1.heap.size → ((w1.setCell ⟨w.heap.size + 1 + 1 + 1, 0, none⟩ (.bool q)).setCell ⟨w.heap.size + 1 + 1 + 1, 1, none⟩ (.map (some w1.heap.size))).cell? p = some v → W.cell? p = some v := fun hp h => hW ▸ carry (below_al _ _) (by simpa using hp) h
   have hinF : ∀ {p : Addr} {v : Bool}, p.block < w1.heap.size → ((w1.setCell ⟨w.heap.size + 1 + 1 + 1, 0, none⟩ (.bool q)).setCell ⟨w.heap.size + 1 + 1 + 1, 1, none⟩ (.map (some w1.heap.size))).frozen? p = v → W.frozen? p = v := fun hp h => hW ▸ carryF (below_al _ _) (by simpa using hp) h
   have HBW : Hid (Below w.heap.size w W) := hW ▸ (((HB1.out.setCell (by simp; omega) _).setCell (by simp; omega) _).alloc (by simp; omega) _)
   have hWn : W.heap[w1.heap.size]? = some (.map #[] 0) := by rw [← hW]; simpa using heap_alloc_new ((w1.setCell ⟨w.heap.size + 1 + 1 + 1, 0, none⟩ (.bool q)).setCell ⟨w.heap.size + 1 + 1 + 1, 1, none⟩ (.map (some w1.heap.size))) (.map #[] 0)
   have ux3 : W.cell? ⟨w.heap.size, 3, none⟩ = some (.map (some m)) := hin (by show w.heap.size < _; omega) (by simp [go_sem, x3])
   have uy0 : W.cell? ⟨w.heap.size + 1, 0, none⟩ = some (.int .i64 k) := hin (by show w.heap.size + 1 < _; omega) (by simp [go_sem, y0])
   have uy1 : W.cell? ⟨w.heap.size + 1, 1, none⟩ = some (.string c) := hin (by show w.heap.size + 1 < _; omega) (by simp [go_sem, y1])
   have uy2 : W.cell? ⟨w.heap.size + 1, 2, none⟩ = some (.int .i64 a) := hin (by show w.heap.size + 1 < _; omega) (by simp [go_sem, y2])
   have uk0 : W.cell? ⟨w.heap.size + 1 + 1 + 1, 0, none⟩ = some (.bool q) := hin (by show w.heap.size + 1 + 1 + 1 < _; omega) (by simp [go_sem, k0])
   have uk1 : W.cell? ⟨w.heap.size + 1 + 1 + 1, 1, none⟩ = some (.map (some w1.heap.size)) := hin (by show w.heap.size + 1 + 1 + 1 < _; omega) (by simp [go_sem, k1])
   have ur0 : W.cell? ⟨w.heap.size + 1 + 1, 0, none⟩ = some (.bool false) := hin (by show w.heap.size + 1 + 1 < _; omega) (by simp [go_sem, r0])
   have ur1 : W.cell? ⟨w.heap.size + 1 + 1, 1, none⟩ = some (.map none) := hin (by show w.heap.size + 1 + 1 < _; omega) (by simp [go_sem, r1])
   have uf : ∀ j, W.frozen? ⟨w.heap.size + 1 + 1, j, none⟩ = false := fun j => hinF (by show w.heap.size + 1 + 1 < _; omega) (by simp [go_sem, fr])
   have hup := (HLk.out W HBW.out).2
   have pk0 : ∀ O, (mapPut W m O).cell? ⟨w.heap.size + 1 + 1 + 1, 0, none⟩ = some (.bool q) := fun O => (cell_put (by show w.heap.size + 1 + 1 + 1 ≠ m; omega)).trans uk0
   have pk1 : ∀ O, (mapPut W m O).cell? ⟨w.heap.size + 1 + 1 + 1, 1, none⟩ = some (.map (some w1.heap.size)) := fun O => (cell_put (by show w.heap.size + 1 + 1 + 1 ≠ m; omega)).trans uk1
   have pr0 : ∀ O, (mapPut W m O).cell? ⟨w.heap.size + 1 + 1, 0, none⟩ = some (.bool false) := fun O => (cell_put (by show w.heap.size + 1 + 1 ≠ m; omega)).trans ur0
   have pr1 : ∀ O, (mapPut W m O).cell? ⟨w.heap.size + 1 + 1, 1, none⟩ = some (.map none) := fun O => (cell_put (by show w.heap.size + 1 + 1 ≠ m; omega)).trans ur1
   have pf : ∀ O j, (mapPut W m O).frozen? ⟨w.heap.size + 1 + 1, j, none⟩ = false := fun O j => (frozen_put (by show w.heap.size + 1 + 1 ≠ m; omega)).trans (uf j)
   have HBe : Hid (∀ O, Below m w (mapPut W m O)) := fun O => mapPut_below (HBW.out.mono (by omega)) (Nat.le_refl _) O
   have HFin : Hid (∀ v0 v1, Lat L (((mapPut W m (OBJ (.agg #[.bool q, .map (some w1.heap.size)]))).setCell ⟨w.heap.size + 1 + 1, 0, none⟩ v0).setCell ⟨w.heap.size + 1 + 1, 1, none⟩ v1) m (fun b => if b = w1.heap.size then (k, c, a) else o b) ∧
     LubAt L (((mapPut W m (OBJ (.agg #[.bool q, .map (some w1.heap.size)]))).setCell ⟨w.heap.size + 1 + 1, 0, none⟩ v0).setCell ⟨w.heap.size + 1 + 1, 1, none⟩ v1) w1.heap.size (k, c, a)) := fun v0 v1 => by
    have hm5 := (HBW.out.block m hmlt).trans HM.out
    have hnb : (((mapPut W m (OBJ (.agg #[.bool q, .map (some w1.heap.size)]))).setCell ⟨w.heap.size + 1 + 1, 0, none⟩ v0).setCell ⟨w.heap.size + 1 + 1, 1, none⟩ v1).heap[w1.heap.size]? = some (.map #[] 0) := by
     rw [hs1 (by show _ ≠ w.heap.size + 1 + 1; omega), hs1 (by show _ ≠ w.heap.size + 1 + 1; omega), mapPut_other (by omega)]
     exact hWn
    refine ⟨HN.out _ _ (by omega) ?_ hnb ?_, _, _, hnb, by simp⟩
    ·rw [hs1 (by show _ ≠ w.heap.size + 1 + 1; omega), hs1 (by show _ ≠ w.heap.size + 1 + 1; omega), HTE.out]
     exact mapPut_at hm5
    ·intro x hx hxm
     rw [hs1 (by show _ ≠ w.heap.size + 1 + 1; omega), hs1 (by show _ ≠ w.heap.size + 1 + 1; omega), mapPut_other hxm]
     exact HBW.out.block x hx
   have HOn : Hid (∀ v0 v1 O, Only w (((mapPut W m O).setCell ⟨w.heap.size + 1 + 1, 0, none⟩ v0).setCell ⟨w.heap.size + 1 + 1, 1, none⟩ v1)) := fun v0 v1 O => by
    refine ⟨(((HBe.out O).setCell (by simp; omega) _).setCell (by simp; omega) _).size, fun x hx hxm => ?_⟩
    rw [hs1 (by show _ ≠ w.heap.size + 1 + 1; omega), hs1 (by show _ ≠ w.heap.size + 1 + 1; omega), mapPut_other (fun e => hxm _ _ (e ▸ HM.out))]
    exact HBW.out.block x hx
   have HTF : Hid (tkT L (k, c, a) = q) := HTE.out.trans (Bool.true_and _)
   clear HN HLk HF hin hinF hWn HM HL
   subst hW
   go_wp2
   refine bodyPost_ret (v := .agg #[.bool q, .map (some w1.heap.size)]) (by simp [results, Tryz.results104, go_sem, pr0, pr1]) rfl ⟨((HBe.out _).setCell (by simp; omega) _).setCell (by simp; omega) _, HOn.out _ _ _, _, _, by rw [HTF.out], (HFin.out _ _).1, by omega, if_pos rfl, (HFin.out _ _).2⟩
theorem fieldAT0 (a b : Value) (w : World) : (Instr.field 149 (.agg #[a, b]) 0).run Tryz.prog w = .ok a w := by kernel_rfl
theorem fieldAT1 (a b : Value) (w : World) : (Instr.field 149 (.agg #[a, b]) 1).run Tryz.prog w = .ok b w := by kernel_rfl
/-- The world in a lattice. -/
def WK (L : List CTup) (rv : Value) (m : Nat) (w : World) : Prop := rtB L = true → ∃ r E es ck, rv = .map (some r) ∧ E.map WE.c = allC L ∧ ∀ w', Below m w w' → WmIs w' r E es ck
theorem WK.mono {L : List CTup} {rv : Value} {m : Nat} {w w' : World} (h : WK L rv m w) (hb : Below m w w') : WK L rv m w' := fun hr => by
 obtain ⟨r, E, es, ck, h1, h2, h3⟩ := h hr
 exact ⟨r, E, es, ck, h1, h2, fun w2 hb2 => h3 w2 (hb.trans hb2)⟩
/-- A lattice in memory: what a call of it keeps. -/
structure LatV (L : List CTup) (lv rv : Value) (m : Nat) (w : World) : Prop where
 hl : ∃ o, Lat L w m o
 hlv : ∃ a k c, lv = .slice a k c
 hrv : ∃ r, rv = .map r
 hk : WK L rv m w
theorem LatV.below {L : List CTup} {lv rv : Value} {m : Nat} {w w' : World} (h : LatV L lv rv m w) (hb : Below w.heap.size w w') : LatV L lv rv m w' := by
 obtain ⟨o, hl⟩ := h.hl
 exact ⟨⟨o, hl.below hb⟩, h.hlv, h.hrv, h.hk.mono (hb.mono (Nat.le_of_lt hl.lt))⟩
noncomputable def laV (L : List CTup) (lv rv : Value) (m : Nat) : Value := .agg #[lv, rv, .bool (rtB L), .map (some m)]
theorem implAskV (L : List CTup) (lv rv : Value) (m : Nat) (t : TyD) (w : World) (h : LatV L lv rv m w) (ht : twL t) :
  Calls Tryz.prog 104 #[laV L lv rv m, tvL t] w fun e w' => Below m w w' ∧ Only w w' ∧ LatV L lv rv m w' ∧ ∃ o' mt, e = .returned (.agg #[.bool (tkT L t), .map (some mt)]) ∧ Lat L w' m o' ∧ m < mt ∧ o' mt = t ∧ LubAt L w' mt t := by
 obtain ⟨o, hl⟩ := h.hl
 refine Calls.mono (implAskG L lv rv m o t w hl h.hlv h.hrv ht fun hr w' hb => ?_) ?_
 ·obtain ⟨r, E, es, ck, rfl, hE, hwm⟩ := h.hk hr
  exact implFindKnown L lv r E es ck m true t.1 t.2.2 t.2.1 w' (hwm w' (hb.mono (Nat.le_of_lt hl.lt))) hE h.hlv ht.c
 ·rintro e w' ⟨hb, hon, o', mt, rfl, h1, h2, h3, h4⟩
  exact ⟨hb, hon, ⟨⟨o', h1⟩, h.hlv, h.hrv, h.hk.mono hb⟩, o', mt, rfl, h1, h2, h3, h4⟩
theorem implTypeKnownV (L : List CTup) (lv rv : Value) (m : Nat) (t : TyD) (w : World) (h : LatV L lv rv m w) (ht : twL t) :
  Calls Tryz.prog 69 #[laV L lv rv m, tvL t] w fun e w' => e = .returned (.bool (tkT L t)) ∧ Below m w w' ∧ LatV L lv rv m w' ∧ Only w w' := by
 have HA : Hid (∀ w', Below w.heap.size w w' → Calls Tryz.prog 104 #[laV L lv rv m, tvL t] w' fun e w2 => Below m w' w2 ∧ Only w' w2 ∧ LatV L lv rv m w2 ∧ ∃ mt, e = .returned (.agg #[.bool (tkT L t), .map (some mt)])) := fun w' hb => by
  refine Calls.mono (implAskV L lv rv m t w' (h.below hb) ht) ?_
  rintro e w2 ⟨h1, hon, h2, o, mt, h3, _⟩
  exact ⟨h1, hon, h2, mt, h3⟩
 have hmlt : m < w.heap.size := by obtain ⟨o, hl⟩ := h.hl; exact hl.lt
 obtain ⟨la, lk, lc, rfl⟩ := h.hlv
 obtain ⟨r, rfl⟩ := h.hrv
 obtain ⟨k, c, a⟩ := t
 simp only [tvL, laV] at HA ⊢
 have f0 := fieldAT0
 generalize tkT L (k, c, a) = res at *
 generalize hrt : rtB L = rt at *
 have HV : Hid (∀ w', LatV L (.slice la lk lc) (.map r) m w' → LatV L (.slice la lk lc) (.map r) m w') := fun _ h => h
 clear h
 go_enter Tryz.func69, Tryz.ntmps69
 go_wp2_with fail
 refine Calls.mono (HA.out _ (below_al2 _ _ _)) ?_
 rintro e w1 ⟨hb1, hon, hv1, mt, rfl⟩
 have HB1 : Hid (Below m w w1) := ((below_al2 w _ _).mono (by omega)).trans hb1
 have HO1 : Hid (Only w w1) := (Only.of_below (below_al2 w _ _)).trans hon
 have HV1 := (show Hid _ from hv1)
 clear hb1 hv1 hon
 go_wp2
 go_ret
 exact ⟨rfl, HB1.out, HV1.out, HO1.out⟩
set_option maxRecDepth 100000 in
set_option maxHeartbeats 2000000 in
theorem implMakeLattice (L : List CTup) (v : Value) (w : World) (h : classR.slice.In w [v] L) (ht : Tab w) (hg : Glob w) :
  Calls Tryz.prog 37 #[v] w fun e w' => Below w.heap.size w w' ∧ ∃ lv rv m, w.heap.size ≤ m ∧ e = .returned (laV L lv rv m) ∧ LatV L lv rv m w' := by
 have HM : Hid (∀ w', Below w.heap.size w w' → Calls Tryz.prog 59 #[v] w' fun e w2 => Below w'.heap.size w' w2 ∧ ∃ wv, e = .returned (.tuple #[wv, .agg #[.int .i64 (wOut L).1, .int .i64 (wOut L).2]]) ∧ ((wOut L).2 ≠ 0 → wv = .agg #[.slice none 0 0, .map none]) ∧ ((wOut L).2 = 0 → ∃ r E es ck, wv = wdV v r ∧ WmIs w2 r E es ck ∧ E.map WE.c = allC L ∧ ∀ y ∈ E, fieldR.slice.In w [y.vc] (fsC y.c) ∧ methR.slice.In w [y.vh] (msC y.c))) := fun w' hb => implMakeWorld0 L v w w' hb h (ht.mono hb) (hg.mono hb)
 have HR : Hid (rtB L = decide ((wOut L).2 = 0)) := rfl
 obtain ⟨va, vcap, rfl, _⟩ := slice_open (by decide) h
 clear h ht hg
 generalize (wOut L).1 = o1 at *
 generalize (wOut L).2 = o2 at *
 go_enter Tryz.func37, Tryz.ntmps37
 go_wp2_with fail
 refine Calls.mono (HM.out _ (below_al _ _)) ?_
 rintro e w1 ⟨hb1, wv, rfl, hn, hy⟩
 have q0 := cC hb1 (w.heap.size) 0 (.slice none 0 0) (by simp) (by simp [go_sem])
 have q1 := cC hb1 (w.heap.size) 1 (.map none) (by simp) (by simp [go_sem])
 have q2 := cC hb1 (w.heap.size) 2 (.bool false) (by simp) (by simp [go_sem])
 have q3 := cC hb1 (w.heap.size) 3 (.map none) (by simp) (by simp [go_sem])
 have qf : ∀ j, w1.frozen? ⟨w.heap.size, j, none⟩ = false := fun j => carryF hb1 (by simp) (by simp [go_sem])
 have hz : w.heap.size < w1.heap.size := by have := hb1.size; simp at this; omega
 have HB1 : Hid (Below w.heap.size w w1) := (below_al _ _).trans (hb1.mono (by simp))
 have HNm : Hid (∀ es ck, w1.heap[w.heap.size]? ≠ some (Obj.map es ck)) := cell_no_map q0
 have r0 : ∀ a b c, (((w1.alloc a).alloc b).alloc c).cell? ⟨w.heap.size, 0, none⟩ = some (.slice none 0 0) := fun a b c => carry (below_al3 w1 a b c) hz q0
 have r1 : ∀ a b c, (((w1.alloc a).alloc b).alloc c).cell? ⟨w.heap.size, 1, none⟩ = some (.map none) := fun a b c => carry (below_al3 w1 a b c) hz q1
 have r2 : ∀ a b c, (((w1.alloc a).alloc b).alloc c).cell? ⟨w.heap.size, 2, none⟩ = some (.bool false) := fun a b c => carry (below_al3 w1 a b c) hz q2
 have r3 : ∀ a b c, (((w1.alloc a).alloc b).alloc c).cell? ⟨w.heap.size, 3, none⟩ = some (.map none) := fun a b c => carry (below_al3 w1 a b c) hz q3
 have rf : ∀ a b c j, (((w1.alloc a).alloc b).alloc c).frozen? ⟨w.heap.size, j, none⟩ = false := fun a b c j => carryF (below_al3 w1 a b c) hz (qf j)
 have HE : Hid (∀ a b v0 v1 v2 v3, Below w.heap.size w (((((((w1.alloc a).alloc b).alloc (.map #[] 0)).setCell ⟨w.heap.size, 0, none⟩ v0).setCell ⟨w.heap.size, 1, none⟩ v1).setCell ⟨w.heap.size, 2, none⟩ v2).setCell ⟨w.heap.size, 3, none⟩ v3) ∧ (((((((w1.alloc a).alloc b).alloc (.map #[] 0)).setCell ⟨w.heap.size, 0, none⟩ v0).setCell ⟨w.heap.size, 1, none⟩ v1).setCell ⟨w.heap.size, 2, none⟩ v2).setCell ⟨w.heap.size, 3, none⟩ v3).heap[w1.heap.size + 1 + 1]? = some (.map #[] 0) ∧ ∀ (k : Nat) (es : Array MapEntry) (ck : Nat), w1.heap[k]? = some (Obj.map es ck) → (((((((w1.alloc a).alloc b).alloc (.map #[] 0)).setCell ⟨w.heap.size, 0, none⟩ v0).setCell ⟨w.heap.size, 1, none⟩ v1).setCell ⟨w.heap.size, 2, none⟩ v2).setCell ⟨w.heap.size, 3, none⟩ v3).heap[k]? = some (Obj.map es ck)) := fun a b v0 v1 v2 v3 => by
  have hA := below_al3 w1 a b (.map #[] 0)
  refine ⟨?_, ?_, fun k es ck hk => ?_⟩
  ·exact ((((HB1.out.trans (hA.mono (Nat.le_of_lt hz))).setCell (by simp) _).setCell (by simp) _).setCell (by simp) _).setCell (by simp) _
  ·have n1 : w1.heap.size + 1 + 1 ≠ w.heap.size := by omega
   rw [hs1 n1, hs1 n1, hs1 n1, hs1 n1]
   have := heap_alloc_new ((w1.alloc a).alloc b) (.map #[] 0)
   simpa using this
  ·have n1 : k ≠ w.heap.size := fun e => HNm.out es ck (e ▸ hk)
   rw [hs1 n1, hs1 n1, hs1 n1, hs1 n1]
   exact (hA.block k (Array.getElem?_eq_some_iff.1 hk).1).trans hk
 have hmm := @run_makeMap Tryz.prog
 clear q0 q1 q2 q3 qf hb1
 by_cases ho : o2 = 0
 ·obtain ⟨r, E, es, ck, rfl, hwm, hE, hS⟩ := hy ho
  subst ho
  have HFin : Hid (∀ w', Below w.heap.size w w' → (∀ (k : Nat) (es : Array MapEntry) (ck : Nat), w1.heap[k]? = some (Obj.map es ck) → w'.heap[k]? = some (Obj.map es ck)) → WmIs w' r E es ck) := fun w' hb hk => hwm.move (fun y hy => ⟨fieldR.slice.mono _ _ _ _ hb (hS y hy).1, methR.slice.mono _ _ _ _ hb (hS y hy).2⟩) hk
  have HEx := (show Hid (E.map WE.c = allC L) from hE)
  have HRt : Hid (rtB L = true) := by show _ = _; rw [HR.out]; rfl
  clear hn hy hwm hE hS HR HNm
  unfold wdV
  go_wp2
  refine bodyPost_ret (v := .agg #[.slice va L.length vcap, .map (some r), .bool true, .map (some (w1.heap.size + 1 + 1))]) (by simp [results, Tryz.results37, go_sem, r0, r1, r2, r3]) rfl ⟨(HE.out _ _ _ _ _ _).1, .slice va L.length vcap, .map (some r), w1.heap.size + 1 + 1, by omega, by simp only [laV]; rw [HRt.out], ⟨_, Lat.start (HE.out _ _ _ _ _ _).2.1⟩, ⟨_, _, _, rfl⟩, ⟨_, rfl⟩, fun _ => ⟨r, E, es, ck, rfl, HEx.out, fun w2 hb2 => HFin.out w2 ((HE.out _ _ _ _ _ _).1.trans (hb2.mono (by omega))) (fun x xs xk hx => (hb2.block x (by have := (Array.getElem?_eq_some_iff.1 hx).1; omega)).trans ((HE.out _ _ _ _ _ _).2.2 x xs xk hx))⟩⟩
 ·rw [hn ho]
  have d1 : (o2 == 0) = false := by simpa using ho
  have HRt : Hid (rtB L = false) := by show _ = _; rw [HR.out]; simpa using ho
  clear hn hy HR HNm ho
  go_wp2
  refine bodyPost_ret (v := .agg #[.slice none 0 0, .map none, .bool false, .map (some (w1.heap.size + 1 + 1))]) (by simp [results, Tryz.results37, go_sem, r0, r1, r2, r3]) rfl ⟨(HE.out _ _ _ _ _ _).1, .slice none 0 0, .map none, w1.heap.size + 1 + 1, by omega, by simp only [laV]; rw [HRt.out], ⟨_, Lat.start (HE.out _ _ _ _ _ _).2.1⟩, ⟨_, _, _, rfl⟩, ⟨_, rfl⟩, fun h => by rw [HRt.out] at h; cases h⟩
end Go.Proofs.YtlfmedfclgabdaaGreatDoor
