import Derived.Test.YtlfmedfclgabdaaGreatDoorLf
import Derived.Test.YtlfmedfclgabdaaGreatDoorLj
import Derived.Deep.RegionHeld3
/-
 Below, of the program's lattice; TypeLe of the program.
-/
namespace Go.Proofs.YtlfmedfclgabdaaGreatDoor
open Go.RowKit
set_option maxRecDepth 20000
set_option linter.unusedVariables false
theorem tkI (i : Nat) {P : Program} {ops : Array Oper} {Q : Exit → Act → World → Prop} {md : Region.Mode} {S : World → Prop} {oi : Oper} {v : Value} {fuel : Nat} {listed : Array Bool} {a : Act} {w : World} (hi : ops[i]? = some oi)
  (hy : ∀ w, S w → (execOp a.eval oi).run P w = .ok (.value v) w) (hS : S w) (h : wpAnyH P md ops Q S fuel (listed.setIfInBounds i true) (a.put oi.dst v) w)
  (hs : Region.noSelect ops = true := by kernel_rfl) (hf : Region.free md ops listed i = true := by kernel_rfl) (hr : (Region.ready md ops listed).contains i = true := by kernel_rfl)
  (hQ : ∀ c a w, Q (.panic c) (a.put oi.dst v) w → Q (.panic c) a w := by exact fun _ _ _ h => h) (hw : Region.wanted oi (yielded ops a.tmps) = true := by kernel_rfl) : wpAnyH P md ops Q S (fuel + 1) listed a w :=
 wpAnyH_take hi hs hf hr hQ (.inl ⟨hw, hy⟩) hS h
theorem tkO (i : Nat) {P : Program} {ops : Array Oper} {Q : Exit → Act → World → Prop} {md : Region.Mode} {S : World → Prop} {oi : Oper} {fuel : Nat} {listed : Array Bool} {a : Act} {w : World} (hi : ops[i]? = some oi)
  (hS : S w) (h : wpAnyH P md ops Q S fuel (listed.setIfInBounds i true) (a.put oi.dst undef) w)
  (hs : Region.noSelect ops = true := by kernel_rfl) (hf : Region.free md ops listed i = true := by kernel_rfl) (hr : (Region.ready md ops listed).contains i = true := by kernel_rfl)
  (hQ : ∀ c a w, Q (.panic c) (a.put oi.dst undef) w → Q (.panic c) a w := by exact fun _ _ _ h => h) (hw : Region.wanted oi (yielded ops a.tmps) = false := by kernel_rfl) : wpAnyH P md ops Q S (fuel + 1) listed a w :=
 wpAnyH_take hi hs hf hr hQ (.inr ⟨hw, rfl⟩) hS h
set_option maxRecDepth 100000 in
set_option maxHeartbeats 4000000 in
theorem implLe (L : List CTup) (lv rv : Value) (m : Nat) (a b : TyD) (w : World) (hV : LatV L lv rv m w) (ha : twL a) (hb : twL b) :
  Calls Tryz.prog 38 #[laV L lv rv m, tvL a, tvL b] w fun e w' => e = .returned (.bool (leT L a b)) ∧ Below m w w' ∧ LatV L lv rv m w' ∧ Only w w' := by
 have hmlt : m < w.heap.size := by obtain ⟨o, hl⟩ := hV.hl; exact hl.lt
 have HKa : Hid (∀ w', LatV L lv rv m w' → Calls Tryz.prog 69 #[laV L lv rv m, tvL a] w' fun e w2 => e = .returned (.bool (tkT L a)) ∧ Below m w' w2 ∧ LatV L lv rv m w2 ∧ Only w' w2) := fun w' h1 => implTypeKnownV L lv rv m a w' h1 ha
 have HKb : Hid (∀ w', LatV L lv rv m w' → Calls Tryz.prog 69 #[laV L lv rv m, tvL b] w' fun e w2 => e = .returned (.bool (tkT L b)) ∧ Below m w' w2 ∧ LatV L lv rv m w2 ∧ Only w' w2) := fun w' h1 => implTypeKnownV L lv rv m b w' h1 hb
 have HL : Hid (∀ w', LatV L lv rv m w' → Calls Tryz.prog 70 #[laV L lv rv m, tvL a, tvL b] w' fun e w2 => e = .returned (tvL (lubT L a b)) ∧ Below m w' w2 ∧ LatV L lv rv m w2 ∧ Only w' w2) := fun w' h => implLub L lv rv m a b w' h ha hb
 have HV0 := (show Hid (∀ w', Below w.heap.size w w' → LatV L lv rv m w') from fun w' h => hV.below h)
 have HLe : Hid (leT L a b = (tkT L a && (tkT L b && decide (lubT L a b = b)))) := rfl
 obtain ⟨la, lk, lc, rfl⟩ := hV.hlv
 obtain ⟨r, rfl⟩ := hV.hrv
 obtain ⟨k, c, x⟩ := a
 obtain ⟨l, d, y⟩ := b
 simp only [laV, tvL] at HKa HKb HL ⊢
 generalize rtB L = rt at *
 generalize leT L (k, c, x) (l, d, y) = res at *
 clear hV ha hb
 go_enter Tryz.func38, Tryz.ntmps38
 go_wp2_with fail
 have HS0 : Hid ((((w.alloc (.cells #[.slice la lk lc, .map r, .bool rt, .map (some m)] 72)).alloc (.cells #[.int .i64 k, .string c, .int .i64 x] 30)).alloc (.cells #[.int .i64 l, .string d, .int .i64 y] 30)).cell? ⟨w.heap.size, 0, none⟩ = some (.slice la lk lc) ∧ (((w.alloc (.cells #[.slice la lk lc, .map r, .bool rt, .map (some m)] 72)).alloc (.cells #[.int .i64 k, .string c, .int .i64 x] 30)).alloc (.cells #[.int .i64 l, .string d, .int .i64 y] 30)).cell? ⟨w.heap.size, 1, none⟩ = some (.map r) ∧ (((w.alloc (.cells #[.slice la lk lc, .map r, .bool rt, .map (some m)] 72)).alloc (.cells #[.int .i64 k, .string c, .int .i64 x] 30)).alloc (.cells #[.int .i64 l, .string d, .int .i64 y] 30)).cell? ⟨w.heap.size, 2, none⟩ = some (.bool rt) ∧ (((w.alloc (.cells #[.slice la lk lc, .map r, .bool rt, .map (some m)] 72)).alloc (.cells #[.int .i64 k, .string c, .int .i64 x] 30)).alloc (.cells #[.int .i64 l, .string d, .int .i64 y] 30)).cell? ⟨w.heap.size, 3, none⟩ = some (.map (some m)) ∧ (((w.alloc (.cells #[.slice la lk lc, .map r, .bool rt, .map (some m)] 72)).alloc (.cells #[.int .i64 k, .string c, .int .i64 x] 30)).alloc (.cells #[.int .i64 l, .string d, .int .i64 y] 30)).cell? ⟨w.heap.size + 1, 0, none⟩ = some (.int .i64 k) ∧ (((w.alloc (.cells #[.slice la lk lc, .map r, .bool rt, .map (some m)] 72)).alloc (.cells #[.int .i64 k, .string c, .int .i64 x] 30)).alloc (.cells #[.int .i64 l, .string d, .int .i64 y] 30)).cell? ⟨w.heap.size + 1, 1, none⟩ = some (.string c) ∧ (((w.alloc (.cells #[.slice la lk lc, .map r, .bool rt, .map (some m)] 72)).alloc (.cells #[.int .i64 k, .string c, .int .i64 x] 30)).alloc (.cells #[.int .i64 l, .string d, .int .i64 y] 30)).cell? ⟨w.heap.size + 1, 2, none⟩ = some (.int .i64 x) ∧ (((w.alloc (.cells #[.slice la lk lc, .map r, .bool rt, .map (some m)] 72)).alloc (.cells #[.int .i64 k, .string c, .int .i64 x] 30)).alloc (.cells #[.int .i64 l, .string d, .int .i64 y] 30)).cell? ⟨w.heap.size + 1 + 1, 0, none⟩ = some (.int .i64 l) ∧ (((w.alloc (.cells #[.slice la lk lc, .map r, .bool rt, .map (some m)] 72)).alloc (.cells #[.int .i64 k, .string c, .int .i64 x] 30)).alloc (.cells #[.int .i64 l, .string d, .int .i64 y] 30)).cell? ⟨w.heap.size + 1 + 1, 1, none⟩ = some (.string d) ∧ (((w.alloc (.cells #[.slice la lk lc, .map r, .bool rt, .map (some m)] 72)).alloc (.cells #[.int .i64 k, .string c, .int .i64 x] 30)).alloc (.cells #[.int .i64 l, .string d, .int .i64 y] 30)).cell? ⟨w.heap.size + 1 + 1, 2, none⟩ = some (.int .i64 y)) := ⟨by simp [go_sem], by simp [go_sem], by simp [go_sem], by simp [go_sem], by simp [go_sem], by simp [go_sem], by simp [go_sem], by simp [go_sem], by simp [go_sem], by simp [go_sem]⟩
 have HBW : Hid (Below w.heap.size w (((w.alloc (.cells #[.slice la lk lc, .map r, .bool rt, .map (some m)] 72)).alloc (.cells #[.int .i64 k, .string c, .int .i64 x] 30)).alloc (.cells #[.int .i64 l, .string d, .int .i64 y] 30))) := below_al3 _ _ _ _
 generalize (((w.alloc (.cells #[.slice la lk lc, .map r, .bool rt, .map (some m)] 72)).alloc (.cells #[.int .i64 k, .string c, .int .i64 x] 30)).alloc (.cells #[.int .i64 l, .string d, .int .i64 y] 30)) = W at *
 have HSX : Hid (∀ w', Only W w' → w'.cell? ⟨w.heap.size, 0, none⟩ = some (.slice la lk lc) ∧ w'.cell? ⟨w.heap.size, 1, none⟩ = some (.map r) ∧ w'.cell? ⟨w.heap.size, 2, none⟩ = some (.bool rt) ∧ w'.cell? ⟨w.heap.size, 3, none⟩ = some (.map (some m)) ∧ w'.cell? ⟨w.heap.size + 1, 0, none⟩ = some (.int .i64 k) ∧ w'.cell? ⟨w.heap.size + 1, 1, none⟩ = some (.string c) ∧ w'.cell? ⟨w.heap.size + 1, 2, none⟩ = some (.int .i64 x) ∧ w'.cell? ⟨w.heap.size + 1 + 1, 0, none⟩ = some (.int .i64 l) ∧ w'.cell? ⟨w.heap.size + 1 + 1, 1, none⟩ = some (.string d) ∧ w'.cell? ⟨w.heap.size + 1 + 1, 2, none⟩ = some (.int .i64 y)) := fun w' ho => ⟨ho.cell HS0.out.1, ho.cell HS0.out.2.1, ho.cell HS0.out.2.2.1, ho.cell HS0.out.2.2.2.1, ho.cell HS0.out.2.2.2.2.1, ho.cell HS0.out.2.2.2.2.2.1, ho.cell HS0.out.2.2.2.2.2.2.1, ho.cell HS0.out.2.2.2.2.2.2.2.1, ho.cell HS0.out.2.2.2.2.2.2.2.2.1, ho.cell HS0.out.2.2.2.2.2.2.2.2.2⟩
 have HVW : Hid (∀ w', Below W.heap.size W w' → LatV L (.slice la lk lc) (.map r) m w') := fun w' hb => HV0.out w' (HBW.out.trans (hb.mono HBW.out.size))
 refine wp_region_held_drew (S := fun w' => w'.cell? ⟨w.heap.size, 0, none⟩ = some (.slice la lk lc) ∧ w'.cell? ⟨w.heap.size, 1, none⟩ = some (.map r) ∧ w'.cell? ⟨w.heap.size, 2, none⟩ = some (.bool rt) ∧ w'.cell? ⟨w.heap.size, 3, none⟩ = some (.map (some m)) ∧ w'.cell? ⟨w.heap.size + 1, 0, none⟩ = some (.int .i64 k) ∧ w'.cell? ⟨w.heap.size + 1, 1, none⟩ = some (.string c) ∧ w'.cell? ⟨w.heap.size + 1, 2, none⟩ = some (.int .i64 x) ∧ w'.cell? ⟨w.heap.size + 1 + 1, 0, none⟩ = some (.int .i64 l) ∧ w'.cell? ⟨w.heap.size + 1 + 1, 1, none⟩ = some (.string d) ∧ w'.cell? ⟨w.heap.size + 1 + 1, 2, none⟩ = some (.int .i64 y)) (by kernel_rfl) (HSX.out _ (Only.of_below (Below.refl _ _).drew)) (fun hHeld => ?_)
 refine tkI 0 rfl (by intro w hSw; (try dsimp only at hSw); go_simp; try with_reducible rfl) hHeld ?_
 (try simp only [Act.put, List.getElem_toArray, List.getElem_cons_zero, List.setIfInBounds_toArray, List.set_cons_zero, List.set_cons_succ])
 refine tkI 1 rfl (by intro w hSw; (try dsimp only at hSw); go_simp; try with_reducible rfl) hHeld ?_
 (try simp only [Act.put, List.getElem_toArray, List.getElem_cons_zero, List.getElem_cons_succ, List.setIfInBounds_toArray, List.set_cons_zero, List.set_cons_succ])
 cases hka : tkT L (k, c, x)
 ·have HZ : Hid (res = false) := by show _ = _; rw [HLe.out, hka]; rfl
  rw [hka] at HKa
  clear HLe hka
  refine wpAnyH_ready (rs := [2]) (by kernel_rfl) (by simp) ?_
  refine AllReadyH.cons rfl (fun K hK => ?_) AllReadyH.nil
  simp only [List.getElem_toArray, List.getElem_cons_zero, List.getElem_cons_succ]
  go_simp
  refine Calls.mono (HKa.out _ (HVW.out _ (Below.refl _ _).drew)) ?_
  rintro e w1 ⟨rfl, hb1, hv1, ho1⟩
  have hO1 : Only W w1 := (Only.of_below (Below.refl _ _).drew).trans ho1
  refine hK.out _ _ (HSX.out _ hO1) (fun hHeld => ?_)
  clear hK K
  (try simp only [Act.put, List.getElem_toArray, List.getElem_cons_zero, List.getElem_cons_succ, List.setIfInBounds_toArray, List.set_cons_zero, List.set_cons_succ])
  refine tkI 3 rfl (by intro w hSw; (try dsimp only at hSw); go_simp; try with_reducible rfl) hHeld ?_
  (try simp only [Act.put, List.getElem_toArray, List.getElem_cons_zero, List.getElem_cons_succ, List.setIfInBounds_toArray, List.set_cons_zero, List.set_cons_succ])
  refine tkO 4 rfl hHeld ?_
  refine tkO 5 rfl hHeld ?_
  refine tkO 6 rfl hHeld ?_
  (try simp only [Act.put, List.getElem_toArray, List.getElem_cons_zero, List.getElem_cons_succ, List.setIfInBounds_toArray, List.set_cons_zero, List.set_cons_succ])
  refine tkI 7 rfl (by intro w hSw; (try dsimp only at hSw); go_simp; try with_reducible rfl) hHeld ?_
  (try simp only [Act.put, List.getElem_toArray, List.getElem_cons_zero, List.getElem_cons_succ, List.setIfInBounds_toArray, List.set_cons_zero, List.set_cons_succ])
  refine tkI 8 rfl (by intro w hSw; (try dsimp only at hSw); go_simp; try with_reducible rfl) hHeld ?_
  (try simp only [Act.put, List.getElem_toArray, List.getElem_cons_zero, List.getElem_cons_succ, List.setIfInBounds_toArray, List.set_cons_zero, List.set_cons_succ])
  refine tkO 9 rfl hHeld ?_
  refine tkO 10 rfl hHeld ?_
  refine tkO 11 rfl hHeld ?_
  refine tkO 12 rfl hHeld ?_
  refine tkO 13 rfl hHeld ?_
  refine tkO 14 rfl hHeld ?_
  (try simp only [Act.put, List.getElem_toArray, List.getElem_cons_zero, List.getElem_cons_succ, List.setIfInBounds_toArray, List.set_cons_zero, List.set_cons_succ])
  refine tkI 15 rfl (by intro w hSw; (try dsimp only at hSw); go_simp; try with_reducible rfl) hHeld ?_
  (try simp only [Act.put, List.getElem_toArray, List.getElem_cons_zero, List.getElem_cons_succ, List.setIfInBounds_toArray, List.set_cons_zero, List.set_cons_succ])
  refine tkI 16 rfl (by intro w hSw; (try dsimp only at hSw); go_simp; try with_reducible rfl) hHeld ?_
  (try simp only [Act.put, List.getElem_toArray, List.getElem_cons_zero, List.getElem_cons_succ, List.setIfInBounds_toArray, List.set_cons_zero, List.set_cons_succ])
  refine wpAnyH_done (by kernel_rfl) ?_ _
  have HX : Hid (Below m w w1 ∧ LatV L (.slice la lk lc) (.map r) m w1 ∧ Only w w1) := ⟨((HBW.out.mono (Nat.le_of_lt hmlt)).trans (Below.refl _ _).drew).trans hb1, hv1, (Only.of_below HBW.out).trans hO1⟩
  go_wp2
  go_ret
  exact ⟨rB HZ.out.symm, HX.out⟩
 rw [hka] at HKa
 refine wpAnyH_ready (rs := [2]) (by kernel_rfl) (by simp) ?_
 refine AllReadyH.cons rfl (fun K hK => ?_) AllReadyH.nil
 simp only [List.getElem_toArray, List.getElem_cons_zero, List.getElem_cons_succ]
 go_simp
 refine Calls.mono (HKa.out _ (HVW.out _ (Below.refl _ _).drew)) ?_
 rintro e w1 ⟨rfl, hb1, hv1, ho1⟩
 have hO1 : Only W w1 := (Only.of_below (Below.refl _ _).drew).trans ho1
 refine hK.out _ _ (HSX.out _ hO1) (fun hHeld => ?_)
 clear hK K
 (try simp only [Act.put, List.getElem_toArray, List.getElem_cons_zero, List.getElem_cons_succ, List.setIfInBounds_toArray, List.set_cons_zero, List.set_cons_succ])
 refine tkI 3 rfl (by intro w hSw; (try dsimp only at hSw); go_simp; try with_reducible rfl) hHeld ?_
 (try simp only [Act.put, List.getElem_toArray, List.getElem_cons_zero, List.getElem_cons_succ, List.setIfInBounds_toArray, List.set_cons_zero, List.set_cons_succ])
 refine tkI 4 rfl (by intro w hSw; (try dsimp only at hSw); go_simp; try with_reducible rfl) hHeld ?_
 (try simp only [Act.put, List.getElem_toArray, List.getElem_cons_zero, List.getElem_cons_succ, List.setIfInBounds_toArray, List.set_cons_zero, List.set_cons_succ])
 refine tkI 5 rfl (by intro w hSw; (try dsimp only at hSw); go_simp; try with_reducible rfl) hHeld ?_
 (try simp only [Act.put, List.getElem_toArray, List.getElem_cons_zero, List.getElem_cons_succ, List.setIfInBounds_toArray, List.set_cons_zero, List.set_cons_succ])
 cases hkb : tkT L (l, d, y)
 ·have HZ : Hid (res = false) := by show _ = _; rw [HLe.out, hka, hkb]; rfl
  rw [hkb] at HKb
  clear HLe hka hkb
  refine wpAnyH_ready (rs := [6]) (by kernel_rfl) (by simp) ?_
  refine AllReadyH.cons rfl (fun K hK => ?_) AllReadyH.nil
  simp only [List.getElem_toArray, List.getElem_cons_zero, List.getElem_cons_succ]
  go_simp
  refine Calls.mono (HKb.out _ hv1) ?_
  rintro e w2 ⟨rfl, hb2, hv2, ho2⟩
  have hO2 : Only W w2 := hO1.trans ho2
  refine hK.out _ _ (HSX.out _ hO2) (fun hHeld => ?_)
  clear hK K
  (try simp only [Act.put, List.getElem_toArray, List.getElem_cons_zero, List.getElem_cons_succ, List.setIfInBounds_toArray, List.set_cons_zero, List.set_cons_succ])
  refine tkI 7 rfl (by intro w hSw; (try dsimp only at hSw); go_simp; try with_reducible rfl) hHeld ?_
  (try simp only [Act.put, List.getElem_toArray, List.getElem_cons_zero, List.getElem_cons_succ, List.setIfInBounds_toArray, List.set_cons_zero, List.set_cons_succ])
  refine tkI 8 rfl (by intro w hSw; (try dsimp only at hSw); go_simp; try with_reducible rfl) hHeld ?_
  (try simp only [Act.put, List.getElem_toArray, List.getElem_cons_zero, List.getElem_cons_succ, List.setIfInBounds_toArray, List.set_cons_zero, List.set_cons_succ])
  refine tkO 9 rfl hHeld ?_
  refine tkO 10 rfl hHeld ?_
  refine tkO 11 rfl hHeld ?_
  refine tkO 12 rfl hHeld ?_
  refine tkO 13 rfl hHeld ?_
  refine tkO 14 rfl hHeld ?_
  (try simp only [Act.put, List.getElem_toArray, List.getElem_cons_zero, List.getElem_cons_succ, List.setIfInBounds_toArray, List.set_cons_zero, List.set_cons_succ])
  refine tkI 15 rfl (by intro w hSw; (try dsimp only at hSw); go_simp; try with_reducible rfl) hHeld ?_
  (try simp only [Act.put, List.getElem_toArray, List.getElem_cons_zero, List.getElem_cons_succ, List.setIfInBounds_toArray, List.set_cons_zero, List.set_cons_succ])
  refine tkI 16 rfl (by intro w hSw; (try dsimp only at hSw); go_simp; try with_reducible rfl) hHeld ?_
  (try simp only [Act.put, List.getElem_toArray, List.getElem_cons_zero, List.getElem_cons_succ, List.setIfInBounds_toArray, List.set_cons_zero, List.set_cons_succ])
  refine wpAnyH_done (by kernel_rfl) ?_ _
  have HX : Hid (Below m w w2 ∧ LatV L (.slice la lk lc) (.map r) m w2 ∧ Only w w2) := ⟨(((HBW.out.mono (Nat.le_of_lt hmlt)).trans (Below.refl _ _).drew).trans hb1).trans hb2, hv2, (Only.of_below HBW.out).trans hO2⟩
  go_wp2
  go_ret
  exact ⟨rB HZ.out.symm, HX.out⟩
 rw [hkb] at HKb
 have HZ : Hid (res = decide (lubT L (k, c, x) (l, d, y) = (l, d, y))) := by show _ = _; rw [HLe.out, hka, hkb]; rfl
 clear HLe hka hkb
 generalize lubT L (k, c, x) (l, d, y) = out at *
 obtain ⟨p, q, s⟩ := out
 have HT : Hid ((p == l && (q.toList == d.toList && s == y)) = res) := by
  show _ = _
  rw [HZ.out]
  have hcd : q.toList = d.toList → q = d := fun e => WideShapes.bytes_inj (by rw [← ByteArray.toList_eq, ← ByteArray.toList_eq, e])
  by_cases h2 : q = d
  ·subst h2
   by_cases h1 : p = l <;> by_cases h3 : s = y <;> simp [h1, h3]
  ·have h4 : ¬ q.toList = d.toList := fun e => h2 (hcd e)
   simp [h2, h4]
 clear HZ
 simp only at HL
 refine wpAnyH_ready (rs := [6]) (by kernel_rfl) (by simp) ?_
 refine AllReadyH.cons rfl (fun K hK => ?_) AllReadyH.nil
 simp only [List.getElem_toArray, List.getElem_cons_zero, List.getElem_cons_succ]
 go_simp
 refine Calls.mono (HKb.out _ hv1) ?_
 rintro e w2 ⟨rfl, hb2, hv2, ho2⟩
 have hO2 : Only W w2 := hO1.trans ho2
 refine hK.out _ _ (HSX.out _ hO2) (fun hHeld => ?_)
 clear hK K
 (try simp only [Act.put, List.getElem_toArray, List.getElem_cons_zero, List.getElem_cons_succ, List.setIfInBounds_toArray, List.set_cons_zero, List.set_cons_succ])
 refine tkI 7 rfl (by intro w hSw; (try dsimp only at hSw); go_simp; try with_reducible rfl) hHeld ?_
 (try simp only [Act.put, List.getElem_toArray, List.getElem_cons_zero, List.getElem_cons_succ, List.setIfInBounds_toArray, List.set_cons_zero, List.set_cons_succ])
 refine tkI 8 rfl (by intro w hSw; (try dsimp only at hSw); go_simp; try with_reducible rfl) hHeld ?_
 (try simp only [Act.put, List.getElem_toArray, List.getElem_cons_zero, List.getElem_cons_succ, List.setIfInBounds_toArray, List.set_cons_zero, List.set_cons_succ])
 refine tkI 9 rfl (by intro w hSw; (try dsimp only at hSw); go_simp; try with_reducible rfl) hHeld ?_
 (try simp only [Act.put, List.getElem_toArray, List.getElem_cons_zero, List.getElem_cons_succ, List.setIfInBounds_toArray, List.set_cons_zero, List.set_cons_succ])
 refine tkI 10 rfl (by intro w hSw; (try dsimp only at hSw); go_simp; try with_reducible rfl) hHeld ?_
 (try simp only [Act.put, List.getElem_toArray, List.getElem_cons_zero, List.getElem_cons_succ, List.setIfInBounds_toArray, List.set_cons_zero, List.set_cons_succ])
 refine tkI 11 rfl (by intro w hSw; (try dsimp only at hSw); go_simp; try with_reducible rfl) hHeld ?_
 (try simp only [Act.put, List.getElem_toArray, List.getElem_cons_zero, List.getElem_cons_succ, List.setIfInBounds_toArray, List.set_cons_zero, List.set_cons_succ])
 refine tkI 13 rfl (by intro w hSw; (try dsimp only at hSw); go_simp; try with_reducible rfl) hHeld ?_
 (try simp only [Act.put, List.getElem_toArray, List.getElem_cons_zero, List.getElem_cons_succ, List.setIfInBounds_toArray, List.set_cons_zero, List.set_cons_succ])
 refine wpAnyH_ready (rs := [12]) (by kernel_rfl) (by simp) ?_
 refine AllReadyH.cons rfl (fun K hK => ?_) AllReadyH.nil
 simp only [List.getElem_toArray, List.getElem_cons_zero, List.getElem_cons_succ]
 go_simp
 refine Calls.mono (HL.out _ hv2) ?_
 rintro e w3 ⟨rfl, hb3, hv3, ho3⟩
 have hO3 : Only W w3 := hO2.trans ho3
 refine hK.out _ _ (HSX.out _ hO3) (fun hHeld => ?_)
 clear hK K
 (try simp only [Act.put, List.getElem_toArray, List.getElem_cons_zero, List.getElem_cons_succ, List.setIfInBounds_toArray, List.set_cons_zero, List.set_cons_succ])
 refine tkI (v := .bool (p == l && (q.toList == d.toList && s == y))) 14 rfl (by intro w hSw; (try dsimp only at hSw); go_simp; by_cases z1 : p = l <;> by_cases z2 : q.toList = d.toList <;> by_cases z3 : s = y <;> simp [z1, z2, z3]) hHeld ?_
 (try simp only [Act.put, List.getElem_toArray, List.getElem_cons_zero, List.getElem_cons_succ, List.setIfInBounds_toArray, List.set_cons_zero, List.set_cons_succ])
 refine tkI 15 rfl (by intro w hSw; (try dsimp only at hSw); go_simp; try with_reducible rfl) hHeld ?_
 (try simp only [Act.put, List.getElem_toArray, List.getElem_cons_zero, List.getElem_cons_succ, List.setIfInBounds_toArray, List.set_cons_zero, List.set_cons_succ])
 refine tkI 16 rfl (by intro w hSw; (try dsimp only at hSw); go_simp; try with_reducible rfl) hHeld ?_
 (try simp only [Act.put, List.getElem_toArray, List.getElem_cons_zero, List.getElem_cons_succ, List.setIfInBounds_toArray, List.set_cons_zero, List.set_cons_succ])
 refine wpAnyH_done (by kernel_rfl) ?_ _
 have HX : Hid (Below m w w3 ∧ LatV L (.slice la lk lc) (.map r) m w3 ∧ Only w w3) := ⟨((((HBW.out.mono (Nat.le_of_lt hmlt)).trans (Below.refl _ _).drew).trans hb1).trans hb2).trans hb3, hv3, (Only.of_below HBW.out).trans hO3⟩
 go_wp2
 go_ret
 exact ⟨rB HT.out, HX.out⟩
set_option maxRecDepth 100000 in
set_option maxHeartbeats 4000000 in
theorem implTypeLe (L : List CTup) (v : Value) (a b : TyD) (w : World) (h : classR.slice.In w [v] L) (ha : twL a) (hb : twL b) (htb : Tab w) (hg : Glob w) :
  Calls Tryz.prog 13 #[v, tvL a, tvL b] w fun e w' => e = .returned (.bool (leT L a b)) ∧ Below w.heap.size w w' := by
 have HM : Hid (∀ w', Below w.heap.size w w' → Calls Tryz.prog 37 #[v] w' fun e w2 => Below w'.heap.size w' w2 ∧ ∃ lv rv m, w'.heap.size ≤ m ∧ e = .returned (.agg #[lv, rv, .bool (rtB L), .map (some m)]) ∧ LatV L lv rv m w2) := fun w' hb => implMakeLattice L v w' (classR.slice.mono _ _ _ _ hb h) (htb.mono hb) (hg.mono hb)
 have HT : Hid (∀ lv rv m w', LatV L lv rv m w' → Calls Tryz.prog 38 #[.agg #[lv, rv, .bool (rtB L), .map (some m)], tvL a, tvL b] w' fun e w2 => e = .returned (.bool (leT L a b)) ∧ Below m w' w2 ∧ Only w' w2) := fun lv rv m w' hv => (implLe L lv rv m a b w' hv ha hb).mono fun e w2 h => ⟨h.1, h.2.1, h.2.2.2⟩
 obtain ⟨va, vcap, rfl, _⟩ := slice_open (by decide) h
 obtain ⟨k, c, x⟩ := a
 obtain ⟨l, d, y⟩ := b
 simp only [tvL] at HT ⊢
 generalize leT L (k, c, x) (l, d, y) = res at *
 generalize rtB L = rt at *
 clear h ha hb htb hg
 go_enter Tryz.func13, Tryz.ntmps13
 go_wp2_with fail
 have HS0 : Hid (((w.alloc (.cells #[.int .i64 k, .string c, .int .i64 x] 30)).alloc (.cells #[.int .i64 l, .string d, .int .i64 y] 30)).cell? ⟨w.heap.size, 0, none⟩ = some (.int .i64 k) ∧ ((w.alloc (.cells #[.int .i64 k, .string c, .int .i64 x] 30)).alloc (.cells #[.int .i64 l, .string d, .int .i64 y] 30)).cell? ⟨w.heap.size, 1, none⟩ = some (.string c) ∧ ((w.alloc (.cells #[.int .i64 k, .string c, .int .i64 x] 30)).alloc (.cells #[.int .i64 l, .string d, .int .i64 y] 30)).cell? ⟨w.heap.size, 2, none⟩ = some (.int .i64 x) ∧ ((w.alloc (.cells #[.int .i64 k, .string c, .int .i64 x] 30)).alloc (.cells #[.int .i64 l, .string d, .int .i64 y] 30)).cell? ⟨w.heap.size + 1, 0, none⟩ = some (.int .i64 l) ∧ ((w.alloc (.cells #[.int .i64 k, .string c, .int .i64 x] 30)).alloc (.cells #[.int .i64 l, .string d, .int .i64 y] 30)).cell? ⟨w.heap.size + 1, 1, none⟩ = some (.string d) ∧ ((w.alloc (.cells #[.int .i64 k, .string c, .int .i64 x] 30)).alloc (.cells #[.int .i64 l, .string d, .int .i64 y] 30)).cell? ⟨w.heap.size + 1, 2, none⟩ = some (.int .i64 y)) := ⟨by simp [go_sem], by simp [go_sem], by simp [go_sem], by simp [go_sem], by simp [go_sem], by simp [go_sem]⟩
 have HBW : Hid (Below w.heap.size w ((w.alloc (.cells #[.int .i64 k, .string c, .int .i64 x] 30)).alloc (.cells #[.int .i64 l, .string d, .int .i64 y] 30))) := below_al2 _ _ _
 generalize ((w.alloc (.cells #[.int .i64 k, .string c, .int .i64 x] 30)).alloc (.cells #[.int .i64 l, .string d, .int .i64 y] 30)) = W at *
 have HSX : Hid (∀ w', Only W w' → w'.cell? ⟨w.heap.size, 0, none⟩ = some (.int .i64 k) ∧ w'.cell? ⟨w.heap.size, 1, none⟩ = some (.string c) ∧ w'.cell? ⟨w.heap.size, 2, none⟩ = some (.int .i64 x) ∧ w'.cell? ⟨w.heap.size + 1, 0, none⟩ = some (.int .i64 l) ∧ w'.cell? ⟨w.heap.size + 1, 1, none⟩ = some (.string d) ∧ w'.cell? ⟨w.heap.size + 1, 2, none⟩ = some (.int .i64 y)) := fun w' ho => ⟨ho.cell HS0.out.1, ho.cell HS0.out.2.1, ho.cell HS0.out.2.2.1, ho.cell HS0.out.2.2.2.1, ho.cell HS0.out.2.2.2.2.1, ho.cell HS0.out.2.2.2.2.2⟩
 refine wp_region_held_drew (S := fun w' => w'.cell? ⟨w.heap.size, 0, none⟩ = some (.int .i64 k) ∧ w'.cell? ⟨w.heap.size, 1, none⟩ = some (.string c) ∧ w'.cell? ⟨w.heap.size, 2, none⟩ = some (.int .i64 x) ∧ w'.cell? ⟨w.heap.size + 1, 0, none⟩ = some (.int .i64 l) ∧ w'.cell? ⟨w.heap.size + 1, 1, none⟩ = some (.string d) ∧ w'.cell? ⟨w.heap.size + 1, 2, none⟩ = some (.int .i64 y)) (by kernel_rfl) (HSX.out _ (Only.of_below (Below.refl _ _).drew)) (fun hHeld => ?_)
 refine tkI 0 rfl (by intro w hSw; (try dsimp only at hSw); go_simp; try with_reducible rfl) hHeld ?_
 (try simp only [Act.put, List.getElem_toArray, List.getElem_cons_zero, List.setIfInBounds_toArray, List.set_cons_zero, List.set_cons_succ])
 refine tkI 2 rfl (by intro w hSw; (try dsimp only at hSw); go_simp; try with_reducible rfl) hHeld ?_
 (try simp only [Act.put, List.getElem_toArray, List.getElem_cons_zero, List.getElem_cons_succ, List.setIfInBounds_toArray, List.set_cons_zero, List.set_cons_succ])
 refine tkI 3 rfl (by intro w hSw; (try dsimp only at hSw); go_simp; try with_reducible rfl) hHeld ?_
 (try simp only [Act.put, List.getElem_toArray, List.getElem_cons_zero, List.getElem_cons_succ, List.setIfInBounds_toArray, List.set_cons_zero, List.set_cons_succ])
 refine wpAnyH_ready (rs := [1]) (by kernel_rfl) (by simp) ?_
 refine AllReadyH.cons rfl (fun K hK => ?_) AllReadyH.nil
 simp only [List.getElem_toArray, List.getElem_cons_zero, List.getElem_cons_succ]
 go_simp
 refine Calls.mono (HM.out _ (HBW.out.trans ((Below.refl _ _).drew.mono HBW.out.size))) ?_
 rintro e w1 ⟨hb1, lv, rv, m, hmw, rfl, hv1⟩
 have hB1 : Below W.heap.size W w1 := (Below.refl _ _).drew.trans hb1
 have hO1 : Only W w1 := Only.of_below hB1
 have HMw : Hid (W.heap.size ≤ m) := hmw
 refine hK.out _ _ (HSX.out _ hO1) (fun hHeld => ?_)
 clear hK K
 (try simp only [Act.put, List.getElem_toArray, List.getElem_cons_zero, List.getElem_cons_succ, List.setIfInBounds_toArray, List.set_cons_zero, List.set_cons_succ])
 refine wpAnyH_ready (rs := [4]) (by kernel_rfl) (by simp) ?_
 refine AllReadyH.cons rfl (fun K hK => ?_) AllReadyH.nil
 simp only [List.getElem_toArray, List.getElem_cons_zero, List.getElem_cons_succ]
 go_simp
 refine Calls.mono (HT.out _ _ _ _ hv1) ?_
 rintro e w2 ⟨rfl, hb2, ho2⟩
 have hO2 : Only W w2 := hO1.trans ho2
 refine hK.out _ _ (HSX.out _ hO2) (fun hHeld => ?_)
 clear hK K
 (try simp only [Act.put, List.getElem_toArray, List.getElem_cons_zero, List.getElem_cons_succ, List.setIfInBounds_toArray, List.set_cons_zero, List.set_cons_succ])
 refine tkI 5 rfl (by intro w hSw; (try dsimp only at hSw); go_simp; try with_reducible rfl) hHeld ?_
 (try simp only [Act.put, List.getElem_toArray, List.getElem_cons_zero, List.getElem_cons_succ, List.setIfInBounds_toArray, List.set_cons_zero, List.set_cons_succ])
 refine wpAnyH_done (by kernel_rfl) ?_ _
 have HB2 : Hid (Below w.heap.size w w2) := HBW.out.trans ((hB1.trans (hb2.mono HMw.out)).mono HBW.out.size)
 go_wp2
 go_ret
 exact ⟨rfl, HB2.out⟩
end Go.Proofs.YtlfmedfclgabdaaGreatDoor
