import Derived.Test.YtnenhhlgabghfaaGreatDoorWrF
import Derived.Test.YtnenhhlgabghfaaGreatDoorTokC
/-
 The program's writer tells lists, methods and classes.
-/
namespace Go.Proofs.YtnenhhlgabghfaaGreatDoor
open Go.RowKit
set_option maxRecDepth 20000
set_option linter.unusedVariables false

theorem tksP_takeL {α : Type} (f : α → List Tok) (xs : List α) (i : Nat) (h : i < xs.length) (st : WS) : tksP st ((xs.take (i + 1)).flatMap f) = tksP (tksP st ((xs.take i).flatMap f)) (f xs[i]) := by
 have e : xs.take (i + 1) = xs.take i ++ [xs[i]] := by rw [List.take_add_one, List.getElem?_eq_getElem h]; rfl
 rw [e, List.flatMap_append, tksP_app]
 simp
theorem wzP_take {α : Type} (f : α → List Tok) (K : Nat) (xs : List α) (hK : ∀ x ∈ xs, wt (f x) ≤ K) (i : Nat) (st : WS) : wz (tksP st ((xs.take i).flatMap f)) ≤ wz st + 2 * (xs.length * K) := by
 have h1 := tksP_wz ((xs.take i).flatMap f) st
 have h2 := wt_flat f K (xs.take i) (fun x hx => hK x (List.mem_of_mem_take hx))
 have h3 : (xs.take i).length * K ≤ xs.length * K := Nat.mul_le_mul_right _ (by simp; omega)
 omega

set_option maxHeartbeats 2000000 in
theorem implWListF (mr mb : Nat) (v : Value) (xs : List FieldD) (W0 : World) (hin : fieldR.slice.In W0 [v] xs) (hmax : xs.length ≤ 8) (st : WS) (F : Nat → Prop) (w : World) (h : WrS mr mb w st F) (hz : wz st ≤ 700000) (hlow : ∀ w', Below mr w w' → Below W0.heap.size W0 w') :
  Calls Tryz.prog 38 #[.pointer (some ⟨mb, 0, none⟩), v, .func (.func 39) #[] #[]] w fun e w' => e = .returned (.tuple #[]) ∧ ∃ F', WrS mr mb w' (tksP (tkP st (.n (xs.length : Int))) (xs.flatMap fldTok)) F' ∧ Kept mr F w w' F' := by
 obtain ⟨a, cap, rfl, hna, hca, hat⟩ := slice_open (by decide) hin
 clear hin
 unfold maxLen at hca
 have HA : Hid (∀ i (h : i < xs.length), ∃ b o, a = some ⟨b, o, none⟩ ∧ fieldR.At W0 ⟨b, o, none⟩ i xs[i]) := hat
 have HLow := (show Hid (∀ w', Below mr w w' → Below W0.heap.size W0 w') from hlow)
 have HP1 : Hid (∀ n st F w, WrS mr mb w st F → wz st ≤ 1000000 → Calls Tryz.prog 60 #[.pointer (some ⟨mb, 0, none⟩), .int .i64 n] w fun e w' => e = .returned (.tuple #[]) ∧ ∃ F', WrS mr mb w' (tkP st (.n n)) F' ∧ Kept mr F w w' F') := fun n st F w h hz => implW1 mr mb n st F w h hz
 have H0 := (show Hid (WrS mr mb w st F) from h)
 have HZ := (show Hid (wz st ≤ 700000) from hz)
 have HZf : Hid (∀ i st, wz (tksP st ((xs.take i).flatMap fldTok)) ≤ wz st + 48) := fun i st => by
  have := wzP_take fldTok 3 xs (fun x _ => fldTok_wt x) i st
  omega
 clear hat hlow h hz
 go_enter Tryz.func38, Tryz.ntmps38
 go_wp2_with fail
 refine Calls.mono (HP1.out _ _ _ _ H0.out (by have := HZ.out; omega)) ?_
 rintro e w1 ⟨rfl, F1, hm, hk⟩
 have HM1 := (show Hid (WrS mr mb w1 (tkP st (.n (xs.length : Int))) F1) from hm)
 have HK1 := (show Hid (Kept mr F w w1 F1) from hk)
 have HZ1 : Hid (wz (tkP st (.n (xs.length : Int))) ≤ 700000 + 2) := by have := wzP_n st (xs.length : Int); have := HZ.out; show _ ≤ _; omega
 clear hm hk H0 HZ
 generalize hS1 : tkP st (.n (xs.length : Int)) = S1 at HM1 HZ1
 have HFin : Hid (∀ w' F', WrS mr mb w' (tksP S1 (xs.flatMap fldTok)) F' → WrS mr mb w' (tksP (tkP st (.n (xs.length : Int))) (xs.flatMap fldTok)) F') := fun w' F' h => by rw [hS1]; exact h
 clear hS1
 go_wp2_with fail
 go_loopw [16] (fun j16 wr => ∃ i : Nat, i ≤ xs.length ∧ j16 = .int .i64 (i : Int) ∧ ∃ Fr, WrS mr mb wr (tksP S1 ((xs.take i).flatMap fldTok)) Fr ∧ Kept mr F w wr Fr) (fun j16 _ => xs.length - (intOf j16).toNat)
 case atStart => exact ⟨0, Nat.zero_le _, rfl, F1, HM1.out, HK1.out⟩
 case round =>
  obtain ⟨i, hi, rfl, F2, hm, hk⟩ := hrel
  have HM2 := (show Hid (WrS mr mb wr (tksP S1 ((xs.take i).flatMap fldTok)) F2) from hm)
  have HK2 := (show Hid (Kept mr F w wr F2) from hk)
  have HZ2 : Hid (wz (tksP S1 ((xs.take i).flatMap fldTok)) ≤ 700050) := by have := HZf.out i S1; have := HZ1.out; show _ ≤ _; omega
  clear hm hk
  by_cases hlt : i < xs.length
  ·obtain ⟨bb, o, rfl, hx⟩ := HA.out i hlt
   have HN : Hid (tksP S1 ((xs.take (i + 1)).flatMap fldTok) = tksP (tksP S1 ((xs.take i).flatMap fldTok)) (fldTok xs[i])) := tksP_takeL fldTok xs i hlt S1
   obtain ⟨g0, g1, g2, s0, s1⟩ := fieldAt (hx.mono (HLow.out _ HK2.out.low))
   clear hx
   generalize tksP S1 ((xs.take i).flatMap fldTok) = S2 at *
   generalize xs[i] = d at *
   obtain ⟨fn, ft, fst⟩ := d
   simp only at g0 g1 g2 s0 s1
   go_wp2_with fail
   refine Calls.mono (implWField mr mb fn ft fst s0 s1 S2 F2 _ (HM2.out.below (below_al _ _)) (by have := HZ2.out; omega)) ?_
   rintro e w3 ⟨rfl, F3, hm, hk⟩
   have HX : Hid (WrS mr mb w3 (tksP S2 (fldTok (fn, ft, fst))) F3 ∧ Kept mr F w w3 F3) := ⟨hm, (HK2.out.trans (HM2.out.kept (below_al _ _))).trans hk⟩
   clear hm hk
   go_wp2
   go_roundw
   case rel => exact ⟨i + 1, by omega, by go_num, F3, by rw [HN.out]; exact HX.out.1, HX.out.2⟩
   case measure => simp [intOf]; omega
  ·obtain rfl : i = xs.length := by omega
   rw [List.take_of_length_le (Nat.le_refl _)] at HM2
   go_wp2
   refine bodyPost_end (v := .tuple #[]) (by simp [results, go_sem]) rfl ⟨rfl, F2, HFin.out _ _ HM2.out, HK2.out⟩
set_option maxHeartbeats 2000000 in
theorem implWListH (mr mb : Nat) (v : Value) (xs : List HandlerD) (W0 : World) (hin : handlerR.slice.In W0 [v] xs) (hmax : xs.length ≤ 6) (st : WS) (F : Nat → Prop) (w : World) (h : WrS mr mb w st F) (hz : wz st ≤ 700000) (hlow : ∀ w', Below mr w w' → Below W0.heap.size W0 w') :
  Calls Tryz.prog 63 #[.pointer (some ⟨mb, 0, none⟩), v, .func (.func 64) #[] #[]] w fun e w' => e = .returned (.tuple #[]) ∧ ∃ F', WrS mr mb w' (tksP (tkP st (.n (xs.length : Int))) (xs.flatMap hanTok)) F' ∧ Kept mr F w w' F' := by
 obtain ⟨a, cap, rfl, hna, hca, hat⟩ := slice_open (by decide) hin
 clear hin
 unfold maxLen at hca
 have HA : Hid (∀ i (h : i < xs.length), ∃ b o, a = some ⟨b, o, none⟩ ∧ handlerR.At W0 ⟨b, o, none⟩ i xs[i]) := hat
 have HLow := (show Hid (∀ w', Below mr w w' → Below W0.heap.size W0 w') from hlow)
 have HP1 : Hid (∀ n st F w, WrS mr mb w st F → wz st ≤ 1000000 → Calls Tryz.prog 60 #[.pointer (some ⟨mb, 0, none⟩), .int .i64 n] w fun e w' => e = .returned (.tuple #[]) ∧ ∃ F', WrS mr mb w' (tkP st (.n n)) F' ∧ Kept mr F w w' F') := fun n st F w h hz => implW1 mr mb n st F w h hz
 have H0 := (show Hid (WrS mr mb w st F) from h)
 have HZ := (show Hid (wz st ≤ 700000) from hz)
 have HZf : Hid (∀ i st, wz (tksP st ((xs.take i).flatMap hanTok)) ≤ wz st + 48) := fun i st => by
  have := wzP_take hanTok 4 xs (fun x _ => hanTok_wt x) i st
  omega
 clear hat hlow h hz
 go_enter Tryz.func63, Tryz.ntmps63
 go_wp2_with fail
 refine Calls.mono (HP1.out _ _ _ _ H0.out (by have := HZ.out; omega)) ?_
 rintro e w1 ⟨rfl, F1, hm, hk⟩
 have HM1 := (show Hid (WrS mr mb w1 (tkP st (.n (xs.length : Int))) F1) from hm)
 have HK1 := (show Hid (Kept mr F w w1 F1) from hk)
 have HZ1 : Hid (wz (tkP st (.n (xs.length : Int))) ≤ 700000 + 2) := by have := wzP_n st (xs.length : Int); have := HZ.out; show _ ≤ _; omega
 clear hm hk H0 HZ
 generalize hS1 : tkP st (.n (xs.length : Int)) = S1 at HM1 HZ1
 have HFin : Hid (∀ w' F', WrS mr mb w' (tksP S1 (xs.flatMap hanTok)) F' → WrS mr mb w' (tksP (tkP st (.n (xs.length : Int))) (xs.flatMap hanTok)) F') := fun w' F' h => by rw [hS1]; exact h
 clear hS1
 go_wp2_with fail
 go_loopw [16] (fun j16 wr => ∃ i : Nat, i ≤ xs.length ∧ j16 = .int .i64 (i : Int) ∧ ∃ Fr, WrS mr mb wr (tksP S1 ((xs.take i).flatMap hanTok)) Fr ∧ Kept mr F w wr Fr) (fun j16 _ => xs.length - (intOf j16).toNat)
 case atStart => exact ⟨0, Nat.zero_le _, rfl, F1, HM1.out, HK1.out⟩
 case round =>
  obtain ⟨i, hi, rfl, F2, hm, hk⟩ := hrel
  have HM2 := (show Hid (WrS mr mb wr (tksP S1 ((xs.take i).flatMap hanTok)) F2) from hm)
  have HK2 := (show Hid (Kept mr F w wr F2) from hk)
  have HZ2 : Hid (wz (tksP S1 ((xs.take i).flatMap hanTok)) ≤ 700050) := by have := HZf.out i S1; have := HZ1.out; show _ ≤ _; omega
  clear hm hk
  by_cases hlt : i < xs.length
  ·obtain ⟨bb, o, rfl, hx⟩ := HA.out i hlt
   have HN : Hid (tksP S1 ((xs.take (i + 1)).flatMap hanTok) = tksP (tksP S1 ((xs.take i).flatMap hanTok)) (hanTok xs[i])) := tksP_takeL hanTok xs i hlt S1
   obtain ⟨g0, g1, g2, g3, s0⟩ := handlerAt (hx.mono (HLow.out _ HK2.out.low))
   clear hx
   generalize tksP S1 ((xs.take i).flatMap hanTok) = S2 at *
   generalize xs[i] = d at *
   obtain ⟨hf, ht, ha, hcl⟩ := d
   simp only at g0 g1 g2 g3 s0
   go_wp2_with fail
   refine Calls.mono (implWHandler mr mb hf ht ha hcl s0 S2 F2 _ (HM2.out.below (below_al _ _)) (by have := HZ2.out; omega)) ?_
   rintro e w3 ⟨rfl, F3, hm, hk⟩
   have HX : Hid (WrS mr mb w3 (tksP S2 (hanTok (hf, ht, ha, hcl))) F3 ∧ Kept mr F w w3 F3) := ⟨hm, (HK2.out.trans (HM2.out.kept (below_al _ _))).trans hk⟩
   clear hm hk
   go_wp2
   go_roundw
   case rel => exact ⟨i + 1, by omega, by go_num, F3, by rw [HN.out]; exact HX.out.1, HX.out.2⟩
   case measure => simp [intOf]; omega
  ·obtain rfl : i = xs.length := by omega
   rw [List.take_of_length_le (Nat.le_refl _)] at HM2
   go_wp2
   refine bodyPost_end (v := .tuple #[]) (by simp [results, go_sem]) rfl ⟨rfl, F2, HFin.out _ _ HM2.out, HK2.out⟩
set_option maxHeartbeats 2000000 in
theorem implWListI (mr mb : Nat) (v : Value) (xs : List InsD) (W0 : World) (hin : insR.slice.In W0 [v] xs) (hmax : xs.length ≤ 60) (st : WS) (F : Nat → Prop) (w : World) (h : WrS mr mb w st F) (hz : wz st ≤ 700000) (hlow : ∀ w', Below mr w w' → Below W0.heap.size W0 w') (htk : ∀ w', Below mr w w' → Tab w') :
  Calls Tryz.prog 61 #[.pointer (some ⟨mb, 0, none⟩), v, .func (.func 62) #[] #[]] w fun e w' => e = .returned (.tuple #[]) ∧ ∃ F', WrS mr mb w' (tksP (tkP st (.n (xs.length : Int))) (xs.flatMap insTok)) F' ∧ Kept mr F w w' F' := by
 obtain ⟨a, cap, rfl, hna, hca, hat⟩ := slice_open (by decide) hin
 clear hin
 unfold maxLen at hca
 have HA : Hid (∀ i (h : i < xs.length), ∃ b o, a = some ⟨b, o, none⟩ ∧ insR.At W0 ⟨b, o, none⟩ i xs[i]) := hat
 have HLow := (show Hid (∀ w', Below mr w w' → Below W0.heap.size W0 w') from hlow)
 have HP1 : Hid (∀ n st F w, WrS mr mb w st F → wz st ≤ 1000000 → Calls Tryz.prog 60 #[.pointer (some ⟨mb, 0, none⟩), .int .i64 n] w fun e w' => e = .returned (.tuple #[]) ∧ ∃ F', WrS mr mb w' (tkP st (.n n)) F' ∧ Kept mr F w w' F') := fun n st F w h hz => implW1 mr mb n st F w h hz
 have H0 := (show Hid (WrS mr mb w st F) from h)
 have HZ := (show Hid (wz st ≤ 700000) from hz)
 have HZf : Hid (∀ i st, wz (tksP st ((xs.take i).flatMap insTok)) ≤ wz st + 720) := fun i st => by
  have := wzP_take insTok 6 xs (fun x _ => insTok_wt x) i st
  omega
 have HTk := (show Hid (∀ w', Below mr w w' → Tab w') from htk)
 clear htk
 clear hat hlow h hz
 go_enter Tryz.func61, Tryz.ntmps61
 go_wp2_with fail
 refine Calls.mono (HP1.out _ _ _ _ H0.out (by have := HZ.out; omega)) ?_
 rintro e w1 ⟨rfl, F1, hm, hk⟩
 have HM1 := (show Hid (WrS mr mb w1 (tkP st (.n (xs.length : Int))) F1) from hm)
 have HK1 := (show Hid (Kept mr F w w1 F1) from hk)
 have HZ1 : Hid (wz (tkP st (.n (xs.length : Int))) ≤ 700000 + 2) := by have := wzP_n st (xs.length : Int); have := HZ.out; show _ ≤ _; omega
 clear hm hk H0 HZ
 generalize hS1 : tkP st (.n (xs.length : Int)) = S1 at HM1 HZ1
 have HFin : Hid (∀ w' F', WrS mr mb w' (tksP S1 (xs.flatMap insTok)) F' → WrS mr mb w' (tksP (tkP st (.n (xs.length : Int))) (xs.flatMap insTok)) F') := fun w' F' h => by rw [hS1]; exact h
 clear hS1
 go_wp2_with fail
 go_loopw [16] (fun j16 wr => ∃ i : Nat, i ≤ xs.length ∧ j16 = .int .i64 (i : Int) ∧ ∃ Fr, WrS mr mb wr (tksP S1 ((xs.take i).flatMap insTok)) Fr ∧ Kept mr F w wr Fr) (fun j16 _ => xs.length - (intOf j16).toNat)
 case atStart => exact ⟨0, Nat.zero_le _, rfl, F1, HM1.out, HK1.out⟩
 case round =>
  obtain ⟨i, hi, rfl, F2, hm, hk⟩ := hrel
  have HM2 := (show Hid (WrS mr mb wr (tksP S1 ((xs.take i).flatMap insTok)) F2) from hm)
  have HK2 := (show Hid (Kept mr F w wr F2) from hk)
  have HZ2 : Hid (wz (tksP S1 ((xs.take i).flatMap insTok)) ≤ 700722) := by have := HZf.out i S1; have := HZ1.out; show _ ≤ _; omega
  clear hm hk
  by_cases hlt : i < xs.length
  ·obtain ⟨bb, o, rfl, hx⟩ := HA.out i hlt
   have HN : Hid (tksP S1 ((xs.take (i + 1)).flatMap insTok) = tksP (tksP S1 ((xs.take i).flatMap insTok)) (insTok xs[i])) := tksP_takeL insTok xs i hlt S1
   obtain ⟨g0, g1, g2, g3, g4, hop, _, s0, s1, s2⟩ := insAt (hx.mono (HLow.out _ HK2.out.low))
   clear hx
   generalize tksP S1 ((xs.take i).flatMap insTok) = S2 at *
   generalize xs[i] = d at *
   obtain ⟨op, aa, ic, inn, id⟩ := d
   simp only at g0 g1 g2 g3 g4 hop s0 s1 s2
   go_wp2_with fail
   refine Calls.mono (implWIns mr mb op aa ic inn id s0 s1 s2 S2 F2 _ (HM2.out.below (below_al _ _)) (by have := HZ2.out; omega) hop (fun w' hb => HTk.out w' ((HK2.out.low.trans ((below_al _ _).mono (Nat.le_of_lt HM2.out.mr_lt))).trans hb))) ?_
   rintro e w3 ⟨rfl, F3, hm, hk⟩
   have HX : Hid (WrS mr mb w3 (tksP S2 (insTok (op, aa, ic, inn, id))) F3 ∧ Kept mr F w w3 F3) := ⟨hm, (HK2.out.trans (HM2.out.kept (below_al _ _))).trans hk⟩
   clear hm hk
   go_wp2
   go_roundw
   case rel => exact ⟨i + 1, by omega, by go_num, F3, by rw [HN.out]; exact HX.out.1, HX.out.2⟩
   case measure => simp [intOf]; omega
  ·obtain rfl : i = xs.length := by omega
   rw [List.take_of_length_le (Nat.le_refl _)] at HM2
   go_wp2
   refine bodyPost_end (v := .tuple #[]) (by simp [results, go_sem]) rfl ⟨rfl, F2, HFin.out _ _ HM2.out, HK2.out⟩
set_option maxHeartbeats 4000000 in
theorem implWMethod (mr mb : Nat) (m : MethD) (vc vh : Value) (W0 : World) (h7 : insR.slice.In W0 [vc] m.code) (h8 : handlerR.slice.In W0 [vh] m.hands) (s0 : m.name.size ≤ maxLen) (s1 : m.desc.size ≤ maxLen) (hl1 : m.code.length ≤ 60) (hl2 : m.hands.length ≤ 6) (st : WS) (F : Nat → Prop) (w : World) (h : WrS mr mb w st F) (hz : wz st ≤ 600000) (hlow : ∀ w', Below mr w w' → Below W0.heap.size W0 w') (htk : ∀ w', Below mr w w' → Tab w') :
  Calls Tryz.prog 41 #[.pointer (some ⟨mb, 0, none⟩), methV m vc vh] w fun e w' => e = .returned (.tuple #[]) ∧ ∃ F', WrS mr mb w' (tksP (tkP (tksP (tksP st [.t m.name, .t m.desc, .n (fl3 m.static m.abs m.fin), .n m.stack, .n m.locals, .n (m.code.length : Int)]) (m.code.flatMap insTok)) (.n (m.hands.length : Int))) (m.hands.flatMap hanTok)) F' ∧ Kept mr F w w' F' := by
 have HT : Hid (∀ tb (ts : List ByteArray), ts.length ≤ 3 → (∀ t ∈ ts, t.size ≤ maxLen) → ∀ st F w, WrS mr mb w st F → wz st ≤ 900000 → Box F w tb (sC ts) → Calls Tryz.prog 36 #[.pointer (some ⟨mb, 0, none⟩), .slice (some ⟨tb, 0, none⟩) ts.length ts.length] w fun e w' => e = .returned (.tuple #[]) ∧ ∃ F', WrS mr mb w' (tksP st (ts.map .t)) F' ∧ Kept mr F w w' F') := fun tb ts h1 h2 st F w h hz hb => implTell mr mb tb ts h1 h2 st F w h hz hb
 have HFl : Hid (∀ tb (ls : List Bool), ls.length ≤ 3 → ∀ st F w, WrS mr mb w st F → wz st ≤ 1000000 → (∀ j (hj : j < ls.length), w.cell? ⟨tb, j, none⟩ = some (.bool ls[j])) → Calls Tryz.prog 37 #[.pointer (some ⟨mb, 0, none⟩), .slice (some ⟨tb, 0, none⟩) ls.length ls.length] w fun e w' => e = .returned (.tuple #[]) ∧ ∃ F', WrS mr mb w' (tkP st (.n (flB ls))) F' ∧ Kept mr F w w' F') := fun tb ls h1 st F w h hz hc => implWF mr mb tb ls h1 st F w h hz hc
 have HP1 : Hid (∀ n st F w, WrS mr mb w st F → wz st ≤ 1000000 → Calls Tryz.prog 60 #[.pointer (some ⟨mb, 0, none⟩), .int .i64 n] w fun e w' => e = .returned (.tuple #[]) ∧ ∃ F', WrS mr mb w' (tkP st (.n n)) F' ∧ Kept mr F w w' F') := fun n st F w h hz => implW1 mr mb n st F w h hz
 obtain ⟨xa, xca, rfl⟩ := slice_form h7
 obtain ⟨xb, xcb, rfl⟩ := slice_form h8
 obtain ⟨mn, mds, mst, mab, mfi, msk, mlo, code, hands⟩ := m
 unfold methV
 simp only at *
 have HLI : Hid (∀ st F w1, Below mr w w1 → WrS mr mb w1 st F → wz st ≤ 700000 → Calls Tryz.prog 61 #[.pointer (some ⟨mb, 0, none⟩), .slice xa code.length xca, .func (.func 62) #[] #[]] w1 fun e w' => e = .returned (.tuple #[]) ∧ ∃ F', WrS mr mb w' (tksP (tkP st (.n (code.length : Int))) (code.flatMap insTok)) F' ∧ Kept mr F w1 w' F') := fun st F w1 hb h hz => implWListI mr mb _ code W0 h7 hl1 st F w1 h hz (fun w' k => hlow w' (hb.trans k)) (fun w' k => htk w' (hb.trans k))
 have HLH : Hid (∀ st F w1, Below mr w w1 → WrS mr mb w1 st F → wz st ≤ 700000 → Calls Tryz.prog 63 #[.pointer (some ⟨mb, 0, none⟩), .slice xb hands.length xcb, .func (.func 64) #[] #[]] w1 fun e w' => e = .returned (.tuple #[]) ∧ ∃ F', WrS mr mb w' (tksP (tkP st (.n (hands.length : Int))) (hands.flatMap hanTok)) F' ∧ Kept mr F w1 w' F') := fun st F w1 hb h hz => implWListH mr mb _ hands W0 h8 hl2 st F w1 h hz (fun w' k => hlow w' (hb.trans k))
 have HI0 : Hid (WInv mr mb F w w.heap.size [.string mn, .string mds, .bool mst, .bool mab, .bool mfi, .int .i64 msk, .int .i64 mlo, .slice xa code.length xca, .slice xb hands.length xcb] (w.alloc (.cells ([.string mn, .string mds, .bool mst, .bool mab, .bool mfi, .int .i64 msk, .int .i64 mlo, .slice xa code.length xca, .slice xb hands.length xcb] : List Value).toArray 34)) st F) := WInv.start h _ _
 have HZ := (show Hid (wz st ≤ 600000) from hz)
 have HZi : Hid (∀ st, wz (tksP st (code.flatMap insTok)) ≤ wz st + 720) := fun st => by
  have h1 := tksP_wz (code.flatMap insTok) st
  have h2 := wt_flat insTok 6 code (fun x _ => insTok_wt x)
  omega
 clear h hz h7 h8 hlow htk
 go_enter Tryz.func41, Tryz.ntmps41
 go_wp2_with fail
 have HJ0 := (show Hid _ from HI0.out.below (below_al _ (.cells #[.string mn, .string mds] 9)))
 refine Calls.mono (HT.out _ [mn, mds] (by simp) (by intro t ht; simp at ht; rcases ht with rfl | rfl <;> assumption) _ _ _ HJ0.out.wrt (by have := HZ.out; omega) (box_at (sC [mn, mds]) _ (by first | rfl | simp) HI0.out.wrt.own_lt)) ?_
 rintro e w1 ⟨rfl, F1, hm, hk⟩
 have HI1 := (show Hid (WInv mr mb F w w.heap.size _ w1 (tksP st [.t mn, .t mds]) F1) from HJ0.out.step hm hk)
 clear hm hk HI0 HJ0
 have x2 := HI1.out.box.cells 2 _ rfl
 have x3 := HI1.out.box.cells 3 _ rfl
 have x4 := HI1.out.box.cells 4 _ rfl
 go_wp2_with fail
 go_region_with (go_at_call 37; refine Calls.mono (HFl.out _ [mst, mab, mfi] (by simp) _ _ _ (HI1.out.below (below_drew_al _ _)).wrt (by have := HZ.out; have := wzP_toks st [.t mn, .t mds] 2 (by simp [wt, wt1]); omega) (flag_cells _ _ (by first | rfl | simp) [mst, mab, mfi] _)) ?_; rintro e w2 ⟨rfl, F2, hm, hk⟩; have HI2 := (show Hid (WInv mr mb F w w.heap.size _ w2 (tkP (tksP st [.t mn, .t mds]) (.n (flB [mst, mab, mfi]))) F2) from (HI1.out.below (below_drew_al _ _)).step hm hk); clear hm hk)
 clear HI1
 clear x2 x3 x4
 all_goals
  have x5 := HI2.out.box.cells 5 _ rfl
  go_wp2_with fail
  go_region_with (go_at_call 60; refine Calls.mono (HP1.out msk _ _ _ (HI2.out.below (below_drew _)).wrt (by have := HZ.out; have := wzP_toks st [.t mn, .t mds] 2 (by simp [wt, wt1]); have := wzP_n (tksP st [.t mn, .t mds]) (flB [mst, mab, mfi]); omega)) ?_; rintro e w3 ⟨rfl, F3, hm, hk⟩; have HI3 := (show Hid (WInv mr mb F w w.heap.size _ w3 (tkP (tkP (tksP st [.t mn, .t mds]) (.n (flB [mst, mab, mfi]))) (.n msk)) F3) from (HI2.out.below (below_drew _)).step hm hk); clear hm hk)
  clear HI2
  clear x5
  have x6 := HI3.out.box.cells 6 _ rfl
  go_wp2_with fail
  go_region_with (go_at_call 60; refine Calls.mono (HP1.out mlo _ _ _ (HI3.out.below (below_drew _)).wrt (by have := HZ.out; have := wzP_toks st [.t mn, .t mds] 2 (by simp [wt, wt1]); have := wzP_n (tksP st [.t mn, .t mds]) (flB [mst, mab, mfi]); have := wzP_n (tkP (tksP st [.t mn, .t mds]) (.n (flB [mst, mab, mfi]))) msk; omega)) ?_; rintro e w4 ⟨rfl, F4, hm, hk⟩; have HI4 := (show Hid (WInv mr mb F w w.heap.size _ w4 (tkP (tkP (tkP (tksP st [.t mn, .t mds]) (.n (flB [mst, mab, mfi]))) (.n msk)) (.n mlo)) F4) from (HI3.out.below (below_drew _)).step hm hk); clear hm hk)
  clear HI3
  clear x6
  have HZ5 : Hid (wz (tkP (tkP (tkP (tksP st [.t mn, .t mds]) (.n (flB [mst, mab, mfi]))) (.n msk)) (.n mlo)) ≤ 600010) := by have := HZ.out; have := wzP_toks st [.t mn, .t mds] 2 (by simp [wt, wt1]); have := wzP_n (tksP st [.t mn, .t mds]) (flB [mst, mab, mfi]); have := wzP_n (tkP (tksP st [.t mn, .t mds]) (.n (flB [mst, mab, mfi]))) msk; have := wzP_n (tkP (tkP (tksP st [.t mn, .t mds]) (.n (flB [mst, mab, mfi]))) (.n msk)) mlo; show _ ≤ _; omega
  have HFin : Hid (∀ w' F', WrS mr mb w' (tksP (tkP (tksP (tkP (tkP (tkP (tkP (tksP st [.t mn, .t mds]) (.n (flB [mst, mab, mfi]))) (.n msk)) (.n mlo)) (.n (code.length : Int))) (code.flatMap insTok)) (.n (hands.length : Int))) (hands.flatMap hanTok)) F' → WrS mr mb w' (tksP (tkP (tksP (tksP st [.t mn, .t mds, .n (fl3 mst mab mfi), .n msk, .n mlo, .n (code.length : Int)]) (code.flatMap insTok)) (.n (hands.length : Int))) (hands.flatMap hanTok)) F') := fun w' F' h => h
  generalize (tkP (tkP (tkP (tksP st [.t mn, .t mds]) (.n (flB [mst, mab, mfi]))) (.n msk)) (.n mlo)) = s5 at *
  have x7 := HI4.out.box.cells 7 _ rfl
  go_wp2_with fail
  refine Calls.mono (HLI.out _ _ _ HI4.out.kept.low HI4.out.wrt (by have := HZ5.out; omega)) ?_
  rintro e w5 ⟨rfl, F5, hm, hk⟩
  have HI5 := (show Hid (WInv mr mb F w w.heap.size _ w5 _ F5) from HI4.out.step hm hk)
  clear hm hk HI4 x7
  have x8 := HI5.out.box.cells 8 _ rfl
  go_wp2_with fail
  refine Calls.mono (HLH.out _ _ _ HI5.out.kept.low HI5.out.wrt (by have := HZ5.out; have := wzP_n s5 (code.length : Int); have := HZi.out (tkP s5 (.n (code.length : Int))); omega)) ?_
  rintro e w6 ⟨rfl, F6, hm, hk⟩
  have HI6 := (show Hid (WInv mr mb F w w.heap.size _ w6 _ F6) from HI5.out.step hm hk)
  clear hm hk HI5 x8
  go_wp2
  refine bodyPost_end (v := .tuple #[]) (by simp [results, go_sem]) rfl ⟨rfl, _, HFin.out _ _ HI6.out.wrt, HI6.out.kept⟩
end Go.Proofs.YtnenhhlgabghfaaGreatDoor
