import Derived.Test.YtnenhhlgabghfaaGreatDoorWrL
import Derived.Test.YtnenhhlgabghfaaGreatDoorCR2
import Derived.Test.YtnenhhlgabghfaaGreatDoorTok
/-
 The program's writer tells a class.
-/
namespace Go.Proofs.YtnenhhlgabghfaaGreatDoor
open Go.RowKit
set_option maxRecDepth 20000
set_option linter.unusedVariables false

set_option maxHeartbeats 2000000 in
theorem implWListM (mr mb : Nat) (v : Value) (xs : List MTup) (W0 : World) (hin : methR.slice.In W0 [v] xs) (hmax : xs.length ≤ 10) (hl3 : ∀ x ∈ xs, (mD x).code.length ≤ 60 ∧ (mD x).hands.length ≤ 6) (st : WS) (F : Nat → Prop) (w : World) (h : WrS mr mb w st F) (hz : wz st ≤ 500000) (hlow : ∀ w', Below mr w w' → Below W0.heap.size W0 w') (htk : ∀ w', Below mr w w' → Tab w') :
  Calls Tryz.prog 40 #[.pointer (some ⟨mb, 0, none⟩), v, .func (.func 41) #[] #[]] w fun e w' => e = .returned (.tuple #[]) ∧ ∃ F', WrS mr mb w' (tksP (tkP st (.n (xs.length : Int))) (xs.flatMap mthTok)) F' ∧ Kept mr F w w' F' := by
 obtain ⟨a, cap, rfl, hna, hca, hat⟩ := slice_open (by decide) hin
 clear hin
 unfold maxLen at hca
 have HA : Hid (∀ i (h : i < xs.length), ∃ b o, a = some ⟨b, o, none⟩ ∧ methR.At W0 ⟨b, o, none⟩ i xs[i]) := hat
 have HLow := (show Hid (∀ w', Below mr w w' → Below W0.heap.size W0 w') from hlow)
 have HP1 : Hid (∀ n st F w, WrS mr mb w st F → wz st ≤ 1000000 → Calls Tryz.prog 60 #[.pointer (some ⟨mb, 0, none⟩), .int .i64 n] w fun e w' => e = .returned (.tuple #[]) ∧ ∃ F', WrS mr mb w' (tkP st (.n n)) F' ∧ Kept mr F w w' F') := fun n st F w h hz => implW1 mr mb n st F w h hz
 have H0 := (show Hid (WrS mr mb w st F) from h)
 have HZ := (show Hid (wz st ≤ 500000) from hz)
 have HZf : Hid (∀ i st, wz (tksP st ((xs.take i).flatMap mthTok)) ≤ wz st + 8000) := fun i st => by
  have := wzP_take mthTok 400 xs (fun x hx => mthTok_wt x (hl3 x hx).1 (hl3 x hx).2) i st
  omega
 have HTk := (show Hid (∀ w', Below mr w w' → Tab w') from htk)
 have HL3 : Hid (∀ i (h : i < xs.length), (mD xs[i]).code.length ≤ 60 ∧ (mD xs[i]).hands.length ≤ 6) := fun i h => hl3 _ (List.getElem_mem h)
 clear htk hl3
 clear hat hlow h hz
 go_enter Tryz.func40, Tryz.ntmps40
 go_wp2_with fail
 refine Calls.mono (HP1.out _ _ _ _ H0.out (by have := HZ.out; omega)) ?_
 rintro e w1 ⟨rfl, F1, hm, hk⟩
 have HM1 := (show Hid (WrS mr mb w1 (tkP st (.n (xs.length : Int))) F1) from hm)
 have HK1 := (show Hid (Kept mr F w w1 F1) from hk)
 have HZ1 : Hid (wz (tkP st (.n (xs.length : Int))) ≤ 500000 + 2) := by have := wzP_n st (xs.length : Int); have := HZ.out; show _ ≤ _; omega
 clear hm hk H0 HZ
 generalize hS1 : tkP st (.n (xs.length : Int)) = S1 at HM1 HZ1
 have HFin : Hid (∀ w' F', WrS mr mb w' (tksP S1 (xs.flatMap mthTok)) F' → WrS mr mb w' (tksP (tkP st (.n (xs.length : Int))) (xs.flatMap mthTok)) F') := fun w' F' h => by rw [hS1]; exact h
 clear hS1
 go_wp2_with fail
 go_loopw [16] (fun j16 wr => ∃ i : Nat, i ≤ xs.length ∧ j16 = .int .i64 (i : Int) ∧ ∃ Fr, WrS mr mb wr (tksP S1 ((xs.take i).flatMap mthTok)) Fr ∧ Kept mr F w wr Fr) (fun j16 _ => xs.length - (intOf j16).toNat)
 case atStart => exact ⟨0, Nat.zero_le _, rfl, F1, HM1.out, HK1.out⟩
 case round =>
  obtain ⟨i, hi, rfl, F2, hm, hk⟩ := hrel
  have HM2 := (show Hid (WrS mr mb wr (tksP S1 ((xs.take i).flatMap mthTok)) F2) from hm)
  have HK2 := (show Hid (Kept mr F w wr F2) from hk)
  have HZ2 : Hid (wz (tksP S1 ((xs.take i).flatMap mthTok)) ≤ 508002) := by have := HZf.out i S1; have := HZ1.out; show _ ≤ _; omega
  clear hm hk
  by_cases hlt : i < xs.length
  ·obtain ⟨bb, o, rfl, hx⟩ := HA.out i hlt
   have HN : Hid (tksP S1 ((xs.take (i + 1)).flatMap mthTok) = tksP (tksP S1 ((xs.take i).flatMap mthTok)) (mthTok xs[i])) := tksP_takeL mthTok xs i hlt S1
   obtain ⟨vc, vh, q0, q1, q2, q3, q4, q5, q6, q7, q8, s0, s1, _, _, h7, h8⟩ := methAt hx
   have hbl : bb < W0.heap.size := World.block_lt_of_cell? _ _ q0
   have hlow := HLow.out _ HK2.out.low
   have g0 := carry hlow hbl q0
   have g1 := carry hlow hbl q1
   have g2 := carry hlow hbl q2
   have g3 := carry hlow hbl q3
   have g4 := carry hlow hbl q4
   have g5 := carry hlow hbl q5
   have g6 := carry hlow hbl q6
   have g7 := carry hlow hbl q7
   have g8 := carry hlow hbl q8
   have HL := (show Hid _ from HL3.out i hlt)
   have HC : Hid (∀ st F w1, Below mr w w1 → WrS mr mb w1 st F → wz st ≤ 600000 → Calls Tryz.prog 41 #[.pointer (some ⟨mb, 0, none⟩), methV (mD xs[i]) vc vh] w1 fun e w' => e = .returned (.tuple #[]) ∧ ∃ F', WrS mr mb w' (tksP st (mthTok xs[i])) F' ∧ Kept mr F w1 w' F') := fun st F w1 hb h hz => by
    have k := implWMethod mr mb (mD xs[i]) vc vh W0 h7 h8 s0 s1 HL.out.1 HL.out.2 st F w1 h hz (fun w' k => HLow.out w' (hb.trans k)) (fun w' k => HTk.out w' (hb.trans k))
    unfold mthTok
    rw [tksP_app, tksP_app, tksP_app, tksP_one]
    exact k
   obtain ⟨xa, xca, rfl⟩ := slice_form h7
   obtain ⟨xb, xcb, rfl⟩ := slice_form h8
   clear hx h7 h8 s0 s1 q0 q1 q2 q3 q4 q5 q6 q7 q8 hlow hbl
   generalize tksP S1 ((xs.take i).flatMap mthTok) = S2 at *
   generalize mthTok xs[i] = mtk at *
   generalize mD xs[i] = y at *
   obtain ⟨mn, mds, mst, mab, mfi, msk, mlo, code, hands⟩ := y
   unfold methV at HC
   simp only at g0 g1 g2 g3 g4 g5 g6 g7 g8 HC
   go_wp2_with fail
   refine Calls.mono (HC.out S2 F2 _ (HK2.out.low.trans ((below_al _ _).mono (Nat.le_of_lt HM2.out.mr_lt))) (HM2.out.below (below_al _ _)) (by have := HZ2.out; omega)) ?_
   rintro e w3 ⟨rfl, F3, hm, hk⟩
   have HX : Hid (WrS mr mb w3 (tksP S2 mtk) F3 ∧ Kept mr F w w3 F3) := ⟨hm, (HK2.out.trans (HM2.out.kept (below_al _ _))).trans hk⟩
   clear hm hk
   go_wp2
   go_roundw
   case rel => exact ⟨i + 1, by omega, by go_num, F3, by rw [HN.out]; exact HX.out.1, HX.out.2⟩
   case measure => simp [intOf]; omega
  ·obtain rfl : i = xs.length := by omega
   rw [List.take_of_length_le (Nat.le_refl _)] at HM2
   go_wp2
   refine bodyPost_end (v := .tuple #[]) (by simp [results, go_sem]) rfl ⟨rfl, F2, HFin.out _ _ HM2.out, HK2.out⟩
set_option maxHeartbeats 4000000 in
theorem implWClass (mr mb : Nat) (m : ClsD) (vc vh : Value) (W0 : World) (hc : fieldR.slice.In W0 [vc] m.fields) (hh : methR.slice.In W0 [vh] m.meths) (s0 : m.name.size ≤ maxLen) (s1 : m.super.size ≤ maxLen) (hl1 : m.fields.length ≤ 8) (hl2 : m.meths.length ≤ 10) (hl3 : ∀ x ∈ m.meths, (mD x).code.length ≤ 60 ∧ (mD x).hands.length ≤ 6) (F : Nat → Prop) (w : World) (h : WrS mr mb w ([], []) F) (hlow : ∀ w', Below mr w w' → Below W0.heap.size W0 w') (htk : ∀ w', Below mr w w' → Tab w') :
  Calls Tryz.prog 23 #[.pointer (some ⟨mb, 0, none⟩), clsV m vc vh] w fun e w' => e = .returned (.tuple #[]) ∧ ∃ F', WrS mr mb w' (tksP ([], []) (clsTok m)) F' ∧ Kept mr F w w' F' := by
 have HT : Hid (∀ tb (ts : List ByteArray), ts.length ≤ 3 → (∀ t ∈ ts, t.size ≤ maxLen) → ∀ st F w, WrS mr mb w st F → wz st ≤ 900000 → Box F w tb (sC ts) → Calls Tryz.prog 36 #[.pointer (some ⟨mb, 0, none⟩), .slice (some ⟨tb, 0, none⟩) ts.length ts.length] w fun e w' => e = .returned (.tuple #[]) ∧ ∃ F', WrS mr mb w' (tksP st (ts.map .t)) F' ∧ Kept mr F w w' F') := fun tb ts h1 h2 st F w h hz hb => implTell mr mb tb ts h1 h2 st F w h hz hb
 have HFl : Hid (∀ tb (ls : List Bool), ls.length ≤ 3 → ∀ st F w, WrS mr mb w st F → wz st ≤ 1000000 → (∀ j (hj : j < ls.length), w.cell? ⟨tb, j, none⟩ = some (.bool ls[j])) → Calls Tryz.prog 37 #[.pointer (some ⟨mb, 0, none⟩), .slice (some ⟨tb, 0, none⟩) ls.length ls.length] w fun e w' => e = .returned (.tuple #[]) ∧ ∃ F', WrS mr mb w' (tkP st (.n (flB ls))) F' ∧ Kept mr F w w' F') := fun tb ls h1 st F w h hz hc => implWF mr mb tb ls h1 st F w h hz hc
 have HP1 : Hid (∀ n st F w, WrS mr mb w st F → wz st ≤ 1000000 → Calls Tryz.prog 60 #[.pointer (some ⟨mb, 0, none⟩), .int .i64 n] w fun e w' => e = .returned (.tuple #[]) ∧ ∃ F', WrS mr mb w' (tkP st (.n n)) F' ∧ Kept mr F w w' F') := fun n st F w h hz => implW1 mr mb n st F w h hz
 obtain ⟨a, ca, rfl⟩ := slice_form hc
 obtain ⟨b, cb, rfl⟩ := slice_form hh
 obtain ⟨nm, sp, fi, ab, fs, ms⟩ := m
 unfold clsV
 simp only at *
 have HLF : Hid (∀ st F w1, Below mr w w1 → WrS mr mb w1 st F → wz st ≤ 700000 → Calls Tryz.prog 38 #[.pointer (some ⟨mb, 0, none⟩), .slice a fs.length ca, .func (.func 39) #[] #[]] w1 fun e w' => e = .returned (.tuple #[]) ∧ ∃ F', WrS mr mb w' (tksP (tkP st (.n (fs.length : Int))) (fs.flatMap fldTok)) F' ∧ Kept mr F w1 w' F') := fun st F w1 hb h hz => implWListF mr mb _ fs W0 hc hl1 st F w1 h hz (fun w' k => hlow w' (hb.trans k))
 have HLM : Hid (∀ st F w1, Below mr w w1 → WrS mr mb w1 st F → wz st ≤ 500000 → Calls Tryz.prog 40 #[.pointer (some ⟨mb, 0, none⟩), .slice b ms.length cb, .func (.func 41) #[] #[]] w1 fun e w' => e = .returned (.tuple #[]) ∧ ∃ F', WrS mr mb w' (tksP (tkP st (.n (ms.length : Int))) (ms.flatMap mthTok)) F' ∧ Kept mr F w1 w' F') := fun st F w1 hb h hz => implWListM mr mb _ ms W0 hh hl2 hl3 st F w1 h hz (fun w' k => hlow w' (hb.trans k)) (fun w' k => htk w' (hb.trans k))
 have HI0 : Hid (WInv mr mb F w w.heap.size [.string nm, .string sp, .bool fi, .bool ab, .slice a fs.length ca, .slice b ms.length cb] (w.alloc (.cells ([.string nm, .string sp, .bool fi, .bool ab, .slice a fs.length ca, .slice b ms.length cb] : List Value).toArray 26)) ([], []) F) := WInv.start h _ _
 have HZ : Hid (wz (([], []) : WS) ≤ 0) := Nat.le_refl 0
 have HZf : Hid (∀ st, wz (tksP st (fs.flatMap fldTok)) ≤ wz st + 48) := fun st => by
  have h1 := tksP_wz (fs.flatMap fldTok) st
  have h2 := wt_flat fldTok 3 fs (fun x _ => fldTok_wt x)
  omega
 have HFin : Hid (∀ w' F', WrS mr mb w' (tksP (tkP (tksP (tkP (tkP (tksP ([], []) [.t nm, .t sp]) (.n (flB [fi, ab]))) (.n (fs.length : Int))) (fs.flatMap fldTok)) (.n (ms.length : Int))) (ms.flatMap mthTok)) F' → WrS mr mb w' (tksP ([], []) (clsTok ⟨nm, sp, fi, ab, fs, ms⟩)) F') := fun w' F' h => by
  have e : tksP ([], []) (clsTok ⟨nm, sp, fi, ab, fs, ms⟩) = tksP (tkP (tksP (tkP (tkP (tksP ([], []) [.t nm, .t sp]) (.n (flB [fi, ab]))) (.n (fs.length : Int))) (fs.flatMap fldTok)) (.n (ms.length : Int))) (ms.flatMap mthTok) := by
   unfold clsTok
   rw [tksP_app, tksP_app, tksP_app, tksP_one]
   rfl
  rw [e]
  exact h
 clear h hc hh hlow htk hl3
 generalize (([], []) : WS) = st at *
 go_enter Tryz.func23, Tryz.ntmps23
 go_wp2_with fail
 have HJ0 := (show Hid _ from HI0.out.below (below_al _ (.cells #[.string nm, .string sp] 9)))
 refine Calls.mono (HT.out _ [nm, sp] (by simp) (by intro t ht; simp at ht; rcases ht with rfl | rfl <;> assumption) _ _ _ HJ0.out.wrt (by have := HZ.out; omega) (box_at (sC [nm, sp]) _ (by first | rfl | simp) HI0.out.wrt.own_lt)) ?_
 rintro e w1 ⟨rfl, F1, hm, hk⟩
 have HI1 := (show Hid (WInv mr mb F w w.heap.size _ w1 (tksP st [.t nm, .t sp]) F1) from HJ0.out.step hm hk)
 clear hm hk HI0 HJ0
 have x2 := HI1.out.box.cells 2 _ rfl
 have x3 := HI1.out.box.cells 3 _ rfl
 go_wp2_with fail
 go_region_with (go_at_call 37; refine Calls.mono (HFl.out _ [fi, ab] (by simp) _ _ _ (HI1.out.below (below_drew_al _ _)).wrt (by have := HZ.out; have := wzP_toks st [.t nm, .t sp] 2 (by simp [wt, wt1]); omega) (flag_cells _ _ (by first | rfl | simp) [fi, ab] _)) ?_; rintro e w2 ⟨rfl, F2, hm, hk⟩; have HI2 := (show Hid (WInv mr mb F w w.heap.size _ w2 (tkP (tksP st [.t nm, .t sp]) (.n (flB [fi, ab]))) F2) from (HI1.out.below (below_drew_al _ _)).step hm hk); clear hm hk)
 clear HI1
 clear x2 x3
 all_goals
  have HZ5 : Hid (wz (tkP (tksP st [.t nm, .t sp]) (.n (flB [fi, ab]))) ≤ 10) := by have := HZ.out; have := wzP_toks st [.t nm, .t sp] 2 (by simp [wt, wt1]); have := wzP_n (tksP st [.t nm, .t sp]) (flB [fi, ab]); show _ ≤ _; omega
  generalize (tkP (tksP st [.t nm, .t sp]) (.n (flB [fi, ab]))) = s5 at *
  have x4 := HI2.out.box.cells 4 _ rfl
  go_wp2_with fail
  refine Calls.mono (HLF.out _ _ _ HI2.out.kept.low HI2.out.wrt (by have := HZ5.out; omega)) ?_
  rintro e w3 ⟨rfl, F3, hm, hk⟩
  have HI3 := (show Hid (WInv mr mb F w w.heap.size _ w3 _ F3) from HI2.out.step hm hk)
  clear hm hk HI2 x4
  have x5 := HI3.out.box.cells 5 _ rfl
  go_wp2_with fail
  refine Calls.mono (HLM.out _ _ _ HI3.out.kept.low HI3.out.wrt (by have := HZ5.out; have := wzP_n s5 (fs.length : Int); have := HZf.out (tkP s5 (.n (fs.length : Int))); omega)) ?_
  rintro e w4 ⟨rfl, F4, hm, hk⟩
  have HI4 := (show Hid (WInv mr mb F w w.heap.size _ w4 _ F4) from HI3.out.step hm hk)
  clear hm hk HI3 x5
  go_wp2
  refine bodyPost_end (v := .tuple #[]) (by simp [results, go_sem]) rfl ⟨rfl, _, HFin.out _ _ HI4.out.wrt, HI4.out.kept⟩
theorem pools_same (m : ClsD) : (tksP ([], []) (clsTok m)).1 = (madeS m).1 := (tks_pool (clsTok m) ([], []) ([], []) rfl).symm
theorem made_same (m : ClsD) (h : ClsP m) (hp : (madeS m).1.length ≤ 200) : tksP ([], []) (clsTok m) = madeS m := tks_same (clsTok m) ([], []) (clsTok_ok m h) (by unfold madeS at hp; omega)
theorem WrS.start {w : World} {t : TypeId} (mr mb : Nat) (hm : w.heap[mr]? = some (.map #[] 0)) (hmb : mb = w.heap.size) : ∃ F, WrS mr mb (w.alloc (.cells #[.slice none 0 0, .map (some mr), .slice none 0 0] t)) ([], []) F := by
 subst hmb
 have hlt : mr < w.heap.size := (Array.getElem?_eq_some_iff.1 hm).1
 have hb : (w.alloc (.cells #[.slice none 0 0, .map (some mr), .slice none 0 0] t)).heap[w.heap.size]? = some (.cells #[.slice none 0 0, .map (some mr), .slice none 0 0] t (0, 0)) := heap_alloc_new w _
 refine ⟨_, .slice none 0 0, .slice none 0 0, #[], 0, ⟨⟨by simp [go_sem], ?_, World.ownsRow_nil _ _ _ _, by simp⟩, by simp [go_sem], by simp [go_sem], ?_, World.ownsRow_nil _ _ _ _, ?_, MapIs.start, hlt, by simp, by simp⟩, rfl⟩
 ·unfold World.frozen?; rw [hb]; rfl
 ·unfold World.frozen?; rw [hb]; rfl
 ·rw [Below.heap_alloc _ _ _ hlt]; exact hm
set_option maxHeartbeats 2000000 in
theorem implWrite (m : ClsD) (vc vh : Value) (w : World) (s0 : m.name.size ≤ maxLen) (s1 : m.super.size ≤ maxLen) (hc : fieldR.slice.In w [vc] m.fields) (hh : methR.slice.In w [vh] m.meths) (ht : Tab w) (hg : Glob w) :
  Calls Tryz.prog 10 #[clsV m vc vh] w fun e w' => Below w.heap.size w w' ∧
   ((ClsP m ∧ (madeS m).1.length ≤ 200 ∧ ∃ mr mb F, e = .returned (.tuple #[.pointer (some ⟨mb, 0, none⟩), .bool true]) ∧ w.heap.size ≤ mr ∧ WrS mr mb w' (madeS m) F) ∨
    (¬ (ClsP m ∧ (madeS m).1.length ≤ 200) ∧ e = .returned (.tuple #[.pointer none, .bool false]))) := by
 have HR : Hid (∀ o, Calls Tryz.prog 22 #[clsV m vc vh] (w.alloc o) fun e w2 => e = .returned (.bool (clsOk m)) ∧ Below (w.alloc o).heap.size (w.alloc o) w2) := fun o => implClassRight m vc vh (w.alloc o) s0 s1 (fieldR.slice.mono _ _ _ _ (below_al _ _) hc) (methR.slice.mono _ _ _ _ (below_al _ _) hh) (ht.mono (below_al _ _)) (hg.mono (below_al _ _))
 have HB0 : Hid (∀ o, Below w.heap.size w (w.alloc o)) := fun o => below_al _ _
 have hmm := @run_makeMap Tryz.prog
 obtain ⟨a, ca, rfl⟩ := slice_form hc
 obtain ⟨b, cb, rfl⟩ := slice_form hh
 rcases clsOk_cases m with ⟨hq, hP⟩ | ⟨hq, hP⟩
 ·have HP := (show Hid (ClsP m) from hP)
  have HC : Hid (∀ mr mb F w1, w.heap.size ≤ mr → Below w.heap.size w w1 → WrS mr mb w1 ([], []) F → Calls Tryz.prog 23 #[.pointer (some ⟨mb, 0, none⟩), clsV m (.slice a m.fields.length ca) (.slice b m.meths.length cb)] w1 fun e w' => e = .returned (.tuple #[]) ∧ ∃ F', WrS mr mb w' (tksP ([], []) (clsTok m)) F' ∧ Kept mr F w1 w' F') := fun mr mb F w1 hr hb h =>
   implWClass mr mb m _ _ w hc hh s0 s1 hP.fl hP.ml (clsP_lens m hP) F w1 h (fun w' k => hb.trans (k.mono hr)) (fun w' k => ht.mono (hb.trans (k.mono hr)))
  have HPl : Hid ((tksP ([], []) (clsTok m)).1 = (madeS m).1) := pools_same m
  have HSm : Hid ((madeS m).1.length ≤ 200 → tksP ([], []) (clsTok m) = madeS m) := fun h => made_same m hP h
  generalize tksP ([], []) (clsTok m) = sp at *
  generalize madeS m = ss at *
  rw [hq] at HR
  clear hc hh ht hg s0 s1 hP hq
  have HNo : Hid (200 < ss.1.length → ¬ (ClsP m ∧ ss.1.length ≤ 200)) := fun h k => by omega
  have HYes : Hid (ClsP m) := HP.out
  obtain ⟨nm, sup, fi, ab, fs, ms⟩ := m
  unfold clsV at *
  simp only at *
  go_enter Tryz.func10, Tryz.ntmps10
  go_wp2_with fail
  refine Calls.mono (HR.out _) ?_
  rintro e w1 ⟨rfl, hb1⟩
  have x0 := cC hb1 (w.heap.size) 0 (.string nm) (by simp) (by simp [go_sem])
  have x1 := cC hb1 (w.heap.size) 1 (.string sup) (by simp) (by simp [go_sem])
  have x2 := cC hb1 (w.heap.size) 2 (.bool fi) (by simp) (by simp [go_sem])
  have x3 := cC hb1 (w.heap.size) 3 (.bool ab) (by simp) (by simp [go_sem])
  have x4 := cC hb1 (w.heap.size) 4 (.slice a fs.length ca) (by simp) (by simp [go_sem])
  have x5 := cC hb1 (w.heap.size) 5 (.slice b ms.length cb) (by simp) (by simp [go_sem])
  have hz1 : w.heap.size < w1.heap.size := by have := hb1.size; simp at this; omega
  have HB1 : Hid (Below w.heap.size w w1) := (HB0.out _).trans (hb1.mono (by simp))
  clear hb1
  obtain ⟨F0, hst⟩ := WrS.start (w := w1.alloc (.map #[] 0)) (t := 46) w1.heap.size (w1.heap.size + 1) (heap_alloc_new w1 _) (by simp)
  have HST := (show Hid _ from hst)
  clear hst
  go_wp2_with fail
  refine Calls.mono (HC.out _ _ F0 _ (by omega) ((HB1.out.alloc HB1.out.size _).alloc (by have := HB1.out.size; simp; omega) _) HST.out) ?_
  rintro e w2 ⟨rfl, F2, hm2, hk2⟩
  have HB2 : Hid (Below w.heap.size w w2) := ((HB1.out.alloc HB1.out.size _).alloc (by have := HB1.out.size; simp; omega) _).trans (hk2.low.mono (by omega))
  obtain ⟨vp, vb, es, ck, hwa, hF2⟩ := hm2
  have HWA := (show Hid (WrAt w2 w1.heap.size (w1.heap.size + 1) sp vp vb es ck) from hwa)
  have c2 := hwa.c2
  have HO : Hid (∃ a cap, vp = .slice a sp.1.length cap) := by
   show ∃ a cap, _
   rcases hwa.op.2 with ⟨e, h0⟩ | ⟨g, cap, cur, e, _⟩
   ·exact ⟨none, 0, by rw [e, h0]⟩
   ·exact ⟨_, _, e⟩
  clear hwa hk2 hF2
  obtain ⟨pa, pc, rfl⟩ := HO.out
  clear HO HC HST x0 x1 x2 x3 x4 x5
  by_cases h200 : 200 < sp.1.length
  ·have d : decide ((200 : Int) < (sp.1.length : Int)) = true := by simp; omega
   have HN := (show Hid _ from HNo.out (by rw [← HPl.out]; exact h200))
   go_wp2
   refine bodyPost_ret (v := .tuple #[.pointer none, .bool false]) (by simp [results, Tryz.results10, go_sem]) rfl ⟨HB2.out, .inr ⟨HN.out, rfl⟩⟩
  ·have d : decide ((200 : Int) < (sp.1.length : Int)) = false := by simp; omega
   have HY : Hid (ss.1.length ≤ 200 ∧ ∃ F, WrS w1.heap.size (w1.heap.size + 1) w2 ss F) := by
    have h1 : ss.1.length ≤ 200 := by rw [← HPl.out]; omega
    have h2 : WrS w1.heap.size (w1.heap.size + 1) w2 sp (ownW w1.heap.size (w1.heap.size + 1) (.slice pa sp.1.length pc) vb) := ⟨_, _, _, _, HWA.out, rfl⟩
    rw [HSm.out h1] at h2
    exact ⟨h1, _, h2⟩
   go_wp2
   obtain ⟨hy1, Fy, hy2⟩ := HY.out
   refine bodyPost_ret (v := .tuple #[.pointer (some ⟨w1.heap.size + 1, 0, none⟩), .bool true]) (by simp [results, Tryz.results10, go_sem]) rfl ⟨HB2.out, .inl ⟨HYes.out, hy1, _, _, Fy, rfl, by omega, hy2⟩⟩
 ·have HN : Hid (¬ (ClsP m ∧ (madeS m).1.length ≤ 200)) := fun h => hP h.1
  rw [hq] at HR
  clear hc hh ht hg s0 s1 hP hq hmm
  obtain ⟨nm, sup, fi, ab, fs, ms⟩ := m
  unfold clsV at *
  simp only at *
  go_enter Tryz.func10, Tryz.ntmps10
  go_wp2_with fail
  refine Calls.mono (HR.out _) ?_
  rintro e w1 ⟨rfl, hb1⟩
  have HB1 : Hid (Below w.heap.size w w1) := (HB0.out _).trans (hb1.mono (by simp))
  clear hb1
  go_wp2
  refine bodyPost_ret (v := .tuple #[.pointer none, .bool false]) (by simp [results, Tryz.results10, go_sem]) rfl ⟨HB1.out, .inr ⟨HN.out, rfl⟩⟩
end Go.Proofs.YtnenhhlgabghfaaGreatDoor
