import Derived.Test.YtnenhhlgabghfaaGreatDoorMk2
import Derived.Test.YtnenhhlgabghfaaGreatDoorTokC
/-
 The model's maker tells a class.
-/
namespace Go.Proofs.YtnenhhlgabghfaaGreatDoor
open Go.RowKit
set_option maxRecDepth 20000
set_option linter.unusedVariables false

/-- What holds of a maker while a class is told: the call's own copy of the class lies at cb. -/
structure CInv (mb : Nat) (F0 : Nat → Prop) (w0 : World) (cb : Nat) (cs : List Value) (wr : World) (st : WS) (F' : Nat → Prop) : Prop where
 mkr : MkS mb wr st F'
 kept : Kept mb F0 w0 wr F'
 box : Box F' wr cb cs
theorem CInv.step {mb : Nat} {F0 F1 F2 : Nat → Prop} {w0 wr w1 : World} {cb : Nat} {cs : List Value} {st st1 : WS} (h : CInv mb F0 w0 cb cs wr st F1) (hm : MkS mb w1 st1 F2) (hk : Kept mb F1 wr w1 F2) : CInv mb F0 w0 cb cs w1 st1 F2 :=
 ⟨hm, h.kept.trans hk, hk.box h.box⟩
theorem CInv.below {mb : Nat} {F0 F1 : Nat → Prop} {w0 wr w1 : World} {cb : Nat} {cs : List Value} {st : WS} (h : CInv mb F0 w0 cb cs wr st F1) (hb : Below wr.heap.size wr w1) : CInv mb F0 w0 cb cs w1 st F1 :=
 h.step (h.mkr.below hb) (Kept.of_below (Nat.le_of_lt h.mkr.mb_lt) hb)
theorem tks_take {α : Type} (f : α → List Tok) (xs : List α) (i : Nat) (h : i < xs.length) (st : WS) : tksS st ((xs.take (i + 1)).flatMap f) = tksS (tksS st ((xs.take i).flatMap f)) (f xs[i]) := by
 have e : xs.take (i + 1) = xs.take i ++ [xs[i]] := by rw [List.take_add_one, List.getElem?_eq_getElem h]; rfl
 rw [e, List.flatMap_append, tksS_app]
 simp
theorem wz_take {α : Type} (f : α → List Tok) (K : Nat) (xs : List α) (hK : ∀ x ∈ xs, wt (f x) ≤ K) (i : Nat) (st : WS) : wz (tksS st ((xs.take i).flatMap f)) ≤ wz st + 2 * (xs.length * K) := by
 have h1 := tksS_wz ((xs.take i).flatMap f) st
 have h2 := wt_flat f K (xs.take i) (fun x hx => hK x (List.mem_of_mem_take hx))
 have h3 : (xs.take i).length * K ≤ xs.length * K := Nat.mul_le_mul_right _ (by simp; omega)
 omega
theorem wz_ins (st : WS) (x : InsD) : wz (tksS st (insTok x)) ≤ wz st + 12 := by have := tksS_wz (insTok x) st; have := insTok_wt x; omega

set_option maxHeartbeats 8000000 in
theorem specMkClass (mb : Nat) (m : ClsD) (vc vh : Value) (W0 w : World) (F : Nat → Prop) (hb : Below W0.heap.size W0 w) (hs : W0.heap.size ≤ mb) (hc : fieldR.slice.In W0 [vc] m.fields) (hh : methR.slice.In W0 [vh] m.meths)
  (hl : m.fields.length ≤ 8) (hl2 : m.meths.length ≤ 10) (hl3 : ∀ x ∈ m.meths, (mD x).code.length ≤ 60 ∧ (mD x).hands.length ≤ 6) (h : MkS mb w ([], []) F) :
  Calls Tryz.prog 31 #[.pointer (some ⟨mb, 0, none⟩), clsV m vc vh] w fun e w' => e = .returned (.tuple #[]) ∧ ∃ F', MkS mb w' (tksS ([], []) (clsTok m)) F' ∧ Kept mb F w w' F' := by
 obtain ⟨a, ca, rfl, hna, hca, hat⟩ := slice_open (by decide) hc
 obtain ⟨b, cb, rfl, hnb, hcb, hbt⟩ := slice_open (by decide) hh
 clear hc hh
 unfold maxLen at hca hcb
 obtain ⟨nm, sp, fi, ab, fs, ms⟩ := m
 unfold clsV
 simp only at *
 have HA : Hid (∀ i (h : i < fs.length), ∃ b o, a = some ⟨b, o, none⟩ ∧ fieldR.At W0 ⟨b, o, none⟩ i fs[i]) := hat
 have HBt : Hid (∀ i (h : i < ms.length), ∃ c o, b = some ⟨c, o, none⟩ ∧ methR.At W0 ⟨c, o, none⟩ i ms[i]) := hbt
 have HL3 : Hid (∀ i (h : i < ms.length), (mD ms[i]).code.length ≤ 60 ∧ (mD ms[i]).hands.length ≤ 6) := fun i h => hl3 _ (List.getElem_mem h)
 have HLow : Hid (∀ w', Below mb w w' → Below W0.heap.size W0 w') := fun w' k => hb.trans (k.mono hs)
 have HZm : Hid (∀ i st, wz (tksS st ((ms.take i).flatMap mthTok)) ≤ wz st + 8000) := fun i st => by
  have := wz_take mthTok 400 ms (fun x hx => mthTok_wt x (hl3 x hx).1 (hl3 x hx).2) i st
  omega
 have HZf : Hid (∀ i st, wz (tksS st ((fs.take i).flatMap fldTok)) ≤ wz st + 48) := fun i st => by
  have := wz_take fldTok 3 fs (fun x hx => fldTok_wt x) i st
  omega
 have HNum : Hid (∀ n st F w, MkS mb w st F → wz st ≤ 1000000 → Calls Tryz.prog 48 #[.pointer (some ⟨mb, 0, none⟩), .int .i64 n] w fun e w' => e = .returned (.tuple #[]) ∧ ∃ F', MkS mb w' (tkS st (.n n)) F' ∧ Kept mb F w w' F') := fun n st F w h hz => specNumT mb n st F w h hz
 have HTx : Hid (∀ n st F w, MkS mb w st F → wz st ≤ 1000000 → Calls Tryz.prog 47 #[.pointer (some ⟨mb, 0, none⟩), .string n] w fun e w' => e = .returned (.tuple #[]) ∧ ∃ F', MkS mb w' (tkS st (.t n)) F' ∧ Kept mb F w w' F') := fun n st F w h hz => specTextT mb n st F w h hz
 have HFl : Hid (∀ a b c w, Calls Tryz.prog 49 #[.bool a, .bool b, .bool c] w fun e w' => e = .returned (.int .i64 (fl3 a b c)) ∧ w' = w) := fun a b c w => specFlags a b c w
 have HIns : Hid (∀ op a c n d st F w, MkS mb w st F → wz st ≤ 900000 → (-9223372036854775808 ≤ op ∧ op ≤ 9223372036854775807) → Calls Tryz.prog 50 #[.pointer (some ⟨mb, 0, none⟩), .agg #[.int .i64 op, .int .i64 a, .string c, .string n, .string d]] w fun e w' => e = .returned (.tuple #[]) ∧ ∃ F', MkS mb w' (tksS st (insTok (op, a, c, n, d))) F' ∧ Kept mb F w w' F') := fun op a c n d st F w h hz ho => specMkIns mb op a c n d st F w h hz ho
 have hz0 : wz (([], []) : WS) = 0 := rfl
 have HZ0 : Hid (wz (([], []) : WS) ≤ 0) := by show _ ≤ _; omega
 have HI0 : Hid (CInv mb F w w.heap.size [.string nm, .string sp, .bool fi, .bool ab, .slice a fs.length ca, .slice b ms.length cb] (w.alloc (.cells ([.string nm, .string sp, .bool fi, .bool ab, .slice a fs.length ca, .slice b ms.length cb] : List Value).toArray 26)) ([], []) F) := ⟨h.below ((Below.refl _ _).alloc (Nat.le_refl _) _), Kept.of_below (Nat.le_of_lt h.mb_lt) ((Below.refl _ _).alloc (Nat.le_refl _) _), box_new _ h.own_lt⟩
 have HFin : Hid (∀ w' F', MkS mb w' (tksS (tkS (tksS (tksS ([], []) [.t nm, .t sp, .n (fl3 fi ab false), .n (fs.length : Int)]) (fs.flatMap fldTok)) (.n (ms.length : Int))) (ms.flatMap mthTok)) F' → MkS mb w' (tksS ([], []) (clsTok ⟨nm, sp, fi, ab, fs, ms⟩)) F') := fun w' F' h => by
  have e : tksS ([], []) (clsTok ⟨nm, sp, fi, ab, fs, ms⟩) = tksS (tkS (tksS (tksS ([], []) [.t nm, .t sp, .n (fl3 fi ab false), .n (fs.length : Int)]) (fs.flatMap fldTok)) (.n (ms.length : Int))) (ms.flatMap mthTok) := by
   unfold clsTok
   rw [tksS_app, tksS_app, tksS_app, tksS_one]
  rw [e]
  exact h
 have hmb : W0.heap.size ≤ w.heap.size := hb.size
 clear hat hbt hl3 hb h hz0
 generalize (([], []) : WS) = s0 at *
 go_enter Tryz.func31, Tryz.ntmps31
 go_wp2_with fail
 refine Calls.mono (HTx.out _ _ _ _ HI0.out.mkr (by have := HZ0.out; omega)) ?_
 rintro e w1 ⟨rfl, F1, hm, hk⟩
 have HI1 := (show Hid (CInv mb F w w.heap.size _ w1 (tkS s0 (.t nm)) F1) from HI0.out.step hm hk)
 clear hm hk HI0
 have cc1 := HI1.out.box.cells 1 _ rfl
 go_wp2_with fail
 refine Calls.mono (HTx.out _ _ _ _ HI1.out.mkr (by have := HZ0.out; have := wz_t s0 nm; omega)) ?_
 rintro e w2 ⟨rfl, F2, hm, hk⟩
 have HI2 := (show Hid (CInv mb F w w.heap.size _ w2 (tkS (tkS s0 (.t nm)) (.t sp)) F2) from HI1.out.step hm hk)
 clear hm hk HI1 cc1
 have cc2 := HI2.out.box.cells 2 _ rfl
 have cc3 := HI2.out.box.cells 3 _ rfl
 go_wp2_with fail
 refine Calls.mono (HFl.out fi ab false _) ?_
 rintro e wf ⟨rfl, hwf⟩; subst wf
 go_wp2_with fail
 refine Calls.mono (HNum.out _ _ _ _ HI2.out.mkr (by have := HZ0.out; have := wz_t s0 nm; have := wz_t (tkS s0 (.t nm)) sp; omega)) ?_
 rintro e w3 ⟨rfl, F3, hm, hk⟩
 have HI3 := (show Hid (CInv mb F w w.heap.size _ w3 (tkS (tkS (tkS s0 (.t nm)) (.t sp)) (.n (fl3 fi ab false))) F3) from HI2.out.step hm hk)
 clear hm hk HI2 cc2 cc3
 have cc4 := HI3.out.box.cells 4 _ rfl
 go_wp2_with fail
 refine Calls.mono (HNum.out _ _ _ _ HI3.out.mkr (by have := HZ0.out; have := wz_t s0 nm; have := wz_t (tkS s0 (.t nm)) sp; have := wz_n (tkS (tkS s0 (.t nm)) (.t sp)) (fl3 fi ab false); omega)) ?_
 rintro e w4 ⟨rfl, F4, hm, hk⟩
 have HI4 := (show Hid (CInv mb F w w.heap.size _ w4 (tkS (tkS (tkS (tkS s0 (.t nm)) (.t sp)) (.n (fl3 fi ab false))) (.n (fs.length : Int))) F4) from HI3.out.step hm hk)
 clear hm hk HI3 cc4
 have HZ4 : Hid (wz (tksS s0 [.t nm, .t sp, .n (fl3 fi ab false), .n (fs.length : Int)]) ≤ 8) := by
  show wz (tkS (tkS (tkS (tkS s0 (.t nm)) (.t sp)) (.n (fl3 fi ab false))) (.n (fs.length : Int))) ≤ 8
  have := HZ0.out; have := wz_t s0 nm; have := wz_t (tkS s0 (.t nm)) sp; have := wz_n (tkS (tkS s0 (.t nm)) (.t sp)) (fl3 fi ab false); have := wz_n (tkS (tkS (tkS s0 (.t nm)) (.t sp)) (.n (fl3 fi ab false))) (fs.length : Int);
  omega
 replace HI4 : Hid (CInv mb F w w.heap.size [.string nm, .string sp, .bool fi, .bool ab, .slice a fs.length ca, .slice b ms.length cb] w4 (tksS s0 [.t nm, .t sp, .n (fl3 fi ab false), .n (fs.length : Int)]) F4) := HI4.out
 generalize tksS s0 [.t nm, .t sp, .n (fl3 fi ab false), .n (fs.length : Int)] = s4 at *
 go_wp2_with fail
 go_loopw [4] (fun j4 wr => ∃ i : Nat, i ≤ fs.length ∧ j4 = .int .i64 (i : Int) ∧ ∃ Fr, CInv mb F w w.heap.size [.string nm, .string sp, .bool fi, .bool ab, .slice a fs.length ca, .slice b ms.length cb] wr (tksS s4 ((fs.take i).flatMap fldTok)) Fr) (fun j4 _ => fs.length - (intOf j4).toNat)
 case atStart => exact ⟨0, Nat.zero_le _, rfl, F4, HI4.out⟩
 case round =>
  obtain ⟨i, hi2, rfl, F5, hinv⟩ := hrel
  have HI5 : Hid (CInv mb F w w.heap.size [.string nm, .string sp, .bool fi, .bool ab, .slice a fs.length ca, .slice b ms.length cb] wr (tksS s4 ((fs.take i).flatMap fldTok)) F5) := hinv
  have HZ5 : Hid (wz (tksS s4 ((fs.take i).flatMap fldTok)) ≤ 56) := by have := HZf.out i s4; have := HZ4.out; show _ ≤ _; omega
  clear hinv
  have cc4 := HI5.out.box.cells 4 _ rfl
  by_cases hlt : i < fs.length
  ·obtain ⟨bb, o, rfl, hx⟩ := HA.out i hlt
   have HXf := (show Hid (fieldR.At W0 ⟨bb, o, none⟩ i fs[i]) from hx)
   have HN : Hid (tksS s4 ((fs.take (i + 1)).flatMap fldTok) = tksS (tksS s4 ((fs.take i).flatMap fldTok)) (fldTok fs[i])) := tks_take fldTok fs i hlt s4
   clear hx
   generalize hs5 : tksS s4 ((fs.take i).flatMap fldTok) = s5 at *
   clear hs5
   generalize fs[i] = d at *
   obtain ⟨fn, ft, fst⟩ := d
   have HG : Hid (∀ cs w' st F', CInv mb F w w.heap.size cs w' st F' → w'.cell? ⟨bb, o + i * 3, none⟩ = some (.string fn) ∧ w'.cell? ⟨bb, o + i * 3 + 1, none⟩ = some (.string ft) ∧ w'.cell? ⟨bb, o + i * 3 + 2, none⟩ = some (.bool fst)) := fun cs w' st F' h => by
    obtain ⟨g0, g1, g2, _, _⟩ := fieldAt (HXf.out.mono (HLow.out _ h.kept.low))
    exact ⟨g0, g1, g2⟩
   obtain ⟨w5, hw5⟩ : ∃ x : World, x = wr := ⟨_, rfl⟩
   subst wr
   have g0 := (HG.out _ _ _ _ HI5.out).1
   go_wp2_with fail
   refine Calls.mono (HTx.out _ _ _ _ HI5.out.mkr (by have := HZ5.out; omega)) ?_
   rintro e w6 ⟨rfl, F6, hm, hk⟩
   have HI6 := (show Hid (CInv mb F w w.heap.size _ w6 (tkS s5 (.t fn)) F6) from HI5.out.step hm hk)
   clear hm hk HI5
   have cc4 := HI6.out.box.cells 4 _ rfl
   have g1 := (HG.out _ _ _ _ HI6.out).2.1
   go_wp2_with fail
   refine Calls.mono (HTx.out _ _ _ _ HI6.out.mkr (by have := HZ5.out; have := wz_t s5 fn; omega)) ?_
   rintro e w7 ⟨rfl, F7, hm, hk⟩
   have HI7 := (show Hid (CInv mb F w w.heap.size _ w7 (tkS (tkS s5 (.t fn)) (.t ft)) F7) from HI6.out.step hm hk)
   clear hm hk HI6 cc4
   have cc4 := HI7.out.box.cells 4 _ rfl
   have g2 := (HG.out _ _ _ _ HI7.out).2.2
   go_wp2_with fail
   refine Calls.mono (HFl.out fst false false _) ?_
   rintro e wf ⟨rfl, hwf⟩; subst wf
   go_wp2_with fail
   refine Calls.mono (HNum.out _ _ _ _ HI7.out.mkr (by have := HZ5.out; have := wz_t s5 fn; have := wz_t (tkS s5 (.t fn)) ft; omega)) ?_
   rintro e w8 ⟨rfl, F8, hm, hk⟩
   have HI8 := (show Hid (CInv mb F w w.heap.size _ w8 (tkS (tkS (tkS s5 (.t fn)) (.t ft)) (.n (fl3 fst false false))) F8) from HI7.out.step hm hk)
   clear hm hk HI7 cc4
   have cc4 := HI8.out.box.cells 4 _ rfl
   go_wp2
   go_roundw
   case rel => exact ⟨i + 1, by omega, by go_num, F8, by rw [HN.out]; exact HI8.out⟩
   case measure => simp [intOf]; omega
  ·obtain rfl : i = fs.length := by omega
   have cc5 := HI5.out.box.cells 5 _ rfl
   rw [List.take_of_length_le (Nat.le_refl _)] at HI5 HZ5
   generalize tksS s4 (fs.flatMap fldTok) = s5 at *
   obtain ⟨w5, hw5⟩ : ∃ x : World, x = wr := ⟨_, rfl⟩
   subst wr
   go_wp2_with fail
   refine Calls.mono (HNum.out _ _ _ _ HI5.out.mkr (by have := HZ5.out; omega)) ?_
   rintro e w6 ⟨rfl, F6, hm, hk⟩
   have HI6 := (show Hid (CInv mb F w w.heap.size _ w6 (tkS s5 (.n (ms.length : Int))) F6) from HI5.out.step hm hk)
   clear hm hk HI5
   have HZ6 : Hid (wz (tkS s5 (.n (ms.length : Int))) ≤ 58) := by have := wz_n s5 (ms.length : Int); have := HZ5.out; show _ ≤ _; omega
   generalize tkS s5 (.n (ms.length : Int)) = s6 at *
   go_wp2_with fail
   go_loopw [5] (fun j5 wr => ∃ i : Nat, i ≤ ms.length ∧ j5 = .int .i64 (i : Int) ∧ ∃ Fr, CInv mb F w w.heap.size [.string nm, .string sp, .bool fi, .bool ab, .slice a fs.length ca, .slice b ms.length cb] wr (tksS s6 ((ms.take i).flatMap mthTok)) Fr) (fun j5 _ => ms.length - (intOf j5).toNat)
   case atStart => exact ⟨0, Nat.zero_le _, rfl, F6, HI6.out⟩
   case round =>
    obtain ⟨i, hi3, rfl, F7, hinv⟩ := hrel
    have HI7 : Hid (CInv mb F w w.heap.size [.string nm, .string sp, .bool fi, .bool ab, .slice a fs.length ca, .slice b ms.length cb] wr (tksS s6 ((ms.take i).flatMap mthTok)) F7) := hinv
    have HZ7 : Hid (wz (tksS s6 ((ms.take i).flatMap mthTok)) ≤ 9000) := by have := HZm.out i s6; have := HZ6.out; show _ ≤ _; omega
    clear hinv
    replace cc5 := HI7.out.box.cells 5 _ rfl
    by_cases hlt : i < ms.length
    ·obtain ⟨bb, o, rfl, hx⟩ := HBt.out i hlt
     obtain ⟨vc, vh, q0, q1, q2, q3, q4, q5, q6, q7, q8, _, _, _, _, h7, h8⟩ := methAt hx
     have hbl : bb < W0.heap.size := World.block_lt_of_cell? _ _ q0
     have hlow := HLow.out _ HI7.out.kept.low
     have g0 := carry hlow hbl q0
     have g1 := carry hlow hbl q1
     have g2 := carry hlow hbl q2
     have g3 := carry hlow hbl q3
     have g4 := carry hlow hbl q4
     have g5 := carry hlow hbl q5
     have g6 := carry hlow hbl q6
     have g7 := carry hlow hbl q7
     have g8 := carry hlow hbl q8
     have HL := (show Hid _ from HL3.out i hlt)
     obtain ⟨xa, xca, rfl, hxa, hxca, hxat⟩ := slice_open (by decide) h7
     obtain ⟨xb, xcb, rfl, hxb, hxcb, hxbt⟩ := slice_open (by decide) h8
     have HN : Hid (tksS s6 ((ms.take (i + 1)).flatMap mthTok) = tksS (tksS s6 ((ms.take i).flatMap mthTok)) (mthTok ms[i])) := tks_take mthTok ms i hlt s6
     have HNm : Hid (∀ st, tksS st (mthTok ms[i]) = tksS (tkS (tksS (tksS st [.t (mD ms[i]).name, .t (mD ms[i]).desc, .n (fl3 (mD ms[i]).static (mD ms[i]).abs (mD ms[i]).fin), .n (mD ms[i]).stack, .n (mD ms[i]).locals, .n ((mD ms[i]).code.length : Int)]) ((mD ms[i]).code.flatMap insTok)) (.n ((mD ms[i]).hands.length : Int))) ((mD ms[i]).hands.flatMap hanTok)) := fun st => by
      unfold mthTok
      rw [tksS_app, tksS_app, tksS_app, tksS_one]
     clear hx h7 h8 q0 q1 q2 q3 q4 q5 q6 q7 q8 hlow hbl
     unfold maxLen at hxca hxcb
     have HXa : Hid (∀ j (h : j < (mD ms[i]).code.length), ∃ c o, xa = some ⟨c, o, none⟩ ∧ insR.At W0 ⟨c, o, none⟩ j (mD ms[i]).code[j]) := hxat
     have HXb : Hid (∀ j (h : j < (mD ms[i]).hands.length), ∃ c o, xb = some ⟨c, o, none⟩ ∧ handlerR.At W0 ⟨c, o, none⟩ j (mD ms[i]).hands[j]) := hxbt
     clear hxat hxbt
     generalize hs7 : tksS s6 ((ms.take i).flatMap mthTok) = s7 at *
     clear hs7
     generalize mthTok ms[i] = mtk at *
     generalize mD ms[i] = y at *
     obtain ⟨mn, mds, mst, mab, mfi, msk, mlo, code, hands⟩ := y
     simp only at *
     have HNx := (show Hid _ from HN.out.trans (HNm.out s7))
     clear HN HNm
     have HZi : Hid (∀ j st, wz (tksS st ((code.take j).flatMap insTok)) ≤ wz st + 720) := fun j st => by
      have := wz_take insTok 6 code (fun x hx => insTok_wt x) j st
      have := HL.out.1
      omega
     have HZh : Hid (∀ j st, wz (tksS st ((hands.take j).flatMap hanTok)) ≤ wz st + 48) := fun j st => by
      have := wz_take hanTok 4 hands (fun x hx => hanTok_wt x) j st
      have := HL.out.2
      omega
     obtain ⟨w7, hw7⟩ : ∃ x : World, x = wr := ⟨_, rfl⟩
     subst wr
     have X8 : Hid (Box F7 (w7.alloc (.cells ([.string mn, .string mds, .bool mst, .bool mab, .bool mfi, .int .i64 msk, .int .i64 mlo, .slice xa code.length xca, .slice xb hands.length xcb] : List Value).toArray 34)) w7.heap.size [.string mn, .string mds, .bool mst, .bool mab, .bool mfi, .int .i64 msk, .int .i64 mlo, .slice xa code.length xca, .slice xb hands.length xcb]) := box_new _ HI7.out.mkr.own_lt
     have HI8 := (show Hid (CInv mb F w w.heap.size _ (w7.alloc (.cells ([.string mn, .string mds, .bool mst, .bool mab, .bool mfi, .int .i64 msk, .int .i64 mlo, .slice xa code.length xca, .slice xb hands.length xcb] : List Value).toArray 34)) s7 F7) from HI7.out.below ((Below.refl _ _).alloc (Nat.le_refl _) _))
     clear HI7
     go_wp2_with fail
     refine Calls.mono (HTx.out _ _ _ _ HI8.out.mkr (by have := HZ7.out; omega)) ?_
     rintro e w9 ⟨rfl, F9, hm, hk⟩
     have HI9 := (show Hid (CInv mb F w w.heap.size _ w9 (tkS s7 (.t mn)) F9) from HI8.out.step hm hk)
     have X9 := (show Hid (Box F9 w9 _ [.string mn, .string mds, .bool mst, .bool mab, .bool mfi, .int .i64 msk, .int .i64 mlo, .slice xa code.length xca, .slice xb hands.length xcb]) from hk.box X8.out)
     clear hm hk HI8 X8
     have Xc1 := X9.out.cells 1 _ rfl
     go_wp2_with fail
     refine Calls.mono (HTx.out _ _ _ _ HI9.out.mkr (by have := HZ7.out; have := wz_t s7 mn; omega)) ?_
     rintro e w10 ⟨rfl, F10, hm, hk⟩
     have HI10 := (show Hid (CInv mb F w w.heap.size _ w10 (tkS (tkS s7 (.t mn)) (.t mds)) F10) from HI9.out.step hm hk)
     have X10 := (show Hid (Box F10 w10 _ [.string mn, .string mds, .bool mst, .bool mab, .bool mfi, .int .i64 msk, .int .i64 mlo, .slice xa code.length xca, .slice xb hands.length xcb]) from hk.box X9.out)
     clear hm hk HI9 X9 Xc1
     have Xc2 := X10.out.cells 2 _ rfl
     have Xc3 := X10.out.cells 3 _ rfl
     have Xc4 := X10.out.cells 4 _ rfl
     go_wp2_with fail
     refine Calls.mono (HFl.out mst mab mfi _) ?_
     rintro e wf ⟨rfl, hwf⟩; subst wf
     go_wp2_with fail
     refine Calls.mono (HNum.out _ _ _ _ HI10.out.mkr (by have := HZ7.out; have := wz_t s7 mn; have := wz_t (tkS s7 (.t mn)) mds; omega)) ?_
     rintro e w11 ⟨rfl, F11, hm, hk⟩
     have HI11 := (show Hid (CInv mb F w w.heap.size _ w11 (tkS (tkS (tkS s7 (.t mn)) (.t mds)) (.n (fl3 mst mab mfi))) F11) from HI10.out.step hm hk)
     have X11 := (show Hid (Box F11 w11 _ [.string mn, .string mds, .bool mst, .bool mab, .bool mfi, .int .i64 msk, .int .i64 mlo, .slice xa code.length xca, .slice xb hands.length xcb]) from hk.box X10.out)
     clear hm hk HI10 X10 Xc2 Xc3 Xc4
     have Xc5 := X11.out.cells 5 _ rfl
     go_wp2_with fail
     refine Calls.mono (HNum.out _ _ _ _ HI11.out.mkr (by have := HZ7.out; have := wz_t s7 mn; have := wz_t (tkS s7 (.t mn)) mds; have := wz_n (tkS (tkS s7 (.t mn)) (.t mds)) (fl3 mst mab mfi); omega)) ?_
     rintro e w12 ⟨rfl, F12, hm, hk⟩
     have HI12 := (show Hid (CInv mb F w w.heap.size _ w12 (tkS (tkS (tkS (tkS s7 (.t mn)) (.t mds)) (.n (fl3 mst mab mfi))) (.n msk)) F12) from HI11.out.step hm hk)
     have X12 := (show Hid (Box F12 w12 _ [.string mn, .string mds, .bool mst, .bool mab, .bool mfi, .int .i64 msk, .int .i64 mlo, .slice xa code.length xca, .slice xb hands.length xcb]) from hk.box X11.out)
     clear hm hk HI11 X11 Xc5
     have Xc6 := X12.out.cells 6 _ rfl
     go_wp2_with fail
     refine Calls.mono (HNum.out _ _ _ _ HI12.out.mkr (by have := HZ7.out; have := wz_t s7 mn; have := wz_t (tkS s7 (.t mn)) mds; have := wz_n (tkS (tkS s7 (.t mn)) (.t mds)) (fl3 mst mab mfi); have := wz_n (tkS (tkS (tkS s7 (.t mn)) (.t mds)) (.n (fl3 mst mab mfi))) msk; omega)) ?_
     rintro e w13 ⟨rfl, F13, hm, hk⟩
     have HI13 := (show Hid (CInv mb F w w.heap.size _ w13 (tkS (tkS (tkS (tkS (tkS s7 (.t mn)) (.t mds)) (.n (fl3 mst mab mfi))) (.n msk)) (.n mlo)) F13) from HI12.out.step hm hk)
     have X13 := (show Hid (Box F13 w13 _ [.string mn, .string mds, .bool mst, .bool mab, .bool mfi, .int .i64 msk, .int .i64 mlo, .slice xa code.length xca, .slice xb hands.length xcb]) from hk.box X12.out)
     clear hm hk HI12 X12 Xc6
     have Xc7 := X13.out.cells 7 _ rfl
     go_wp2_with fail
     refine Calls.mono (HNum.out _ _ _ _ HI13.out.mkr (by have := HZ7.out; have := wz_t s7 mn; have := wz_t (tkS s7 (.t mn)) mds; have := wz_n (tkS (tkS s7 (.t mn)) (.t mds)) (fl3 mst mab mfi); have := wz_n (tkS (tkS (tkS s7 (.t mn)) (.t mds)) (.n (fl3 mst mab mfi))) msk; have := wz_n (tkS (tkS (tkS (tkS s7 (.t mn)) (.t mds)) (.n (fl3 mst mab mfi))) (.n msk)) mlo; omega)) ?_
     rintro e w14 ⟨rfl, F14, hm, hk⟩
     have HI14 := (show Hid (CInv mb F w w.heap.size _ w14 (tkS (tkS (tkS (tkS (tkS (tkS s7 (.t mn)) (.t mds)) (.n (fl3 mst mab mfi))) (.n msk)) (.n mlo)) (.n (code.length : Int))) F14) from HI13.out.step hm hk)
     have X14 := (show Hid (Box F14 w14 _ [.string mn, .string mds, .bool mst, .bool mab, .bool mfi, .int .i64 msk, .int .i64 mlo, .slice xa code.length xca, .slice xb hands.length xcb]) from hk.box X13.out)
     clear hm hk HI13 X13 Xc7
     have HZ14 : Hid (wz (tksS s7 [.t mn, .t mds, .n (fl3 mst mab mfi), .n msk, .n mlo, .n (code.length : Int)]) ≤ 9012) := by
      show wz (tkS (tkS (tkS (tkS (tkS (tkS s7 (.t mn)) (.t mds)) (.n (fl3 mst mab mfi))) (.n msk)) (.n mlo)) (.n (code.length : Int))) ≤ 9012
      have := HZ7.out; have := wz_t s7 mn; have := wz_t (tkS s7 (.t mn)) mds; have := wz_n (tkS (tkS s7 (.t mn)) (.t mds)) (fl3 mst mab mfi); have := wz_n (tkS (tkS (tkS s7 (.t mn)) (.t mds)) (.n (fl3 mst mab mfi))) msk; have := wz_n (tkS (tkS (tkS (tkS s7 (.t mn)) (.t mds)) (.n (fl3 mst mab mfi))) (.n msk)) mlo; have := wz_n (tkS (tkS (tkS (tkS (tkS s7 (.t mn)) (.t mds)) (.n (fl3 mst mab mfi))) (.n msk)) (.n mlo)) (code.length : Int);
      omega
     replace HI14 : Hid (CInv mb F w w.heap.size _ w14 (tksS s7 [.t mn, .t mds, .n (fl3 mst mab mfi), .n msk, .n mlo, .n (code.length : Int)]) F14) := HI14.out
     generalize tksS s7 [.t mn, .t mds, .n (fl3 mst mab mfi), .n msk, .n mlo, .n (code.length : Int)] = s14 at *
     go_wp2_with fail
     go_loopw [7] (fun j7 wr => ∃ k : Nat, k ≤ code.length ∧ j7 = .int .i64 (k : Int) ∧ ∃ Fr, CInv mb F w w.heap.size [.string nm, .string sp, .bool fi, .bool ab, .slice a fs.length ca, .slice (some ⟨bb, o, none⟩) ms.length cb] wr (tksS s14 ((code.take k).flatMap insTok)) Fr ∧ Box Fr wr w7.heap.size [.string mn, .string mds, .bool mst, .bool mab, .bool mfi, .int .i64 msk, .int .i64 mlo, .slice xa code.length xca, .slice xb hands.length xcb]) (fun j7 _ => code.length - (intOf j7).toNat)
     case atStart => exact ⟨0, Nat.zero_le _, rfl, F14, HI14.out, X14.out⟩
     case round =>
      obtain ⟨k, hk2, rfl, F15, hinv, hbox⟩ := hrel
      have HI15 := (show Hid (CInv mb F w w.heap.size _ wr (tksS s14 ((code.take k).flatMap insTok)) F15) from hinv)
      have X15 := (show Hid (Box F15 wr w7.heap.size [.string mn, .string mds, .bool mst, .bool mab, .bool mfi, .int .i64 msk, .int .i64 mlo, .slice xa code.length xca, .slice xb hands.length xcb]) from hbox)
      have HZ15 : Hid (wz (tksS s14 ((code.take k).flatMap insTok)) ≤ 9732) := by have := HZi.out k s14; have := HZ14.out; show _ ≤ _; omega
      clear hinv hbox
      have Xc7 := X15.out.cells 7 _ rfl
      by_cases hlt2 : k < code.length
      ·obtain ⟨cc, oo, rfl, hx⟩ := HXa.out k hlt2
       obtain ⟨i0, i1, i2, i3, i4, hop, _⟩ := insAt (hx.mono (HLow.out _ HI15.out.kept.low))
       have HNi : Hid (tksS s14 ((code.take (k + 1)).flatMap insTok) = tksS (tksS s14 ((code.take k).flatMap insTok)) (insTok code[k])) := tks_take insTok code k hlt2 s14
       have HZn : Hid (∀ st x, wz (tksS st (insTok x)) ≤ wz st + 12) := fun st x => wz_ins st x
       clear hx
       generalize hs15 : tksS s14 ((code.take k).flatMap insTok) = s15 at *
       clear hs15
       generalize code[k] = d at *
       obtain ⟨op, aa, ic, inn, id⟩ := d
       simp only at i0 i1 i2 i3 i4 hop
       obtain ⟨w15, hw15⟩ : ∃ x : World, x = wr := ⟨_, rfl⟩
       subst wr
       go_wp2_with fail
       refine Calls.mono (HIns.out _ _ _ _ _ _ _ _ HI15.out.mkr (by have := HZ15.out; omega) hop) ?_
       rintro e w16 ⟨rfl, F16, hm, hk⟩
       have HI16 := (show Hid (CInv mb F w w.heap.size _ w16 (tksS s15 (insTok (op, aa, ic, inn, id))) F16) from HI15.out.step hm hk)
       have X16 := (show Hid (Box F16 w16 w7.heap.size _) from hk.box X15.out)
       clear hm hk
       go_wp2
       go_roundw
       case rel => exact ⟨k + 1, by omega, by go_num, F16, by rw [HNi.out]; exact HI16.out, X16.out⟩
       case measure => simp [intOf]; omega
      ·obtain rfl : k = code.length := by omega
       rw [List.take_of_length_le (Nat.le_refl _)] at HI15 HZ15
       generalize tksS s14 (code.flatMap insTok) = s15 at *
       obtain ⟨w15, hw15⟩ : ∃ x : World, x = wr := ⟨_, rfl⟩
       subst wr
       have Xc8 := X15.out.cells 8 _ rfl
       go_wp2_with fail
       refine Calls.mono (HNum.out _ _ _ _ HI15.out.mkr (by have := HZ15.out; omega)) ?_
       rintro e w16 ⟨rfl, F16, hm, hk⟩
       have HI16 := (show Hid (CInv mb F w w.heap.size _ w16 (tkS s15 (.n (hands.length : Int))) F16) from HI15.out.step hm hk)
       have X16 := (show Hid (Box F16 w16 _ [.string mn, .string mds, .bool mst, .bool mab, .bool mfi, .int .i64 msk, .int .i64 mlo, .slice xa code.length xca, .slice xb hands.length xcb]) from hk.box X15.out)
       clear hm hk HI15 X15 Xc8
       have HZ16 : Hid (wz (tkS s15 (.n (hands.length : Int))) ≤ 9734) := by have := wz_n s15 (hands.length : Int); have := HZ15.out; show _ ≤ _; omega
       generalize tkS s15 (.n (hands.length : Int)) = s16 at *
       go_wp2_with fail
       go_loopw [8] (fun j8 wr => ∃ k : Nat, k ≤ hands.length ∧ j8 = .int .i64 (k : Int) ∧ ∃ Fr, CInv mb F w w.heap.size [.string nm, .string sp, .bool fi, .bool ab, .slice a fs.length ca, .slice (some ⟨bb, o, none⟩) ms.length cb] wr (tksS s16 ((hands.take k).flatMap hanTok)) Fr ∧ Box Fr wr w7.heap.size [.string mn, .string mds, .bool mst, .bool mab, .bool mfi, .int .i64 msk, .int .i64 mlo, .slice xa code.length xca, .slice xb hands.length xcb]) (fun j8 _ => hands.length - (intOf j8).toNat)
       case atStart => exact ⟨0, Nat.zero_le _, rfl, F16, HI16.out, X16.out⟩
       case round =>
        obtain ⟨k, hk3, rfl, F17, hinv, hbox⟩ := hrel
        have HI17 := (show Hid (CInv mb F w w.heap.size _ wr (tksS s16 ((hands.take k).flatMap hanTok)) F17) from hinv)
        have X17 := (show Hid (Box F17 wr w7.heap.size [.string mn, .string mds, .bool mst, .bool mab, .bool mfi, .int .i64 msk, .int .i64 mlo, .slice xa code.length xca, .slice xb hands.length xcb]) from hbox)
        have HZ17 : Hid (wz (tksS s16 ((hands.take k).flatMap hanTok)) ≤ 9782) := by have := HZh.out k s16; have := HZ16.out; show _ ≤ _; omega
        clear hinv hbox
        have Xc8 := X17.out.cells 8 _ rfl
        by_cases hlt3 : k < hands.length
        ·obtain ⟨cc, oo, rfl, hx⟩ := HXb.out k hlt3
         obtain ⟨i0, i1, i2, i3, _⟩ := handlerAt (hx.mono (HLow.out _ HI17.out.kept.low))
         have HNi : Hid (tksS s16 ((hands.take (k + 1)).flatMap hanTok) = tksS (tksS s16 ((hands.take k).flatMap hanTok)) (hanTok hands[k])) := tks_take hanTok hands k hlt3 s16
         clear hx
         generalize hs17 : tksS s16 ((hands.take k).flatMap hanTok) = s17 at *
         clear hs17
         generalize hands[k] = d at *
         obtain ⟨hf, ht, ha, hcl⟩ := d
         simp only at i0 i1 i2 i3
         obtain ⟨w17, hw17⟩ : ∃ x : World, x = wr := ⟨_, rfl⟩
         subst wr
         have H18 : Hid (Box F17 (w17.alloc (.cells ([.int .i64 hf, .int .i64 ht, .int .i64 ha, .string hcl] : List Value).toArray 79)) w17.heap.size [.int .i64 hf, .int .i64 ht, .int .i64 ha, .string hcl]) := box_new _ HI17.out.mkr.own_lt
         have X18 := (show Hid (Box F17 (w17.alloc (.cells ([.int .i64 hf, .int .i64 ht, .int .i64 ha, .string hcl] : List Value).toArray 79)) w7.heap.size _) from X17.out.below ((Below.refl _ _).alloc (Nat.le_refl _) _))
         have HI18 := (show Hid (CInv mb F w w.heap.size _ (w17.alloc (.cells ([.int .i64 hf, .int .i64 ht, .int .i64 ha, .string hcl] : List Value).toArray 79)) s17 F17) from HI17.out.below ((Below.refl _ _).alloc (Nat.le_refl _) _))
         clear HI17 X17
         go_wp2_with fail
         refine Calls.mono (HNum.out _ _ _ _ HI18.out.mkr (by have := HZ17.out; omega)) ?_
         rintro e w19 ⟨rfl, F19, hm, hk⟩
         have HI19 := (show Hid (CInv mb F w w.heap.size _ w19 (tkS s17 (.n hf)) F19) from HI18.out.step hm hk)
         have X19 := (show Hid (Box F19 w19 _ _) from hk.box X18.out)
         have H19 := (show Hid (Box F19 w19 _ [.int .i64 hf, .int .i64 ht, .int .i64 ha, .string hcl]) from hk.box H18.out)
         clear hm hk HI18 X18 H18
         have Hc1 := H19.out.cells 1 _ rfl
         go_wp2_with fail
         refine Calls.mono (HNum.out _ _ _ _ HI19.out.mkr (by have := HZ17.out; have := wz_n s17 hf; omega)) ?_
         rintro e w20 ⟨rfl, F20, hm, hk⟩
         have HI20 := (show Hid (CInv mb F w w.heap.size _ w20 (tkS (tkS s17 (.n hf)) (.n ht)) F20) from HI19.out.step hm hk)
         have X20 := (show Hid (Box F20 w20 _ _) from hk.box X19.out)
         have H20 := (show Hid (Box F20 w20 _ [.int .i64 hf, .int .i64 ht, .int .i64 ha, .string hcl]) from hk.box H19.out)
         clear hm hk HI19 X19 H19 Hc1
         have Hc2 := H20.out.cells 2 _ rfl
         go_wp2_with fail
         refine Calls.mono (HNum.out _ _ _ _ HI20.out.mkr (by have := HZ17.out; have := wz_n s17 hf; have := wz_n (tkS s17 (.n hf)) ht; omega)) ?_
         rintro e w21 ⟨rfl, F21, hm, hk⟩
         have HI21 := (show Hid (CInv mb F w w.heap.size _ w21 (tkS (tkS (tkS s17 (.n hf)) (.n ht)) (.n ha)) F21) from HI20.out.step hm hk)
         have X21 := (show Hid (Box F21 w21 _ _) from hk.box X20.out)
         have H21 := (show Hid (Box F21 w21 _ [.int .i64 hf, .int .i64 ht, .int .i64 ha, .string hcl]) from hk.box H20.out)
         clear hm hk HI20 X20 H20 Hc2
         have Hc3 := H21.out.cells 3 _ rfl
         go_wp2_with fail
         refine Calls.mono (HTx.out _ _ _ _ HI21.out.mkr (by have := HZ17.out; have := wz_n s17 hf; have := wz_n (tkS s17 (.n hf)) ht; have := wz_n (tkS (tkS s17 (.n hf)) (.n ht)) ha; omega)) ?_
         rintro e w22 ⟨rfl, F22, hm, hk⟩
         have HI22 := (show Hid (CInv mb F w w.heap.size _ w22 (tkS (tkS (tkS (tkS s17 (.n hf)) (.n ht)) (.n ha)) (.t hcl)) F22) from HI21.out.step hm hk)
         have X22 := (show Hid (Box F22 w22 _ _) from hk.box X21.out)
         have H22 := (show Hid (Box F22 w22 _ [.int .i64 hf, .int .i64 ht, .int .i64 ha, .string hcl]) from hk.box H21.out)
         clear hm hk HI21 X21 H21 Hc3
         have Xc8 := X22.out.cells 8 _ rfl
         go_wp2
         go_roundw
         case rel => exact ⟨k + 1, by omega, by go_num, F22, by rw [HNi.out]; exact HI22.out, X22.out⟩
         case measure => simp [intOf]; omega
        ·obtain rfl : k = hands.length := by omega
         rw [List.take_of_length_le (Nat.le_refl _)] at HI17 HZ17
         have cc5 := HI17.out.box.cells 5 _ rfl
         go_wp2
         go_roundw
         case rel => exact ⟨i + 1, by omega, by go_num, F17, by rw [HNx.out]; exact HI17.out⟩
         case measure => simp [intOf]; omega
    ·obtain rfl : i = ms.length := by omega
     rw [List.take_of_length_le (Nat.le_refl _)] at HI7
     go_wp2
     refine bodyPost_end (v := .tuple #[]) (by simp [results, go_sem]) rfl ⟨rfl, F7, HFin.out _ _ HI7.out.mkr, HI7.out.kept⟩
end Go.Proofs.YtnenhhlgabghfaaGreatDoor
