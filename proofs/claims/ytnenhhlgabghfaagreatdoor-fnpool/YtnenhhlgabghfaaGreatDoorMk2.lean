import Derived.Test.YtnenhhlgabghfaaGreatDoorTok0
import Derived.Test.YtnenhhlgabghfaaGreatDoorIns2
/-
 The model's maker tells an instruction.
-/
namespace Go.Proofs.YtnenhhlgabghfaaGreatDoor
open Go.RowKit
set_option maxRecDepth 20000
open Go.Lib (strCells)
set_option linter.unusedVariables false

set_option maxHeartbeats 1000000 in
theorem specMkIns_e (mb : Nat) (op a : Int) (c n d : ByteArray) (st : WS) (F : Nat → Prop) (w : World) (h : MkS mb w st F) (hz : wz st ≤ 900000) (ho : -9223372036854775808 ≤ op ∧ op ≤ 9223372036854775807) (hf : fmS op = ⟨#[]⟩) :
  Calls Tryz.prog 50 #[.pointer (some ⟨mb, 0, none⟩), .agg #[.int .i64 op, .int .i64 a, .string c, .string n, .string d]] w fun e w' => e = .returned (.tuple #[]) ∧ ∃ F', MkS mb w' (tksS st (.n op :: insArg ⟨#[]⟩ a c n d)) F' ∧ Kept mb F w w' F' := by
 rw [insArg_e]
 have HOp : Hid (∀ w, Calls Tryz.prog 29 #[.int .i64 op] w fun e w' => e = .returned (.string ⟨#[]⟩) ∧ Below w.heap.size w w') := fun w => hf ▸ specOpForm op w ho
 have HNum : Hid (∀ n st F w, MkS mb w st F → wz st ≤ 1000000 → Calls Tryz.prog 48 #[.pointer (some ⟨mb, 0, none⟩), .int .i64 n] w fun e w' => e = .returned (.tuple #[]) ∧ ∃ F', MkS mb w' (tkS st (.n n)) F' ∧ Kept mb F w w' F') := fun n st F w h hz => specNumT mb n st F w h hz
 have HTx : Hid (∀ n st F w, MkS mb w st F → wz st ≤ 1000000 → Calls Tryz.prog 47 #[.pointer (some ⟨mb, 0, none⟩), .string n] w fun e w' => e = .returned (.tuple #[]) ∧ ∃ F', MkS mb w' (tkS st (.t n)) F' ∧ Kept mb F w w' F') := fun n st F w h hz => specTextT mb n st F w h hz
 have HM0 : Hid (∀ o, MkS mb (w.alloc o) st F) := fun o => h.below ((Below.refl _ _).alloc (Nat.le_refl _) o)
 have HX0 : Hid (Box F (w.alloc (.cells ([.int .i64 op, .int .i64 a, .string c, .string n, .string d] : List Value).toArray 75)) w.heap.size [.int .i64 op, .int .i64 a, .string c, .string n, .string d]) := box_new [.int .i64 op, .int .i64 a, .string c, .string n, .string d] h.own_lt
 have HK0 : Hid (∀ o, Kept mb F w (w.alloc o) F) := fun o => Kept.of_below (Nat.le_of_lt h.mb_lt) ((Below.refl _ _).alloc (Nat.le_refl _) o)
 have HZ := (show Hid (wz st ≤ 900000) from hz)
 clear h hz hf ho
 go_enter Tryz.func50, Tryz.ntmps50
 go_wp2_with fail
 refine Calls.mono (HNum.out _ _ _ _ (HM0.out _) (by have := HZ.out; omega)) ?_
 rintro e w1 ⟨rfl, F1, hm1, hk1⟩
 have HX1 := (show Hid _ from hk1.box HX0.out)
 have HK1 := (show Hid (Kept mb F w w1 F1) from (HK0.out _).trans hk1)
 have HM1 := (show Hid (MkS mb w1 (tkS st (.n op)) F1) from hm1)
 clear hm1 hk1 HX0 HK0 HM0
 have x0 := HX1.out.cells 0 _ rfl
 go_wp2_with fail
 refine Calls.mono (HOp.out _) ?_
 rintro e w2 ⟨rfl, hb2⟩
 have HX2 := (show Hid _ from HX1.out.below hb2)
 have HK2 : Hid (Kept mb F w w2 F1) := HK1.out.trans (Kept.of_below (Nat.le_of_lt HM1.out.mb_lt) hb2)
 have HM2 : Hid (MkS mb w2 (tkS st (.n op)) F1) := HM1.out.below hb2
 clear hb2 HX1 HK1 HM1 x0
 go_wp2
 refine bodyPost_end (v := .tuple #[]) (by simp [results, go_sem]) rfl ⟨rfl, _, HM2.out, HK2.out⟩
set_option maxHeartbeats 1000000 in
theorem specMkIns_n (mb : Nat) (op a : Int) (c n d : ByteArray) (st : WS) (F : Nat → Prop) (w : World) (h : MkS mb w st F) (hz : wz st ≤ 900000) (ho : -9223372036854775808 ≤ op ∧ op ≤ 9223372036854775807) (hf : fmS op = ⟨#[110]⟩) :
  Calls Tryz.prog 50 #[.pointer (some ⟨mb, 0, none⟩), .agg #[.int .i64 op, .int .i64 a, .string c, .string n, .string d]] w fun e w' => e = .returned (.tuple #[]) ∧ ∃ F', MkS mb w' (tksS st (.n op :: insArg ⟨#[110]⟩ a c n d)) F' ∧ Kept mb F w w' F' := by
 rw [insArg_n]
 have HOp : Hid (∀ w, Calls Tryz.prog 29 #[.int .i64 op] w fun e w' => e = .returned (.string ⟨#[110]⟩) ∧ Below w.heap.size w w') := fun w => hf ▸ specOpForm op w ho
 have HNum : Hid (∀ n st F w, MkS mb w st F → wz st ≤ 1000000 → Calls Tryz.prog 48 #[.pointer (some ⟨mb, 0, none⟩), .int .i64 n] w fun e w' => e = .returned (.tuple #[]) ∧ ∃ F', MkS mb w' (tkS st (.n n)) F' ∧ Kept mb F w w' F') := fun n st F w h hz => specNumT mb n st F w h hz
 have HTx : Hid (∀ n st F w, MkS mb w st F → wz st ≤ 1000000 → Calls Tryz.prog 47 #[.pointer (some ⟨mb, 0, none⟩), .string n] w fun e w' => e = .returned (.tuple #[]) ∧ ∃ F', MkS mb w' (tkS st (.t n)) F' ∧ Kept mb F w w' F') := fun n st F w h hz => specTextT mb n st F w h hz
 have HM0 : Hid (∀ o, MkS mb (w.alloc o) st F) := fun o => h.below ((Below.refl _ _).alloc (Nat.le_refl _) o)
 have HX0 : Hid (Box F (w.alloc (.cells ([.int .i64 op, .int .i64 a, .string c, .string n, .string d] : List Value).toArray 75)) w.heap.size [.int .i64 op, .int .i64 a, .string c, .string n, .string d]) := box_new [.int .i64 op, .int .i64 a, .string c, .string n, .string d] h.own_lt
 have HK0 : Hid (∀ o, Kept mb F w (w.alloc o) F) := fun o => Kept.of_below (Nat.le_of_lt h.mb_lt) ((Below.refl _ _).alloc (Nat.le_refl _) o)
 have HZ := (show Hid (wz st ≤ 900000) from hz)
 clear h hz hf ho
 go_enter Tryz.func50, Tryz.ntmps50
 go_wp2_with fail
 refine Calls.mono (HNum.out _ _ _ _ (HM0.out _) (by have := HZ.out; omega)) ?_
 rintro e w1 ⟨rfl, F1, hm1, hk1⟩
 have HX1 := (show Hid _ from hk1.box HX0.out)
 have HK1 := (show Hid (Kept mb F w w1 F1) from (HK0.out _).trans hk1)
 have HM1 := (show Hid (MkS mb w1 (tkS st (.n op)) F1) from hm1)
 clear hm1 hk1 HX0 HK0 HM0
 have x0 := HX1.out.cells 0 _ rfl
 go_wp2_with fail
 refine Calls.mono (HOp.out _) ?_
 rintro e w2 ⟨rfl, hb2⟩
 have HX2 := (show Hid _ from HX1.out.below hb2)
 have HK2 : Hid (Kept mb F w w2 F1) := HK1.out.trans (Kept.of_below (Nat.le_of_lt HM1.out.mb_lt) hb2)
 have HM2 : Hid (MkS mb w2 (tkS st (.n op)) F1) := HM1.out.below hb2
 clear hb2 HX1 HK1 HM1 x0
 obtain ⟨vp, vb, HMA, hF⟩ : ∃ vp vb, Hid (MkAt w2 mb (tkS st (.n op)).1 (tkS st (.n op)).2 vp vb) ∧ F1 = own mb vp vb := HM2.out
 have HWZ : Hid (wz (tkS st (.n op)) ≤ 900002) := by have := wz_n st op; have := HZ.out; show _ ≤ _; omega
 subst F1
 have HZ2 : Hid (∀ o, (tkS st (.n op)) = o → wz o ≤ 900002) := fun o e => e ▸ HWZ.out
 have HFin : Hid (∀ w' F', MkS mb w' ((tkS st (.n op)).1, (tkS st (.n op)).2 ++ nums (p4 a)) F' → MkS mb w' (tksS st [.n op, .r (p4 a)]) F') := fun w' F' h => h
 generalize tkS st (.n op) = s2 at *
 have hz2 := HZ2.out s2 rfl
 unfold wz at hz2
 obtain ⟨i0, hi0, hz0, hz1, hzb⟩ := info_parts byteInfo
 have HI : Hid (Tryz.prog.info? 5 = some i0 ∧ i0.zero = some (.int .u8 0) ∧ i0.size = 1 ∧ i0.bytes = 1) := ⟨hi0, hz0, hz1, hzb⟩
 clear hi0 hz0 hz1 hzb HZ2 HWZ
 have HO : Hid (∃ a cap, vb = .slice a s2.2.length cap) := by
  show ∃ a cap, _
  rcases HMA.out.ob.2 with ⟨e, h0⟩ | ⟨g, cap, cur, e, _⟩
  ·exact ⟨none, 0, by rw [e, h0]⟩
  ·exact ⟨_, _, e⟩
 obtain ⟨ba, bcap, rfl⟩ := HO.out
 clear HO HM2
 have c1 := HMA.out.c1
 have f1 := HMA.out.f1
 have hmb := HMA.out.lt
 have x1 := HX2.out.cells 1 _ rfl
 have hxl := HX2.out.lt
 have HP4 : Hid (∀ w, Calls Tryz.prog 65 #[.int .i64 a] w fun e w' => e = .returned (.string (p4 a)) ∧ Below w.heap.size w w') := fun w => specPut4 a w
 have hp4 := p4_size a
 have HB : Hid ((mb + 1 : Nat) ≤ w2.heap.size) := hmb
 have HNE : Hid (some mb ≠ (Value.slice ba s2.2.length bcap).ownBlock) := fun e => by have := (HMA.out.ob.lt mb e.symm).1; omega
 go_wp2_with fail
 go_region_law (first
  | (refine step_append_str_at _ (by rfl) _ _ _ _ (by rfl) (mb + 1) 5 i0 Tryz.underlying22 Tryz.underlying9 HI.out.1 HI.out.2.1 HI.out.2.2.1 HI.out.2.2.2 (.slice ba s2.2.length bcap) s2.2.length (bC s2.2) (by rfl) (HMA3.out.ob) (p4 a) (by rfl) (by unfold maxLen; omega) (by omega) (by have := HB3.out; omega) ?_; intro v' w4 hown hgrow hat; have k1 : w4.cell? ⟨mb, 1, none⟩ = some (.slice ba s2.2.length bcap) := (hgrow.cell_far _ (by have := HB3.out; simp; omega) HNE.out).trans c13; have z1 : w4.frozen? ⟨mb, 1, none⟩ = false := (hgrow.frozen_far _ (by have := HB3.out; simp; omega) HNE.out).trans f13; have HW4 := (show Hid _ from HMA3.out.bytes (more := nums (p4 a)) hgrow (by rw [← bC_append, ← strCells_nums, List.length_append, nums_length]; exact hown) hat); have HVF : Hid (∃ g cp, v' = .slice g (s2.2.length + (p4 a).size) cp) := (by rcases hown.2 with ⟨e, h0⟩ | ⟨g, cap, cur, e, _⟩; exact ⟨none, 0, by rw [e, h0]⟩; exact ⟨_, _, e⟩); obtain ⟨g4, cp4, rfl⟩ := HVF.out; clear hown hgrow hat HVF)
  | (go_simp; go_at_call 65; refine (HP4.out _).mono ?_; rintro e w3 ⟨rfl, hb3⟩; have hb3' : Below w2.heap.size w2 w3 := (Below.refl _ _).drew.trans hb3; have HMA3 : Hid (MkAt w3 mb s2.1 s2.2 vp (.slice ba s2.2.length bcap)) := HMA.out.below hb3'; have c13 := HMA3.out.c1; have f13 := HMA3.out.f1; have HB3 : Hid ((mb + 1 : Nat) ≤ w3.heap.size) := Nat.le_trans HB.out hb3'.size; have HK3 : Hid (Kept mb F w w3 (own mb vp (.slice ba s2.2.length bcap))) := HK2.out.trans (Kept.of_below (by have := HB.out; omega) hb3'); clear hb3 hb3'; simp only []))
 all_goals
  go_wp2
  refine bodyPost_end (v := .tuple #[]) (by simp [results, go_sem]) rfl ⟨rfl, _, HFin.out _ _ ⟨_, _, HW4.out.1, rfl⟩, HK3.out.trans HW4.out.2⟩
set_option maxHeartbeats 1000000 in
theorem specMkIns_i (mb : Nat) (op a : Int) (c n d : ByteArray) (st : WS) (F : Nat → Prop) (w : World) (h : MkS mb w st F) (hz : wz st ≤ 900000) (ho : -9223372036854775808 ≤ op ∧ op ≤ 9223372036854775807) (hf : fmS op = ⟨#[105]⟩) :
  Calls Tryz.prog 50 #[.pointer (some ⟨mb, 0, none⟩), .agg #[.int .i64 op, .int .i64 a, .string c, .string n, .string d]] w fun e w' => e = .returned (.tuple #[]) ∧ ∃ F', MkS mb w' (tksS st (.n op :: insArg ⟨#[105]⟩ a c n d)) F' ∧ Kept mb F w w' F' := by
 rw [insArg_i]
 have HOp : Hid (∀ w, Calls Tryz.prog 29 #[.int .i64 op] w fun e w' => e = .returned (.string ⟨#[105]⟩) ∧ Below w.heap.size w w') := fun w => hf ▸ specOpForm op w ho
 have HNum : Hid (∀ n st F w, MkS mb w st F → wz st ≤ 1000000 → Calls Tryz.prog 48 #[.pointer (some ⟨mb, 0, none⟩), .int .i64 n] w fun e w' => e = .returned (.tuple #[]) ∧ ∃ F', MkS mb w' (tkS st (.n n)) F' ∧ Kept mb F w w' F') := fun n st F w h hz => specNumT mb n st F w h hz
 have HTx : Hid (∀ n st F w, MkS mb w st F → wz st ≤ 1000000 → Calls Tryz.prog 47 #[.pointer (some ⟨mb, 0, none⟩), .string n] w fun e w' => e = .returned (.tuple #[]) ∧ ∃ F', MkS mb w' (tkS st (.t n)) F' ∧ Kept mb F w w' F') := fun n st F w h hz => specTextT mb n st F w h hz
 have HM0 : Hid (∀ o, MkS mb (w.alloc o) st F) := fun o => h.below ((Below.refl _ _).alloc (Nat.le_refl _) o)
 have HX0 : Hid (Box F (w.alloc (.cells ([.int .i64 op, .int .i64 a, .string c, .string n, .string d] : List Value).toArray 75)) w.heap.size [.int .i64 op, .int .i64 a, .string c, .string n, .string d]) := box_new [.int .i64 op, .int .i64 a, .string c, .string n, .string d] h.own_lt
 have HK0 : Hid (∀ o, Kept mb F w (w.alloc o) F) := fun o => Kept.of_below (Nat.le_of_lt h.mb_lt) ((Below.refl _ _).alloc (Nat.le_refl _) o)
 have HZ := (show Hid (wz st ≤ 900000) from hz)
 clear h hz hf ho
 go_enter Tryz.func50, Tryz.ntmps50
 go_wp2_with fail
 refine Calls.mono (HNum.out _ _ _ _ (HM0.out _) (by have := HZ.out; omega)) ?_
 rintro e w1 ⟨rfl, F1, hm1, hk1⟩
 have HX1 := (show Hid _ from hk1.box HX0.out)
 have HK1 := (show Hid (Kept mb F w w1 F1) from (HK0.out _).trans hk1)
 have HM1 := (show Hid (MkS mb w1 (tkS st (.n op)) F1) from hm1)
 clear hm1 hk1 HX0 HK0 HM0
 have x0 := HX1.out.cells 0 _ rfl
 go_wp2_with fail
 refine Calls.mono (HOp.out _) ?_
 rintro e w2 ⟨rfl, hb2⟩
 have HX2 := (show Hid _ from HX1.out.below hb2)
 have HK2 : Hid (Kept mb F w w2 F1) := HK1.out.trans (Kept.of_below (Nat.le_of_lt HM1.out.mb_lt) hb2)
 have HM2 : Hid (MkS mb w2 (tkS st (.n op)) F1) := HM1.out.below hb2
 clear hb2 HX1 HK1 HM1 x0
 have x1 := HX2.out.cells 1 _ rfl
 go_wp2_with fail
 refine Calls.mono (HNum.out _ _ _ _ HM2.out (by have := HZ.out; have := wz_n st op; omega)) ?_
 rintro e w3 ⟨rfl, F3, hm, hk⟩
 have HX3 := (show Hid _ from hk.box HX2.out)
 have HK3 := (show Hid (Kept mb F w w3 F3) from HK2.out.trans hk)
 have HM3 := (show Hid (MkS mb w3 (tkS (tkS st (.n op)) (.n a)) F3) from hm)
 clear hm hk HX2 HK2 HM2 x1
 go_wp2
 refine bodyPost_end (v := .tuple #[]) (by simp [results, go_sem]) rfl ⟨rfl, _, HM3.out, HK3.out⟩
set_option maxHeartbeats 1000000 in
theorem specMkIns_t (mb : Nat) (op a : Int) (c n d : ByteArray) (st : WS) (F : Nat → Prop) (w : World) (h : MkS mb w st F) (hz : wz st ≤ 900000) (ho : -9223372036854775808 ≤ op ∧ op ≤ 9223372036854775807) (hf : fmS op = ⟨#[116]⟩) :
  Calls Tryz.prog 50 #[.pointer (some ⟨mb, 0, none⟩), .agg #[.int .i64 op, .int .i64 a, .string c, .string n, .string d]] w fun e w' => e = .returned (.tuple #[]) ∧ ∃ F', MkS mb w' (tksS st (.n op :: insArg ⟨#[116]⟩ a c n d)) F' ∧ Kept mb F w w' F' := by
 rw [insArg_t]
 have HOp : Hid (∀ w, Calls Tryz.prog 29 #[.int .i64 op] w fun e w' => e = .returned (.string ⟨#[116]⟩) ∧ Below w.heap.size w w') := fun w => hf ▸ specOpForm op w ho
 have HNum : Hid (∀ n st F w, MkS mb w st F → wz st ≤ 1000000 → Calls Tryz.prog 48 #[.pointer (some ⟨mb, 0, none⟩), .int .i64 n] w fun e w' => e = .returned (.tuple #[]) ∧ ∃ F', MkS mb w' (tkS st (.n n)) F' ∧ Kept mb F w w' F') := fun n st F w h hz => specNumT mb n st F w h hz
 have HTx : Hid (∀ n st F w, MkS mb w st F → wz st ≤ 1000000 → Calls Tryz.prog 47 #[.pointer (some ⟨mb, 0, none⟩), .string n] w fun e w' => e = .returned (.tuple #[]) ∧ ∃ F', MkS mb w' (tkS st (.t n)) F' ∧ Kept mb F w w' F') := fun n st F w h hz => specTextT mb n st F w h hz
 have HM0 : Hid (∀ o, MkS mb (w.alloc o) st F) := fun o => h.below ((Below.refl _ _).alloc (Nat.le_refl _) o)
 have HX0 : Hid (Box F (w.alloc (.cells ([.int .i64 op, .int .i64 a, .string c, .string n, .string d] : List Value).toArray 75)) w.heap.size [.int .i64 op, .int .i64 a, .string c, .string n, .string d]) := box_new [.int .i64 op, .int .i64 a, .string c, .string n, .string d] h.own_lt
 have HK0 : Hid (∀ o, Kept mb F w (w.alloc o) F) := fun o => Kept.of_below (Nat.le_of_lt h.mb_lt) ((Below.refl _ _).alloc (Nat.le_refl _) o)
 have HZ := (show Hid (wz st ≤ 900000) from hz)
 clear h hz hf ho
 go_enter Tryz.func50, Tryz.ntmps50
 go_wp2_with fail
 refine Calls.mono (HNum.out _ _ _ _ (HM0.out _) (by have := HZ.out; omega)) ?_
 rintro e w1 ⟨rfl, F1, hm1, hk1⟩
 have HX1 := (show Hid _ from hk1.box HX0.out)
 have HK1 := (show Hid (Kept mb F w w1 F1) from (HK0.out _).trans hk1)
 have HM1 := (show Hid (MkS mb w1 (tkS st (.n op)) F1) from hm1)
 clear hm1 hk1 HX0 HK0 HM0
 have x0 := HX1.out.cells 0 _ rfl
 go_wp2_with fail
 refine Calls.mono (HOp.out _) ?_
 rintro e w2 ⟨rfl, hb2⟩
 have HX2 := (show Hid _ from HX1.out.below hb2)
 have HK2 : Hid (Kept mb F w w2 F1) := HK1.out.trans (Kept.of_below (Nat.le_of_lt HM1.out.mb_lt) hb2)
 have HM2 : Hid (MkS mb w2 (tkS st (.n op)) F1) := HM1.out.below hb2
 clear hb2 HX1 HK1 HM1 x0
 have x1 := HX2.out.cells 1 _ rfl
 go_wp2_with fail
 refine Calls.mono (HNum.out _ _ _ _ HM2.out (by have := HZ.out; have := wz_n st op; omega)) ?_
 rintro e w3 ⟨rfl, F3, hm, hk⟩
 have HX3 := (show Hid _ from hk.box HX2.out)
 have HK3 := (show Hid (Kept mb F w w3 F3) from HK2.out.trans hk)
 have HM3 := (show Hid (MkS mb w3 (tkS (tkS st (.n op)) (.n a)) F3) from hm)
 clear hm hk HX2 HK2 HM2 x1
 go_wp2
 refine bodyPost_end (v := .tuple #[]) (by simp [results, go_sem]) rfl ⟨rfl, _, HM3.out, HK3.out⟩
set_option maxHeartbeats 1000000 in
theorem specMkIns_c (mb : Nat) (op a : Int) (c n d : ByteArray) (st : WS) (F : Nat → Prop) (w : World) (h : MkS mb w st F) (hz : wz st ≤ 900000) (ho : -9223372036854775808 ≤ op ∧ op ≤ 9223372036854775807) (hf : fmS op = ⟨#[99]⟩) :
  Calls Tryz.prog 50 #[.pointer (some ⟨mb, 0, none⟩), .agg #[.int .i64 op, .int .i64 a, .string c, .string n, .string d]] w fun e w' => e = .returned (.tuple #[]) ∧ ∃ F', MkS mb w' (tksS st (.n op :: insArg ⟨#[99]⟩ a c n d)) F' ∧ Kept mb F w w' F' := by
 rw [insArg_c]
 have HOp : Hid (∀ w, Calls Tryz.prog 29 #[.int .i64 op] w fun e w' => e = .returned (.string ⟨#[99]⟩) ∧ Below w.heap.size w w') := fun w => hf ▸ specOpForm op w ho
 have HNum : Hid (∀ n st F w, MkS mb w st F → wz st ≤ 1000000 → Calls Tryz.prog 48 #[.pointer (some ⟨mb, 0, none⟩), .int .i64 n] w fun e w' => e = .returned (.tuple #[]) ∧ ∃ F', MkS mb w' (tkS st (.n n)) F' ∧ Kept mb F w w' F') := fun n st F w h hz => specNumT mb n st F w h hz
 have HTx : Hid (∀ n st F w, MkS mb w st F → wz st ≤ 1000000 → Calls Tryz.prog 47 #[.pointer (some ⟨mb, 0, none⟩), .string n] w fun e w' => e = .returned (.tuple #[]) ∧ ∃ F', MkS mb w' (tkS st (.t n)) F' ∧ Kept mb F w w' F') := fun n st F w h hz => specTextT mb n st F w h hz
 have HM0 : Hid (∀ o, MkS mb (w.alloc o) st F) := fun o => h.below ((Below.refl _ _).alloc (Nat.le_refl _) o)
 have HX0 : Hid (Box F (w.alloc (.cells ([.int .i64 op, .int .i64 a, .string c, .string n, .string d] : List Value).toArray 75)) w.heap.size [.int .i64 op, .int .i64 a, .string c, .string n, .string d]) := box_new [.int .i64 op, .int .i64 a, .string c, .string n, .string d] h.own_lt
 have HK0 : Hid (∀ o, Kept mb F w (w.alloc o) F) := fun o => Kept.of_below (Nat.le_of_lt h.mb_lt) ((Below.refl _ _).alloc (Nat.le_refl _) o)
 have HZ := (show Hid (wz st ≤ 900000) from hz)
 clear h hz hf ho
 go_enter Tryz.func50, Tryz.ntmps50
 go_wp2_with fail
 refine Calls.mono (HNum.out _ _ _ _ (HM0.out _) (by have := HZ.out; omega)) ?_
 rintro e w1 ⟨rfl, F1, hm1, hk1⟩
 have HX1 := (show Hid _ from hk1.box HX0.out)
 have HK1 := (show Hid (Kept mb F w w1 F1) from (HK0.out _).trans hk1)
 have HM1 := (show Hid (MkS mb w1 (tkS st (.n op)) F1) from hm1)
 clear hm1 hk1 HX0 HK0 HM0
 have x0 := HX1.out.cells 0 _ rfl
 go_wp2_with fail
 refine Calls.mono (HOp.out _) ?_
 rintro e w2 ⟨rfl, hb2⟩
 have HX2 := (show Hid _ from HX1.out.below hb2)
 have HK2 : Hid (Kept mb F w w2 F1) := HK1.out.trans (Kept.of_below (Nat.le_of_lt HM1.out.mb_lt) hb2)
 have HM2 : Hid (MkS mb w2 (tkS st (.n op)) F1) := HM1.out.below hb2
 clear hb2 HX1 HK1 HM1 x0
 have x2 := HX2.out.cells 2 _ rfl
 go_wp2_with fail
 refine Calls.mono (HTx.out _ _ _ _ HM2.out (by have := HZ.out; have := wz_n st op; omega)) ?_
 rintro e w3 ⟨rfl, F3, hm, hk⟩
 have HX3 := (show Hid _ from hk.box HX2.out)
 have HK3 := (show Hid (Kept mb F w w3 F3) from HK2.out.trans hk)
 have HM3 := (show Hid (MkS mb w3 (tkS (tkS st (.n op)) (.t c)) F3) from hm)
 clear hm hk HX2 HK2 HM2 x2
 go_wp2
 refine bodyPost_end (v := .tuple #[]) (by simp [results, go_sem]) rfl ⟨rfl, _, HM3.out, HK3.out⟩
set_option maxHeartbeats 1000000 in
theorem specMkIns_y (mb : Nat) (op a : Int) (c n d : ByteArray) (st : WS) (F : Nat → Prop) (w : World) (h : MkS mb w st F) (hz : wz st ≤ 900000) (ho : -9223372036854775808 ≤ op ∧ op ≤ 9223372036854775807) (hf : fmS op = ⟨#[121]⟩) :
  Calls Tryz.prog 50 #[.pointer (some ⟨mb, 0, none⟩), .agg #[.int .i64 op, .int .i64 a, .string c, .string n, .string d]] w fun e w' => e = .returned (.tuple #[]) ∧ ∃ F', MkS mb w' (tksS st (.n op :: insArg ⟨#[121]⟩ a c n d)) F' ∧ Kept mb F w w' F' := by
 rw [insArg_y]
 have HOp : Hid (∀ w, Calls Tryz.prog 29 #[.int .i64 op] w fun e w' => e = .returned (.string ⟨#[121]⟩) ∧ Below w.heap.size w w') := fun w => hf ▸ specOpForm op w ho
 have HNum : Hid (∀ n st F w, MkS mb w st F → wz st ≤ 1000000 → Calls Tryz.prog 48 #[.pointer (some ⟨mb, 0, none⟩), .int .i64 n] w fun e w' => e = .returned (.tuple #[]) ∧ ∃ F', MkS mb w' (tkS st (.n n)) F' ∧ Kept mb F w w' F') := fun n st F w h hz => specNumT mb n st F w h hz
 have HTx : Hid (∀ n st F w, MkS mb w st F → wz st ≤ 1000000 → Calls Tryz.prog 47 #[.pointer (some ⟨mb, 0, none⟩), .string n] w fun e w' => e = .returned (.tuple #[]) ∧ ∃ F', MkS mb w' (tkS st (.t n)) F' ∧ Kept mb F w w' F') := fun n st F w h hz => specTextT mb n st F w h hz
 have HM0 : Hid (∀ o, MkS mb (w.alloc o) st F) := fun o => h.below ((Below.refl _ _).alloc (Nat.le_refl _) o)
 have HX0 : Hid (Box F (w.alloc (.cells ([.int .i64 op, .int .i64 a, .string c, .string n, .string d] : List Value).toArray 75)) w.heap.size [.int .i64 op, .int .i64 a, .string c, .string n, .string d]) := box_new [.int .i64 op, .int .i64 a, .string c, .string n, .string d] h.own_lt
 have HK0 : Hid (∀ o, Kept mb F w (w.alloc o) F) := fun o => Kept.of_below (Nat.le_of_lt h.mb_lt) ((Below.refl _ _).alloc (Nat.le_refl _) o)
 have HZ := (show Hid (wz st ≤ 900000) from hz)
 clear h hz hf ho
 go_enter Tryz.func50, Tryz.ntmps50
 go_wp2_with fail
 refine Calls.mono (HNum.out _ _ _ _ (HM0.out _) (by have := HZ.out; omega)) ?_
 rintro e w1 ⟨rfl, F1, hm1, hk1⟩
 have HX1 := (show Hid _ from hk1.box HX0.out)
 have HK1 := (show Hid (Kept mb F w w1 F1) from (HK0.out _).trans hk1)
 have HM1 := (show Hid (MkS mb w1 (tkS st (.n op)) F1) from hm1)
 clear hm1 hk1 HX0 HK0 HM0
 have x0 := HX1.out.cells 0 _ rfl
 go_wp2_with fail
 refine Calls.mono (HOp.out _) ?_
 rintro e w2 ⟨rfl, hb2⟩
 have HX2 := (show Hid _ from HX1.out.below hb2)
 have HK2 : Hid (Kept mb F w w2 F1) := HK1.out.trans (Kept.of_below (Nat.le_of_lt HM1.out.mb_lt) hb2)
 have HM2 : Hid (MkS mb w2 (tkS st (.n op)) F1) := HM1.out.below hb2
 clear hb2 HX1 HK1 HM1 x0
 have x4 := HX2.out.cells 4 _ rfl
 go_wp2_with fail
 refine Calls.mono (HTx.out _ _ _ _ HM2.out (by have := HZ.out; have := wz_n st op; omega)) ?_
 rintro e w3 ⟨rfl, F3, hm, hk⟩
 have HX3 := (show Hid _ from hk.box HX2.out)
 have HK3 := (show Hid (Kept mb F w w3 F3) from HK2.out.trans hk)
 have HM3 := (show Hid (MkS mb w3 (tkS (tkS st (.n op)) (.t d)) F3) from hm)
 clear hm hk HX2 HK2 HM2 x4
 go_wp2
 refine bodyPost_end (v := .tuple #[]) (by simp [results, go_sem]) rfl ⟨rfl, _, HM3.out, HK3.out⟩
set_option maxHeartbeats 1000000 in
theorem specMkIns_f (mb : Nat) (op a : Int) (c n d : ByteArray) (st : WS) (F : Nat → Prop) (w : World) (h : MkS mb w st F) (hz : wz st ≤ 900000) (ho : -9223372036854775808 ≤ op ∧ op ≤ 9223372036854775807) (hf : fmS op = ⟨#[102]⟩) :
  Calls Tryz.prog 50 #[.pointer (some ⟨mb, 0, none⟩), .agg #[.int .i64 op, .int .i64 a, .string c, .string n, .string d]] w fun e w' => e = .returned (.tuple #[]) ∧ ∃ F', MkS mb w' (tksS st (.n op :: insArg ⟨#[102]⟩ a c n d)) F' ∧ Kept mb F w w' F' := by
 rw [insArg_f]
 have HOp : Hid (∀ w, Calls Tryz.prog 29 #[.int .i64 op] w fun e w' => e = .returned (.string ⟨#[102]⟩) ∧ Below w.heap.size w w') := fun w => hf ▸ specOpForm op w ho
 have HNum : Hid (∀ n st F w, MkS mb w st F → wz st ≤ 1000000 → Calls Tryz.prog 48 #[.pointer (some ⟨mb, 0, none⟩), .int .i64 n] w fun e w' => e = .returned (.tuple #[]) ∧ ∃ F', MkS mb w' (tkS st (.n n)) F' ∧ Kept mb F w w' F') := fun n st F w h hz => specNumT mb n st F w h hz
 have HTx : Hid (∀ n st F w, MkS mb w st F → wz st ≤ 1000000 → Calls Tryz.prog 47 #[.pointer (some ⟨mb, 0, none⟩), .string n] w fun e w' => e = .returned (.tuple #[]) ∧ ∃ F', MkS mb w' (tkS st (.t n)) F' ∧ Kept mb F w w' F') := fun n st F w h hz => specTextT mb n st F w h hz
 have HM0 : Hid (∀ o, MkS mb (w.alloc o) st F) := fun o => h.below ((Below.refl _ _).alloc (Nat.le_refl _) o)
 have HX0 : Hid (Box F (w.alloc (.cells ([.int .i64 op, .int .i64 a, .string c, .string n, .string d] : List Value).toArray 75)) w.heap.size [.int .i64 op, .int .i64 a, .string c, .string n, .string d]) := box_new [.int .i64 op, .int .i64 a, .string c, .string n, .string d] h.own_lt
 have HK0 : Hid (∀ o, Kept mb F w (w.alloc o) F) := fun o => Kept.of_below (Nat.le_of_lt h.mb_lt) ((Below.refl _ _).alloc (Nat.le_refl _) o)
 have HZ := (show Hid (wz st ≤ 900000) from hz)
 clear h hz hf ho
 go_enter Tryz.func50, Tryz.ntmps50
 go_wp2_with fail
 refine Calls.mono (HNum.out _ _ _ _ (HM0.out _) (by have := HZ.out; omega)) ?_
 rintro e w1 ⟨rfl, F1, hm1, hk1⟩
 have HX1 := (show Hid _ from hk1.box HX0.out)
 have HK1 := (show Hid (Kept mb F w w1 F1) from (HK0.out _).trans hk1)
 have HM1 := (show Hid (MkS mb w1 (tkS st (.n op)) F1) from hm1)
 clear hm1 hk1 HX0 HK0 HM0
 have x0 := HX1.out.cells 0 _ rfl
 go_wp2_with fail
 refine Calls.mono (HOp.out _) ?_
 rintro e w2 ⟨rfl, hb2⟩
 have HX2 := (show Hid _ from HX1.out.below hb2)
 have HK2 : Hid (Kept mb F w w2 F1) := HK1.out.trans (Kept.of_below (Nat.le_of_lt HM1.out.mb_lt) hb2)
 have HM2 : Hid (MkS mb w2 (tkS st (.n op)) F1) := HM1.out.below hb2
 clear hb2 HX1 HK1 HM1 x0
 have x2 := HX2.out.cells 2 _ rfl
 go_wp2_with fail
 refine Calls.mono (HTx.out _ _ _ _ HM2.out (by have := HZ.out; have := wz_n st op; omega)) ?_
 rintro e w3 ⟨rfl, F3, hm, hk⟩
 have HX3 := (show Hid _ from hk.box HX2.out)
 have HK3 := (show Hid (Kept mb F w w3 F3) from HK2.out.trans hk)
 have HM3 := (show Hid (MkS mb w3 (tkS (tkS st (.n op)) (.t c)) F3) from hm)
 clear hm hk HX2 HK2 HM2 x2
 have x3 := HX3.out.cells 3 _ rfl
 go_wp2_with fail
 refine Calls.mono (HTx.out _ _ _ _ HM3.out (by have := HZ.out; have := wz_n st op; have := wz_t (tkS st (.n op)) c; omega)) ?_
 rintro e w4 ⟨rfl, F4, hm, hk⟩
 have HX4 := (show Hid _ from hk.box HX3.out)
 have HK4 := (show Hid (Kept mb F w w4 F4) from HK3.out.trans hk)
 have HM4 := (show Hid (MkS mb w4 (tkS (tkS (tkS st (.n op)) (.t c)) (.t n)) F4) from hm)
 clear hm hk HX3 HK3 HM3 x3
 have x4 := HX4.out.cells 4 _ rfl
 go_wp2_with fail
 refine Calls.mono (HTx.out _ _ _ _ HM4.out (by have := HZ.out; have := wz_n st op; have := wz_t (tkS st (.n op)) c; have := wz_t (tkS (tkS st (.n op)) (.t c)) n; omega)) ?_
 rintro e w5 ⟨rfl, F5, hm, hk⟩
 have HX5 := (show Hid _ from hk.box HX4.out)
 have HK5 := (show Hid (Kept mb F w w5 F5) from HK4.out.trans hk)
 have HM5 := (show Hid (MkS mb w5 (tkS (tkS (tkS (tkS st (.n op)) (.t c)) (.t n)) (.t d)) F5) from hm)
 clear hm hk HX4 HK4 HM4 x4
 go_wp2
 refine bodyPost_end (v := .tuple #[]) (by simp [results, go_sem]) rfl ⟨rfl, _, HM5.out, HK5.out⟩
set_option maxHeartbeats 1000000 in
theorem specMkIns_m (mb : Nat) (op a : Int) (c n d : ByteArray) (st : WS) (F : Nat → Prop) (w : World) (h : MkS mb w st F) (hz : wz st ≤ 900000) (ho : -9223372036854775808 ≤ op ∧ op ≤ 9223372036854775807) (hf : fmS op = ⟨#[109]⟩) :
  Calls Tryz.prog 50 #[.pointer (some ⟨mb, 0, none⟩), .agg #[.int .i64 op, .int .i64 a, .string c, .string n, .string d]] w fun e w' => e = .returned (.tuple #[]) ∧ ∃ F', MkS mb w' (tksS st (.n op :: insArg ⟨#[109]⟩ a c n d)) F' ∧ Kept mb F w w' F' := by
 rw [insArg_m]
 have HOp : Hid (∀ w, Calls Tryz.prog 29 #[.int .i64 op] w fun e w' => e = .returned (.string ⟨#[109]⟩) ∧ Below w.heap.size w w') := fun w => hf ▸ specOpForm op w ho
 have HNum : Hid (∀ n st F w, MkS mb w st F → wz st ≤ 1000000 → Calls Tryz.prog 48 #[.pointer (some ⟨mb, 0, none⟩), .int .i64 n] w fun e w' => e = .returned (.tuple #[]) ∧ ∃ F', MkS mb w' (tkS st (.n n)) F' ∧ Kept mb F w w' F') := fun n st F w h hz => specNumT mb n st F w h hz
 have HTx : Hid (∀ n st F w, MkS mb w st F → wz st ≤ 1000000 → Calls Tryz.prog 47 #[.pointer (some ⟨mb, 0, none⟩), .string n] w fun e w' => e = .returned (.tuple #[]) ∧ ∃ F', MkS mb w' (tkS st (.t n)) F' ∧ Kept mb F w w' F') := fun n st F w h hz => specTextT mb n st F w h hz
 have HM0 : Hid (∀ o, MkS mb (w.alloc o) st F) := fun o => h.below ((Below.refl _ _).alloc (Nat.le_refl _) o)
 have HX0 : Hid (Box F (w.alloc (.cells ([.int .i64 op, .int .i64 a, .string c, .string n, .string d] : List Value).toArray 75)) w.heap.size [.int .i64 op, .int .i64 a, .string c, .string n, .string d]) := box_new [.int .i64 op, .int .i64 a, .string c, .string n, .string d] h.own_lt
 have HK0 : Hid (∀ o, Kept mb F w (w.alloc o) F) := fun o => Kept.of_below (Nat.le_of_lt h.mb_lt) ((Below.refl _ _).alloc (Nat.le_refl _) o)
 have HZ := (show Hid (wz st ≤ 900000) from hz)
 clear h hz hf ho
 go_enter Tryz.func50, Tryz.ntmps50
 go_wp2_with fail
 refine Calls.mono (HNum.out _ _ _ _ (HM0.out _) (by have := HZ.out; omega)) ?_
 rintro e w1 ⟨rfl, F1, hm1, hk1⟩
 have HX1 := (show Hid _ from hk1.box HX0.out)
 have HK1 := (show Hid (Kept mb F w w1 F1) from (HK0.out _).trans hk1)
 have HM1 := (show Hid (MkS mb w1 (tkS st (.n op)) F1) from hm1)
 clear hm1 hk1 HX0 HK0 HM0
 have x0 := HX1.out.cells 0 _ rfl
 go_wp2_with fail
 refine Calls.mono (HOp.out _) ?_
 rintro e w2 ⟨rfl, hb2⟩
 have HX2 := (show Hid _ from HX1.out.below hb2)
 have HK2 : Hid (Kept mb F w w2 F1) := HK1.out.trans (Kept.of_below (Nat.le_of_lt HM1.out.mb_lt) hb2)
 have HM2 : Hid (MkS mb w2 (tkS st (.n op)) F1) := HM1.out.below hb2
 clear hb2 HX1 HK1 HM1 x0
 have x2 := HX2.out.cells 2 _ rfl
 go_wp2_with fail
 refine Calls.mono (HTx.out _ _ _ _ HM2.out (by have := HZ.out; have := wz_n st op; omega)) ?_
 rintro e w3 ⟨rfl, F3, hm, hk⟩
 have HX3 := (show Hid _ from hk.box HX2.out)
 have HK3 := (show Hid (Kept mb F w w3 F3) from HK2.out.trans hk)
 have HM3 := (show Hid (MkS mb w3 (tkS (tkS st (.n op)) (.t c)) F3) from hm)
 clear hm hk HX2 HK2 HM2 x2
 have x3 := HX3.out.cells 3 _ rfl
 go_wp2_with fail
 refine Calls.mono (HTx.out _ _ _ _ HM3.out (by have := HZ.out; have := wz_n st op; have := wz_t (tkS st (.n op)) c; omega)) ?_
 rintro e w4 ⟨rfl, F4, hm, hk⟩
 have HX4 := (show Hid _ from hk.box HX3.out)
 have HK4 := (show Hid (Kept mb F w w4 F4) from HK3.out.trans hk)
 have HM4 := (show Hid (MkS mb w4 (tkS (tkS (tkS st (.n op)) (.t c)) (.t n)) F4) from hm)
 clear hm hk HX3 HK3 HM3 x3
 have x4 := HX4.out.cells 4 _ rfl
 go_wp2_with fail
 refine Calls.mono (HTx.out _ _ _ _ HM4.out (by have := HZ.out; have := wz_n st op; have := wz_t (tkS st (.n op)) c; have := wz_t (tkS (tkS st (.n op)) (.t c)) n; omega)) ?_
 rintro e w5 ⟨rfl, F5, hm, hk⟩
 have HX5 := (show Hid _ from hk.box HX4.out)
 have HK5 := (show Hid (Kept mb F w w5 F5) from HK4.out.trans hk)
 have HM5 := (show Hid (MkS mb w5 (tkS (tkS (tkS (tkS st (.n op)) (.t c)) (.t n)) (.t d)) F5) from hm)
 clear hm hk HX4 HK4 HM4 x4
 go_wp2
 refine bodyPost_end (v := .tuple #[]) (by simp [results, go_sem]) rfl ⟨rfl, _, HM5.out, HK5.out⟩
set_option maxHeartbeats 1000000 in
theorem specMkIns_x (mb : Nat) (op a : Int) (c n d : ByteArray) (st : WS) (F : Nat → Prop) (w : World) (h : MkS mb w st F) (hz : wz st ≤ 900000) (ho : -9223372036854775808 ≤ op ∧ op ≤ 9223372036854775807) (hf : fmS op = ⟨#[33]⟩) :
  Calls Tryz.prog 50 #[.pointer (some ⟨mb, 0, none⟩), .agg #[.int .i64 op, .int .i64 a, .string c, .string n, .string d]] w fun e w' => e = .returned (.tuple #[]) ∧ ∃ F', MkS mb w' (tksS st (.n op :: insArg ⟨#[33]⟩ a c n d)) F' ∧ Kept mb F w w' F' := by
 rw [insArg_x]
 have HOp : Hid (∀ w, Calls Tryz.prog 29 #[.int .i64 op] w fun e w' => e = .returned (.string ⟨#[33]⟩) ∧ Below w.heap.size w w') := fun w => hf ▸ specOpForm op w ho
 have HNum : Hid (∀ n st F w, MkS mb w st F → wz st ≤ 1000000 → Calls Tryz.prog 48 #[.pointer (some ⟨mb, 0, none⟩), .int .i64 n] w fun e w' => e = .returned (.tuple #[]) ∧ ∃ F', MkS mb w' (tkS st (.n n)) F' ∧ Kept mb F w w' F') := fun n st F w h hz => specNumT mb n st F w h hz
 have HTx : Hid (∀ n st F w, MkS mb w st F → wz st ≤ 1000000 → Calls Tryz.prog 47 #[.pointer (some ⟨mb, 0, none⟩), .string n] w fun e w' => e = .returned (.tuple #[]) ∧ ∃ F', MkS mb w' (tkS st (.t n)) F' ∧ Kept mb F w w' F') := fun n st F w h hz => specTextT mb n st F w h hz
 have HM0 : Hid (∀ o, MkS mb (w.alloc o) st F) := fun o => h.below ((Below.refl _ _).alloc (Nat.le_refl _) o)
 have HX0 : Hid (Box F (w.alloc (.cells ([.int .i64 op, .int .i64 a, .string c, .string n, .string d] : List Value).toArray 75)) w.heap.size [.int .i64 op, .int .i64 a, .string c, .string n, .string d]) := box_new [.int .i64 op, .int .i64 a, .string c, .string n, .string d] h.own_lt
 have HK0 : Hid (∀ o, Kept mb F w (w.alloc o) F) := fun o => Kept.of_below (Nat.le_of_lt h.mb_lt) ((Below.refl _ _).alloc (Nat.le_refl _) o)
 have HZ := (show Hid (wz st ≤ 900000) from hz)
 clear h hz hf ho
 go_enter Tryz.func50, Tryz.ntmps50
 go_wp2_with fail
 refine Calls.mono (HNum.out _ _ _ _ (HM0.out _) (by have := HZ.out; omega)) ?_
 rintro e w1 ⟨rfl, F1, hm1, hk1⟩
 have HX1 := (show Hid _ from hk1.box HX0.out)
 have HK1 := (show Hid (Kept mb F w w1 F1) from (HK0.out _).trans hk1)
 have HM1 := (show Hid (MkS mb w1 (tkS st (.n op)) F1) from hm1)
 clear hm1 hk1 HX0 HK0 HM0
 have x0 := HX1.out.cells 0 _ rfl
 go_wp2_with fail
 refine Calls.mono (HOp.out _) ?_
 rintro e w2 ⟨rfl, hb2⟩
 have HX2 := (show Hid _ from HX1.out.below hb2)
 have HK2 : Hid (Kept mb F w w2 F1) := HK1.out.trans (Kept.of_below (Nat.le_of_lt HM1.out.mb_lt) hb2)
 have HM2 : Hid (MkS mb w2 (tkS st (.n op)) F1) := HM1.out.below hb2
 clear hb2 HX1 HK1 HM1 x0
 go_wp2
 refine bodyPost_end (v := .tuple #[]) (by simp [results, go_sem]) rfl ⟨rfl, _, HM2.out, HK2.out⟩
theorem specMkIns (mb : Nat) (op a : Int) (c n d : ByteArray) (st : WS) (F : Nat → Prop) (w : World) (h : MkS mb w st F) (hz : wz st ≤ 900000) (ho : -9223372036854775808 ≤ op ∧ op ≤ 9223372036854775807) :
  Calls Tryz.prog 50 #[.pointer (some ⟨mb, 0, none⟩), .agg #[.int .i64 op, .int .i64 a, .string c, .string n, .string d]] w fun e w' => e = .returned (.tuple #[]) ∧ ∃ F', MkS mb w' (tksS st (insTok (op, a, c, n, d))) F' ∧ Kept mb F w w' F' := by
 unfold insTok
 rcases fmS_cases op with e | e | e | e | e | e | e | e | e
 ·have k := specMkIns_e mb op a c n d st F w h hz ho e; rwa [← e] at k
 ·have k := specMkIns_n mb op a c n d st F w h hz ho e; rwa [← e] at k
 ·have k := specMkIns_i mb op a c n d st F w h hz ho e; rwa [← e] at k
 ·have k := specMkIns_t mb op a c n d st F w h hz ho e; rwa [← e] at k
 ·have k := specMkIns_c mb op a c n d st F w h hz ho e; rwa [← e] at k
 ·have k := specMkIns_y mb op a c n d st F w h hz ho e; rwa [← e] at k
 ·have k := specMkIns_f mb op a c n d st F w h hz ho e; rwa [← e] at k
 ·have k := specMkIns_m mb op a c n d st F w h hz ho e; rwa [← e] at k
 ·have k := specMkIns_x mb op a c n d st F w h hz ho e; rwa [← e] at k
end Go.Proofs.YtnenhhlgabghfaaGreatDoor
