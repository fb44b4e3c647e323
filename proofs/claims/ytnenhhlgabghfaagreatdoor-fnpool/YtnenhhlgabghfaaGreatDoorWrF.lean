import Derived.Test.YtnenhhlgabghfaaGreatDoorWrT
import Derived.Test.YtnenhhlgabghfaaGreatDoorIns4
import Derived.Deep.RegionWith
import Derived.Deep.RegionHeld3
/-
 The program's writer tells fields, handlers and instructions.
-/
namespace Go.Proofs.YtnenhhlgabghfaaGreatDoor
open Go.RowKit
set_option maxRecDepth 20000
set_option linter.unusedVariables false

theorem box_at {F : Nat → Prop} {w : World} {t : TypeId} (cs : List Value) (k : Nat) (hk : w.heap.size = k) (hF : ∀ k, F k → k < w.heap.size) : Box F (w.alloc (.cells cs.toArray t)) k cs := hk ▸ box_new cs hF
theorem flag_cells (w : World) (k : Nat) (hk : w.heap.size = k) (ls : List Bool) (t : TypeId) : ∀ j (hj : j < ls.length), (w.alloc (.cells (ls.map Value.bool).toArray t)).cell? ⟨k, j, none⟩ = some (.bool ls[j]) := fun j hj => by
 subst hk
 have hb : (w.alloc (.cells (ls.map Value.bool).toArray t)).heap[w.heap.size]? = some (.cells (ls.map Value.bool).toArray t (0, 0)) := heap_alloc_new w _
 have := World.news_of_block hb j (.bool ls[j]) (by simp [List.getElem?_eq_getElem hj])
 rwa [plain_add, Nat.zero_add] at this
theorem below_drew_al (w : World) (o : Obj) : Below w.heap.size w (w.drew.alloc o) := (Below.refl _ _).drew.alloc (Nat.le_refl _) o
theorem below_drew (w : World) : Below w.heap.size w w.drew := (Below.refl _ _).drew
theorem WrS.kept {mr mb : Nat} {w w' : World} {st : WS} {F : Nat → Prop} (h : WrS mr mb w st F) (hb : Below w.heap.size w w') : Kept mr F w w' F := Kept.of_below (Nat.le_of_lt h.mr_lt) hb
/-- What holds of a writer while something is told: the call's own copy of it lies at cb. -/
structure WInv (mr mb : Nat) (F0 : Nat → Prop) (w0 : World) (cb : Nat) (cs : List Value) (wr : World) (st : WS) (F' : Nat → Prop) : Prop where
 wrt : WrS mr mb wr st F'
 kept : Kept mr F0 w0 wr F'
 box : Box F' wr cb cs
theorem WInv.step {mr mb : Nat} {F0 F1 F2 : Nat → Prop} {w0 wr w1 : World} {cb : Nat} {cs : List Value} {st st1 : WS} (h : WInv mr mb F0 w0 cb cs wr st F1) (hm : WrS mr mb w1 st1 F2) (hk : Kept mr F1 wr w1 F2) : WInv mr mb F0 w0 cb cs w1 st1 F2 :=
 ⟨hm, h.kept.trans hk, hk.box h.box⟩
theorem WInv.below {mr mb : Nat} {F0 F1 : Nat → Prop} {w0 wr w1 : World} {cb : Nat} {cs : List Value} {st : WS} (h : WInv mr mb F0 w0 cb cs wr st F1) (hb : Below wr.heap.size wr w1) : WInv mr mb F0 w0 cb cs w1 st F1 :=
 h.step (h.wrt.below hb) (h.wrt.kept hb)
theorem WInv.start {mr mb : Nat} {F : Nat → Prop} {w : World} {st : WS} (h : WrS mr mb w st F) (cs : List Value) (t : TypeId) : WInv mr mb F w w.heap.size cs (w.alloc (.cells cs.toArray t)) st F :=
 ⟨h.below (below_al _ _), h.kept (below_al _ _), box_new _ h.own_lt⟩
theorem wzP_toks (st : WS) (l : List Tok) (k : Nat) (h : wt l ≤ k) : wz (tksP st l) ≤ wz st + 2 * k := by have := tksP_wz l st; omega

set_option maxHeartbeats 2000000 in
theorem implWField (mr mb : Nat) (fn ft : ByteArray) (fs : Bool) (s0 : fn.size ≤ maxLen) (s1 : ft.size ≤ maxLen) (st : WS) (F : Nat → Prop) (w : World) (h : WrS mr mb w st F) (hz : wz st ≤ 800000) :
  Calls Tryz.prog 39 #[.pointer (some ⟨mb, 0, none⟩), .agg #[.string fn, .string ft, .bool fs]] w fun e w' => e = .returned (.tuple #[]) ∧ ∃ F', WrS mr mb w' (tksP st (fldTok (fn, ft, fs))) F' ∧ Kept mr F w w' F' := by
 have HT : Hid (∀ tb (ts : List ByteArray), ts.length ≤ 3 → (∀ t ∈ ts, t.size ≤ maxLen) → ∀ st F w, WrS mr mb w st F → wz st ≤ 900000 → Box F w tb (sC ts) → Calls Tryz.prog 36 #[.pointer (some ⟨mb, 0, none⟩), .slice (some ⟨tb, 0, none⟩) ts.length ts.length] w fun e w' => e = .returned (.tuple #[]) ∧ ∃ F', WrS mr mb w' (tksP st (ts.map .t)) F' ∧ Kept mr F w w' F') := fun tb ts h1 h2 st F w h hz hb => implTell mr mb tb ts h1 h2 st F w h hz hb
 have HFl : Hid (∀ tb (ls : List Bool), ls.length ≤ 3 → ∀ st F w, WrS mr mb w st F → wz st ≤ 1000000 → (∀ j (hj : j < ls.length), w.cell? ⟨tb, j, none⟩ = some (.bool ls[j])) → Calls Tryz.prog 37 #[.pointer (some ⟨mb, 0, none⟩), .slice (some ⟨tb, 0, none⟩) ls.length ls.length] w fun e w' => e = .returned (.tuple #[]) ∧ ∃ F', WrS mr mb w' (tkP st (.n (flB ls))) F' ∧ Kept mr F w w' F') := fun tb ls h1 st F w h hz hc => implWF mr mb tb ls h1 st F w h hz hc
 have HP1 : Hid (∀ n st F w, WrS mr mb w st F → wz st ≤ 1000000 → Calls Tryz.prog 60 #[.pointer (some ⟨mb, 0, none⟩), .int .i64 n] w fun e w' => e = .returned (.tuple #[]) ∧ ∃ F', WrS mr mb w' (tkP st (.n n)) F' ∧ Kept mr F w w' F') := fun n st F w h hz => implW1 mr mb n st F w h hz
 have HI0 : Hid (WInv mr mb F w w.heap.size [.string fn, .string ft, .bool fs] (w.alloc (.cells ([.string fn, .string ft, .bool fs] : List Value).toArray 50)) st F) := WInv.start h _ _
 have HZ := (show Hid (wz st ≤ 800000) from hz)
 clear h hz
 go_enter Tryz.func39, Tryz.ntmps39
 go_wp2_with fail
 have HJ0 := (show Hid _ from HI0.out.below (below_al _ (.cells #[.string fn, .string ft] 9)))
 refine Calls.mono (HT.out _ [fn, ft] (by simp) (by intro t ht; simp at ht; rcases ht with rfl | rfl <;> assumption) _ _ _ HJ0.out.wrt (by have := HZ.out; omega) (box_at (sC [fn, ft]) _ (by first | rfl | simp) HI0.out.wrt.own_lt)) ?_
 rintro e w1 ⟨rfl, F1, hm, hk⟩
 have HI1 := (show Hid (WInv mr mb F w w.heap.size _ w1 (tksP st [.t fn, .t ft]) F1) from HJ0.out.step hm hk)
 clear hm hk HI0 HJ0
 have x2 := HI1.out.box.cells 2 _ rfl
 go_wp2_with fail
 go_region_with (go_at_call 37; refine Calls.mono (HFl.out _ [fs] (by simp) _ _ _ (HI1.out.below (below_drew_al _ _)).wrt (by have := HZ.out; have := wzP_toks st [.t fn, .t ft] 2 (by simp [wt, wt1]); omega) (flag_cells _ _ (by first | rfl | simp) [fs] _)) ?_; rintro e w2 ⟨rfl, F2, hm, hk⟩; have HI2 := (show Hid (WInv mr mb F w w.heap.size _ w2 (tkP (tksP st [.t fn, .t ft]) (.n (flB [fs]))) F2) from (HI1.out.below (below_drew_al _ _)).step hm hk); clear hm hk)
 clear HI1
 clear x2
 all_goals
  go_wp2
  refine bodyPost_end (v := .tuple #[]) (by simp [results, go_sem]) rfl ⟨rfl, _, HI2.out.wrt, HI2.out.kept⟩
set_option maxHeartbeats 2000000 in
theorem implWHandler (mr mb : Nat) (hf ht ha : Int) (hcl : ByteArray) (s0 : hcl.size ≤ maxLen) (st : WS) (F : Nat → Prop) (w : World) (h : WrS mr mb w st F) (hz : wz st ≤ 800000) :
  Calls Tryz.prog 64 #[.pointer (some ⟨mb, 0, none⟩), .agg #[.int .i64 hf, .int .i64 ht, .int .i64 ha, .string hcl]] w fun e w' => e = .returned (.tuple #[]) ∧ ∃ F', WrS mr mb w' (tksP st (hanTok (hf, ht, ha, hcl))) F' ∧ Kept mr F w w' F' := by
 have HT : Hid (∀ tb (ts : List ByteArray), ts.length ≤ 3 → (∀ t ∈ ts, t.size ≤ maxLen) → ∀ st F w, WrS mr mb w st F → wz st ≤ 900000 → Box F w tb (sC ts) → Calls Tryz.prog 36 #[.pointer (some ⟨mb, 0, none⟩), .slice (some ⟨tb, 0, none⟩) ts.length ts.length] w fun e w' => e = .returned (.tuple #[]) ∧ ∃ F', WrS mr mb w' (tksP st (ts.map .t)) F' ∧ Kept mr F w w' F') := fun tb ts h1 h2 st F w h hz hb => implTell mr mb tb ts h1 h2 st F w h hz hb
 have HFl : Hid (∀ tb (ls : List Bool), ls.length ≤ 3 → ∀ st F w, WrS mr mb w st F → wz st ≤ 1000000 → (∀ j (hj : j < ls.length), w.cell? ⟨tb, j, none⟩ = some (.bool ls[j])) → Calls Tryz.prog 37 #[.pointer (some ⟨mb, 0, none⟩), .slice (some ⟨tb, 0, none⟩) ls.length ls.length] w fun e w' => e = .returned (.tuple #[]) ∧ ∃ F', WrS mr mb w' (tkP st (.n (flB ls))) F' ∧ Kept mr F w w' F') := fun tb ls h1 st F w h hz hc => implWF mr mb tb ls h1 st F w h hz hc
 have HP1 : Hid (∀ n st F w, WrS mr mb w st F → wz st ≤ 1000000 → Calls Tryz.prog 60 #[.pointer (some ⟨mb, 0, none⟩), .int .i64 n] w fun e w' => e = .returned (.tuple #[]) ∧ ∃ F', WrS mr mb w' (tkP st (.n n)) F' ∧ Kept mr F w w' F') := fun n st F w h hz => implW1 mr mb n st F w h hz
 have HI0 : Hid (WInv mr mb F w w.heap.size [.int .i64 hf, .int .i64 ht, .int .i64 ha, .string hcl] (w.alloc (.cells ([.int .i64 hf, .int .i64 ht, .int .i64 ha, .string hcl] : List Value).toArray 79)) st F) := WInv.start h _ _
 have HZ := (show Hid (wz st ≤ 800000) from hz)
 clear h hz
 go_enter Tryz.func64, Tryz.ntmps64
 go_wp2_with fail
 go_region_with (go_at_call 60; refine Calls.mono (HP1.out hf _ _ _ (HI0.out.below (below_drew _)).wrt (by have := HZ.out; omega)) ?_; rintro e w1 ⟨rfl, F1, hm, hk⟩; have HI1 := (show Hid (WInv mr mb F w w.heap.size _ w1 (tkP st (.n hf)) F1) from (HI0.out.below (below_drew _)).step hm hk); clear hm hk)
 clear HI0
 have x1 := HI1.out.box.cells 1 _ rfl
 go_wp2_with fail
 go_region_with (go_at_call 60; refine Calls.mono (HP1.out ht _ _ _ (HI1.out.below (below_drew _)).wrt (by have := HZ.out; have := wzP_n st hf; omega)) ?_; rintro e w2 ⟨rfl, F2, hm, hk⟩; have HI2 := (show Hid (WInv mr mb F w w.heap.size _ w2 (tkP (tkP st (.n hf)) (.n ht)) F2) from (HI1.out.below (below_drew _)).step hm hk); clear hm hk)
 clear HI1
 clear x1
 have x2 := HI2.out.box.cells 2 _ rfl
 go_wp2_with fail
 go_region_with (go_at_call 60; refine Calls.mono (HP1.out ha _ _ _ (HI2.out.below (below_drew _)).wrt (by have := HZ.out; have := wzP_n st hf; have := wzP_n (tkP st (.n hf)) ht; omega)) ?_; rintro e w3 ⟨rfl, F3, hm, hk⟩; have HI3 := (show Hid (WInv mr mb F w w.heap.size _ w3 (tkP (tkP (tkP st (.n hf)) (.n ht)) (.n ha)) F3) from (HI2.out.below (below_drew _)).step hm hk); clear hm hk)
 clear HI2
 clear x2
 have x3 := HI3.out.box.cells 3 _ rfl
 go_wp2_with fail
 have HJ3 := (show Hid _ from HI3.out.below (below_al _ (.cells #[.string hcl] 9)))
 refine Calls.mono (HT.out _ [hcl] (by simp) (by intro t ht; simp at ht; subst ht; assumption) _ _ _ HJ3.out.wrt (by have := HZ.out; have := wzP_n st hf; have := wzP_n (tkP st (.n hf)) ht; have := wzP_n (tkP (tkP st (.n hf)) (.n ht)) ha; omega) (box_at (sC [hcl]) _ (by first | rfl | simp) HI3.out.wrt.own_lt)) ?_
 rintro e w4 ⟨rfl, F4, hm, hk⟩
 have HI4 := (show Hid (WInv mr mb F w w.heap.size _ w4 (tksP (tkP (tkP (tkP st (.n hf)) (.n ht)) (.n ha)) [.t hcl]) F4) from HJ3.out.step hm hk)
 clear hm hk HI3 HJ3
 clear x3
 go_wp2
 refine bodyPost_end (v := .tuple #[]) (by simp [results, go_sem]) rfl ⟨rfl, _, HI4.out.wrt, HI4.out.kept⟩
set_option maxHeartbeats 2000000 in
theorem implWIns_e (mr mb : Nat) (op a : Int) (c n d : ByteArray) (s0 : c.size ≤ maxLen) (s1 : n.size ≤ maxLen) (s2 : d.size ≤ maxLen) (st : WS) (F : Nat → Prop) (w : World) (h : WrS mr mb w st F) (hz : wz st ≤ 800000) (ho : -9223372036854775808 ≤ op ∧ op ≤ 9223372036854775807) (htb : ∀ w', Below w.heap.size w w' → Tab w') (htk : ∀ w', Below mr w w' → Tab w') (hf : fmS op = ⟨#[]⟩) :
  Calls Tryz.prog 62 #[.pointer (some ⟨mb, 0, none⟩), .agg #[.int .i64 op, .int .i64 a, .string c, .string n, .string d]] w fun e w' => e = .returned (.tuple #[]) ∧ ∃ F', WrS mr mb w' (tksP st (.n op :: insArg ⟨#[]⟩ a c n d)) F' ∧ Kept mr F w w' F' := by
 rw [insArg_e]
 have HT : Hid (∀ tb (ts : List ByteArray), ts.length ≤ 3 → (∀ t ∈ ts, t.size ≤ maxLen) → ∀ st F w, WrS mr mb w st F → wz st ≤ 900000 → Box F w tb (sC ts) → Calls Tryz.prog 36 #[.pointer (some ⟨mb, 0, none⟩), .slice (some ⟨tb, 0, none⟩) ts.length ts.length] w fun e w' => e = .returned (.tuple #[]) ∧ ∃ F', WrS mr mb w' (tksP st (ts.map .t)) F' ∧ Kept mr F w w' F') := fun tb ts h1 h2 st F w h hz hb => implTell mr mb tb ts h1 h2 st F w h hz hb
 have HFl : Hid (∀ tb (ls : List Bool), ls.length ≤ 3 → ∀ st F w, WrS mr mb w st F → wz st ≤ 1000000 → (∀ j (hj : j < ls.length), w.cell? ⟨tb, j, none⟩ = some (.bool ls[j])) → Calls Tryz.prog 37 #[.pointer (some ⟨mb, 0, none⟩), .slice (some ⟨tb, 0, none⟩) ls.length ls.length] w fun e w' => e = .returned (.tuple #[]) ∧ ∃ F', WrS mr mb w' (tkP st (.n (flB ls))) F' ∧ Kept mr F w w' F') := fun tb ls h1 st F w h hz hc => implWF mr mb tb ls h1 st F w h hz hc
 have HP1 : Hid (∀ n st F w, WrS mr mb w st F → wz st ≤ 1000000 → Calls Tryz.prog 60 #[.pointer (some ⟨mb, 0, none⟩), .int .i64 n] w fun e w' => e = .returned (.tuple #[]) ∧ ∃ F', WrS mr mb w' (tkP st (.n n)) F' ∧ Kept mr F w w' F') := fun n st F w h hz => implW1 mr mb n st F w h hz
 have HP4 : Hid (∀ n st F w, WrS mr mb w st F → wz st ≤ 1000000 → Calls Tryz.prog 77 #[.pointer (some ⟨mb, 0, none⟩), .int .i64 n] w fun e w' => e = .returned (.tuple #[]) ∧ ∃ F', WrS mr mb w' (tkP st (.r (p4 n))) F' ∧ Kept mr F w w' F') := fun n st F w h hz => implW4 mr mb n st F w h hz
 have HOp : Hid (∀ w, Tab w → Calls Tryz.prog 76 #[.int .i64 op] w fun e w' => e = .returned (.string ⟨#[]⟩) ∧ Below w.heap.size w w') := fun w ht => hf ▸ implOpForm op w ht
 have HTb := (show Hid (∀ w', Below mr w w' → Tab w') from htk)
 have HI0 : Hid (WInv mr mb F w w.heap.size [.int .i64 op, .int .i64 a, .string c, .string n, .string d] (w.alloc (.cells ([.int .i64 op, .int .i64 a, .string c, .string n, .string d] : List Value).toArray 75)) st F) := WInv.start h _ _
 have HZ := (show Hid (wz st ≤ 800000) from hz)
 clear h hz hf ho htb htk
 go_enter Tryz.func62, Tryz.ntmps62
 go_wp2_with fail
 go_region_with (go_at_call 60; refine Calls.mono (HP1.out op _ _ _ (HI0.out.below (below_drew _)).wrt (by have := HZ.out; omega)) ?_; rintro e w1 ⟨rfl, F1, hm, hk⟩; have HI1 := (show Hid (WInv mr mb F w w.heap.size _ w1 (tkP st (.n op)) F1) from (HI0.out.below (below_drew _)).step hm hk); clear hm hk)
 clear HI0
 have x0 := HI1.out.box.cells 0 _ rfl
 go_wp2_with fail
 refine Calls.mono (HOp.out _ (HTb.out _ HI1.out.kept.low)) ?_
 rintro e wo ⟨rfl, hbo⟩
 have HI2 := (show Hid (WInv mr mb F w w.heap.size _ wo (tkP st (.n op)) F1) from HI1.out.below hbo)
 clear hbo HI1 x0
 all_goals
  go_wp2
  refine bodyPost_end (v := .tuple #[]) (by simp [results, go_sem]) rfl ⟨rfl, _, HI2.out.wrt, HI2.out.kept⟩
set_option maxHeartbeats 2000000 in
theorem implWIns_n (mr mb : Nat) (op a : Int) (c n d : ByteArray) (s0 : c.size ≤ maxLen) (s1 : n.size ≤ maxLen) (s2 : d.size ≤ maxLen) (st : WS) (F : Nat → Prop) (w : World) (h : WrS mr mb w st F) (hz : wz st ≤ 800000) (ho : -9223372036854775808 ≤ op ∧ op ≤ 9223372036854775807) (htb : ∀ w', Below w.heap.size w w' → Tab w') (htk : ∀ w', Below mr w w' → Tab w') (hf : fmS op = ⟨#[110]⟩) :
  Calls Tryz.prog 62 #[.pointer (some ⟨mb, 0, none⟩), .agg #[.int .i64 op, .int .i64 a, .string c, .string n, .string d]] w fun e w' => e = .returned (.tuple #[]) ∧ ∃ F', WrS mr mb w' (tksP st (.n op :: insArg ⟨#[110]⟩ a c n d)) F' ∧ Kept mr F w w' F' := by
 rw [insArg_n]
 have HT : Hid (∀ tb (ts : List ByteArray), ts.length ≤ 3 → (∀ t ∈ ts, t.size ≤ maxLen) → ∀ st F w, WrS mr mb w st F → wz st ≤ 900000 → Box F w tb (sC ts) → Calls Tryz.prog 36 #[.pointer (some ⟨mb, 0, none⟩), .slice (some ⟨tb, 0, none⟩) ts.length ts.length] w fun e w' => e = .returned (.tuple #[]) ∧ ∃ F', WrS mr mb w' (tksP st (ts.map .t)) F' ∧ Kept mr F w w' F') := fun tb ts h1 h2 st F w h hz hb => implTell mr mb tb ts h1 h2 st F w h hz hb
 have HFl : Hid (∀ tb (ls : List Bool), ls.length ≤ 3 → ∀ st F w, WrS mr mb w st F → wz st ≤ 1000000 → (∀ j (hj : j < ls.length), w.cell? ⟨tb, j, none⟩ = some (.bool ls[j])) → Calls Tryz.prog 37 #[.pointer (some ⟨mb, 0, none⟩), .slice (some ⟨tb, 0, none⟩) ls.length ls.length] w fun e w' => e = .returned (.tuple #[]) ∧ ∃ F', WrS mr mb w' (tkP st (.n (flB ls))) F' ∧ Kept mr F w w' F') := fun tb ls h1 st F w h hz hc => implWF mr mb tb ls h1 st F w h hz hc
 have HP1 : Hid (∀ n st F w, WrS mr mb w st F → wz st ≤ 1000000 → Calls Tryz.prog 60 #[.pointer (some ⟨mb, 0, none⟩), .int .i64 n] w fun e w' => e = .returned (.tuple #[]) ∧ ∃ F', WrS mr mb w' (tkP st (.n n)) F' ∧ Kept mr F w w' F') := fun n st F w h hz => implW1 mr mb n st F w h hz
 have HP4 : Hid (∀ n st F w, WrS mr mb w st F → wz st ≤ 1000000 → Calls Tryz.prog 77 #[.pointer (some ⟨mb, 0, none⟩), .int .i64 n] w fun e w' => e = .returned (.tuple #[]) ∧ ∃ F', WrS mr mb w' (tkP st (.r (p4 n))) F' ∧ Kept mr F w w' F') := fun n st F w h hz => implW4 mr mb n st F w h hz
 have HOp : Hid (∀ w, Tab w → Calls Tryz.prog 76 #[.int .i64 op] w fun e w' => e = .returned (.string ⟨#[110]⟩) ∧ Below w.heap.size w w') := fun w ht => hf ▸ implOpForm op w ht
 have HTb := (show Hid (∀ w', Below mr w w' → Tab w') from htk)
 have HI0 : Hid (WInv mr mb F w w.heap.size [.int .i64 op, .int .i64 a, .string c, .string n, .string d] (w.alloc (.cells ([.int .i64 op, .int .i64 a, .string c, .string n, .string d] : List Value).toArray 75)) st F) := WInv.start h _ _
 have HZ := (show Hid (wz st ≤ 800000) from hz)
 clear h hz hf ho htb htk
 go_enter Tryz.func62, Tryz.ntmps62
 go_wp2_with fail
 go_region_with (go_at_call 60; refine Calls.mono (HP1.out op _ _ _ (HI0.out.below (below_drew _)).wrt (by have := HZ.out; omega)) ?_; rintro e w1 ⟨rfl, F1, hm, hk⟩; have HI1 := (show Hid (WInv mr mb F w w.heap.size _ w1 (tkP st (.n op)) F1) from (HI0.out.below (below_drew _)).step hm hk); clear hm hk)
 clear HI0
 have x0 := HI1.out.box.cells 0 _ rfl
 go_wp2_with fail
 refine Calls.mono (HOp.out _ (HTb.out _ HI1.out.kept.low)) ?_
 rintro e wo ⟨rfl, hbo⟩
 have HI2 := (show Hid (WInv mr mb F w w.heap.size _ wo (tkP st (.n op)) F1) from HI1.out.below hbo)
 clear hbo HI1 x0
 have x1 := HI2.out.box.cells 1 _ rfl
 go_wp2_with fail
 go_region_with (go_at_call 77; refine Calls.mono (HP4.out a _ _ _ (HI2.out.below (below_drew _)).wrt (by have := HZ.out; have := wzP_n st op; omega)) ?_; rintro e w3 ⟨rfl, F3, hm, hk⟩; have HI3 := (show Hid (WInv mr mb F w w.heap.size _ w3 (tkP (tkP st (.n op)) (.r (p4 a))) F3) from (HI2.out.below (below_drew _)).step hm hk); clear hm hk)
 clear HI2
 clear x1
 all_goals
  go_wp2
  refine bodyPost_end (v := .tuple #[]) (by simp [results, go_sem]) rfl ⟨rfl, _, HI3.out.wrt, HI3.out.kept⟩
set_option maxHeartbeats 2000000 in
theorem implWIns_i (mr mb : Nat) (op a : Int) (c n d : ByteArray) (s0 : c.size ≤ maxLen) (s1 : n.size ≤ maxLen) (s2 : d.size ≤ maxLen) (st : WS) (F : Nat → Prop) (w : World) (h : WrS mr mb w st F) (hz : wz st ≤ 800000) (ho : -9223372036854775808 ≤ op ∧ op ≤ 9223372036854775807) (htb : ∀ w', Below w.heap.size w w' → Tab w') (htk : ∀ w', Below mr w w' → Tab w') (hf : fmS op = ⟨#[105]⟩) :
  Calls Tryz.prog 62 #[.pointer (some ⟨mb, 0, none⟩), .agg #[.int .i64 op, .int .i64 a, .string c, .string n, .string d]] w fun e w' => e = .returned (.tuple #[]) ∧ ∃ F', WrS mr mb w' (tksP st (.n op :: insArg ⟨#[105]⟩ a c n d)) F' ∧ Kept mr F w w' F' := by
 rw [insArg_i]
 have HT : Hid (∀ tb (ts : List ByteArray), ts.length ≤ 3 → (∀ t ∈ ts, t.size ≤ maxLen) → ∀ st F w, WrS mr mb w st F → wz st ≤ 900000 → Box F w tb (sC ts) → Calls Tryz.prog 36 #[.pointer (some ⟨mb, 0, none⟩), .slice (some ⟨tb, 0, none⟩) ts.length ts.length] w fun e w' => e = .returned (.tuple #[]) ∧ ∃ F', WrS mr mb w' (tksP st (ts.map .t)) F' ∧ Kept mr F w w' F') := fun tb ts h1 h2 st F w h hz hb => implTell mr mb tb ts h1 h2 st F w h hz hb
 have HFl : Hid (∀ tb (ls : List Bool), ls.length ≤ 3 → ∀ st F w, WrS mr mb w st F → wz st ≤ 1000000 → (∀ j (hj : j < ls.length), w.cell? ⟨tb, j, none⟩ = some (.bool ls[j])) → Calls Tryz.prog 37 #[.pointer (some ⟨mb, 0, none⟩), .slice (some ⟨tb, 0, none⟩) ls.length ls.length] w fun e w' => e = .returned (.tuple #[]) ∧ ∃ F', WrS mr mb w' (tkP st (.n (flB ls))) F' ∧ Kept mr F w w' F') := fun tb ls h1 st F w h hz hc => implWF mr mb tb ls h1 st F w h hz hc
 have HP1 : Hid (∀ n st F w, WrS mr mb w st F → wz st ≤ 1000000 → Calls Tryz.prog 60 #[.pointer (some ⟨mb, 0, none⟩), .int .i64 n] w fun e w' => e = .returned (.tuple #[]) ∧ ∃ F', WrS mr mb w' (tkP st (.n n)) F' ∧ Kept mr F w w' F') := fun n st F w h hz => implW1 mr mb n st F w h hz
 have HP4 : Hid (∀ n st F w, WrS mr mb w st F → wz st ≤ 1000000 → Calls Tryz.prog 77 #[.pointer (some ⟨mb, 0, none⟩), .int .i64 n] w fun e w' => e = .returned (.tuple #[]) ∧ ∃ F', WrS mr mb w' (tkP st (.r (p4 n))) F' ∧ Kept mr F w w' F') := fun n st F w h hz => implW4 mr mb n st F w h hz
 have HOp : Hid (∀ w, Tab w → Calls Tryz.prog 76 #[.int .i64 op] w fun e w' => e = .returned (.string ⟨#[105]⟩) ∧ Below w.heap.size w w') := fun w ht => hf ▸ implOpForm op w ht
 have HTb := (show Hid (∀ w', Below mr w w' → Tab w') from htk)
 have HI0 : Hid (WInv mr mb F w w.heap.size [.int .i64 op, .int .i64 a, .string c, .string n, .string d] (w.alloc (.cells ([.int .i64 op, .int .i64 a, .string c, .string n, .string d] : List Value).toArray 75)) st F) := WInv.start h _ _
 have HZ := (show Hid (wz st ≤ 800000) from hz)
 clear h hz hf ho htb htk
 go_enter Tryz.func62, Tryz.ntmps62
 go_wp2_with fail
 go_region_with (go_at_call 60; refine Calls.mono (HP1.out op _ _ _ (HI0.out.below (below_drew _)).wrt (by have := HZ.out; omega)) ?_; rintro e w1 ⟨rfl, F1, hm, hk⟩; have HI1 := (show Hid (WInv mr mb F w w.heap.size _ w1 (tkP st (.n op)) F1) from (HI0.out.below (below_drew _)).step hm hk); clear hm hk)
 clear HI0
 have x0 := HI1.out.box.cells 0 _ rfl
 go_wp2_with fail
 refine Calls.mono (HOp.out _ (HTb.out _ HI1.out.kept.low)) ?_
 rintro e wo ⟨rfl, hbo⟩
 have HI2 := (show Hid (WInv mr mb F w w.heap.size _ wo (tkP st (.n op)) F1) from HI1.out.below hbo)
 clear hbo HI1 x0
 have x1 := HI2.out.box.cells 1 _ rfl
 go_wp2_with fail
 go_region_with (go_at_call 60; refine Calls.mono (HP1.out a _ _ _ (HI2.out.below (below_drew _)).wrt (by have := HZ.out; have := wzP_n st op; omega)) ?_; rintro e w3 ⟨rfl, F3, hm, hk⟩; have HI3 := (show Hid (WInv mr mb F w w.heap.size _ w3 (tkP (tkP st (.n op)) (.n a)) F3) from (HI2.out.below (below_drew _)).step hm hk); clear hm hk)
 clear HI2
 clear x1
 all_goals
  go_wp2
  refine bodyPost_end (v := .tuple #[]) (by simp [results, go_sem]) rfl ⟨rfl, _, HI3.out.wrt, HI3.out.kept⟩
set_option maxHeartbeats 2000000 in
theorem implWIns_t (mr mb : Nat) (op a : Int) (c n d : ByteArray) (s0 : c.size ≤ maxLen) (s1 : n.size ≤ maxLen) (s2 : d.size ≤ maxLen) (st : WS) (F : Nat → Prop) (w : World) (h : WrS mr mb w st F) (hz : wz st ≤ 800000) (ho : -9223372036854775808 ≤ op ∧ op ≤ 9223372036854775807) (htb : ∀ w', Below w.heap.size w w' → Tab w') (htk : ∀ w', Below mr w w' → Tab w') (hf : fmS op = ⟨#[116]⟩) :
  Calls Tryz.prog 62 #[.pointer (some ⟨mb, 0, none⟩), .agg #[.int .i64 op, .int .i64 a, .string c, .string n, .string d]] w fun e w' => e = .returned (.tuple #[]) ∧ ∃ F', WrS mr mb w' (tksP st (.n op :: insArg ⟨#[116]⟩ a c n d)) F' ∧ Kept mr F w w' F' := by
 rw [insArg_t]
 have HT : Hid (∀ tb (ts : List ByteArray), ts.length ≤ 3 → (∀ t ∈ ts, t.size ≤ maxLen) → ∀ st F w, WrS mr mb w st F → wz st ≤ 900000 → Box F w tb (sC ts) → Calls Tryz.prog 36 #[.pointer (some ⟨mb, 0, none⟩), .slice (some ⟨tb, 0, none⟩) ts.length ts.length] w fun e w' => e = .returned (.tuple #[]) ∧ ∃ F', WrS mr mb w' (tksP st (ts.map .t)) F' ∧ Kept mr F w w' F') := fun tb ts h1 h2 st F w h hz hb => implTell mr mb tb ts h1 h2 st F w h hz hb
 have HFl : Hid (∀ tb (ls : List Bool), ls.length ≤ 3 → ∀ st F w, WrS mr mb w st F → wz st ≤ 1000000 → (∀ j (hj : j < ls.length), w.cell? ⟨tb, j, none⟩ = some (.bool ls[j])) → Calls Tryz.prog 37 #[.pointer (some ⟨mb, 0, none⟩), .slice (some ⟨tb, 0, none⟩) ls.length ls.length] w fun e w' => e = .returned (.tuple #[]) ∧ ∃ F', WrS mr mb w' (tkP st (.n (flB ls))) F' ∧ Kept mr F w w' F') := fun tb ls h1 st F w h hz hc => implWF mr mb tb ls h1 st F w h hz hc
 have HP1 : Hid (∀ n st F w, WrS mr mb w st F → wz st ≤ 1000000 → Calls Tryz.prog 60 #[.pointer (some ⟨mb, 0, none⟩), .int .i64 n] w fun e w' => e = .returned (.tuple #[]) ∧ ∃ F', WrS mr mb w' (tkP st (.n n)) F' ∧ Kept mr F w w' F') := fun n st F w h hz => implW1 mr mb n st F w h hz
 have HP4 : Hid (∀ n st F w, WrS mr mb w st F → wz st ≤ 1000000 → Calls Tryz.prog 77 #[.pointer (some ⟨mb, 0, none⟩), .int .i64 n] w fun e w' => e = .returned (.tuple #[]) ∧ ∃ F', WrS mr mb w' (tkP st (.r (p4 n))) F' ∧ Kept mr F w w' F') := fun n st F w h hz => implW4 mr mb n st F w h hz
 have HOp : Hid (∀ w, Tab w → Calls Tryz.prog 76 #[.int .i64 op] w fun e w' => e = .returned (.string ⟨#[116]⟩) ∧ Below w.heap.size w w') := fun w ht => hf ▸ implOpForm op w ht
 have HTb := (show Hid (∀ w', Below mr w w' → Tab w') from htk)
 have HI0 : Hid (WInv mr mb F w w.heap.size [.int .i64 op, .int .i64 a, .string c, .string n, .string d] (w.alloc (.cells ([.int .i64 op, .int .i64 a, .string c, .string n, .string d] : List Value).toArray 75)) st F) := WInv.start h _ _
 have HZ := (show Hid (wz st ≤ 800000) from hz)
 clear h hz hf ho htb htk
 go_enter Tryz.func62, Tryz.ntmps62
 go_wp2_with fail
 go_region_with (go_at_call 60; refine Calls.mono (HP1.out op _ _ _ (HI0.out.below (below_drew _)).wrt (by have := HZ.out; omega)) ?_; rintro e w1 ⟨rfl, F1, hm, hk⟩; have HI1 := (show Hid (WInv mr mb F w w.heap.size _ w1 (tkP st (.n op)) F1) from (HI0.out.below (below_drew _)).step hm hk); clear hm hk)
 clear HI0
 have x0 := HI1.out.box.cells 0 _ rfl
 go_wp2_with fail
 refine Calls.mono (HOp.out _ (HTb.out _ HI1.out.kept.low)) ?_
 rintro e wo ⟨rfl, hbo⟩
 have HI2 := (show Hid (WInv mr mb F w w.heap.size _ wo (tkP st (.n op)) F1) from HI1.out.below hbo)
 clear hbo HI1 x0
 have x1 := HI2.out.box.cells 1 _ rfl
 go_wp2_with fail
 go_region_with (go_at_call 60; refine Calls.mono (HP1.out a _ _ _ (HI2.out.below (below_drew _)).wrt (by have := HZ.out; have := wzP_n st op; omega)) ?_; rintro e w3 ⟨rfl, F3, hm, hk⟩; have HI3 := (show Hid (WInv mr mb F w w.heap.size _ w3 (tkP (tkP st (.n op)) (.n a)) F3) from (HI2.out.below (below_drew _)).step hm hk); clear hm hk)
 clear HI2
 clear x1
 all_goals
  go_wp2
  refine bodyPost_end (v := .tuple #[]) (by simp [results, go_sem]) rfl ⟨rfl, _, HI3.out.wrt, HI3.out.kept⟩
set_option maxHeartbeats 2000000 in
theorem implWIns_c (mr mb : Nat) (op a : Int) (c n d : ByteArray) (s0 : c.size ≤ maxLen) (s1 : n.size ≤ maxLen) (s2 : d.size ≤ maxLen) (st : WS) (F : Nat → Prop) (w : World) (h : WrS mr mb w st F) (hz : wz st ≤ 800000) (ho : -9223372036854775808 ≤ op ∧ op ≤ 9223372036854775807) (htb : ∀ w', Below w.heap.size w w' → Tab w') (htk : ∀ w', Below mr w w' → Tab w') (hf : fmS op = ⟨#[99]⟩) :
  Calls Tryz.prog 62 #[.pointer (some ⟨mb, 0, none⟩), .agg #[.int .i64 op, .int .i64 a, .string c, .string n, .string d]] w fun e w' => e = .returned (.tuple #[]) ∧ ∃ F', WrS mr mb w' (tksP st (.n op :: insArg ⟨#[99]⟩ a c n d)) F' ∧ Kept mr F w w' F' := by
 rw [insArg_c]
 have HT : Hid (∀ tb (ts : List ByteArray), ts.length ≤ 3 → (∀ t ∈ ts, t.size ≤ maxLen) → ∀ st F w, WrS mr mb w st F → wz st ≤ 900000 → Box F w tb (sC ts) → Calls Tryz.prog 36 #[.pointer (some ⟨mb, 0, none⟩), .slice (some ⟨tb, 0, none⟩) ts.length ts.length] w fun e w' => e = .returned (.tuple #[]) ∧ ∃ F', WrS mr mb w' (tksP st (ts.map .t)) F' ∧ Kept mr F w w' F') := fun tb ts h1 h2 st F w h hz hb => implTell mr mb tb ts h1 h2 st F w h hz hb
 have HFl : Hid (∀ tb (ls : List Bool), ls.length ≤ 3 → ∀ st F w, WrS mr mb w st F → wz st ≤ 1000000 → (∀ j (hj : j < ls.length), w.cell? ⟨tb, j, none⟩ = some (.bool ls[j])) → Calls Tryz.prog 37 #[.pointer (some ⟨mb, 0, none⟩), .slice (some ⟨tb, 0, none⟩) ls.length ls.length] w fun e w' => e = .returned (.tuple #[]) ∧ ∃ F', WrS mr mb w' (tkP st (.n (flB ls))) F' ∧ Kept mr F w w' F') := fun tb ls h1 st F w h hz hc => implWF mr mb tb ls h1 st F w h hz hc
 have HP1 : Hid (∀ n st F w, WrS mr mb w st F → wz st ≤ 1000000 → Calls Tryz.prog 60 #[.pointer (some ⟨mb, 0, none⟩), .int .i64 n] w fun e w' => e = .returned (.tuple #[]) ∧ ∃ F', WrS mr mb w' (tkP st (.n n)) F' ∧ Kept mr F w w' F') := fun n st F w h hz => implW1 mr mb n st F w h hz
 have HP4 : Hid (∀ n st F w, WrS mr mb w st F → wz st ≤ 1000000 → Calls Tryz.prog 77 #[.pointer (some ⟨mb, 0, none⟩), .int .i64 n] w fun e w' => e = .returned (.tuple #[]) ∧ ∃ F', WrS mr mb w' (tkP st (.r (p4 n))) F' ∧ Kept mr F w w' F') := fun n st F w h hz => implW4 mr mb n st F w h hz
 have HOp : Hid (∀ w, Tab w → Calls Tryz.prog 76 #[.int .i64 op] w fun e w' => e = .returned (.string ⟨#[99]⟩) ∧ Below w.heap.size w w') := fun w ht => hf ▸ implOpForm op w ht
 have HTb := (show Hid (∀ w', Below mr w w' → Tab w') from htk)
 have HI0 : Hid (WInv mr mb F w w.heap.size [.int .i64 op, .int .i64 a, .string c, .string n, .string d] (w.alloc (.cells ([.int .i64 op, .int .i64 a, .string c, .string n, .string d] : List Value).toArray 75)) st F) := WInv.start h _ _
 have HZ := (show Hid (wz st ≤ 800000) from hz)
 clear h hz hf ho htb htk
 go_enter Tryz.func62, Tryz.ntmps62
 go_wp2_with fail
 go_region_with (go_at_call 60; refine Calls.mono (HP1.out op _ _ _ (HI0.out.below (below_drew _)).wrt (by have := HZ.out; omega)) ?_; rintro e w1 ⟨rfl, F1, hm, hk⟩; have HI1 := (show Hid (WInv mr mb F w w.heap.size _ w1 (tkP st (.n op)) F1) from (HI0.out.below (below_drew _)).step hm hk); clear hm hk)
 clear HI0
 have x0 := HI1.out.box.cells 0 _ rfl
 go_wp2_with fail
 refine Calls.mono (HOp.out _ (HTb.out _ HI1.out.kept.low)) ?_
 rintro e wo ⟨rfl, hbo⟩
 have HI2 := (show Hid (WInv mr mb F w w.heap.size _ wo (tkP st (.n op)) F1) from HI1.out.below hbo)
 clear hbo HI1 x0
 have x2 := HI2.out.box.cells 2 _ rfl
 go_wp2_with fail
 have HJ2 := (show Hid _ from HI2.out.below (below_al _ (.cells #[.string c] 9)))
 refine Calls.mono (HT.out _ [c] (by simp) (by intro t ht; simp at ht; subst ht; assumption) _ _ _ HJ2.out.wrt (by have := HZ.out; have := wzP_n st op; omega) (box_at (sC [c]) _ (by first | rfl | simp) HI2.out.wrt.own_lt)) ?_
 rintro e w3 ⟨rfl, F3, hm, hk⟩
 have HI3 := (show Hid (WInv mr mb F w w.heap.size _ w3 (tksP (tkP st (.n op)) [.t c]) F3) from HJ2.out.step hm hk)
 clear hm hk HI2 HJ2
 clear x2
 all_goals
  go_wp2
  refine bodyPost_end (v := .tuple #[]) (by simp [results, go_sem]) rfl ⟨rfl, _, HI3.out.wrt, HI3.out.kept⟩
set_option maxHeartbeats 2000000 in
theorem implWIns_y (mr mb : Nat) (op a : Int) (c n d : ByteArray) (s0 : c.size ≤ maxLen) (s1 : n.size ≤ maxLen) (s2 : d.size ≤ maxLen) (st : WS) (F : Nat → Prop) (w : World) (h : WrS mr mb w st F) (hz : wz st ≤ 800000) (ho : -9223372036854775808 ≤ op ∧ op ≤ 9223372036854775807) (htb : ∀ w', Below w.heap.size w w' → Tab w') (htk : ∀ w', Below mr w w' → Tab w') (hf : fmS op = ⟨#[121]⟩) :
  Calls Tryz.prog 62 #[.pointer (some ⟨mb, 0, none⟩), .agg #[.int .i64 op, .int .i64 a, .string c, .string n, .string d]] w fun e w' => e = .returned (.tuple #[]) ∧ ∃ F', WrS mr mb w' (tksP st (.n op :: insArg ⟨#[121]⟩ a c n d)) F' ∧ Kept mr F w w' F' := by
 rw [insArg_y]
 have HT : Hid (∀ tb (ts : List ByteArray), ts.length ≤ 3 → (∀ t ∈ ts, t.size ≤ maxLen) → ∀ st F w, WrS mr mb w st F → wz st ≤ 900000 → Box F w tb (sC ts) → Calls Tryz.prog 36 #[.pointer (some ⟨mb, 0, none⟩), .slice (some ⟨tb, 0, none⟩) ts.length ts.length] w fun e w' => e = .returned (.tuple #[]) ∧ ∃ F', WrS mr mb w' (tksP st (ts.map .t)) F' ∧ Kept mr F w w' F') := fun tb ts h1 h2 st F w h hz hb => implTell mr mb tb ts h1 h2 st F w h hz hb
 have HFl : Hid (∀ tb (ls : List Bool), ls.length ≤ 3 → ∀ st F w, WrS mr mb w st F → wz st ≤ 1000000 → (∀ j (hj : j < ls.length), w.cell? ⟨tb, j, none⟩ = some (.bool ls[j])) → Calls Tryz.prog 37 #[.pointer (some ⟨mb, 0, none⟩), .slice (some ⟨tb, 0, none⟩) ls.length ls.length] w fun e w' => e = .returned (.tuple #[]) ∧ ∃ F', WrS mr mb w' (tkP st (.n (flB ls))) F' ∧ Kept mr F w w' F') := fun tb ls h1 st F w h hz hc => implWF mr mb tb ls h1 st F w h hz hc
 have HP1 : Hid (∀ n st F w, WrS mr mb w st F → wz st ≤ 1000000 → Calls Tryz.prog 60 #[.pointer (some ⟨mb, 0, none⟩), .int .i64 n] w fun e w' => e = .returned (.tuple #[]) ∧ ∃ F', WrS mr mb w' (tkP st (.n n)) F' ∧ Kept mr F w w' F') := fun n st F w h hz => implW1 mr mb n st F w h hz
 have HP4 : Hid (∀ n st F w, WrS mr mb w st F → wz st ≤ 1000000 → Calls Tryz.prog 77 #[.pointer (some ⟨mb, 0, none⟩), .int .i64 n] w fun e w' => e = .returned (.tuple #[]) ∧ ∃ F', WrS mr mb w' (tkP st (.r (p4 n))) F' ∧ Kept mr F w w' F') := fun n st F w h hz => implW4 mr mb n st F w h hz
 have HOp : Hid (∀ w, Tab w → Calls Tryz.prog 76 #[.int .i64 op] w fun e w' => e = .returned (.string ⟨#[121]⟩) ∧ Below w.heap.size w w') := fun w ht => hf ▸ implOpForm op w ht
 have HTb := (show Hid (∀ w', Below mr w w' → Tab w') from htk)
 have HI0 : Hid (WInv mr mb F w w.heap.size [.int .i64 op, .int .i64 a, .string c, .string n, .string d] (w.alloc (.cells ([.int .i64 op, .int .i64 a, .string c, .string n, .string d] : List Value).toArray 75)) st F) := WInv.start h _ _
 have HZ := (show Hid (wz st ≤ 800000) from hz)
 clear h hz hf ho htb htk
 go_enter Tryz.func62, Tryz.ntmps62
 go_wp2_with fail
 go_region_with (go_at_call 60; refine Calls.mono (HP1.out op _ _ _ (HI0.out.below (below_drew _)).wrt (by have := HZ.out; omega)) ?_; rintro e w1 ⟨rfl, F1, hm, hk⟩; have HI1 := (show Hid (WInv mr mb F w w.heap.size _ w1 (tkP st (.n op)) F1) from (HI0.out.below (below_drew _)).step hm hk); clear hm hk)
 clear HI0
 have x0 := HI1.out.box.cells 0 _ rfl
 go_wp2_with fail
 refine Calls.mono (HOp.out _ (HTb.out _ HI1.out.kept.low)) ?_
 rintro e wo ⟨rfl, hbo⟩
 have HI2 := (show Hid (WInv mr mb F w w.heap.size _ wo (tkP st (.n op)) F1) from HI1.out.below hbo)
 clear hbo HI1 x0
 have x4 := HI2.out.box.cells 4 _ rfl
 go_wp2_with fail
 have HJ2 := (show Hid _ from HI2.out.below (below_al _ (.cells #[.string d] 9)))
 refine Calls.mono (HT.out _ [d] (by simp) (by intro t ht; simp at ht; subst ht; assumption) _ _ _ HJ2.out.wrt (by have := HZ.out; have := wzP_n st op; omega) (box_at (sC [d]) _ (by first | rfl | simp) HI2.out.wrt.own_lt)) ?_
 rintro e w3 ⟨rfl, F3, hm, hk⟩
 have HI3 := (show Hid (WInv mr mb F w w.heap.size _ w3 (tksP (tkP st (.n op)) [.t d]) F3) from HJ2.out.step hm hk)
 clear hm hk HI2 HJ2
 clear x4
 all_goals
  go_wp2
  refine bodyPost_end (v := .tuple #[]) (by simp [results, go_sem]) rfl ⟨rfl, _, HI3.out.wrt, HI3.out.kept⟩
set_option maxHeartbeats 2000000 in
theorem implWIns_f (mr mb : Nat) (op a : Int) (c n d : ByteArray) (s0 : c.size ≤ maxLen) (s1 : n.size ≤ maxLen) (s2 : d.size ≤ maxLen) (st : WS) (F : Nat → Prop) (w : World) (h : WrS mr mb w st F) (hz : wz st ≤ 800000) (ho : -9223372036854775808 ≤ op ∧ op ≤ 9223372036854775807) (htb : ∀ w', Below w.heap.size w w' → Tab w') (htk : ∀ w', Below mr w w' → Tab w') (hf : fmS op = ⟨#[102]⟩) :
  Calls Tryz.prog 62 #[.pointer (some ⟨mb, 0, none⟩), .agg #[.int .i64 op, .int .i64 a, .string c, .string n, .string d]] w fun e w' => e = .returned (.tuple #[]) ∧ ∃ F', WrS mr mb w' (tksP st (.n op :: insArg ⟨#[102]⟩ a c n d)) F' ∧ Kept mr F w w' F' := by
 rw [insArg_f]
 have HT : Hid (∀ tb (ts : List ByteArray), ts.length ≤ 3 → (∀ t ∈ ts, t.size ≤ maxLen) → ∀ st F w, WrS mr mb w st F → wz st ≤ 900000 → Box F w tb (sC ts) → Calls Tryz.prog 36 #[.pointer (some ⟨mb, 0, none⟩), .slice (some ⟨tb, 0, none⟩) ts.length ts.length] w fun e w' => e = .returned (.tuple #[]) ∧ ∃ F', WrS mr mb w' (tksP st (ts.map .t)) F' ∧ Kept mr F w w' F') := fun tb ts h1 h2 st F w h hz hb => implTell mr mb tb ts h1 h2 st F w h hz hb
 have HFl : Hid (∀ tb (ls : List Bool), ls.length ≤ 3 → ∀ st F w, WrS mr mb w st F → wz st ≤ 1000000 → (∀ j (hj : j < ls.length), w.cell? ⟨tb, j, none⟩ = some (.bool ls[j])) → Calls Tryz.prog 37 #[.pointer (some ⟨mb, 0, none⟩), .slice (some ⟨tb, 0, none⟩) ls.length ls.length] w fun e w' => e = .returned (.tuple #[]) ∧ ∃ F', WrS mr mb w' (tkP st (.n (flB ls))) F' ∧ Kept mr F w w' F') := fun tb ls h1 st F w h hz hc => implWF mr mb tb ls h1 st F w h hz hc
 have HP1 : Hid (∀ n st F w, WrS mr mb w st F → wz st ≤ 1000000 → Calls Tryz.prog 60 #[.pointer (some ⟨mb, 0, none⟩), .int .i64 n] w fun e w' => e = .returned (.tuple #[]) ∧ ∃ F', WrS mr mb w' (tkP st (.n n)) F' ∧ Kept mr F w w' F') := fun n st F w h hz => implW1 mr mb n st F w h hz
 have HP4 : Hid (∀ n st F w, WrS mr mb w st F → wz st ≤ 1000000 → Calls Tryz.prog 77 #[.pointer (some ⟨mb, 0, none⟩), .int .i64 n] w fun e w' => e = .returned (.tuple #[]) ∧ ∃ F', WrS mr mb w' (tkP st (.r (p4 n))) F' ∧ Kept mr F w w' F') := fun n st F w h hz => implW4 mr mb n st F w h hz
 have HOp : Hid (∀ w, Tab w → Calls Tryz.prog 76 #[.int .i64 op] w fun e w' => e = .returned (.string ⟨#[102]⟩) ∧ Below w.heap.size w w') := fun w ht => hf ▸ implOpForm op w ht
 have HTb := (show Hid (∀ w', Below mr w w' → Tab w') from htk)
 have HI0 : Hid (WInv mr mb F w w.heap.size [.int .i64 op, .int .i64 a, .string c, .string n, .string d] (w.alloc (.cells ([.int .i64 op, .int .i64 a, .string c, .string n, .string d] : List Value).toArray 75)) st F) := WInv.start h _ _
 have HZ := (show Hid (wz st ≤ 800000) from hz)
 clear h hz hf ho htb htk
 go_enter Tryz.func62, Tryz.ntmps62
 go_wp2_with fail
 go_region_with (go_at_call 60; refine Calls.mono (HP1.out op _ _ _ (HI0.out.below (below_drew _)).wrt (by have := HZ.out; omega)) ?_; rintro e w1 ⟨rfl, F1, hm, hk⟩; have HI1 := (show Hid (WInv mr mb F w w.heap.size _ w1 (tkP st (.n op)) F1) from (HI0.out.below (below_drew _)).step hm hk); clear hm hk)
 clear HI0
 have x0 := HI1.out.box.cells 0 _ rfl
 go_wp2_with fail
 refine Calls.mono (HOp.out _ (HTb.out _ HI1.out.kept.low)) ?_
 rintro e wo ⟨rfl, hbo⟩
 have HI2 := (show Hid (WInv mr mb F w w.heap.size _ wo (tkP st (.n op)) F1) from HI1.out.below hbo)
 clear hbo HI1 x0
 have x2 := HI2.out.box.cells 2 _ rfl
 have x3 := HI2.out.box.cells 3 _ rfl
 have x4 := HI2.out.box.cells 4 _ rfl
 go_wp2_with fail
 have HJ2 := (show Hid _ from HI2.out.below (below_al _ (.cells #[.string c, .string n, .string d] 9)))
 refine Calls.mono (HT.out _ [c, n, d] (by simp) (by intro t ht; simp at ht; rcases ht with rfl | rfl | rfl <;> assumption) _ _ _ HJ2.out.wrt (by have := HZ.out; have := wzP_n st op; omega) (box_at (sC [c, n, d]) _ (by first | rfl | simp) HI2.out.wrt.own_lt)) ?_
 rintro e w3 ⟨rfl, F3, hm, hk⟩
 have HI3 := (show Hid (WInv mr mb F w w.heap.size _ w3 (tksP (tkP st (.n op)) [.t c, .t n, .t d]) F3) from HJ2.out.step hm hk)
 clear hm hk HI2 HJ2
 clear x2 x3 x4
 all_goals
  go_wp2
  refine bodyPost_end (v := .tuple #[]) (by simp [results, go_sem]) rfl ⟨rfl, _, HI3.out.wrt, HI3.out.kept⟩
set_option maxHeartbeats 2000000 in
theorem implWIns_m (mr mb : Nat) (op a : Int) (c n d : ByteArray) (s0 : c.size ≤ maxLen) (s1 : n.size ≤ maxLen) (s2 : d.size ≤ maxLen) (st : WS) (F : Nat → Prop) (w : World) (h : WrS mr mb w st F) (hz : wz st ≤ 800000) (ho : -9223372036854775808 ≤ op ∧ op ≤ 9223372036854775807) (htb : ∀ w', Below w.heap.size w w' → Tab w') (htk : ∀ w', Below mr w w' → Tab w') (hf : fmS op = ⟨#[109]⟩) :
  Calls Tryz.prog 62 #[.pointer (some ⟨mb, 0, none⟩), .agg #[.int .i64 op, .int .i64 a, .string c, .string n, .string d]] w fun e w' => e = .returned (.tuple #[]) ∧ ∃ F', WrS mr mb w' (tksP st (.n op :: insArg ⟨#[109]⟩ a c n d)) F' ∧ Kept mr F w w' F' := by
 rw [insArg_m]
 have HT : Hid (∀ tb (ts : List ByteArray), ts.length ≤ 3 → (∀ t ∈ ts, t.size ≤ maxLen) → ∀ st F w, WrS mr mb w st F → wz st ≤ 900000 → Box F w tb (sC ts) → Calls Tryz.prog 36 #[.pointer (some ⟨mb, 0, none⟩), .slice (some ⟨tb, 0, none⟩) ts.length ts.length] w fun e w' => e = .returned (.tuple #[]) ∧ ∃ F', WrS mr mb w' (tksP st (ts.map .t)) F' ∧ Kept mr F w w' F') := fun tb ts h1 h2 st F w h hz hb => implTell mr mb tb ts h1 h2 st F w h hz hb
 have HFl : Hid (∀ tb (ls : List Bool), ls.length ≤ 3 → ∀ st F w, WrS mr mb w st F → wz st ≤ 1000000 → (∀ j (hj : j < ls.length), w.cell? ⟨tb, j, none⟩ = some (.bool ls[j])) → Calls Tryz.prog 37 #[.pointer (some ⟨mb, 0, none⟩), .slice (some ⟨tb, 0, none⟩) ls.length ls.length] w fun e w' => e = .returned (.tuple #[]) ∧ ∃ F', WrS mr mb w' (tkP st (.n (flB ls))) F' ∧ Kept mr F w w' F') := fun tb ls h1 st F w h hz hc => implWF mr mb tb ls h1 st F w h hz hc
 have HP1 : Hid (∀ n st F w, WrS mr mb w st F → wz st ≤ 1000000 → Calls Tryz.prog 60 #[.pointer (some ⟨mb, 0, none⟩), .int .i64 n] w fun e w' => e = .returned (.tuple #[]) ∧ ∃ F', WrS mr mb w' (tkP st (.n n)) F' ∧ Kept mr F w w' F') := fun n st F w h hz => implW1 mr mb n st F w h hz
 have HP4 : Hid (∀ n st F w, WrS mr mb w st F → wz st ≤ 1000000 → Calls Tryz.prog 77 #[.pointer (some ⟨mb, 0, none⟩), .int .i64 n] w fun e w' => e = .returned (.tuple #[]) ∧ ∃ F', WrS mr mb w' (tkP st (.r (p4 n))) F' ∧ Kept mr F w w' F') := fun n st F w h hz => implW4 mr mb n st F w h hz
 have HOp : Hid (∀ w, Tab w → Calls Tryz.prog 76 #[.int .i64 op] w fun e w' => e = .returned (.string ⟨#[109]⟩) ∧ Below w.heap.size w w') := fun w ht => hf ▸ implOpForm op w ht
 have HTb := (show Hid (∀ w', Below mr w w' → Tab w') from htk)
 have HI0 : Hid (WInv mr mb F w w.heap.size [.int .i64 op, .int .i64 a, .string c, .string n, .string d] (w.alloc (.cells ([.int .i64 op, .int .i64 a, .string c, .string n, .string d] : List Value).toArray 75)) st F) := WInv.start h _ _
 have HZ := (show Hid (wz st ≤ 800000) from hz)
 clear h hz hf ho htb htk
 go_enter Tryz.func62, Tryz.ntmps62
 go_wp2_with fail
 go_region_with (go_at_call 60; refine Calls.mono (HP1.out op _ _ _ (HI0.out.below (below_drew _)).wrt (by have := HZ.out; omega)) ?_; rintro e w1 ⟨rfl, F1, hm, hk⟩; have HI1 := (show Hid (WInv mr mb F w w.heap.size _ w1 (tkP st (.n op)) F1) from (HI0.out.below (below_drew _)).step hm hk); clear hm hk)
 clear HI0
 have x0 := HI1.out.box.cells 0 _ rfl
 go_wp2_with fail
 refine Calls.mono (HOp.out _ (HTb.out _ HI1.out.kept.low)) ?_
 rintro e wo ⟨rfl, hbo⟩
 have HI2 := (show Hid (WInv mr mb F w w.heap.size _ wo (tkP st (.n op)) F1) from HI1.out.below hbo)
 clear hbo HI1 x0
 have x2 := HI2.out.box.cells 2 _ rfl
 have x3 := HI2.out.box.cells 3 _ rfl
 have x4 := HI2.out.box.cells 4 _ rfl
 go_wp2_with fail
 have HJ2 := (show Hid _ from HI2.out.below (below_al _ (.cells #[.string c, .string n, .string d] 9)))
 refine Calls.mono (HT.out _ [c, n, d] (by simp) (by intro t ht; simp at ht; rcases ht with rfl | rfl | rfl <;> assumption) _ _ _ HJ2.out.wrt (by have := HZ.out; have := wzP_n st op; omega) (box_at (sC [c, n, d]) _ (by first | rfl | simp) HI2.out.wrt.own_lt)) ?_
 rintro e w3 ⟨rfl, F3, hm, hk⟩
 have HI3 := (show Hid (WInv mr mb F w w.heap.size _ w3 (tksP (tkP st (.n op)) [.t c, .t n, .t d]) F3) from HJ2.out.step hm hk)
 clear hm hk HI2 HJ2
 clear x2 x3 x4
 all_goals
  go_wp2
  refine bodyPost_end (v := .tuple #[]) (by simp [results, go_sem]) rfl ⟨rfl, _, HI3.out.wrt, HI3.out.kept⟩
set_option maxHeartbeats 2000000 in
theorem implWIns_x (mr mb : Nat) (op a : Int) (c n d : ByteArray) (s0 : c.size ≤ maxLen) (s1 : n.size ≤ maxLen) (s2 : d.size ≤ maxLen) (st : WS) (F : Nat → Prop) (w : World) (h : WrS mr mb w st F) (hz : wz st ≤ 800000) (ho : -9223372036854775808 ≤ op ∧ op ≤ 9223372036854775807) (htb : ∀ w', Below w.heap.size w w' → Tab w') (htk : ∀ w', Below mr w w' → Tab w') (hf : fmS op = ⟨#[33]⟩) :
  Calls Tryz.prog 62 #[.pointer (some ⟨mb, 0, none⟩), .agg #[.int .i64 op, .int .i64 a, .string c, .string n, .string d]] w fun e w' => e = .returned (.tuple #[]) ∧ ∃ F', WrS mr mb w' (tksP st (.n op :: insArg ⟨#[33]⟩ a c n d)) F' ∧ Kept mr F w w' F' := by
 rw [insArg_x]
 have HT : Hid (∀ tb (ts : List ByteArray), ts.length ≤ 3 → (∀ t ∈ ts, t.size ≤ maxLen) → ∀ st F w, WrS mr mb w st F → wz st ≤ 900000 → Box F w tb (sC ts) → Calls Tryz.prog 36 #[.pointer (some ⟨mb, 0, none⟩), .slice (some ⟨tb, 0, none⟩) ts.length ts.length] w fun e w' => e = .returned (.tuple #[]) ∧ ∃ F', WrS mr mb w' (tksP st (ts.map .t)) F' ∧ Kept mr F w w' F') := fun tb ts h1 h2 st F w h hz hb => implTell mr mb tb ts h1 h2 st F w h hz hb
 have HFl : Hid (∀ tb (ls : List Bool), ls.length ≤ 3 → ∀ st F w, WrS mr mb w st F → wz st ≤ 1000000 → (∀ j (hj : j < ls.length), w.cell? ⟨tb, j, none⟩ = some (.bool ls[j])) → Calls Tryz.prog 37 #[.pointer (some ⟨mb, 0, none⟩), .slice (some ⟨tb, 0, none⟩) ls.length ls.length] w fun e w' => e = .returned (.tuple #[]) ∧ ∃ F', WrS mr mb w' (tkP st (.n (flB ls))) F' ∧ Kept mr F w w' F') := fun tb ls h1 st F w h hz hc => implWF mr mb tb ls h1 st F w h hz hc
 have HP1 : Hid (∀ n st F w, WrS mr mb w st F → wz st ≤ 1000000 → Calls Tryz.prog 60 #[.pointer (some ⟨mb, 0, none⟩), .int .i64 n] w fun e w' => e = .returned (.tuple #[]) ∧ ∃ F', WrS mr mb w' (tkP st (.n n)) F' ∧ Kept mr F w w' F') := fun n st F w h hz => implW1 mr mb n st F w h hz
 have HP4 : Hid (∀ n st F w, WrS mr mb w st F → wz st ≤ 1000000 → Calls Tryz.prog 77 #[.pointer (some ⟨mb, 0, none⟩), .int .i64 n] w fun e w' => e = .returned (.tuple #[]) ∧ ∃ F', WrS mr mb w' (tkP st (.r (p4 n))) F' ∧ Kept mr F w w' F') := fun n st F w h hz => implW4 mr mb n st F w h hz
 have HOp : Hid (∀ w, Tab w → Calls Tryz.prog 76 #[.int .i64 op] w fun e w' => e = .returned (.string ⟨#[33]⟩) ∧ Below w.heap.size w w') := fun w ht => hf ▸ implOpForm op w ht
 have HTb := (show Hid (∀ w', Below mr w w' → Tab w') from htk)
 have HI0 : Hid (WInv mr mb F w w.heap.size [.int .i64 op, .int .i64 a, .string c, .string n, .string d] (w.alloc (.cells ([.int .i64 op, .int .i64 a, .string c, .string n, .string d] : List Value).toArray 75)) st F) := WInv.start h _ _
 have HZ := (show Hid (wz st ≤ 800000) from hz)
 clear h hz hf ho htb htk
 go_enter Tryz.func62, Tryz.ntmps62
 go_wp2_with fail
 go_region_with (go_at_call 60; refine Calls.mono (HP1.out op _ _ _ (HI0.out.below (below_drew _)).wrt (by have := HZ.out; omega)) ?_; rintro e w1 ⟨rfl, F1, hm, hk⟩; have HI1 := (show Hid (WInv mr mb F w w.heap.size _ w1 (tkP st (.n op)) F1) from (HI0.out.below (below_drew _)).step hm hk); clear hm hk)
 clear HI0
 have x0 := HI1.out.box.cells 0 _ rfl
 go_wp2_with fail
 refine Calls.mono (HOp.out _ (HTb.out _ HI1.out.kept.low)) ?_
 rintro e wo ⟨rfl, hbo⟩
 have HI2 := (show Hid (WInv mr mb F w w.heap.size _ wo (tkP st (.n op)) F1) from HI1.out.below hbo)
 clear hbo HI1 x0
 all_goals
  go_wp2
  refine bodyPost_end (v := .tuple #[]) (by simp [results, go_sem]) rfl ⟨rfl, _, HI2.out.wrt, HI2.out.kept⟩
theorem implWIns (mr mb : Nat) (op a : Int) (c n d : ByteArray) (s0 : c.size ≤ maxLen) (s1 : n.size ≤ maxLen) (s2 : d.size ≤ maxLen) (st : WS) (F : Nat → Prop) (w : World) (h : WrS mr mb w st F) (hz : wz st ≤ 800000) (ho : -9223372036854775808 ≤ op ∧ op ≤ 9223372036854775807) (htk : ∀ w', Below mr w w' → Tab w') :
  Calls Tryz.prog 62 #[.pointer (some ⟨mb, 0, none⟩), .agg #[.int .i64 op, .int .i64 a, .string c, .string n, .string d]] w fun e w' => e = .returned (.tuple #[]) ∧ ∃ F', WrS mr mb w' (tksP st (insTok (op, a, c, n, d))) F' ∧ Kept mr F w w' F' := by
 have htb : ∀ w', Below w.heap.size w w' → Tab w' := fun w' hb => htk w' (hb.mono (Nat.le_of_lt h.mr_lt))
 unfold insTok
 rcases fmS_cases op with e | e | e | e | e | e | e | e | e
 ·have k := implWIns_e mr mb op a c n d s0 s1 s2 st F w h hz ho htb htk e; rwa [← e] at k
 ·have k := implWIns_n mr mb op a c n d s0 s1 s2 st F w h hz ho htb htk e; rwa [← e] at k
 ·have k := implWIns_i mr mb op a c n d s0 s1 s2 st F w h hz ho htb htk e; rwa [← e] at k
 ·have k := implWIns_t mr mb op a c n d s0 s1 s2 st F w h hz ho htb htk e; rwa [← e] at k
 ·have k := implWIns_c mr mb op a c n d s0 s1 s2 st F w h hz ho htb htk e; rwa [← e] at k
 ·have k := implWIns_y mr mb op a c n d s0 s1 s2 st F w h hz ho htb htk e; rwa [← e] at k
 ·have k := implWIns_f mr mb op a c n d s0 s1 s2 st F w h hz ho htb htk e; rwa [← e] at k
 ·have k := implWIns_m mr mb op a c n d s0 s1 s2 st F w h hz ho htb htk e; rwa [← e] at k
 ·have k := implWIns_x mr mb op a c n d s0 s1 s2 st F w h hz ho htb htk e; rwa [← e] at k
end Go.Proofs.YtnenhhlgabghfaaGreatDoor
