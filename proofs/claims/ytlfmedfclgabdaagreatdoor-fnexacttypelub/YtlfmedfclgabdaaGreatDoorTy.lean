import Derived.Test.YtlfmedfclgabdaaGreatDoorFlat
import Derived.Test.YtlfmedfclgabdaaGreatDoorSplit
import Derived.WalkLawsBesides
import Derived.BigQuiet
import Derived.Deep.QuietTactic
import Derived.Deep.OwnRows
import Derived.Deep.RegionWith
import Derived.WalkSmall
import Derived.OwnWalk
/-
 How a Type of the check lies; the laws' own helpers on it.
-/
namespace Go.Proofs.YtlfmedfclgabdaaGreatDoor
open Go.RowKit
set_option maxRecDepth 20000
set_option linter.unusedVariables false

def typeR : Rep (Int × ByteArray × Int) := Rep.int.pair (Rep.str.pair Rep.int)
theorem i64wT {n : Int} (h : (Lit.int .i64 n).wf = true) : -9223372036854775808 ≤ n ∧ n ≤ 9223372036854775807 := by
 unfold Lit.wf at h
 simp only [Bool.and_eq_true, decide_eq_true_eq] at h
 exact h
section
variable {H : Type} {enc : TypeId × Value → H} {base : Nat} {spare : Nat → Bool} {held : Bool}
theorem opensType : Opens Tryz.prog enc base spare held typeR 24 :=
 opens_struct3 (R0 := Rep.int) (R1 := Rep.str) (R2 := Rep.int) Tryz.underlying24 ⟨rfl, rfl, rfl⟩ ⟨by kernel_rfl, by kernel_rfl, by kernel_rfl⟩ (by kernel_rfl)
  (opens_int Tryz.underlying2) (opens_str Tryz.underlying9) (opens_int Tryz.underlying2)
end
theorem lawSzType (k a : Int) (c : ByteArray) (left : Int) (w : World) (hc : c.size ≤ maxLen) (hl : 0 ≤ left ∧ left ≤ 1048576) :
  Calls Tryz.prog 9 #[.agg #[.int .i64 k, .string c, .int .i64 a], .int .i64 left] w fun e w' => e = .returned (.int .i64 (if left - (c.size : Int) < 0 then -1 else left - (c.size : Int))) ∧ Below w.heap.size w w' := by
 unfold maxLen at hc
 by_cases h : left - (c.size : Int) < 0
 ·rw [if_pos h]
  have d0 : decide (left - (c.size : Int) < 0) = true := by simpa using h
  go_enter Tryz.func9, Tryz.ntmps9
  go_wp2
  go_ret
  exact ⟨rfl, below_al _ _⟩
 ·rw [if_neg h]
  have d0 : decide (left - (c.size : Int) < 0) = false := by simpa using h
  go_enter Tryz.func9, Tryz.ntmps9
  go_wp2
  go_ret
  exact ⟨rfl, below_al _ _⟩
theorem lawToType (k a : Int) (c : ByteArray) (w : World) :
  Calls Tryz.prog 12 #[.agg #[.int .i64 k, .string c, .int .i64 a]] w fun e w' => e = .returned (.agg #[.int .i64 k, .string c, .int .i64 a]) ∧ Below w.heap.size w w' := by
 go_enter Tryz.func12, Tryz.ntmps12
 go_wp2
 refine bodyPost_ret (v := .agg #[.int .i64 k, .string c, .int .i64 a]) (by simp [results, Tryz.results12, go_sem]) rfl ⟨rfl, ?_⟩
 exact ((((Below.refl _ _).alloc (Nat.le_refl _) _).alloc (by simp) _).alloc (by simp; omega) _)
end Go.Proofs.YtlfmedfclgabdaaGreatDoor

/-
 Types, and slices of them: the laws' own helpers.
-/
namespace Go.Proofs.YtlfmedfclgabdaaGreatDoor
open Go.RowKit
set_option linter.unusedVariables false

/-- What is left behind something of this bulk. -/
def szT (b : Nat) (left : Int) : Int := if left < (b : Int) then -1 else left - (b : Int)

abbrev TypeD := Int × ByteArray × Int
def tyCs (d : TypeD) : List Value := [.int .i64 (d.1), .string (d.2.1), .int .i64 (d.2.2)]
def tyBk (d : TypeD) : Nat := (d.2.1).size
theorem tyR_in {w : World} {cs : List Value} {d : TypeD} (h : typeR.In w cs d) : cs = tyCs d ∧ (d.2.1).size ≤ maxLen := by
 obtain ⟨_, _, rfl, ⟨rfl, _⟩, ⟨_, _, rfl, ⟨rfl, s1⟩, ⟨rfl, _⟩⟩⟩ := h
 exact ⟨rfl, s1⟩

set_option maxHeartbeats 1000000 in
theorem lawSzTy (x0 : Int) (x1 : ByteArray) (x2 : Int) (left : Int) (w : World) (hx1 : x1.size ≤ maxLen) (hl : 0 ≤ left ∧ left ≤ 1048576) :
  Calls Tryz.prog 9 #[.agg #[.int .i64 x0, .string x1, .int .i64 x2], .int .i64 left] w fun e w' => e = .returned (.int .i64 (szT (x1.size) left)) ∧ Below w.heap.size w w' := by
 unfold maxLen at hx1
 have HB0 : Hid (∀ o, Below w.heap.size w (w.alloc o)) := fun o => (Below.refl _ _).alloc (Nat.le_refl _) o
 by_cases c0 : left - (x1.size : Int) < 0
 ·have d0 : decide (left - (x1.size : Int) < 0) = true := by simpa using c0
  have HT : Hid (-1 = szT (x1.size) left) := by show _ = _; unfold szT; rw [if_pos (by omega)]
  go_enter Tryz.func9, Tryz.ntmps9
  go_wp2
  go_ret
  exact ⟨rI HT.out, HB0.out _⟩
 ·have d0 : decide (left - (x1.size : Int) < 0) = false := by simpa using c0
  have HT : Hid (left - (x1.size : Int) = szT (x1.size) left) := by show _ = _; unfold szT; rw [if_neg (by omega)]; try omega
  go_enter Tryz.func9, Tryz.ntmps9
  go_wp2
  go_ret
  exact ⟨rI HT.out, HB0.out _⟩

set_option maxHeartbeats 1000000 in
theorem lawToTy (x0 : Int) (x1 : ByteArray) (x2 : Int) (w : World) :
  Calls Tryz.prog 12 #[.agg #[.int .i64 x0, .string x1, .int .i64 x2]] w fun e w' => e = .returned (.agg #[.int .i64 x0, .string x1, .int .i64 x2]) ∧ Below w.heap.size w w' := by
 go_enter Tryz.func12, Tryz.ntmps12
 go_wp2
 refine bodyPost_ret (v := .agg #[.int .i64 x0, .string x1, .int .i64 x2]) (by simp [results, Tryz.results12, go_sem]) rfl ⟨rfl, ?_⟩
 exact ((((Below.refl _ _).alloc (Nat.le_refl _) _).alloc (by simp) _).alloc (by simp; omega) _)

set_option maxHeartbeats 1000000 in
theorem lawEqTy (x0 : Int) (x1 : ByteArray) (x2 : Int) (w : World) :
  Calls Tryz.prog 17 #[.agg #[.int .i64 x0, .string x1, .int .i64 x2], .agg #[.int .i64 x0, .string x1, .int .i64 x2]] w fun e w' => e = .returned (.bool true) ∧ Below w.heap.size w w' := by
 have ex0 : (x0 == x0) = true := by simp
 have ex1 : (x1.toList == x1.toList) = true := by simp
 have ex2 : (x2 == x2) = true := by simp
 go_enter Tryz.func17, Tryz.ntmps17
 go_wp2
 go_ret
 exact ⟨rfl, ((Below.refl _ _).alloc (Nat.le_refl _) _).alloc (by simp) _⟩

def tySum (ds : List TypeD) (m : Nat) : Nat := ((ds.take m).map tyBk).sum
theorem tySum_succ (ds : List TypeD) (m : Nat) (h : m < ds.length) : tySum ds (m + 1) = tySum ds m + tyBk ds[m] := by
 unfold tySum
 rw [List.take_add_one, List.getElem?_eq_getElem h]
 simp only [List.map_append, List.sum_append, Option.toList_some, List.map_cons, List.map_nil, List.sum_cons, List.sum_nil]
 omega
theorem tySum_le (ds : List TypeD) (m : Nat) (h : m ≤ ds.length) : tySum ds m ≤ tySum ds ds.length := by
 have key : ∀ j, m + j ≤ ds.length → tySum ds m ≤ tySum ds (m + j) := by
  intro j
  induction j with
  | zero => exact fun _ => Nat.le_refl _
  | succ j ih =>
   intro hj
   have h1 := tySum_succ ds (m + j) (by omega)
   have h2 := ih (by omega)
   rw [← Nat.add_assoc]; omega
 have := key (ds.length - m) (by omega)
 rwa [show m + (ds.length - m) = ds.length by omega] at this

set_option maxHeartbeats 1000000 in
theorem lawSzTyS (v : Value) (ds : List TypeD) (left : Int) (w : World) (h : typeR.slice.In w [v] ds) (hl : 0 ≤ left ∧ left ≤ 1048576) :
  Calls Tryz.prog 42 #[v, .int .i64 left] w fun e w' => e = .returned (.int .i64 (szT (ds.length + tySum ds ds.length) left)) ∧ Below w.heap.size w w' := by
 obtain ⟨a, cap, hv, hn, hcap, hat⟩ := h
 cases hv
 unfold maxLen at hcap
 have HA : Hid (∀ i (h : i < ds.length), ∃ x, a = some x ∧ typeR.At w x i ds[i]) := hat
 clear hat
 by_cases c0 : left - (ds.length : Int) < 0
 ·have d0 : decide (left - (ds.length : Int) < 0) = true := by simpa using c0
  have HT : Hid (-1 = szT (ds.length + tySum ds ds.length) left) := by show _ = _; unfold szT; rw [if_pos (by omega)]
  go_enter Tryz.func42, Tryz.ntmps42
  go_wp2
  go_ret
  exact ⟨rI HT.out, Below.refl _ _⟩
 ·have d0 : decide (left - (ds.length : Int) < 0) = false := by simpa using c0
  go_enter Tryz.func42, Tryz.ntmps42
  go_wp2_with fail
  go_loopw [1, 5] (fun j1 j5 wr => ∃ m : Nat, m ≤ ds.length ∧ j5 = .int .i64 (m : Int) ∧ j1 = .int .i64 (left - (ds.length : Int) - (tySum ds m : Int)) ∧ (tySum ds m : Int) ≤ left - (ds.length : Int) ∧ Below w.heap.size w wr) (fun _ j5 _ => ds.length - (intOf j5).toNat)
  case atStart => exact ⟨0, Nat.zero_le _, rfl, by simp [tySum], by simp [tySum]; omega, Below.refl _ _⟩
  case round =>
   obtain ⟨m, hm, rfl, rfl, hsum, hb⟩ := hrel
   have HB : Hid (Below w.heap.size w wr) := hb
   clear hb
   by_cases hlt : m < ds.length
   ·obtain ⟨x, rfl, hx⟩ := HA.out m hlt
    obtain ⟨b, o, rfl⟩ : ∃ b o, x = ⟨b, o, none⟩ := by
     obtain ⟨x0, e0, h0⟩ := HA.out 0 (by omega)
     cases e0
     exact h0.plain (by decide)
    obtain ⟨cs, hc, hin⟩ := hx.mono HB.out
    obtain ⟨rfl, hsz⟩ := tyR_in hin
    have hk : typeR.k = 3 := rfl
    rw [hk] at hc
    have g0 := hc 0 (by omega)
    have g1 := hc 1 (by omega)
    have g2 := hc 2 (by omega)
    simp only [tyCs, List.getElem?_cons_zero, List.getElem?_cons_succ] at g0 g1 g2
    have hsc := tySum_succ ds m hlt
    have hsl := tySum_le ds (m + 1) hlt
    generalize ds[m] = d at *
    simp only [plain_add, ← Nat.add_assoc, Nat.add_zero] at g0 g1 g2
    obtain ⟨y0, y1, y2⟩ := d
    simp only at hsz g0 g1 g2
    have zy1 := hsz
    have hsc2 : tySum ds (m + 1) = tySum ds m + (y1.size) := hsc
    have HSC : Hid (tySum ds (m + 1) = tySum ds m + (y1.size)) := hsc2
    clear hc hin hx hsc
    by_cases c1 : left - (ds.length : Int) - (tySum ds m : Int) < ((y1.size : Nat) : Int)
    ·have HZ : Hid (szT (y1.size) (left - (ds.length : Int) - (tySum ds m : Int)) = -1) := by show _ = _; unfold szT; rw [if_pos c1]
     have HT : Hid (-1 = szT (ds.length + tySum ds ds.length) left) := by show _ = _; unfold szT; rw [if_pos (by omega)]
     clear hsc2 hsl c1
     go_wp2_with fail
     refine (lawSzTy y0 y1 y2 _ _ zy1 (by omega)).mono ?_
     rintro e w1 ⟨rfl, hb1⟩
     rw [HZ.out]
     have HB1 : Hid (Below w.heap.size w w1) := HB.out.trans (hb1.mono HB.out.size)
     clear hb1
     go_wp2
     go_ret
     exact ⟨rI HT.out, HB1.out⟩
    ·have HZ : Hid (szT (y1.size) (left - (ds.length : Int) - (tySum ds m : Int)) = left - (ds.length : Int) - (tySum ds (m + 1) : Int)) := by show _ = _; unfold szT; rw [if_neg c1, hsc2]; omega
     have dn : decide (left - (ds.length : Int) - (tySum ds (m + 1) : Int) < 0) = false := by simp; omega
     have hle : (tySum ds (m + 1) : Int) ≤ left - (ds.length : Int) := by omega
     clear hsc2 hsl c1
     go_wp2_with fail
     refine (lawSzTy y0 y1 y2 _ _ zy1 (by omega)).mono ?_
     rintro e w1 ⟨rfl, hb1⟩
     rw [HZ.out]
     have HB1 : Hid (Below w.heap.size w w1) := HB.out.trans (hb1.mono HB.out.size)
     clear hb1
     go_wp2
     go_roundw
     case rel => exact ⟨m + 1, by omega, by go_num, rfl, hle, HB1.out⟩
     case measure => simp [intOf]; omega
   ·have HT : Hid (left - (ds.length : Int) - (tySum ds m : Int) = szT (ds.length + tySum ds ds.length) left) := by
     show _ = _
     obtain rfl : m = ds.length := by omega
     unfold szT
     rw [if_neg (by omega)]
     omega
    go_wp2
    go_ret
    exact ⟨rI HT.out, HB.out⟩

theorem tyInfo : (Tryz.prog.info? 30).map (fun i => (i.zero, i.size, i.bytes)) = some (some (.agg #[.int .i64 0, .string ⟨#[]⟩, .int .i64 0]), 3, 32) := by kernel_rfl

/-- A row of structs that is being filled: the first m stand. -/
structure tyFill (w wr : World) (ds : List TypeD) (m : Nat) : Prop where
 below : Below w.heap.size w wr
 row : ∃ f, wr.rowIs w.heap.size 30 (ds.length * 3) f ∧ ∀ i (h : i < ds.length), i < m → f (i * 3 + 0) = (.int .i64 ds[i].1) ∧ f (i * 3 + 1) = (.string ds[i].2.1) ∧ f (i * 3 + 2) = (.int .i64 ds[i].2.2)

theorem tyFill.step {w wr w1 : World} {ds : List TypeD} {m : Nat} (h : tyFill w wr ds m) (hm : m < ds.length) (hb : Below wr.heap.size wr w1) : 
  tyFill w (((w1.setCell ⟨w.heap.size, m * 3, none⟩ (.int .i64 ds[m].1)).setCell ⟨w.heap.size, m * 3 + 1, none⟩ (.string ds[m].2.1)).setCell ⟨w.heap.size, m * 3 + 2, none⟩ (.int .i64 ds[m].2.2)) ds (m + 1) := by
 obtain ⟨f, hrow, hf⟩ := h.row
 have hr1 := hrow.of_block (hb.block _ hrow.lt)
 refine ⟨?_, ?_⟩
 ·exact (((h.below.trans (hb.mono h.below.size)).setCell (Nat.le_refl _) _).setCell (Nat.le_refl _) _).setCell (Nat.le_refl _) _
 ·refine ⟨_, (((hr1).set _ _).set _ _).set _ _, fun i hi him => ?_⟩
  by_cases e : i = m
  ·subst e
   refine ⟨?_, ?_, ?_⟩ <;> simp
  ·have h1 := hf i hi (by omega)
   have n0_0 : ¬ (i * 3 + 0 = m * 3) := by omega
   have n0_1 : ¬ (i * 3 + 0 = m * 3 + 1) := by omega
   have n0_2 : ¬ (i * 3 + 0 = m * 3 + 2) := by omega
   have n1_0 : ¬ (i * 3 + 1 = m * 3) := by omega
   have n1_1 : ¬ (i * 3 + 1 = m * 3 + 1) := by omega
   have n1_2 : ¬ (i * 3 + 1 = m * 3 + 2) := by omega
   have n2_0 : ¬ (i * 3 + 2 = m * 3) := by omega
   have n2_1 : ¬ (i * 3 + 2 = m * 3 + 1) := by omega
   have n2_2 : ¬ (i * 3 + 2 = m * 3 + 2) := by omega
   refine ⟨?_, ?_, ?_⟩
   ·simp only [n0_0, n0_1, n0_2, if_false]; exact h1.1
   ·simp only [n1_0, n1_1, n1_2, if_false]; exact h1.2.1
   ·simp only [n2_0, n2_1, n2_2, if_false]; exact h1.2.2

theorem tyFill.start {w w1 : World} {ds : List TypeD} {zs : List Value} (hown : w1.ownsRow w.heap.size 30 3 (.slice (some ⟨w.heap.size, 0, none⟩) ds.length ds.length) ds.length zs) (hgrow : w.grownBy w1 none) : tyFill w w1 ds 0 := by
 refine ⟨(Below.refl _ _).grown hgrow (Nat.le_refl _) (fun k hk => by cases hk), ?_⟩
 rcases hown.2 with ⟨h1, _⟩ | ⟨g, cap, cur, e, _, hb, _, _, hsz, _⟩
 ·cases h1
 ·cases e
  exact ⟨fun i => cur.getD i undef, ⟨cur, hb, hsz, fun i hi => by
   have hc : i < cur.size := by omega
   rw [Array.getElem?_eq_getElem hc]
   simp [Array.getD, hc]⟩, fun i _ h => by omega⟩
theorem tyFill.done {w wr : World} {ds : List TypeD} {v : Value} (h : tyFill w wr ds ds.length) (hin : typeR.slice.In w [v] ds) (hl : ds.length ≤ 1048576) : typeR.slice.In wr [.slice (some ⟨w.heap.size, 0, none⟩) ds.length ds.length] ds := by
 obtain ⟨f, hrow, hf⟩ := h.row
 refine ⟨some ⟨w.heap.size, 0, none⟩, ds.length, rfl, Nat.le_refl _, by unfold maxLen; omega, fun i hi => ⟨_, rfl, tyCs ds[i], fun j hj => ?_, ?_⟩⟩
 ·have hj : j < 3 := hj
  have hf := hf i hi hi
  have hk : typeR.k = 3 := rfl
  rw [hk, plain_add, Nat.zero_add]
  have hc := hrow.cell (i := i * 3 + j) (by omega)
  rw [hc]
  obtain ⟨f0, f1, f2⟩ := hf
  match j, hj with
  | 0, _ => rw [f0]; rfl
  | 1, _ => rw [f1]; rfl
  | 2, _ => rw [f2]; rfl
 ·obtain ⟨a, cap, _, _, _, hat⟩ := hin
  obtain ⟨x, _, cs, _, hi2⟩ := hat i hi
  obtain ⟨rfl, _⟩ := tyR_in hi2
  exact typeR.mono _ _ _ _ h.below hi2

set_option maxHeartbeats 2000000 in
theorem lawToTyS (v : Value) (ds : List TypeD) (w : World) (h : typeR.slice.In w [v] ds) (hl : ds.length ≤ 1048576) :
  Calls Tryz.prog 46 #[v] w fun e w' => ∃ b, w.heap.size ≤ b ∧ e = .returned (.slice (some ⟨b, 0, none⟩) ds.length ds.length) ∧ Below w.heap.size w w' ∧ typeR.slice.In w' [.slice (some ⟨b, 0, none⟩) ds.length ds.length] ds := by
 have HIN : Hid (typeR.slice.In w [v] ds) := h
 obtain ⟨a, cap, hv, hn, hcap, hat⟩ := h
 cases hv
 unfold maxLen at hcap
 have HA : Hid (∀ i (h : i < ds.length), ∃ x, a = some x ∧ typeR.At w x i ds[i]) := hat
 clear hat
 obtain ⟨i0, hi0, hz0, hz1, hz2⟩ := info_parts tyInfo
 have HI : Hid (Tryz.prog.info? 30 = some i0 ∧ i0.zero = some _ ∧ i0.size = 3 ∧ i0.bytes = 32) := ⟨hi0, hz0, hz1, hz2⟩
 clear hi0 hz0 hz1 hz2
 go_enter Tryz.func46, Tryz.ntmps46
 go_wp2_with (refine wpList_make_full _ rfl _ _ 41 rfl w.heap.size 30 i0 _ 3 Tryz.underlying41 HI.out.1 HI.out.2.1 HI.out.2.2.1 .i64 .i64 _ _ ds.length rfl rfl rfl rfl (by rw [HI.out.2.2.2]; omega) (by unfold maxLen; omega) (Nat.le_refl _) ?_)
 intro w1 hown hgrow
 have HF0 : Hid (tyFill w w1 ds 0) := tyFill.start hown hgrow
 clear hown hgrow HI
 go_wp2_with fail
 go_loopw [4] (fun j4 wr => ∃ m : Nat, m ≤ ds.length ∧ j4 = .int .i64 (m : Int) ∧ tyFill w wr ds m) (fun j4 _ => ds.length - (intOf j4).toNat)
 case atStart => exact ⟨0, Nat.zero_le _, rfl, HF0.out⟩
 case round =>
  obtain ⟨m, hm, rfl, hfl⟩ := hrel
  have HF : Hid (tyFill w wr ds m) := hfl
  clear hfl HF0
  by_cases hlt : m < ds.length
  ·obtain ⟨x, rfl, hx⟩ := HA.out m hlt
   obtain ⟨b, o, rfl⟩ : ∃ b o, x = ⟨b, o, none⟩ := by
    obtain ⟨x0, e0, h0⟩ := HA.out 0 (by omega)
    cases e0
    exact h0.plain (by decide)
   obtain ⟨cs, hc, hin⟩ := hx.mono HF.out.below
   obtain ⟨rfl, hsz⟩ := tyR_in hin
   have hk : typeR.k = 3 := rfl
   rw [hk] at hc
   have g0 := hc 0 (by omega)
   have g1 := hc 1 (by omega)
   have g2 := hc 2 (by omega)
   simp only [tyCs, List.getElem?_cons_zero, List.getElem?_cons_succ] at g0 g1 g2
   simp only [plain_add, ← Nat.add_assoc, Nat.add_zero] at g0 g1 g2
   have hst := fun (w2 : World) => @tyFill.step w wr w2 ds m HF.out hlt
   obtain ⟨d, hd⟩ : ∃ d, ds[m] = d := ⟨_, rfl⟩
   rw [hd] at g0 g1 g2 hst
   obtain ⟨y0, y1, y2⟩ := d
   simp only at g0 g1 g2 hst
   have HST := (show Hid _ from hst)
   clear hc hin hx hst hsz hd
   go_wp2_with fail
   refine (lawToTy y0 y1 y2 _).mono ?_
   rintro e w2 ⟨rfl, hb2⟩
   obtain ⟨f, hrow, _⟩ := HF.out.row
   have hr2 := hrow.of_block (hb2.block _ hrow.lt)
   have q0 := hr2.cell (i := m * 3) (by omega)
   have p0 := hr2.frozen (m * 3)
   have q1 := hr2.cell (i := m * 3 + 1) (by omega)
   have p1 := hr2.frozen (m * 3 + 1)
   have q2 := hr2.cell (i := m * 3 + 2) (by omega)
   have p2 := hr2.frozen (m * 3 + 2)
   have HN := HST.out w2 hb2
   have HN2 := (show Hid _ from HN)
   generalize f (m * 3) = u0 at q0
   generalize f (m * 3 + 1) = u1 at q1
   generalize f (m * 3 + 2) = u2 at q2
   clear hb2 hrow hr2 HST HN
   go_wp2
   go_roundw
   case rel => exact ⟨m + 1, by omega, by go_num, HN2.out⟩
   case measure => simp [intOf]; omega
  ·obtain rfl : m = ds.length := by omega
   have HD : Hid (typeR.slice.In wr [.slice (some ⟨w.heap.size, 0, none⟩) ds.length ds.length] ds) := HF.out.done HIN.out hl
   go_wp2
   go_ret
   exact ⟨w.heap.size, Nat.le_refl _, rfl, HF.out.below, HD.out⟩

set_option maxHeartbeats 2000000 in
theorem lawEqTyS (v u : Value) (ds : List TypeD) (w : World) (h : typeR.slice.In w [v] ds) (k : typeR.slice.In w [u] ds) :
  Calls Tryz.prog 48 #[v, u] w fun e w' => e = .returned (.bool true) ∧ Below w.heap.size w w' := by
 obtain ⟨a, cap, hv, hn, hcap, hat⟩ := h
 cases hv
 obtain ⟨a', cap', hu, hn', hcap', hat'⟩ := k
 cases hu
 unfold maxLen at hcap hcap'
 have HA : Hid (∀ i (h : i < ds.length), ∃ x, a = some x ∧ typeR.At w x i ds[i]) := hat
 have HB : Hid (∀ i (h : i < ds.length), ∃ x, a' = some x ∧ typeR.At w x i ds[i]) := hat'
 clear hat hat'
 go_enter Tryz.func48, Tryz.ntmps48
 go_wp2_with fail
 go_loopw [5] (fun j5 wr => ∃ m : Nat, m ≤ ds.length ∧ j5 = .int .i64 (m : Int) ∧ Below w.heap.size w wr) (fun j5 _ => ds.length - (intOf j5).toNat)
 case atStart => exact ⟨0, Nat.zero_le _, rfl, Below.refl _ _⟩
 case round =>
  obtain ⟨m, hm, rfl, hbel⟩ := hrel
  have HW : Hid (Below w.heap.size w wr) := hbel
  clear hbel
  by_cases hlt : m < ds.length
  ·obtain ⟨x, rfl, hx⟩ := HA.out m hlt
   obtain ⟨b, o, rfl⟩ : ∃ b o, x = ⟨b, o, none⟩ := by
    obtain ⟨x0, e0, h0⟩ := HA.out 0 (by omega)
    cases e0
    exact h0.plain (by decide)
   obtain ⟨cs, hc, hin⟩ := hx.mono HW.out
   obtain ⟨rfl, _⟩ := tyR_in hin
   obtain ⟨x', rfl, hx'⟩ := HB.out m hlt
   obtain ⟨b', o', rfl⟩ : ∃ b o, x' = ⟨b, o, none⟩ := by
    obtain ⟨x0, e0, h0⟩ := HB.out 0 (by omega)
    cases e0
    exact h0.plain (by decide)
   obtain ⟨cs', hc', hin'⟩ := hx'.mono HW.out
   obtain ⟨rfl, _⟩ := tyR_in hin'
   have hk : typeR.k = 3 := rfl
   rw [hk] at hc hc'
   have g0 := hc 0 (by omega)
   have k0 := hc' 0 (by omega)
   have g1 := hc 1 (by omega)
   have k1 := hc' 1 (by omega)
   have g2 := hc 2 (by omega)
   have k2 := hc' 2 (by omega)
   simp only [tyCs, List.getElem?_cons_zero, List.getElem?_cons_succ] at g0 k0 g1 k1 g2 k2
   simp only [plain_add, ← Nat.add_assoc, Nat.add_zero] at g0 k0 g1 k1 g2 k2
   generalize ds[m] = d at g0 k0 g1 k1 g2 k2
   obtain ⟨y0, y1, y2⟩ := d
   simp only at g0 k0 g1 k1 g2 k2
   have hEq := lawEqTy y0 y1 y2
   have HEq := (show Hid _ from hEq)
   clear hc hc' hin hin' hx hx' hEq
   go_wp2_with fail
   go_region_with (go_at_call 17; refine (HEq.out _).mono ?_; rintro e w1 ⟨rfl, hb1⟩; have HB1 : Hid (Below w.heap.size w w1) := HW.out.trans (((Below.refl _ _).drew.trans hb1).mono HW.out.size); clear hb1)
   all_goals
    go_wp2
    go_roundw
    case rel => exact ⟨m + 1, by omega, by go_num, HB1.out⟩
    case measure => simp [intOf]; omega
  ·go_wp2
   go_ret
   exact ⟨rfl, HW.out⟩

end Go.Proofs.YtlfmedfclgabdaaGreatDoor
