import Derived.Test.YteplkfhmflbmjaaGreatDoorOpF
import Derived.Test.YteplkfhmflbmjaaGreatDoorDLaw
import Derived.Deep.RegionWith
/-
 The laws' own marks: markText, markStringS, heldStringS: what is marked is held.
-/
namespace Go.Proofs.YteplkfhmflbmjaaGreatDoor
open Go.RowKit
set_option maxRecDepth 20000
set_option linter.unusedVariables false

def mkL : Nat → Nat → ByteArray → ByteArray
 | 0, _, out => out
 | f + 1, k, out => if k = 0 then out else mkL f (k / 10) (strOfNums [48 + ((k % 10 : Nat) : Int)] ++ out)

/-- The k-th mark. -/
def mkT (k : Nat) : ByteArray := ⟨#[109]⟩ ++ mkL k k ⟨#[]⟩

set_option maxHeartbeats 1000000 in
theorem lawMark (k : Nat) (w : World) (h1 : 1 ≤ k) (h2 : k ≤ 70368744177664) :
  Calls Tryz.prog 31 #[.int .i64 (k : Int)] w fun e w' => e = .returned (.string (mkT k)) ∧ Below w.heap.size w w' := by
 have d0 : decide ((k : Int) ≤ 0) = false := by simp; omega
 go_enter Tryz.func31, Tryz.ntmps31
 go_wp2_with fail
 go_loopw [0, 3] (fun j0 j3 wr => ∃ (m f : Nat) (out : ByteArray), j0 = .int .i64 (m : Int) ∧ j3 = .string out ∧ m ≤ f ∧ mkL f m out = mkL k k ⟨#[]⟩ ∧ out.size + m ≤ k ∧ Below w.heap.size w wr) (fun j0 _ _ => (intOf j0).toNat)
 case atStart => exact ⟨k, k, ⟨#[]⟩, rfl, rfl, Nat.le_refl _, rfl, by simp [ByteArray.size], Below.refl _ _⟩
 case round =>
  obtain ⟨m, f, out, rfl, rfl, hf, hrun, hsz, hb⟩ := hrel
  have HB : Hid (Below w.heap.size w wr) := hb
  have HR : Hid (mkL f m out = mkL k k ⟨#[]⟩) := hrun
  clear hb hrun
  by_cases hm : 0 < m
  ·obtain ⟨d, hd⟩ : ∃ d, d = m % 10 := ⟨_, rfl⟩
   obtain ⟨n, hn⟩ : ∃ n, n = m / 10 := ⟨_, rfl⟩
   have hc := convLit wr [48 + (d : Int)]
   simp only [List.length_cons, List.length_nil, List.map_cons, List.map_nil] at hc
   have e1 : (m : Int).tmod 10 = (d : Int) := by rw [Int.tmod_eq_emod_of_nonneg (by omega)]; omega
   have e2 : (m : Int).tdiv 10 = (n : Int) := by rw [Int.tdiv_eq_ediv_of_nonneg (by omega)]; omega
   have hd9 : d ≤ 9 := by omega
   have hnm : n + 1 ≤ m := by omega
   have hs1 : (strOfNums [48 + (d : Int)]).size = 1 := by rw [strOfNums_size]; rfl
   obtain ⟨f', hf'⟩ : ∃ f', f = f' + 1 := ⟨f - 1, by omega⟩
   have HX : Hid (mkL f' n (strOfNums [48 + (d : Int)] ++ out) = mkL k k ⟨#[]⟩) := by
    show _ = _
    rw [← HR.out, hf', mkL, if_neg (by omega), ← hd, ← hn]
   have hdb : (48 + (d : Int)) % 256 = 48 + (d : Int) := by omega
   clear hd hn HR
   generalize strOfNums [48 + (d : Int)] = y at *
   go_wp2
   go_roundw
   case rel => exact ⟨n, f', y ++ out, rfl, rfl, by omega, HX.out, by rw [ByteArray.size_append]; omega, HB.out.alloc HB.out.size _⟩
   case measure => simp [intOf]; omega
  ·have HX : Hid (⟨#[109]⟩ ++ out = mkT k) := by
    show _ = _
    unfold mkT
    rw [← HR.out]
    obtain rfl : m = 0 := by omega
    cases f <;> rfl
   clear HR
   obtain rfl : m = 0 := by omega
   go_wp2
   go_ret
   exact ⟨rS HX.out, HB.out⟩
/-- Nothing that was there has turned but block g. -/
structure But (g : Nat) (w w' : World) : Prop where
 os : w'.os = w.os
 tape : w'.tape = w.tape
 output : w'.output = w.output
 size : w.heap.size ≤ w'.heap.size
 block : ∀ b, b < w.heap.size → b ≠ g → w'.heap[b]? = w.heap[b]?

theorem But.refl (g : Nat) (w : World) : But g w w := ⟨rfl, rfl, rfl, Nat.le_refl _, fun _ _ _ => rfl⟩
theorem But.on {g : Nat} {a b c : World} (h : But g a b) (k : Below b.heap.size b c) : But g a c :=
 ⟨k.os.trans h.os, k.tape.trans h.tape, k.output.trans h.output, Nat.le_trans h.size k.size, fun i hi hg => (k.block i (Nat.lt_of_lt_of_le hi h.size)).trans (h.block i hi hg)⟩
theorem But.set {g : Nat} {a b : World} (h : But g a b) (j : Nat) (v : Value) : But g a (b.setCell ⟨g, j, none⟩ v) :=
 ⟨h.os, h.tape, h.output, by simpa using h.size, fun i hi hg => (Below.heap_setCell _ _ _ _ hg).trans (h.block i hi hg)⟩
theorem But.cell {g : Nat} {w w' : World} {p : Addr} {v : Option Value} (h : But g w w') (hp : p.block < w.heap.size) (hg : p.block ≠ g) (hc : w.cell? p = v) : w'.cell? p = v :=
 (World.cell?_of_block (h.block _ hp hg)).trans hc
theorem But.below {g B : Nat} {w0 w w' : World} (h : But g w w') (h0 : Below B w0 w) (hB : B ≤ g) (hw : B ≤ w0.heap.size) : Below B w0 w' :=
 ⟨h.os.trans h0.os, h.tape.trans h0.tape, h.output.trans h0.output, Nat.le_trans h0.size h.size, fun k hk => (h.block k (by have := h0.size; omega) (by omega)).trans (h0.block k hk)⟩

/-- The marks from k on, in a row's first n places. -/
def mkF (k n : Nat) (f : Nat → Value) (i : Nat) : Value := if i < n then .string (mkT (k + i)) else f i

set_option maxHeartbeats 1000000 in
theorem lawMarkS (g n cap k : Nat) (f : Nat → Value) (w : World) (hrow : w.rowIs g 9 cap f) (hn : n ≤ cap) (hcap : cap ≤ maxLen) (h1 : 1 ≤ k) (h2 : k + n ≤ 1000) :
  Calls Tryz.prog 12 #[.slice (some ⟨g, 0, none⟩) n cap, .int .i64 (k : Int)] w fun e w' => e = .returned (.int .i64 ((k : Int) + n)) ∧ But g w w' ∧ w'.rowIs g 9 cap (mkF k n f) := by
 have HR : Hid (w.rowIs g 9 cap f) := hrow
 clear hrow
 unfold maxLen at hcap
 have hgz : g < w.heap.size := HR.out.lt
 go_enter Tryz.func12, Tryz.ntmps12
 go_wp2_with fail
 go_loopw [1, 5] (fun j1 j5 wr => ∃ m : Nat, m ≤ n ∧ j5 = .int .i64 (m : Int) ∧ j1 = .int .i64 ((k : Int) + m) ∧ But g w wr ∧ wr.rowIs g 9 cap (mkF k m f)) (fun _ j5 _ => n - (intOf j5).toNat)
 case atStart => exact ⟨0, Nat.zero_le _, rfl, by simp, But.refl _ _, HR.out.congr (fun i _ => by simp [mkF])⟩
 case round =>
  obtain ⟨m, hm, rfl, rfl, hbut, hrw⟩ := hrel
  have HB : Hid (But g w wr) := hbut
  have HW : Hid (wr.rowIs g 9 cap (mkF k m f)) := hrw
  clear hbut hrw
  by_cases hlt : m < n
  ·have hmk := lawMark (k + m)
   have HM : Hid (∀ w : World, 1 ≤ k + m → k + m ≤ 70368744177664 → Calls Tryz.prog 31 #[.int .i64 ((k : Int) + m)] w fun e w' => e = .returned (.string (mkT (k + m))) ∧ Below w.heap.size w w') := by
    have e : (((k + m : Nat) : Int)) = (k : Int) + m := by omega
    rw [e] at hmk
    exact hmk
   clear hmk
   obtain ⟨y, hy⟩ : ∃ y, mkT (k + m) = y := ⟨_, rfl⟩
   have HY : Hid (mkT (k + m) = y) := hy
   clear hy
   go_wp2_with fail
   refine (HM.out _ (by omega) (by omega)).mono ?_
   rintro e w1 ⟨rfl, hb1⟩
   rw [HY.out]
   have hrow1 : w1.rowIs g 9 cap (mkF k m f) := HW.out.of_block (hb1.block g HW.out.lt)
   have g1 := hrow1.cell (Nat.lt_of_lt_of_le hlt hn)
   have g2 := hrow1.frozen m
   have HN : Hid (But g w (w1.setCell ⟨g, m, none⟩ (.string y)) ∧ (w1.setCell ⟨g, m, none⟩ (.string y)).rowIs g 9 cap (mkF k (m + 1) f)) :=
    ⟨(HB.out.on hb1).set m _, (hrow1.set m _).congr (fun i _ => by
     unfold mkF
     by_cases e : i = m
     ·subst e; simp [HY.out]
     ·simp only [if_neg e]
      by_cases hl : i < m
      ·rw [if_pos hl, if_pos (by omega)]
      ·rw [if_neg hl, if_neg (by omega)])⟩
   obtain ⟨u, hu⟩ : ∃ u, mkF k m f m = u := ⟨_, rfl⟩
   rw [hu] at g1
   clear hb1 hrow1 hu
   go_wp2
   go_roundw
   case rel => exact ⟨m + 1, by omega, by go_num, by congr 1, HN.out.1, HN.out.2⟩
   case measure => simp [intOf]; omega
  ·obtain rfl : m = n := by omega
   go_wp2
   go_ret
   exact ⟨rfl, HB.out, HW.out⟩
theorem lawMarkS0 (a : Option Addr) (cap k : Nat) (w : World) :
  Calls Tryz.prog 12 #[.slice a 0 cap, .int .i64 (k : Int)] w fun e w' => e = .returned (.int .i64 (k : Int)) ∧ w' = w := by
 go_enter Tryz.func12, Tryz.ntmps12
 go_wp2_with fail
 go_loop [1, 5] (fun j1 j5 => j1 = .int .i64 (k : Int) ∧ j5 = .int .i64 0) (fun _ _ => 0)
 case atStart => exact ⟨rfl, rfl⟩
 case round =>
  obtain ⟨rfl, rfl⟩ := hrel
  go_wp2
  go_ret
  exact ⟨rfl, rfl⟩
set_option maxHeartbeats 1000000 in
theorem lawHeldS (g n cap k : Nat) (f : Nat → Value) (w : World) (hrow : w.rowIs g 9 cap (mkF k n f)) (hn : n ≤ cap) (hcap : cap ≤ maxLen) (h1 : 1 ≤ k) (h2 : k + n ≤ 1000) :
  Calls Tryz.prog 13 #[.slice (some ⟨g, 0, none⟩) n cap, .int .i64 (k : Int)] w fun e w' => e = .returned (.int .i64 ((k : Int) + n)) ∧ Below w.heap.size w w' := by
 have HR : Hid (w.rowIs g 9 cap (mkF k n f)) := hrow
 clear hrow
 unfold maxLen at hcap
 have hgz : g < w.heap.size := HR.out.lt
 go_enter Tryz.func13, Tryz.ntmps13
 go_wp2_with fail
 go_loopw [1, 5] (fun j1 j5 wr => ∃ m : Nat, m ≤ n ∧ j5 = .int .i64 (m : Int) ∧ j1 = .int .i64 ((k : Int) + m) ∧ Below w.heap.size w wr) (fun _ j5 _ => n - (intOf j5).toNat)
 case atStart => exact ⟨0, Nat.zero_le _, rfl, by simp, Below.refl _ _⟩
 case round =>
  obtain ⟨m, hm, rfl, rfl, hbel⟩ := hrel
  have HB : Hid (Below w.heap.size w wr) := hbel
  clear hbel
  by_cases hlt : m < n
  ·obtain ⟨y, hy⟩ : ∃ y, mkT (k + m) = y := ⟨_, rfl⟩
   have HM : Hid (∀ w : World, Calls Tryz.prog 31 #[.int .i64 ((k : Int) + m)] w fun e w' => e = .returned (.string y) ∧ Below w.heap.size w w') := by
    intro w
    have hmk := lawMark (k + m) w (by omega) (by omega)
    have e : (((k + m : Nat) : Int)) = (k : Int) + m := by omega
    rw [e, hy] at hmk
    exact hmk
   have hcell : w.cell? ⟨g, m, none⟩ = some (.string y) := by
    have := HR.out.cell (Nat.lt_of_lt_of_le hlt hn)
    rw [this]
    unfold mkF
    rw [if_pos hlt, hy]
   have hc : wr.cell? ⟨g, m, none⟩ = some (.string y) := carry HB.out hgz hcell
   have hgr : g < wr.heap.size := Nat.lt_of_lt_of_le hgz HB.out.size
   have dy : (y.toList == y.toList) = true := by simp
   clear hy hcell
   go_wp2_with fail
   go_region_with (go_at_call 31; refine (HM.out _).mono ?_; rintro e w1 ⟨rfl, hb1⟩; have hc1 := carry hb1 hgr hc; have HB1 : Hid (Below w.heap.size w w1) := HB.out.trans (((Below.refl _ _).drew.trans hb1).mono HB.out.size); clear hb1)
   all_goals
    go_wp2
    go_roundw
    case rel => exact ⟨m + 1, by omega, by go_num, by congr 1, HB1.out⟩
    case measure => simp [intOf]; omega
  ·obtain rfl : m = n := by omega
   go_wp2
   go_ret
   exact ⟨rfl, HB.out⟩
theorem lawHeldS0 (a : Option Addr) (cap k : Nat) (w : World) :
  Calls Tryz.prog 13 #[.slice a 0 cap, .int .i64 (k : Int)] w fun e w' => e = .returned (.int .i64 (k : Int)) ∧ w' = w := by
 go_enter Tryz.func13, Tryz.ntmps13
 go_wp2_with fail
 go_loop [1, 5] (fun j1 j5 => j1 = .int .i64 (k : Int) ∧ j5 = .int .i64 0) (fun _ _ => 0)
 case atStart => exact ⟨rfl, rfl⟩
 case round =>
  obtain ⟨rfl, rfl⟩ := hrel
  go_wp2
  go_ret
  exact ⟨rfl, rfl⟩
end Go.Proofs.YteplkfhmflbmjaaGreatDoor
