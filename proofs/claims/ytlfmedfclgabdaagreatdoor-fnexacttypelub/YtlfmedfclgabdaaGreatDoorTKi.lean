import Derived.Test.YtlfmedfclgabdaaGreatDoorTK
import Derived.Test.YtlfmedfclgabdaaGreatDoorWi14
/-
 TypeKnown of the program: a lattice in memory.
-/
namespace Go.Proofs.YtlfmedfclgabdaaGreatDoor
open Go.RowKit
set_option maxRecDepth 20000
open Go.WideMaps (KeyLaw)
set_option linter.unusedVariables false
theorem typeLaw : KeyLaw Tryz.prog 30 := deep_law (m := 3) (by omega) (by kernel_rfl) (by kernel_rfl) (by kernel_rfl)
theorem key_type (k a : Int) (c : ByteArray) (hc : c.size ≤ maxLen) (hk : (Lit.int .i64 k).wf = true) (ha : (Lit.int .i64 a).wf = true) : ∃ l, keyOf Tryz.prog 30 (.agg #[.int .i64 k, .string c, .int .i64 a]) = some l := by
 have h1 : Tryz.prog.keyType 30 = true := by kernel_rfl
 have h2 : (Value.agg #[.int .i64 k, .string c, .int .i64 a]).formed Tryz.prog 30 = true := by kernel_rfl
 have hs : ∀ (n : Nat) (s : ByteArray), s.size ≤ maxLen → Tryz.prog.keyLits (n + 1) 9 [.string s] = some [.string s.data.toList] := fun n s h => by
  unfold Program.keyLits; rw [Tryz.underlying9]; simp [h]
 have hi : ∀ (n : Nat) (z : Int), (Lit.int .i64 z).wf = true → Tryz.prog.keyLits (n + 1) 2 [.int .i64 z] = some [.int .i64 z] := fun n z h => by
  unfold Program.keyLits; rw [Tryz.underlying2]; simp [h]
 unfold keyOf
 rw [Tryz.underlying30]
 simp only [h1, h2, Bool.and_self, if_true]
 have h3 : ∀ n, Tryz.prog.keyLits (n + 1 + 1) 30 (Value.agg #[.int .i64 k, .string c, .int .i64 a]).cells.toList = some [.int .i64 k, .string c.data.toList, .int .i64 a] := fun n => by
  unfold Program.keyLits
  rw [Tryz.underlying30]
  have c1 : Tryz.prog.cellsOf 30 = 3 := by kernel_rfl
  have c2 : Tryz.prog.cellsOf 9 = 1 := by kernel_rfl
  have c3 : Tryz.prog.cellsOf 2 = 1 := by kernel_rfl
  simp [Value.cells, c1, c2, c3, hs n c hc, hi n k hk, hi n a ha]
 have hsz : ∃ n, Tryz.prog.types.size + 1 = n + 1 + 1 := ⟨Tryz.prog.types.size - 1, by have : 0 < Tryz.prog.types.size := of_decide_eq_true (by kernel_rfl); omega⟩
 obtain ⟨n, hn⟩ := hsz
 rw [hn, h3]
 exact ⟨_, rfl⟩
set_option maxRecDepth 100000 in
set_option maxHeartbeats 4000000 in
theorem implFindKnown (L : List CTup) (lv : Value) (r : Nat) (E : List WE) (es : Array MapEntry) (ck m : Nat) (rt : Bool) (k a : Int) (c : ByteArray) (w : World) (h : WmIs w r E es ck) (hE : E.map WE.c = allC L) (hl : ∃ a k c, lv = .slice a k c) (hc : c.size ≤ maxLen) :
  Calls Tryz.prog 137 #[.agg #[lv, .map (some r), .bool rt, .map (some m)], .agg #[.int .i64 k, .string c, .int .i64 a]] w fun e w' => e = .returned (.bool (tkB L k c a)) ∧ Below w.heap.size w w' := by
 have HKn : Hid (∀ w', Below w.heap.size w w' → Calls Tryz.prog 120 #[.agg #[lv, .map (some r)], .string c] w' fun e w2 => e = .returned (.bool (knB L c)) ∧ Below w'.heap.size w' w2) := fun w' hb => by
  have := implKnown lv r E es ck c w' (h.below hb) hc hl
  rw [isSomeE, hE] at this
  exact this
 have HP : Hid (∀ w, Calls Tryz.prog 91 #[.int .i64 a, .int .i64 60] w fun e w' => e = .returned (.bool (isP a 60)) ∧ w' = w) := fun w => implIsPlace a 60 w
 have HPq : Hid (isP a 60 = (decide (0 ≤ a) && decide (a < 60))) := by show _ = _; unfold isP; simp
 obtain ⟨la, lk, lc, rfl⟩ := hl
 unfold maxLen at hc
 clear h hE
 have HT : Hid (tkB L k c a = if k = 0 ∨ k = 1 ∨ k = 2 ∨ k = 4 ∨ k = 7 then decide (c = tE) && decide (a = 0)
  else if k = 3 ∨ k = 5 then knB L c && decide (a = 0) else if k = 6 then knB L c && (decide (0 ≤ a) && decide (a < 60)) else false) := rfl
 generalize tkB L k c a = res at *
 by_cases p1 : k = 0 ∨ k = 1 ∨ k = 2 ∨ k = 4 ∨ k = 7
 ·by_cases q1 : c = tE
  ·have dc := tE_eq q1
   by_cases q2 : a = 0
   ·have HZ : Hid (true = res) := by show _ = _; rw [HT.out, if_pos p1, decide_eq_true q1, decide_eq_true q2]; rfl
    subst q2
    clear q1 HT
    rcases p1 with rfl | rfl | rfl | rfl | rfl
    all_goals
     go_enter Tryz.func137, Tryz.ntmps137
     go_wp2
     go_ret
     exact ⟨rB HZ.out, by first | exact below_al2 _ _ _ | exact below_drewN (below_al2 _ _ _) _⟩
   ·have HZ : Hid (false = res) := by show _ = _; rw [HT.out, if_pos p1, decide_eq_true q1, decide_eq_false q2]; rfl
    have da : (a == 0) = false := by simpa using q2
    clear q1 HT q2
    rcases p1 with rfl | rfl | rfl | rfl | rfl
    all_goals
     go_enter Tryz.func137, Tryz.ntmps137
     go_wp2
     go_ret
     exact ⟨rB HZ.out, by first | exact below_al2 _ _ _ | exact below_drewN (below_al2 _ _ _) _⟩
  ·have dc := tE_ne q1
   have HZ : Hid (false = res) := by show _ = _; rw [HT.out, if_pos p1, decide_eq_false q1]; rfl
   clear q1 HT
   rcases p1 with rfl | rfl | rfl | rfl | rfl
   all_goals
    go_enter Tryz.func137, Tryz.ntmps137
    go_wp2
    go_ret
    exact ⟨rB HZ.out, by first | exact below_al2 _ _ _ | exact below_drewN (below_al2 _ _ _) _⟩
 by_cases p3 : k = 3
 ·subst p3
  clear p1
  cases hq : knB L c with
  | false =>
   have HZ : Hid (false = res) := by show _ = _; rw [HT.out]; simp [hq]
   rw [hq] at HKn
   clear HT hq
   go_enter Tryz.func137, Tryz.ntmps137
   go_wp2_with fail
   refine Calls.mono (HKn.out _ (below_al2 _ _ _)) ?_
   rintro e w1 ⟨rfl, hb1⟩
   have x0 := cC hb1 (w.heap.size + 1) 0 (.int .i64 3) (by first | (simp; done) | (simp; omega)) (by simp [go_sem])
   have x1 := cC hb1 (w.heap.size + 1) 1 (.string c) (by first | (simp; done) | (simp; omega)) (by simp [go_sem])
   have x2 := cC hb1 (w.heap.size + 1) 2 (.int .i64 a) (by first | (simp; done) | (simp; omega)) (by simp [go_sem])
   have fx : ∀ j, w1.frozen? ⟨w.heap.size + 1, j, none⟩ = false := fun j => carryF hb1 (by first | (simp; done) | (simp; omega)) (by simp [go_sem])
   have HBx : Hid (Below w.heap.size w w1) := (below_al2 _ _ _).trans (hb1.mono (by first | (simp; done) | (simp; omega)))
   clear hb1
   go_wp2
   go_ret
   exact ⟨rB HZ.out, by first | exact HBx.out | exact below_drewN HBx.out _ | exact (HBx.out.setCell (by simp) _) | exact ((HBx.out.setCell (by simp) _).setCell (by simp) _)⟩
  | true =>
   by_cases q2 : a = 0
   ·have HZ : Hid (true = res) := by show _ = _; rw [HT.out]; simp [hq, q2]
    subst q2
    rw [hq] at HKn
    clear HT hq
    go_enter Tryz.func137, Tryz.ntmps137
    go_wp2_with fail
    refine Calls.mono (HKn.out _ (below_al2 _ _ _)) ?_
    rintro e w1 ⟨rfl, hb1⟩
    have x0 := cC hb1 (w.heap.size + 1) 0 (.int .i64 3) (by first | (simp; done) | (simp; omega)) (by simp [go_sem])
    have x1 := cC hb1 (w.heap.size + 1) 1 (.string c) (by first | (simp; done) | (simp; omega)) (by simp [go_sem])
    have x2 := cC hb1 (w.heap.size + 1) 2 (.int .i64 0) (by first | (simp; done) | (simp; omega)) (by simp [go_sem])
    have fx : ∀ j, w1.frozen? ⟨w.heap.size + 1, j, none⟩ = false := fun j => carryF hb1 (by first | (simp; done) | (simp; omega)) (by simp [go_sem])
    have HBx : Hid (Below w.heap.size w w1) := (below_al2 _ _ _).trans (hb1.mono (by first | (simp; done) | (simp; omega)))
    clear hb1
    go_wp2
    go_ret
    exact ⟨rB HZ.out, by first | exact HBx.out | exact below_drewN HBx.out _ | exact (HBx.out.setCell (by simp) _) | exact ((HBx.out.setCell (by simp) _).setCell (by simp) _)⟩
   ·have HZ : Hid (false = res) := by show _ = _; rw [HT.out]; simp [hq, q2]
    have da : (a == 0) = false := by simpa using q2
    rw [hq] at HKn
    clear HT hq q2
    go_enter Tryz.func137, Tryz.ntmps137
    go_wp2_with fail
    refine Calls.mono (HKn.out _ (below_al2 _ _ _)) ?_
    rintro e w1 ⟨rfl, hb1⟩
    have x0 := cC hb1 (w.heap.size + 1) 0 (.int .i64 3) (by first | (simp; done) | (simp; omega)) (by simp [go_sem])
    have x1 := cC hb1 (w.heap.size + 1) 1 (.string c) (by first | (simp; done) | (simp; omega)) (by simp [go_sem])
    have x2 := cC hb1 (w.heap.size + 1) 2 (.int .i64 a) (by first | (simp; done) | (simp; omega)) (by simp [go_sem])
    have fx : ∀ j, w1.frozen? ⟨w.heap.size + 1, j, none⟩ = false := fun j => carryF hb1 (by first | (simp; done) | (simp; omega)) (by simp [go_sem])
    have HBx : Hid (Below w.heap.size w w1) := (below_al2 _ _ _).trans (hb1.mono (by first | (simp; done) | (simp; omega)))
    clear hb1
    go_wp2
    go_ret
    exact ⟨rB HZ.out, by first | exact HBx.out | exact below_drewN HBx.out _ | exact (HBx.out.setCell (by simp) _) | exact ((HBx.out.setCell (by simp) _).setCell (by simp) _)⟩
 by_cases p5 : k = 5
 ·subst p5
  clear p1
  cases hq : knB L c with
  | false =>
   have HZ : Hid (false = res) := by show _ = _; rw [HT.out]; simp [hq]
   rw [hq] at HKn
   clear HT hq
   go_enter Tryz.func137, Tryz.ntmps137
   go_wp2_with fail
   refine Calls.mono (HKn.out _ (below_al2 _ _ _)) ?_
   rintro e w1 ⟨rfl, hb1⟩
   have x0 := cC hb1 (w.heap.size + 1) 0 (.int .i64 5) (by first | (simp; done) | (simp; omega)) (by simp [go_sem])
   have x1 := cC hb1 (w.heap.size + 1) 1 (.string c) (by first | (simp; done) | (simp; omega)) (by simp [go_sem])
   have x2 := cC hb1 (w.heap.size + 1) 2 (.int .i64 a) (by first | (simp; done) | (simp; omega)) (by simp [go_sem])
   have fx : ∀ j, w1.frozen? ⟨w.heap.size + 1, j, none⟩ = false := fun j => carryF hb1 (by first | (simp; done) | (simp; omega)) (by simp [go_sem])
   have HBx : Hid (Below w.heap.size w w1) := (below_al2 _ _ _).trans (hb1.mono (by first | (simp; done) | (simp; omega)))
   clear hb1
   go_wp2
   go_ret
   exact ⟨rB HZ.out, by first | exact HBx.out | exact below_drewN HBx.out _ | exact (HBx.out.setCell (by simp) _) | exact ((HBx.out.setCell (by simp) _).setCell (by simp) _)⟩
  | true =>
   by_cases q2 : a = 0
   ·have HZ : Hid (true = res) := by show _ = _; rw [HT.out]; simp [hq, q2]
    subst q2
    rw [hq] at HKn
    clear HT hq
    go_enter Tryz.func137, Tryz.ntmps137
    go_wp2_with fail
    refine Calls.mono (HKn.out _ (below_al2 _ _ _)) ?_
    rintro e w1 ⟨rfl, hb1⟩
    have x0 := cC hb1 (w.heap.size + 1) 0 (.int .i64 5) (by first | (simp; done) | (simp; omega)) (by simp [go_sem])
    have x1 := cC hb1 (w.heap.size + 1) 1 (.string c) (by first | (simp; done) | (simp; omega)) (by simp [go_sem])
    have x2 := cC hb1 (w.heap.size + 1) 2 (.int .i64 0) (by first | (simp; done) | (simp; omega)) (by simp [go_sem])
    have fx : ∀ j, w1.frozen? ⟨w.heap.size + 1, j, none⟩ = false := fun j => carryF hb1 (by first | (simp; done) | (simp; omega)) (by simp [go_sem])
    have HBx : Hid (Below w.heap.size w w1) := (below_al2 _ _ _).trans (hb1.mono (by first | (simp; done) | (simp; omega)))
    clear hb1
    go_wp2
    go_ret
    exact ⟨rB HZ.out, by first | exact HBx.out | exact below_drewN HBx.out _ | exact (HBx.out.setCell (by simp) _) | exact ((HBx.out.setCell (by simp) _).setCell (by simp) _)⟩
   ·have HZ : Hid (false = res) := by show _ = _; rw [HT.out]; simp [hq, q2]
    have da : (a == 0) = false := by simpa using q2
    rw [hq] at HKn
    clear HT hq q2
    go_enter Tryz.func137, Tryz.ntmps137
    go_wp2_with fail
    refine Calls.mono (HKn.out _ (below_al2 _ _ _)) ?_
    rintro e w1 ⟨rfl, hb1⟩
    have x0 := cC hb1 (w.heap.size + 1) 0 (.int .i64 5) (by first | (simp; done) | (simp; omega)) (by simp [go_sem])
    have x1 := cC hb1 (w.heap.size + 1) 1 (.string c) (by first | (simp; done) | (simp; omega)) (by simp [go_sem])
    have x2 := cC hb1 (w.heap.size + 1) 2 (.int .i64 a) (by first | (simp; done) | (simp; omega)) (by simp [go_sem])
    have fx : ∀ j, w1.frozen? ⟨w.heap.size + 1, j, none⟩ = false := fun j => carryF hb1 (by first | (simp; done) | (simp; omega)) (by simp [go_sem])
    have HBx : Hid (Below w.heap.size w w1) := (below_al2 _ _ _).trans (hb1.mono (by first | (simp; done) | (simp; omega)))
    clear hb1
    go_wp2
    go_ret
    exact ⟨rB HZ.out, by first | exact HBx.out | exact below_drewN HBx.out _ | exact (HBx.out.setCell (by simp) _) | exact ((HBx.out.setCell (by simp) _).setCell (by simp) _)⟩
 by_cases p6 : k = 6
 ·subst p6
  clear p1 p3 p5
  cases hp : isP a 60 with
  | false =>
   have HZ : Hid (false = res) := by show _ = _; rw [HT.out]; rw [HPq.out] at hp; simp [hp]
   rw [hp] at HP
   clear HT hp
   go_enter Tryz.func137, Tryz.ntmps137
   go_wp2_with fail
   refine Calls.mono (HP.out _) ?_
   rintro e w1 ⟨rfl, rfl⟩
   go_wp2
   go_ret
   exact ⟨rB HZ.out, by first | exact below_al2 _ _ _ | exact below_drewN (below_al2 _ _ _) _⟩
  | true =>
   rw [hp] at HP
   rw [HPq.out] at hp
   cases hq : knB L c with
   | false =>
    have HZ : Hid (false = res) := by show _ = _; rw [HT.out]; simp [hq]
    rw [hq] at HKn
    clear HT hq hp
    go_enter Tryz.func137, Tryz.ntmps137
    go_wp2_with fail
    refine Calls.mono (HP.out _) ?_
    rintro e w0 ⟨rfl, rfl⟩
    go_wp2_with fail
    refine Calls.mono (HKn.out _ (below_al2 _ _ _)) ?_
    rintro e w1 ⟨rfl, hb1⟩
    have x0 := cC hb1 (w.heap.size + 1) 0 (.int .i64 6) (by first | (simp; done) | (simp; omega)) (by simp [go_sem])
    have x1 := cC hb1 (w.heap.size + 1) 1 (.string c) (by first | (simp; done) | (simp; omega)) (by simp [go_sem])
    have x2 := cC hb1 (w.heap.size + 1) 2 (.int .i64 0) (by first | (simp; done) | (simp; omega)) (by simp [go_sem])
    have fx : ∀ j, w1.frozen? ⟨w.heap.size + 1, j, none⟩ = false := fun j => carryF hb1 (by first | (simp; done) | (simp; omega)) (by simp [go_sem])
    have HBx : Hid (Below w.heap.size w w1) := (below_al2 _ _ _).trans (hb1.mono (by first | (simp; done) | (simp; omega)))
    clear hb1
    go_wp2
    go_ret
    exact ⟨rB HZ.out, by first | exact HBx.out | exact below_drewN HBx.out _ | exact (HBx.out.setCell (by simp) _) | exact ((HBx.out.setCell (by simp) _).setCell (by simp) _)⟩
   | true =>
    have HZ : Hid (true = res) := by show _ = _; rw [HT.out]; simp only [hq, hp]; rfl
    rw [hq] at HKn
    clear HT hq hp
    go_enter Tryz.func137, Tryz.ntmps137
    go_wp2_with fail
    refine Calls.mono (HP.out _) ?_
    rintro e w0 ⟨rfl, rfl⟩
    go_wp2_with fail
    refine Calls.mono (HKn.out _ (below_al2 _ _ _)) ?_
    rintro e w1 ⟨rfl, hb1⟩
    have x0 := cC hb1 (w.heap.size + 1) 0 (.int .i64 6) (by first | (simp; done) | (simp; omega)) (by simp [go_sem])
    have x1 := cC hb1 (w.heap.size + 1) 1 (.string c) (by first | (simp; done) | (simp; omega)) (by simp [go_sem])
    have x2 := cC hb1 (w.heap.size + 1) 2 (.int .i64 0) (by first | (simp; done) | (simp; omega)) (by simp [go_sem])
    have fx : ∀ j, w1.frozen? ⟨w.heap.size + 1, j, none⟩ = false := fun j => carryF hb1 (by first | (simp; done) | (simp; omega)) (by simp [go_sem])
    have HBx : Hid (Below w.heap.size w w1) := (below_al2 _ _ _).trans (hb1.mono (by first | (simp; done) | (simp; omega)))
    clear hb1
    go_wp2
    go_ret
    exact ⟨rB HZ.out, by first | exact HBx.out | exact below_drewN HBx.out _ | exact (HBx.out.setCell (by simp) _) | exact ((HBx.out.setCell (by simp) _).setCell (by simp) _)⟩
 have HZ : Hid (false = res) := by show _ = _; rw [HT.out, if_neg p1, if_neg (by omega), if_neg p6]
 have n0 : (k == 0) = false := by simp; omega
 have n1 : (k == 1) = false := by simp; omega
 have n2 : (k == 2) = false := by simp; omega
 have n3 : (k == 3) = false := by simp; omega
 have n4 : (k == 4) = false := by simp; omega
 have n5 : (k == 5) = false := by simp; omega
 have n6 : (k == 6) = false := by simp; omega
 have n7 : (k == 7) = false := by simp; omega
 clear p1 p3 p5 p6 HT
 go_enter Tryz.func137, Tryz.ntmps137
 go_wp2
 go_ret
 exact ⟨rB HZ.out, by first | exact below_al2 _ _ _ | exact below_drewN (below_al2 _ _ _) _⟩
end Go.Proofs.YtlfmedfclgabdaaGreatDoor
