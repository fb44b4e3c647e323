import Derived.Test.YtdlhgjadobefgaaGreatDoorTy
/-
 Frames: the laws' own helpers (szFrame, toFrame, eqFrame), and how a Frame that is handed in lies.
-/
namespace Go.Proofs.YtdlhgjadobefgaaGreatDoor
open Go.RowKit
set_option maxRecDepth 20000
set_option linter.unusedVariables false

theorem fal2 (w : World) (o1 o2 : Obj) : Below w.heap.size w ((w.alloc o1).alloc o2) := (below_al w o1).alloc (by simp) o2
theorem fal3 (w : World) (o1 o2 o3 : Obj) : Below w.heap.size w (((w.alloc o1).alloc o2).alloc o3) := (fal2 w o1 o2).alloc (by simp; omega) o3
abbrev FrD := List TypeD × List TypeD
def frameR : Rep FrD := typeR.slice.pair typeR.slice
theorem ty_form {w : World} {v : Value} {xs : List TypeD} (h : typeR.slice.In w [v] xs) : ∃ a cap, v = .slice a xs.length cap := by
 obtain ⟨a, cap, e, _⟩ := h
 cases e
 exact ⟨a, cap, rfl⟩
theorem frameR_in {w : World} {cs : List Value} {x : FrD} (h : frameR.In w cs x) : ∃ vs vl, cs = [vs, vl] ∧ typeR.slice.In w [vs] x.1 ∧ typeR.slice.In w [vl] x.2 := by
 obtain ⟨c1, c2, rfl, h1, h2⟩ := h
 have e1 : ∃ v, c1 = [v] := by obtain ⟨a, cap, e, _⟩ := h1; exact ⟨_, e⟩
 have e2 : ∃ v, c2 = [v] := by obtain ⟨a, cap, e, _⟩ := h2; exact ⟨_, e⟩
 obtain ⟨vs, rfl⟩ := e1
 obtain ⟨vl, rfl⟩ := e2
 exact ⟨vs, vl, rfl, h1, h2⟩
section
variable {H : Type} {enc : TypeId × Value → H} {base : Nat} {spare : Nat → Bool} {held : Bool}
theorem opensFrame : Opens Tryz.prog enc base spare held frameR 40 :=
 opens_struct2 (R0 := typeR.slice) (R1 := typeR.slice) Tryz.underlying40 ⟨rfl, rfl⟩ ⟨by kernel_rfl, by kernel_rfl⟩ (by kernel_rfl)
  (opens_slice Tryz.underlying38 (by kernel_rfl) opensType) (opens_slice Tryz.underlying38 (by kernel_rfl) opensType)
end
def fyB (S : List TypeD) : Nat := S.length + tySum S S.length
theorem szT_neg {b : Nat} {left : Int} (h : left < (b : Int)) : szT b left = -1 := by unfold szT; rw [if_pos h]
theorem szT_pos {b : Nat} {left : Int} (h : ¬ left < (b : Int)) : szT b left = left - (b : Int) := by unfold szT; rw [if_neg h]
set_option maxHeartbeats 1000000 in
theorem lawSzFrame (S L : List TypeD) (vs vl : Value) (left : Int) (w : World) (hs : typeR.slice.In w [vs] S) (hl : typeR.slice.In w [vl] L) (h0 : 0 ≤ left ∧ left ≤ 1048576) :
  Calls Tryz.prog 21 #[.agg #[vs, vl], .int .i64 left] w fun e w' => e = .returned (.int .i64 (szT (fyB S + fyB L) left)) ∧ Below w.heap.size w w' := by
 have HS : Hid (∀ left w', Below w.heap.size w w' → 0 ≤ left ∧ left ≤ 1048576 → Calls Tryz.prog 46 #[vs, .int .i64 left] w' fun e w2 => e = .returned (.int .i64 (szT (fyB S) left)) ∧ Below w'.heap.size w' w2) := fun left w' hb h => lawSzTyS vs S left w' (typeR.slice.mono _ _ _ _ hb hs) h
 have HL : Hid (∀ left w', Below w.heap.size w w' → 0 ≤ left ∧ left ≤ 1048576 → Calls Tryz.prog 46 #[vl, .int .i64 left] w' fun e w2 => e = .returned (.int .i64 (szT (fyB L) left)) ∧ Below w'.heap.size w' w2) := fun left w' hb h => lawSzTyS vl L left w' (typeR.slice.mono _ _ _ _ hb hl) h
 obtain ⟨a, ca, rfl⟩ := ty_form hs
 obtain ⟨b, cb, rfl⟩ := ty_form hl
 clear hs hl
 have HB0 : Hid (∀ o, Below w.heap.size w (w.alloc o)) := fun o => below_al w o
 generalize fyB S = bs at *
 generalize fyB L = bl at *
 by_cases c0 : left < (bs : Int)
 ·have HV : Hid (szT bs left = -1) := szT_neg c0
  have HT : Hid (-1 = szT (bs + bl) left) := (szT_neg (by omega)).symm
  clear c0
  go_enter Tryz.func21, Tryz.ntmps21
  go_wp2_with fail
  refine (HS.out _ _ (HB0.out _) h0).mono ?_
  rintro e w1 ⟨rfl, hb1⟩
  rw [HV.out]
  have HB1 : Hid (Below w.heap.size w w1) := (HB0.out _).trans (hb1.mono (by simp))
  clear hb1
  go_wp2
  go_ret
  exact ⟨rI HT.out, HB1.out⟩
 ·have HV : Hid (szT bs left = left - (bs : Int)) := szT_pos c0
  have d0 : decide (left - (bs : Int) < 0) = false := by simp; omega
  have h1 : 0 ≤ left - (bs : Int) ∧ left - (bs : Int) ≤ 1048576 := by omega
  by_cases c1 : left - (bs : Int) < (bl : Int)
  ·have HV2 : Hid (szT bl (left - (bs : Int)) = -1) := szT_neg c1
   have HT : Hid (-1 = szT (bs + bl) left) := (szT_neg (by omega)).symm
   have H1 := (show Hid _ from h1)
   clear c0 c1 h1
   go_enter Tryz.func21, Tryz.ntmps21
   go_wp2_with fail
   refine (HS.out _ _ (HB0.out _) h0).mono ?_
   rintro e w1 ⟨rfl, hb1⟩
   rw [HV.out]
   have HB1 : Hid (Below w.heap.size w w1) := (HB0.out _).trans (hb1.mono (by simp))
   have x1 := cC hb1 (w.heap.size) 1 (.slice b L.length cb) (by simp) (by simp [go_sem])
   clear hb1
   go_wp2_with fail
   refine (HL.out _ _ HB1.out H1.out).mono ?_
   rintro e w2 ⟨rfl, hb2⟩
   rw [HV2.out]
   have HB2 : Hid (Below w.heap.size w w2) := HB1.out.trans (hb2.mono HB1.out.size)
   clear hb2
   go_wp2
   go_ret
   exact ⟨rI HT.out, HB2.out⟩
  ·have HV2 : Hid (szT bl (left - (bs : Int)) = left - (bs : Int) - (bl : Int)) := szT_pos c1
   have d1 : decide (left - (bs : Int) - (bl : Int) < 0) = false := by simp; omega
   have HT : Hid (left - (bs : Int) - (bl : Int) = szT (bs + bl) left) := by show _ = _; rw [szT_pos (by omega)]; omega
   have H1 := (show Hid _ from h1)
   clear c0 c1 h1
   go_enter Tryz.func21, Tryz.ntmps21
   go_wp2_with fail
   refine (HS.out _ _ (HB0.out _) h0).mono ?_
   rintro e w1 ⟨rfl, hb1⟩
   rw [HV.out]
   have HB1 : Hid (Below w.heap.size w w1) := (HB0.out _).trans (hb1.mono (by simp))
   have x1 := cC hb1 (w.heap.size) 1 (.slice b L.length cb) (by simp) (by simp [go_sem])
   clear hb1
   go_wp2_with fail
   refine (HL.out _ _ HB1.out H1.out).mono ?_
   rintro e w2 ⟨rfl, hb2⟩
   rw [HV2.out]
   have HB2 : Hid (Below w.heap.size w w2) := HB1.out.trans (hb2.mono HB1.out.size)
   clear hb2
   go_wp2
   go_ret
   exact ⟨rI HT.out, HB2.out⟩
theorem ty_move {w w' : World} {b n cap : Nat} {S : List TypeD} (h : typeR.slice.In w [.slice (some ⟨b, 0, none⟩) n cap] S) (hc : ∀ j, w'.cell? ⟨b, j, none⟩ = w.cell? ⟨b, j, none⟩) : typeR.slice.In w' [.slice (some ⟨b, 0, none⟩) n cap] S := by
 obtain ⟨a, cp, e, h1, h2, h3⟩ := h
 refine ⟨a, cp, e, h1, h2, fun i hi => ?_⟩
 obtain ⟨x, hx, cs, hcs, hin⟩ := h3 i hi
 subst hx
 cases e
 exact ⟨_, rfl, cs, fun j hj => by rw [plain_add, hc, ← plain_add]; exact hcs j hj, hin⟩
theorem cell_other {w : World} {p q : Addr} {v : Value} (h : q.block ≠ p.block) : (w.setCell p v).cell? q = w.cell? q := World.cell?_of_block (Below.heap_setCell _ _ _ _ (by simpa using h))
set_option maxHeartbeats 2000000 in
theorem lawToFrame (S L : List TypeD) (vs vl : Value) (w : World) (hs : typeR.slice.In w [vs] S) (hl : typeR.slice.In w [vl] L) (h1 : S.length ≤ 1048576) (h2 : L.length ≤ 1048576) :
  Calls Tryz.prog 23 #[.agg #[vs, vl]] w fun e w' => ∃ b1 b2, w.heap.size ≤ b1 ∧ w.heap.size ≤ b2 ∧ e = .returned (.agg #[.slice (some ⟨b1, 0, none⟩) S.length S.length, .slice (some ⟨b2, 0, none⟩) L.length L.length]) ∧ Below w.heap.size w w' ∧ typeR.slice.In w' [.slice (some ⟨b1, 0, none⟩) S.length S.length] S ∧ typeR.slice.In w' [.slice (some ⟨b2, 0, none⟩) L.length L.length] L := by
 have HS : Hid (∀ w', Below w.heap.size w w' → Calls Tryz.prog 48 #[vs] w' fun e w2 => ∃ b, w'.heap.size ≤ b ∧ e = .returned (.slice (some ⟨b, 0, none⟩) S.length S.length) ∧ Below w'.heap.size w' w2 ∧ typeR.slice.In w2 [.slice (some ⟨b, 0, none⟩) S.length S.length] S) := fun w' hb => lawToTyS vs S w' (typeR.slice.mono _ _ _ _ hb hs) h1
 have HL : Hid (∀ w', Below w.heap.size w w' → Calls Tryz.prog 48 #[vl] w' fun e w2 => ∃ b, w'.heap.size ≤ b ∧ e = .returned (.slice (some ⟨b, 0, none⟩) L.length L.length) ∧ Below w'.heap.size w' w2 ∧ typeR.slice.In w2 [.slice (some ⟨b, 0, none⟩) L.length L.length] L) := fun w' hb => lawToTyS vl L w' (typeR.slice.mono _ _ _ _ hb hl) h2
 obtain ⟨a, ca, rfl⟩ := ty_form hs
 obtain ⟨b, cb, rfl⟩ := ty_form hl
 clear hs hl
 have HB0 : Hid (∀ o1 o2 o3, Below w.heap.size w (((w.alloc o1).alloc o2).alloc o3)) := fun o1 o2 o3 => fal3 w o1 o2 o3
 go_enter Tryz.func23, Tryz.ntmps23
 go_wp2_with fail
 refine (HS.out _ (HB0.out _ _ _)).mono ?_
 rintro e w1 ⟨bi, hbi, rfl, hb1, hin1⟩
 have HB1 : Hid (Below w.heap.size w w1) := (HB0.out _ _ _).trans (hb1.mono (by simp; omega))
 have hz1 : w.heap.size + 1 + 1 < w1.heap.size := by have := hb1.size; simp at this; omega
 have hbi2 : w.heap.size + 1 + 1 < bi := by simp at hbi; omega
 have x1 := cC hb1 (w.heap.size) 1 (.slice b L.length cb) (by simp; omega) (by simp [go_sem])
 have r0 := cC hb1 (w.heap.size + 1) 0 (.slice none 0 0) (by simp) (by simp [go_sem])
 have r1 := cC hb1 (w.heap.size + 1) 1 (.slice none 0 0) (by simp) (by simp [go_sem])
 have o0 := cC hb1 (w.heap.size + 1 + 1) 0 (.slice none 0 0) (by simp) (by simp [go_sem])
 have o1 := cC hb1 (w.heap.size + 1 + 1) 1 (.slice none 0 0) (by simp) (by simp [go_sem])
 have fr : ∀ j, w1.frozen? ⟨w.heap.size + 1, j, none⟩ = false := fun j => carryF hb1 (by simp) (by simp [go_sem])
 have fo : ∀ j, w1.frozen? ⟨w.heap.size + 1 + 1, j, none⟩ = false := fun j => carryF hb1 (by simp) (by simp [go_sem])
 have HI1 : Hid (∀ v, typeR.slice.In (w1.setCell ⟨w.heap.size + 1 + 1, 0, none⟩ v) [.slice (some ⟨bi, 0, none⟩) S.length S.length] S) := fun v => ty_move hin1 (fun j => cell_other (show bi ≠ w.heap.size + 1 + 1 by omega))
 clear hb1 hin1 hbi
 go_wp2_with fail
 refine (HL.out _ (HB1.out.setCell (by simp; omega) _)).mono ?_
 rintro e w2 ⟨bj, hbj, rfl, hb2, hin2⟩
 have HB2 : Hid (Below w.heap.size w w2) := (HB1.out.setCell (p := ⟨w.heap.size + 1 + 1, 0, none⟩) (by simp; omega) _).trans (hb2.mono (by simp; omega))
 have hbj2 : w.heap.size + 1 + 1 < bj := by simp at hbj; omega
 have t0 : w2.cell? ⟨w.heap.size + 1, 0, none⟩ = some (.slice none 0 0) := carry hb2 (by simp; omega) (by simp [go_sem, r0])
 have t1 : w2.cell? ⟨w.heap.size + 1, 1, none⟩ = some (.slice none 0 0) := carry hb2 (by simp; omega) (by simp [go_sem, r1])
 have q0 : w2.cell? ⟨w.heap.size + 1 + 1, 0, none⟩ = some (.slice (some ⟨bi, 0, none⟩) S.length S.length) := carry hb2 (by simp; omega) (by simp [go_sem, o0])
 have q1 : w2.cell? ⟨w.heap.size + 1 + 1, 1, none⟩ = some (.slice none 0 0) := carry hb2 (by simp; omega) (by simp [go_sem, o1])
 have gr : ∀ j, w2.frozen? ⟨w.heap.size + 1, j, none⟩ = false := fun j => carryF hb2 (by simp; omega) (by simp [go_sem, fr])
 have go_ : ∀ j, w2.frozen? ⟨w.heap.size + 1 + 1, j, none⟩ = false := fun j => carryF hb2 (by simp; omega) (by simp [go_sem, fo])
 have HI2 : Hid (typeR.slice.In w2 [.slice (some ⟨bi, 0, none⟩) S.length S.length] S) := typeR.slice.mono _ _ _ _ hb2 (HI1.out _)
 have HJ2 := (show Hid (typeR.slice.In w2 [.slice (some ⟨bj, 0, none⟩) L.length L.length] L) from hin2)
 clear hb2 hin2 hbj x1 r0 r1 o0 o1 fr fo
 go_wp2
 refine bodyPost_ret (v := .agg #[.slice (some ⟨bi, 0, none⟩) S.length S.length, .slice (some ⟨bj, 0, none⟩) L.length L.length]) (by simp [results, Tryz.results23, go_sem, t0, t1]) rfl ⟨bi, bj, by omega, by omega, rfl, ?_, ?_, ?_⟩
 ·exact ((HB2.out.setCell (by simp; omega) _).setCell (by simp) _).setCell (by simp) _
 ·exact ty_move (ty_move (ty_move HI2.out (fun j => cell_other (show bi ≠ w.heap.size + 1 + 1 by omega))) (fun j => cell_other (show bi ≠ w.heap.size + 1 by omega))) (fun j => cell_other (show bi ≠ w.heap.size + 1 by omega))
 ·exact ty_move (ty_move (ty_move HJ2.out (fun j => cell_other (show bj ≠ w.heap.size + 1 + 1 by omega))) (fun j => cell_other (show bj ≠ w.heap.size + 1 by omega))) (fun j => cell_other (show bj ≠ w.heap.size + 1 by omega))
set_option maxHeartbeats 1000000 in
theorem lawEqFrame (S L : List TypeD) (vs vl us ul : Value) (w : World) (h1 : typeR.slice.In w [vs] S) (h2 : typeR.slice.In w [vl] L) (h3 : typeR.slice.In w [us] S) (h4 : typeR.slice.In w [ul] L) :
  Calls Tryz.prog 25 #[.agg #[vs, vl], .agg #[us, ul]] w fun e w' => e = .returned (.bool true) ∧ Below w.heap.size w w' := by
 have HS : Hid (∀ w', Below w.heap.size w w' → Calls Tryz.prog 50 #[vs, us] w' fun e w2 => e = .returned (.bool true) ∧ Below w'.heap.size w' w2) := fun w' hb => lawEqTyS vs us S w' (typeR.slice.mono _ _ _ _ hb h1) (typeR.slice.mono _ _ _ _ hb h3)
 have HL : Hid (∀ w', Below w.heap.size w w' → Calls Tryz.prog 50 #[vl, ul] w' fun e w2 => e = .returned (.bool true) ∧ Below w'.heap.size w' w2) := fun w' hb => lawEqTyS vl ul L w' (typeR.slice.mono _ _ _ _ hb h2) (typeR.slice.mono _ _ _ _ hb h4)
 obtain ⟨a, ca, rfl⟩ := ty_form h1
 obtain ⟨b, cb, rfl⟩ := ty_form h2
 obtain ⟨c, cc, rfl⟩ := ty_form h3
 obtain ⟨d, cd, rfl⟩ := ty_form h4
 clear h1 h2 h3 h4
 go_enter Tryz.func25, Tryz.ntmps25
 go_wp2_with fail
 refine (HS.out _ (fal2 _ _ _)).mono ?_
 rintro e w1 ⟨rfl, hb1⟩
 have HB1 : Hid (Below w.heap.size w w1) := (fal2 w _ _).trans (hb1.mono (by simp; omega))
 have x1 := cC hb1 (w.heap.size) 1 (.slice b L.length cb) (by simp; omega) (by simp [go_sem])
 have y1 := cC hb1 (w.heap.size + 1) 1 (.slice d L.length cd) (by simp) (by simp [go_sem])
 clear hb1
 go_wp2_with fail
 refine (HL.out _ HB1.out).mono ?_
 rintro e w2 ⟨rfl, hb2⟩
 have HB2 : Hid (Below w.heap.size w w2) := HB1.out.trans (hb2.mono HB1.out.size)
 clear hb2
 go_wp2
 go_ret
 exact ⟨rfl, HB2.out⟩
end Go.Proofs.YtdlhgjadobefgaaGreatDoor
