/-
  The laws' own toMethod.
-/
import Derived.Test.YtgmlooemiokhfaiGreatDoorMeth
namespace Go.Proofs.YtgmlooemiokhfaiGreatDoor
open Go.RowKit
set_option maxRecDepth 20000
set_option linter.unusedVariables false

theorem flat_set {α : Type} {R : Rep α} (hR : ∀ w w' cs x, R.In w cs x → R.In w' cs x) {w : World} {bi n cap : Nat} {xs : List α} (h : R.slice.In w [.slice (some ⟨bi, 0, none⟩) n cap] xs) {p : Addr} (hp : p.block ≠ bi) (u : Value) :
    R.slice.In (w.setCell p u) [.slice (some ⟨bi, 0, none⟩) n cap] xs := by
  obtain ⟨a, cp, e, h1, h2, h3⟩ := h
  refine ⟨a, cp, e, h1, h2, fun i hi => ?_⟩
  obtain ⟨x, ex, cs, hc, hin⟩ := h3 i hi
  refine ⟨x, ex, cs, fun j hj => ?_, hR _ _ _ _ hin⟩
  have hx : x = ⟨bi, 0, none⟩ := by
    subst ex
    simp at e
    exact e.1.symm
  have hb : (x.add (i * R.k + j)).block = bi := by rw [hx, plain_add]
  rw [World.cell?_of_block (w := w) (by rw [hb]; exact Below.heap_setCell _ _ _ _ (Ne.symm hp))]
  exact hc j hj
theorem ins_flat : ∀ w w' cs x, insR.In w cs x → insR.In w' cs x := fun _ _ _ _ h => h
theorem handler_flat : ∀ w w' cs x, handlerR.In w cs x → handlerR.In w' cs x := fun _ _ _ _ h => h

set_option maxHeartbeats 4000000 in
theorem lawToMethod (m : MethD) (vc vh : Value) (w : World) (hc : insR.slice.In w [vc] m.code) (hh : handlerR.slice.In w [vh] m.hands) (hl : m.code.length ≤ 1048576) (hk : m.hands.length ≤ 1048576) :
    Calls Tryz.prog 49 #[methV m vc vh] w fun e w' => ∃ uc uh, e = .returned (methV m uc uh) ∧ Below w.heap.size w w' ∧ insR.slice.In w' [uc] m.code ∧ handlerR.slice.In w' [uh] m.hands := by
  obtain ⟨a, ca, rfl⟩ := slice_form hc
  obtain ⟨b, cb, rfl⟩ := slice_form hh
  obtain ⟨nm, ds, st, ab, fi, sk, lo, code, hands⟩ := m
  simp only at hc hh hl hk
  unfold methV
  simp only
  have HB0 : Hid (∀ o1 o2 o3, Below w.heap.size w (((w.alloc o1).alloc o2).alloc o3)) := fun o1 o2 o3 => (((Below.refl _ _).alloc (Nat.le_refl _) o1).alloc (by simp) o2).alloc (by simp; omega) o3
  have HC : Hid (insR.slice.In w [.slice a code.length ca] code) := hc
  have HH : Hid (handlerR.slice.In w [.slice b hands.length cb] hands) := hh
  clear hc hh
  go_enter Tryz.func49, Tryz.ntmps49
  go_wp2_with fail
  refine (lawToInsS _ code _ (insR.slice.mono _ _ _ _ (HB0.out _ _ _) HC.out) hl).mono ?_
  rintro e w1 ⟨bi, hbi, rfl, hb1, hin1⟩
  have HB1 : Hid (Below w.heap.size w w1) := (HB0.out _ _ _).trans (hb1.mono (by simp; omega))
  have hz1 : w.heap.size + 1 + 1 < w1.heap.size := by have := hb1.size; simp at this; omega
  have hbi2 : w.heap.size + 1 + 1 < bi := by simp at hbi; omega
  have x8 : w1.cell? ⟨w.heap.size, 8, none⟩ = some (.slice b hands.length cb) := (hb1.cell (p := ⟨w.heap.size, 8, none⟩) (by simp; omega)).trans (by simp [go_sem])
  have r0 : w1.cell? ⟨w.heap.size + 1, 0, none⟩ = some (.string ⟨#[]⟩) := (hb1.cell (p := ⟨w.heap.size + 1, 0, none⟩) (by simp)).trans (by simp [go_sem])
  have r1 : w1.cell? ⟨w.heap.size + 1, 1, none⟩ = some (.string ⟨#[]⟩) := (hb1.cell (p := ⟨w.heap.size + 1, 1, none⟩) (by simp)).trans (by simp [go_sem])
  have r2 : w1.cell? ⟨w.heap.size + 1, 2, none⟩ = some (.bool false) := (hb1.cell (p := ⟨w.heap.size + 1, 2, none⟩) (by simp)).trans (by simp [go_sem])
  have r3 : w1.cell? ⟨w.heap.size + 1, 3, none⟩ = some (.bool false) := (hb1.cell (p := ⟨w.heap.size + 1, 3, none⟩) (by simp)).trans (by simp [go_sem])
  have r4 : w1.cell? ⟨w.heap.size + 1, 4, none⟩ = some (.bool false) := (hb1.cell (p := ⟨w.heap.size + 1, 4, none⟩) (by simp)).trans (by simp [go_sem])
  have r5 : w1.cell? ⟨w.heap.size + 1, 5, none⟩ = some (.int .i64 0) := (hb1.cell (p := ⟨w.heap.size + 1, 5, none⟩) (by simp)).trans (by simp [go_sem])
  have r6 : w1.cell? ⟨w.heap.size + 1, 6, none⟩ = some (.int .i64 0) := (hb1.cell (p := ⟨w.heap.size + 1, 6, none⟩) (by simp)).trans (by simp [go_sem])
  have r7 : w1.cell? ⟨w.heap.size + 1, 7, none⟩ = some (.slice none 0 0) := (hb1.cell (p := ⟨w.heap.size + 1, 7, none⟩) (by simp)).trans (by simp [go_sem])
  have r8 : w1.cell? ⟨w.heap.size + 1, 8, none⟩ = some (.slice none 0 0) := (hb1.cell (p := ⟨w.heap.size + 1, 8, none⟩) (by simp)).trans (by simp [go_sem])
  have o0 : w1.cell? ⟨w.heap.size + 1 + 1, 0, none⟩ = some (.string nm) := (hb1.cell (p := ⟨w.heap.size + 1 + 1, 0, none⟩) (by simp)).trans (by simp [go_sem])
  have o1 : w1.cell? ⟨w.heap.size + 1 + 1, 1, none⟩ = some (.string ds) := (hb1.cell (p := ⟨w.heap.size + 1 + 1, 1, none⟩) (by simp)).trans (by simp [go_sem])
  have o2 : w1.cell? ⟨w.heap.size + 1 + 1, 2, none⟩ = some (.bool st) := (hb1.cell (p := ⟨w.heap.size + 1 + 1, 2, none⟩) (by simp)).trans (by simp [go_sem])
  have o3 : w1.cell? ⟨w.heap.size + 1 + 1, 3, none⟩ = some (.bool ab) := (hb1.cell (p := ⟨w.heap.size + 1 + 1, 3, none⟩) (by simp)).trans (by simp [go_sem])
  have o4 : w1.cell? ⟨w.heap.size + 1 + 1, 4, none⟩ = some (.bool fi) := (hb1.cell (p := ⟨w.heap.size + 1 + 1, 4, none⟩) (by simp)).trans (by simp [go_sem])
  have o5 : w1.cell? ⟨w.heap.size + 1 + 1, 5, none⟩ = some (.int .i64 sk) := (hb1.cell (p := ⟨w.heap.size + 1 + 1, 5, none⟩) (by simp)).trans (by simp [go_sem])
  have o6 : w1.cell? ⟨w.heap.size + 1 + 1, 6, none⟩ = some (.int .i64 lo) := (hb1.cell (p := ⟨w.heap.size + 1 + 1, 6, none⟩) (by simp)).trans (by simp [go_sem])
  have o7 : w1.cell? ⟨w.heap.size + 1 + 1, 7, none⟩ = some (.slice none 0 0) := (hb1.cell (p := ⟨w.heap.size + 1 + 1, 7, none⟩) (by simp)).trans (by simp [go_sem])
  have o8 : w1.cell? ⟨w.heap.size + 1 + 1, 8, none⟩ = some (.slice none 0 0) := (hb1.cell (p := ⟨w.heap.size + 1 + 1, 8, none⟩) (by simp)).trans (by simp [go_sem])
  have fr : ∀ j, w1.frozen? ⟨w.heap.size + 1, j, none⟩ = false := fun j => (hb1.frozen (p := ⟨w.heap.size + 1, j, none⟩) (by simp)).trans (by simp [go_sem])
  have fo : ∀ j, w1.frozen? ⟨w.heap.size + 1 + 1, j, none⟩ = false := fun j => (hb1.frozen (p := ⟨w.heap.size + 1 + 1, j, none⟩) (by simp)).trans (by simp [go_sem])
  have HI1 := (show Hid _ from hin1)
  clear hb1 hin1 hbi
  go_wp2_with fail
  refine (lawToHandlerS _ hands _ (handlerR.slice.mono _ _ _ _ (HB1.out.setCell (by simp; omega) _) HH.out) hk).mono ?_
  rintro e w2 ⟨bh, hbh, rfl, hb2, hin2⟩
  have HB2 : Hid (Below w.heap.size w w2) := (HB1.out.setCell (p := ⟨w.heap.size + 1 + 1, 7, none⟩) (by simp; omega) _).trans (hb2.mono (by simp; omega))
  have hz2 : w.heap.size + 1 + 1 < w2.heap.size := by have := hb2.size; simp at this; omega
  have hbh2 : w.heap.size + 1 + 1 < bh := by simp at hbh; omega
  have t0 : w2.cell? ⟨w.heap.size + 1, 0, none⟩ = some (.string ⟨#[]⟩) := (hb2.cell (p := ⟨w.heap.size + 1, 0, none⟩) (by simp; omega)).trans (by simp [go_sem, r0])
  have t1 : w2.cell? ⟨w.heap.size + 1, 1, none⟩ = some (.string ⟨#[]⟩) := (hb2.cell (p := ⟨w.heap.size + 1, 1, none⟩) (by simp; omega)).trans (by simp [go_sem, r1])
  have t2 : w2.cell? ⟨w.heap.size + 1, 2, none⟩ = some (.bool false) := (hb2.cell (p := ⟨w.heap.size + 1, 2, none⟩) (by simp; omega)).trans (by simp [go_sem, r2])
  have t3 : w2.cell? ⟨w.heap.size + 1, 3, none⟩ = some (.bool false) := (hb2.cell (p := ⟨w.heap.size + 1, 3, none⟩) (by simp; omega)).trans (by simp [go_sem, r3])
  have t4 : w2.cell? ⟨w.heap.size + 1, 4, none⟩ = some (.bool false) := (hb2.cell (p := ⟨w.heap.size + 1, 4, none⟩) (by simp; omega)).trans (by simp [go_sem, r4])
  have t5 : w2.cell? ⟨w.heap.size + 1, 5, none⟩ = some (.int .i64 0) := (hb2.cell (p := ⟨w.heap.size + 1, 5, none⟩) (by simp; omega)).trans (by simp [go_sem, r5])
  have t6 : w2.cell? ⟨w.heap.size + 1, 6, none⟩ = some (.int .i64 0) := (hb2.cell (p := ⟨w.heap.size + 1, 6, none⟩) (by simp; omega)).trans (by simp [go_sem, r6])
  have t7 : w2.cell? ⟨w.heap.size + 1, 7, none⟩ = some (.slice none 0 0) := (hb2.cell (p := ⟨w.heap.size + 1, 7, none⟩) (by simp; omega)).trans (by simp [go_sem, r7])
  have t8 : w2.cell? ⟨w.heap.size + 1, 8, none⟩ = some (.slice none 0 0) := (hb2.cell (p := ⟨w.heap.size + 1, 8, none⟩) (by simp; omega)).trans (by simp [go_sem, r8])
  have q0 : w2.cell? ⟨w.heap.size + 1 + 1, 0, none⟩ = some (.string nm) := (hb2.cell (p := ⟨w.heap.size + 1 + 1, 0, none⟩) (by simp; omega)).trans (by simp [go_sem, o0])
  have q1 : w2.cell? ⟨w.heap.size + 1 + 1, 1, none⟩ = some (.string ds) := (hb2.cell (p := ⟨w.heap.size + 1 + 1, 1, none⟩) (by simp; omega)).trans (by simp [go_sem, o1])
  have q2 : w2.cell? ⟨w.heap.size + 1 + 1, 2, none⟩ = some (.bool st) := (hb2.cell (p := ⟨w.heap.size + 1 + 1, 2, none⟩) (by simp; omega)).trans (by simp [go_sem, o2])
  have q3 : w2.cell? ⟨w.heap.size + 1 + 1, 3, none⟩ = some (.bool ab) := (hb2.cell (p := ⟨w.heap.size + 1 + 1, 3, none⟩) (by simp; omega)).trans (by simp [go_sem, o3])
  have q4 : w2.cell? ⟨w.heap.size + 1 + 1, 4, none⟩ = some (.bool fi) := (hb2.cell (p := ⟨w.heap.size + 1 + 1, 4, none⟩) (by simp; omega)).trans (by simp [go_sem, o4])
  have q5 : w2.cell? ⟨w.heap.size + 1 + 1, 5, none⟩ = some (.int .i64 sk) := (hb2.cell (p := ⟨w.heap.size + 1 + 1, 5, none⟩) (by simp; omega)).trans (by simp [go_sem, o5])
  have q6 : w2.cell? ⟨w.heap.size + 1 + 1, 6, none⟩ = some (.int .i64 lo) := (hb2.cell (p := ⟨w.heap.size + 1 + 1, 6, none⟩) (by simp; omega)).trans (by simp [go_sem, o6])
  have q7 : w2.cell? ⟨w.heap.size + 1 + 1, 7, none⟩ = some (.slice (some ⟨bi, 0, none⟩) code.length code.length) := (hb2.cell (p := ⟨w.heap.size + 1 + 1, 7, none⟩) (by simp; omega)).trans (by simp [go_sem, o7])
  have q8 : w2.cell? ⟨w.heap.size + 1 + 1, 8, none⟩ = some (.slice none 0 0) := (hb2.cell (p := ⟨w.heap.size + 1 + 1, 8, none⟩) (by simp; omega)).trans (by simp [go_sem, o8])
  have gr : ∀ j, w2.frozen? ⟨w.heap.size + 1, j, none⟩ = false := fun j => (hb2.frozen (p := ⟨w.heap.size + 1, j, none⟩) (by simp; omega)).trans (by simp [go_sem, fr])
  have go_ : ∀ j, w2.frozen? ⟨w.heap.size + 1 + 1, j, none⟩ = false := fun j => (hb2.frozen (p := ⟨w.heap.size + 1 + 1, j, none⟩) (by simp; omega)).trans (by simp [go_sem, fo])
  have HC2 : Hid (insR.slice.In w2 [.slice (some ⟨bi, 0, none⟩) code.length code.length] code) := insR.slice.mono _ _ _ _ hb2 (flat_set ins_flat HI1.out (by show w.heap.size + 1 + 1 ≠ bi; omega) _)
  have HH2 := (show Hid _ from hin2)
  clear hb2 hin2 hbh x8 fr fo HI1 r0 o0 r1 o1 r2 o2 r3 o3 r4 o4 r5 o5 r6 o6 r7 o7 r8 o8
  go_wp2
  refine bodyPost_ret (v := .agg #[.string nm, .string ds, .bool st, .bool ab, .bool fi, .int .i64 sk, .int .i64 lo, .slice (some ⟨bi, 0, none⟩) code.length code.length, .slice (some ⟨bh, 0, none⟩) hands.length hands.length]) (by simp [results, Tryz.results49, go_sem, t0, t1, t2, t3, t4, t5, t6, t7, t8]) rfl ⟨_, _, rfl, ?_, ?_, ?_⟩
  · exact (((((((((HB2.out.setCell (by simp; omega) _).setCell (by simp) _).setCell (by simp) _).setCell (by simp) _).setCell (by simp) _).setCell (by simp) _).setCell (by simp) _).setCell (by simp) _).setCell (by simp) _).setCell (by simp) _
  · exact flat_set ins_flat (flat_set ins_flat (flat_set ins_flat (flat_set ins_flat (flat_set ins_flat (flat_set ins_flat (flat_set ins_flat (flat_set ins_flat (flat_set ins_flat (flat_set ins_flat (HC2.out) (by show w.heap.size + 1 + 1 ≠ bi; omega) _) (by show w.heap.size + 1 ≠ bi; omega) _) (by show w.heap.size + 1 ≠ bi; omega) _) (by show w.heap.size + 1 ≠ bi; omega) _) (by show w.heap.size + 1 ≠ bi; omega) _) (by show w.heap.size + 1 ≠ bi; omega) _) (by show w.heap.size + 1 ≠ bi; omega) _) (by show w.heap.size + 1 ≠ bi; omega) _) (by show w.heap.size + 1 ≠ bi; omega) _) (by show w.heap.size + 1 ≠ bi; omega) _
  · exact flat_set handler_flat (flat_set handler_flat (flat_set handler_flat (flat_set handler_flat (flat_set handler_flat (flat_set handler_flat (flat_set handler_flat (flat_set handler_flat (flat_set handler_flat (flat_set handler_flat (HH2.out) (by show w.heap.size + 1 + 1 ≠ bh; omega) _) (by show w.heap.size + 1 ≠ bh; omega) _) (by show w.heap.size + 1 ≠ bh; omega) _) (by show w.heap.size + 1 ≠ bh; omega) _) (by show w.heap.size + 1 ≠ bh; omega) _) (by show w.heap.size + 1 ≠ bh; omega) _) (by show w.heap.size + 1 ≠ bh; omega) _) (by show w.heap.size + 1 ≠ bh; omega) _) (by show w.heap.size + 1 ≠ bh; omega) _) (by show w.heap.size + 1 ≠ bh; omega) _

end Go.Proofs.YtgmlooemiokhfaiGreatDoor
