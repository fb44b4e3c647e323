import Derived.Test.YtpalmhojjgbkfajGreatDoorWi9
import Derived.Test.YtpalmhojjgbkfajGreatDoorWi12
import Derived.Test.YtpalmhojjgbkfajGreatDoorWi10
import Derived.Test.YtpalmhojjgbkfajGreatDoorWdT
/-
 The program's makeWorld and WorldCheck tell what wOut tells.
-/
namespace Go.Proofs.YtpalmhojjgbkfajGreatDoor
open Go.RowKit
set_option maxRecDepth 20000
set_option linter.unusedVariables false

theorem set2_al2 {wr : World} {R : Nat} {u0 u1 : Value} (hR : R < wr.heap.size) (r0 : wr.cell? ⟨R, 0, none⟩ = some u0) (r1 : wr.cell? ⟨R, 1, none⟩ = some u1) (v0 v1 : Value) (o1 o2 : Obj) :
  ((((wr.setCell ⟨R, 0, none⟩ v0).setCell ⟨R, 1, none⟩ v1).alloc o1).alloc o2).cell? ⟨R, 0, none⟩ = some v0 ∧ ((((wr.setCell ⟨R, 0, none⟩ v0).setCell ⟨R, 1, none⟩ v1).alloc o1).alloc o2).cell? ⟨R, 1, none⟩ = some v1 :=
 ⟨carry (below_al2 _ o1 o2) (by simpa using hR) (by simp [go_sem, r0]), carry (below_al2 _ o1 o2) (by simpa using hR) (by simp [go_sem, r1])⟩
theorem nameB_le {n : ByteArray} (h : nameB n = true) : n.size ≤ 20 := by
 unfold nameB at h
 simp only [decide_eq_true_eq] at h
 omega
theorem bi_size : ∀ b ∈ biC, (nmC b).size ≤ 20 := by decide
theorem all_size {L : List CTup} (hp : Part L L.length) : ∀ c ∈ allC L, (nmC c).size ≤ 20 := fun c hc => by
 rcases List.mem_append.1 hc with k | k
 ·exact bi_size c k
 ·obtain ⟨i, hi, rfl⟩ := List.mem_iff_getElem.1 k
  exact nameB_le (hp.ok i hi hi).n
theorem all_len {E : List WE} {L : List CTup} (h : E.map WE.c = allC L) (hl : L.length ≤ 10) : E.length ≤ 100 := by
 have := congrArg List.length h
 have h8 : biC.length = 8 := rfl
 simp [allC, h8] at this
 omega
theorem implMakeWorld (L : List CTup) (v : Value) (w : World) (h : classR.slice.In w [v] L) (ht : Tab w) (hg : Glob w) :
  Calls Tryz.prog 49 #[v] w fun e w' => Below w.heap.size w w' ∧ ∃ wv, e = .returned (.tuple #[wv, .agg #[.int .i64 (wOut L).1, .int .i64 (wOut L).2]]) ∧ ((wOut L).2 ≠ 0 → wv = .agg #[.slice none 0 0, .map none]) ∧ ((wOut L).2 = 0 → ∃ r E es ck, wv = wdV v r ∧ WmIs w' r E es ck ∧ E.map WE.c = allC L) := by
 have hv : ∃ a k c, v = .slice a k c := by obtain ⟨a, cap, rfl, _⟩ := slice_open (by decide) h; exact ⟨_, _, _, rfl⟩
 refine implMakeWorldIf L v w h ht hg fun hl10 hp r E es ck c fa fc ma mc w' hc hwm hEm hf hm => ?_
 have : c ∈ E.map WE.c := by rw [hEm]; exact List.mem_append.2 (.inr hc)
 obtain ⟨x, hx, rfl⟩ := List.mem_map.1 this
 exact implMethodsFault L v r E es ck x fa fc ma mc w' hp hEm hc hwm hx hv (all_len hEm hl10) (fun y hy => Nat.le_trans (all_size (hp.part (by omega)) y.c (by rw [← hEm]; exact List.mem_map.2 ⟨y, hy, rfl⟩)) (by decide)) hm
theorem implWorldCheck (L : List CTup) (v : Value) (w : World) (h : classR.slice.In w [v] L) (ht : Tab w) (hg : Glob w) :
  Calls Tryz.prog 22 #[v] w fun e w' => e = .returned (.agg #[.int .i64 (wOut L).1, .int .i64 (wOut L).2]) ∧ Below w.heap.size w w' := by
 have HM : Hid (∀ w', Below w.heap.size w w' → Calls Tryz.prog 49 #[v] w' fun e w2 => Below w'.heap.size w' w2 ∧ ∃ (la : Option Addr) (lk lc : Nat) (r : Option Nat), e = .returned (.tuple #[.agg #[.slice la lk lc, .map r], .agg #[.int .i64 (wOut L).1, .int .i64 (wOut L).2]])) := fun w' hb => by
  refine Calls.mono (implMakeWorld L v w' (classR.slice.mono _ _ _ _ hb h) (ht.mono hb) (hg.mono hb)) ?_
  rintro e w2 ⟨h1, wv, rfl, h2, h3⟩
  refine ⟨h1, ?_⟩
  by_cases hz : (wOut L).2 = 0
  ·obtain ⟨r, _, _, _, rfl, _⟩ := h3 hz
   obtain ⟨a, cap, rfl, _⟩ := slice_open (by decide) h
   exact ⟨_, _, _, _, rfl⟩
  ·rw [h2 hz]
   exact ⟨none, 0, 0, none, rfl⟩
 obtain ⟨a, cap, rfl, _⟩ := slice_open (by decide) h
 generalize (wOut L).1 = o1 at *
 generalize (wOut L).2 = o2 at *
 clear h ht hg
 go_enter Tryz.func22, Tryz.ntmps22
 go_wp2_with fail
 refine Calls.mono (HM.out _ (below_al _ _)) ?_
 rintro e w1 ⟨hb1, la, lk, lc, r, rfl⟩
 have r0 := cC hb1 (w.heap.size) 0 (.int .i64 0) (by simp) (by simp [go_sem])
 have r1 := cC hb1 (w.heap.size) 1 (.int .i64 0) (by simp) (by simp [go_sem])
 have fr : ∀ j, w1.frozen? ⟨w.heap.size, j, none⟩ = false := fun j => carryF hb1 (by simp) (by simp [go_sem])
 have hz : w.heap.size < w1.heap.size := by have := hb1.size; simp at this; omega
 have HB1 : Hid (Below w.heap.size w w1) := (below_al _ _).trans (hb1.mono (by simp))
 clear hb1
 go_wp2
 have q := set2_al2 hz r0 r1 (.int .i64 o1) (.int .i64 o2) (.cells #[.slice la lk lc, .map r] 85) (.cells #[.int .i64 o1, .int .i64 o2] 43)
 exact bodyPost_ret (v := .agg #[.int .i64 o1, .int .i64 o2]) (by simp [results, Tryz.results22, go_sem, q.1, q.2]) rfl ⟨rfl, (((HB1.out.setCell (by simp) _).setCell (by simp) _).alloc (by simp; omega) _).alloc (by simp; omega) _⟩
end Go.Proofs.YtpalmhojjgbkfajGreatDoor

/-
 Known, SuperOf, IsSub, CommonOf of the program.
-/
namespace Go.Proofs.YtpalmhojjgbkfajGreatDoor
open Go.RowKit
set_option linter.unusedVariables false
end Go.Proofs.YtpalmhojjgbkfajGreatDoor
