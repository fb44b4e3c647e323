import Derived.Test.YtpalmhojjgbkfakGreatDoorWi9
import Derived.Test.YtpalmhojjgbkfakGreatDoorWi12
import Derived.Test.YtpalmhojjgbkfakGreatDoorWi10
import Derived.Test.YtpalmhojjgbkfakGreatDoorWdT
/-
  The program's makeWorld and WorldCheck tell what wOut tells.
-/
namespace Go.Proofs.YtpalmhojjgbkfakGreatDoor
open Go.RowKit
set_option maxRecDepth 20000
set_option linter.unusedVariables false

theorem nameB_le {n : ByteArray} (h : nameB n = true) : n.size ≤ 20 := by
  unfold nameB at h
  simp only [decide_eq_true_eq] at h
  omega
theorem bi_size : ∀ b ∈ biC, (nmC b).size ≤ 20 := by decide
theorem all_size {L : List CTup} (hp : Part L L.length) : ∀ c ∈ allC L, (nmC c).size ≤ 20 := fun c hc => by
  rcases List.mem_append.1 hc with k | k
  · exact bi_size c k
  · obtain ⟨i, hi, rfl⟩ := List.mem_iff_getElem.1 k
    exact nameB_le (hp.ok i hi hi).n
theorem all_len {E : List WE} {L : List CTup} (h : E.map WE.c = allC L) (hl : L.length ≤ 10) : E.length ≤ 100 := by
  have := congrArg List.length h
  have h8 : biC.length = 8 := rfl
  simp [allC, h8] at this
  omega
theorem implMakeWorld (L : List CTup) (v : Value) (w : World) (h : classR.slice.In w [v] L) (ht : Tab w) (hg : Glob w) :
    Calls Tryz.prog 36 #[v] w fun e w' => Below w.heap.size w w' ∧ ∃ wv, e = .returned (.tuple #[wv, .agg #[.int .i64 (wOut L).1, .int .i64 (wOut L).2]]) ∧ ((wOut L).2 ≠ 0 → wv = .agg #[.slice none 0 0, .map none]) ∧ ((wOut L).2 = 0 → ∃ r E es ck, wv = wdV v r ∧ WmIs w' r E es ck ∧ E.map WE.c = allC L) := by
  have hv : ∃ a k c, v = .slice a k c := by obtain ⟨a, cap, rfl, _⟩ := slice_open (by decide) h; exact ⟨_, _, _, rfl⟩
  refine implMakeWorldIf L v w h ht hg fun hl10 hp r E es ck c fa fc ma mc w' hc hwm hEm hf hm => ?_
  have : c ∈ E.map WE.c := by rw [hEm]; exact List.mem_append.2 (.inr hc)
  obtain ⟨x, hx, rfl⟩ := List.mem_map.1 this
  exact implMethodsFault L v r E es ck x fa fc ma mc w' hp hEm hc hwm hx hv (all_len hEm hl10) (fun y hy => Nat.le_trans (all_size (hp.part (by omega)) y.c (by rw [← hEm]; exact List.mem_map.2 ⟨y, hy, rfl⟩)) (by decide)) hm
end Go.Proofs.YtpalmhojjgbkfakGreatDoor

/-
  Known, SuperOf, IsSub, CommonOf of the program.
-/
namespace Go.Proofs.YtpalmhojjgbkfakGreatDoor
open Go.RowKit
set_option linter.unusedVariables false
/-- makeWorld, in two cases. -/
theorem implMake2 (L : List CTup) (v : Value) (w : World) (h : classR.slice.In w [v] L) (ht : Tab w) (hg : Glob w) :
    (rtB L = false ∧ Calls Tryz.prog 36 #[v] w fun e w' => Below w.heap.size w w' ∧ e = .returned (.tuple #[.agg #[.slice none 0 0, .map none], .agg #[.int .i64 (wOut L).1, .int .i64 (wOut L).2]])) ∨
    (rtB L = true ∧ Right L ∧ Calls Tryz.prog 36 #[v] w fun e w' => Below w.heap.size w w' ∧ ∃ r E es ck, e = .returned (.tuple #[wdV v r, .agg #[.int .i64 (wOut L).1, .int .i64 (wOut L).2]]) ∧ WmIs w' r E es ck ∧ E.map WE.c = allC L) := by
  cases hr : rtB L with
  | false =>
    refine .inl ⟨rfl, Calls.mono (implMakeWorld L v w h ht hg) ?_⟩
    rintro e w' ⟨h1, wv, rfl, h2, _⟩
    have : (wOut L).2 ≠ 0 := by unfold rtB at hr; simpa using hr
    rw [h2 this]
    exact ⟨h1, rfl⟩
  | true =>
    refine .inr ⟨rfl, rt_right hr, Calls.mono (implMakeWorld L v w h ht hg) ?_⟩
    rintro e w' ⟨h1, wv, rfl, _, h3⟩
    have : (wOut L).2 = 0 := by unfold rtB at hr; simpa using hr
    obtain ⟨r, E, es, ck, rfl, h4, h5⟩ := h3 this
    exact ⟨h1, r, E, es, ck, rfl, h4, h5⟩
theorem all_len' {E : List WE} {L : List CTup} (h : E.map WE.c = allC L) (hR : Right L) : E.length ≤ 100 := all_len h hR.1
end Go.Proofs.YtpalmhojjgbkfakGreatDoor
