import Derived.Test.YtpalmhojjgbkfakGreatDoorWd4
import Derived.Test.YtpalmhojjgbkfakGreatDoorWd5
/-
  WorldCheck of the model.
-/
namespace Go.Proofs.YtpalmhojjgbkfakGreatDoor
open Go.RowKit
set_option maxRecDepth 20000
set_option linter.unusedVariables false
theorem specWorldCheck (L : List CTup) (v : Value) (w : World) (h : classR.slice.In w [v] L) :
    Calls Tryz.prog 56 #[v] w fun e w' => e = .returned (.agg #[.int .i64 (wOut L).1, .int .i64 (wOut L).2]) ∧ Below w.heap.size w w' :=
  specWorldCheckIf L v w h fun hp c vc vh w' hc hb h3 h4 => specAccess L v c vc vh w' hp hc (classR.slice.mono _ _ _ _ hb h) h3 h4
end Go.Proofs.YtpalmhojjgbkfakGreatDoor

/-
  Known, SuperOf, IsSub, CommonOf of the model.
-/
namespace Go.Proofs.YtpalmhojjgbkfakGreatDoor
open Go.RowKit
set_option linter.unusedVariables false

noncomputable def rtB (L : List CTup) : Bool := decide ((wOut L).2 = 0)
theorem rt_right {L : List CTup} (h : rtB L = true) : Right L := by
  unfold rtB at h
  simp only [decide_eq_true_eq] at h
  rcases right_code L with ⟨k, _⟩ | ⟨_, k⟩
  · exact k
  · exact absurd h k
theorem Right.part {L : List CTup} (h : Right L) : Part L L.length := h.2.part (by omega)
theorem Right.acy {L : List CTup} (h : Right L) : AcyG nmC suC (allC L) := Past.acy fun q hq => h.2 q (by omega)
theorem kn_alt (L : List CTup) (n : ByteArray) : (knB L n = false ∧ lkG nmC (allC L) n = none ∧ spS L n = tE ∧ CH nmC suC (allC L) n = []) ∨ ∃ c, knB L n = true ∧ c ∈ allC L ∧ nmC c = n ∧ lkG nmC (allC L) n = some c ∧ spS L n = suC c := by
  unfold knB spS
  cases e : lkG nmC (allC L) n with
  | none => exact .inl ⟨rfl, rfl, rfl, CH_none e⟩
  | some c => exact .inr ⟨c, rfl, (lkG_some e).1, (lkG_some e).2, rfl, rfl⟩
theorem fieldWO1 (a b : Value) (w : World) : (Instr.field 62 (.agg #[a, b]) 1).run Tryz.prog w = .ok b w := by kernel_rfl
set_option maxRecDepth 100000 in
set_option maxHeartbeats 1000000 in
theorem specRight (L : List CTup) (v : Value) (w : World) (h : classR.slice.In w [v] L) :
    Calls Tryz.prog 32 #[v] w fun e w' => e = .returned (.bool (rtB L)) ∧ Below w.heap.size w w' := by
  have HC : Hid (Calls Tryz.prog 56 #[v] w fun e w' => e = .returned (.agg #[.int .i64 (wOut L).1, .int .i64 (wOut L).2]) ∧ Below w.heap.size w w') := specWorldCheck L v w h
  obtain ⟨a, cap, rfl, _⟩ := slice_open (by decide) h
  unfold rtB
  have f1 := fieldWO1
  generalize (wOut L).1 = o1 at *
  generalize (wOut L).2 = o2 at *
  clear h
  by_cases e : o2 = 0
  · subst e
    go_enter Tryz.func32, Tryz.ntmps32
    go_wp2_with fail
    refine Calls.mono HC.out ?_
    rintro e w1 ⟨rfl, hb1⟩
    go_wp2
    go_ret
    exact ⟨rfl, hb1⟩
  · have d : (o2 == 0) = false := by simpa using e
    have d2 : decide (o2 = 0) = false := by simpa using e
    rw [d2]
    go_enter Tryz.func32, Tryz.ntmps32
    go_wp2_with fail
    refine Calls.mono HC.out ?_
    rintro e w1 ⟨rfl, hb1⟩
    go_wp2
    go_ret
    exact ⟨rfl, hb1⟩
end Go.Proofs.YtpalmhojjgbkfakGreatDoor

/-
  Known, SuperOf, IsSub, CommonOf of the model.
-/
namespace Go.Proofs.YtpalmhojjgbkfakGreatDoor
open Go.RowKit
set_option linter.unusedVariables false

end Go.Proofs.YtpalmhojjgbkfakGreatDoor
