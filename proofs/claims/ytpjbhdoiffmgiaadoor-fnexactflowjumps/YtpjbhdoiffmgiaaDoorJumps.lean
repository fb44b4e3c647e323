/-
  FlowJumps: of the model, and of the program.
-/
import Derived.Test.YtpjbhdoiffmgiaaDoorOpF
namespace Go.Proofs.YtpjbhdoiffmgiaaDoor
open Go.RowKit
set_option linter.unusedVariables false

def jmpB (op : Int) : Bool := (fmS op).toList == [116]

set_option maxHeartbeats 1000000 in
theorem implFlowJumps (op : Int) (w : World) (ht : Tab w) :
    Calls Tryd.prog 5 #[.int .i64 op] w fun e w' => e = .returned (.bool (jmpB op)) ∧ Below w.heap.size w w' := by
  have HI : Hid (Calls _ _ _ _ _) := implOpForm op w ht
  show Calls Tryd.prog _ _ w fun e w' => e = .returned (.bool ((fmS op).toList == [116])) ∧ Below w.heap.size w w'
  clear ht
  generalize fmS op = f at *
  rcases Bool.eq_false_or_eq_true (f.toList == [116]) with h | h
  · rw [h]
    go_enter Tryd.func5, Tryd.ntmps5
    go_wp2_with fail
    refine Calls.mono HI.out ?_
    rintro e w1 ⟨rfl, hb1⟩
    have HB1 : Hid (Below w.heap.size w w1) := hb1
    clear hb1
    go_wp2
    go_ret
    exact ⟨rfl, HB1.out⟩
  · rw [h]
    go_enter Tryd.func5, Tryd.ntmps5
    go_wp2_with fail
    refine Calls.mono HI.out ?_
    rintro e w1 ⟨rfl, hb1⟩
    have HB1 : Hid (Below w.heap.size w w1) := hb1
    clear hb1
    go_wp2
    go_ret
    exact ⟨rfl, HB1.out⟩

set_option maxHeartbeats 1000000 in
theorem specFlowJumps (op : Int) (w : World) (ho : -9223372036854775808 ≤ op ∧ op ≤ 9223372036854775807) :
    Calls Tryd.prog 4 #[.int .i64 op] w fun e w' => e = .returned (.bool (jmpB op)) ∧ Below w.heap.size w w' := by
  have HI : Hid (Calls _ _ _ _ _) := specOpForm op w ho
  show Calls Tryd.prog _ _ w fun e w' => e = .returned (.bool ((fmS op).toList == [116])) ∧ Below w.heap.size w w'
  clear ho
  generalize fmS op = f at *
  rcases Bool.eq_false_or_eq_true (f.toList == [116]) with h | h
  · rw [h]
    go_enter Tryd.func4, Tryd.ntmps4
    go_wp2_with fail
    refine Calls.mono HI.out ?_
    rintro e w1 ⟨rfl, hb1⟩
    have HB1 : Hid (Below w.heap.size w w1) := hb1
    clear hb1
    go_wp2
    go_ret
    exact ⟨rfl, HB1.out⟩
  · rw [h]
    go_enter Tryd.func4, Tryd.ntmps4
    go_wp2_with fail
    refine Calls.mono HI.out ?_
    rintro e w1 ⟨rfl, hb1⟩
    have HB1 : Hid (Below w.heap.size w w1) := hb1
    clear hb1
    go_wp2
    go_ret
    exact ⟨rfl, HB1.out⟩

end Go.Proofs.YtpjbhdoiffmgiaaDoor
