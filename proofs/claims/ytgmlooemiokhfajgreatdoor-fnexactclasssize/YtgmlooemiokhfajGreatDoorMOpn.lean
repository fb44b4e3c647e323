/-
  A Method that is handed in: how it lies.
-/
import Derived.Test.YtgmlooemiokhfajGreatDoorAt
namespace Go.Proofs.YtgmlooemiokhfajGreatDoor
open Go.RowKit
set_option maxRecDepth 20000
set_option linter.unusedVariables false

def methR : Rep (ByteArray × ByteArray × Bool × Bool × Bool × Int × Int × List InsD × List HandlerD) :=
  Rep.str.pair (Rep.str.pair (Rep.bool.pair (Rep.bool.pair (Rep.bool.pair (Rep.int.pair (Rep.int.pair (insR.slice.pair handlerR.slice)))))))
abbrev MTup := ByteArray × ByteArray × Bool × Bool × Bool × Int × Int × List InsD × List HandlerD
def mD (x : MTup) : MethD := ⟨x.1, x.2.1, x.2.2.1, x.2.2.2.1, x.2.2.2.2.1, x.2.2.2.2.2.1, x.2.2.2.2.2.2.1, x.2.2.2.2.2.2.2.1, x.2.2.2.2.2.2.2.2⟩

/-- What a Method's nine cells are. -/
theorem methR_in {w : World} {cs : List Value} {x : MTup} (h : methR.In w cs x) :
    ∃ vc vh, cs = [.string (mD x).name, .string (mD x).desc, .bool (mD x).static, .bool (mD x).abs, .bool (mD x).fin, .int .i64 (mD x).stack, .int .i64 (mD x).locals, vc, vh] ∧ (mD x).name.size ≤ maxLen ∧ (mD x).desc.size ≤ maxLen ∧
      (Lit.int .i64 (mD x).stack).wf = true ∧ (Lit.int .i64 (mD x).locals).wf = true ∧ insR.slice.In w [vc] (mD x).code ∧ handlerR.slice.In w [vh] (mD x).hands := by
  obtain ⟨x0, x1, x2, x3, x4, x5, x6, x7, x8⟩ := x
  obtain ⟨_, _, rfl, ⟨rfl, s0⟩, ⟨_, _, rfl, ⟨rfl, s1⟩, ⟨_, _, rfl, h2, ⟨_, _, rfl, h3, ⟨_, _, rfl, h4, ⟨_, _, rfl, ⟨rfl, q5⟩, ⟨_, _, rfl, ⟨rfl, q6⟩, ⟨c7, c8, rfl, h7, h8⟩⟩⟩⟩⟩⟩⟩⟩ := h
  have e7 : ∃ v, c7 = [v] := by obtain ⟨a, cap, e, _⟩ := h7; exact ⟨_, e⟩
  have e8 : ∃ v, c8 = [v] := by obtain ⟨a, cap, e, _⟩ := h8; exact ⟨_, e⟩
  obtain ⟨vc, rfl⟩ := e7
  obtain ⟨vh, rfl⟩ := e8
  have h2' : _ = _ := h2
  have h3' : _ = _ := h3
  have h4' : _ = _ := h4
  subst h2' h3' h4'
  exact ⟨vc, vh, rfl, s0, s1, q5, q6, h7, h8⟩

section
variable {H : Type} {enc : TypeId × Value → H} {base : Nat} {spare : Nat → Bool} {held : Bool}
theorem opensMethod : Opens Tryz.prog enc base spare held methR 72 :=
  opens_struct9 (R0 := Rep.str) (R1 := Rep.str) (R2 := Rep.bool) (R3 := Rep.bool) (R4 := Rep.bool) (R5 := Rep.int) (R6 := Rep.int) (R7 := insR.slice) (R8 := handlerR.slice) Tryz.underlying72 ⟨rfl, rfl, rfl, rfl, rfl, rfl, rfl, rfl, rfl⟩
    ⟨by kernel_rfl, by kernel_rfl, by kernel_rfl, by kernel_rfl, by kernel_rfl, by kernel_rfl, by kernel_rfl, by kernel_rfl, by kernel_rfl⟩ (by kernel_rfl)
    (opens_str Tryz.underlying9) (opens_str Tryz.underlying9) (opens_bool Tryz.underlying4) (opens_bool Tryz.underlying4) (opens_bool Tryz.underlying4) (opens_int Tryz.underlying2) (opens_int Tryz.underlying2)
    (opens_slice Tryz.underlying69 (by kernel_rfl) opensIns) (opens_slice Tryz.underlying70 (by kernel_rfl) opensHandler)
end

theorem szB_le {b : Nat} {left : Int} (h : ¬ szB b left < 0) : (b : Int) ≤ left := by
  unfold szB at h
  split at h <;> omega
end Go.Proofs.YtgmlooemiokhfajGreatDoor
