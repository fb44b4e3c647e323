/-
  The ops' table of the model, and the contracts of OpForm and OpName of the model.
-/
import Derived.Test.YtpjbhdoiffmgiaaDoorSplit
namespace Go.Proofs.YtpjbhdoiffmgiaaDoor
open Go.RowKit
set_option linter.unusedVariables false

/-- The ops, each with its name and its form. -/
def opsL : List ByteArray := [⟨#[]⟩, ⟨#[99, 111, 110, 115, 116, 32, 110]⟩, ⟨#[110, 117, 108, 108]⟩, ⟨#[108, 111, 97, 100, 32, 105]⟩, ⟨#[115, 116, 111, 114, 101, 32, 105]⟩, ⟨#[112, 111, 112]⟩, ⟨#[100, 117, 112]⟩, ⟨#[115, 119, 97, 112]⟩, ⟨#[97, 100, 100]⟩, ⟨#[115, 117, 98]⟩, ⟨#[109, 117, 108]⟩, ⟨#[100, 105, 118]⟩, ⟨#[114, 101, 109]⟩, ⟨#[97, 110, 100]⟩, ⟨#[111, 114]⟩, ⟨#[120, 111, 114]⟩, ⟨#[115, 104, 108]⟩, ⟨#[115, 104, 114]⟩, ⟨#[117, 115, 104, 114]⟩, ⟨#[103, 111, 116, 111, 32, 116]⟩, ⟨#[105, 102, 101, 113, 32, 116]⟩, ⟨#[105, 102, 108, 116, 32, 116]⟩, ⟨#[105, 102, 115, 97, 109, 101, 32, 116]⟩, ⟨#[105, 102, 108, 101, 115, 115, 32, 116]⟩, ⟨#[105, 102, 110, 117, 108, 108, 32, 116]⟩, ⟨#[105, 102, 105, 115, 32, 116]⟩, ⟨#[114, 101, 116, 117, 114, 110]⟩, ⟨#[105, 114, 101, 116, 117, 114, 110]⟩, ⟨#[97, 114, 101, 116, 117, 114, 110]⟩, ⟨#[116, 104, 114, 111, 119]⟩, ⟨#[100, 117, 112, 50]⟩, ⟨#[110, 101, 119, 32, 99]⟩, ⟨#[103, 101, 116, 102, 105, 101, 108, 100, 32, 102]⟩, ⟨#[112, 117, 116, 102, 105, 101, 108, 100, 32, 102]⟩, ⟨#[103, 101, 116, 115, 116, 97, 116, 105, 99, 32, 102]⟩, ⟨#[112, 117, 116, 115, 116, 97, 116, 105, 99, 32, 102]⟩, ⟨#[99, 97, 108, 108, 32, 109]⟩, ⟨#[99, 97, 108, 108, 115, 116, 97, 116, 105, 99, 32, 109]⟩, ⟨#[99, 97, 108, 108, 115, 112, 101, 99, 105, 97, 108, 32, 109]⟩, ⟨#[99, 97, 115, 116, 32, 99]⟩, ⟨#[105, 115, 111, 102, 32, 99]⟩, ⟨#[110, 101, 119, 108, 105, 115, 116, 32, 121]⟩, ⟨#[103, 101, 116]⟩, ⟨#[112, 117, 116]⟩, ⟨#[115, 105, 122, 101]⟩]

theorem opsL_len : opsL.length = 45 := rfl
theorem opsL_small : ∀ x ∈ opsL, x.size ≤ 100 := by decide

set_option maxHeartbeats 2000000 in
theorem specOps (w : World) :
    Calls Tryd.prog 8 #[] w fun e w' => e = .returned (.slice (some ⟨w.heap.size, 0, none⟩) 45 45) ∧ Below w.heap.size w w' ∧ w'.heap.size = w.heap.size + 1 ∧ ∀ i, i < 45 → w'.cell? ⟨w.heap.size, i, none⟩ = some (.string (opsL.getD i ⟨#[]⟩)) := by
  go_enter Tryd.func8, Tryd.ntmps8
  go_wp2
  go_ret
  refine ⟨rfl, (Below.refl _ _).alloc (Nat.le_refl _) _, by simp, fun i hi => ?_⟩
  rw [World.cell?_alloc_mark]
  have key : ∀ i, i < 45 → ((#[.string ⟨#[]⟩, .string ⟨#[99, 111, 110, 115, 116, 32, 110]⟩, .string ⟨#[110, 117, 108, 108]⟩, .string ⟨#[108, 111, 97, 100, 32, 105]⟩, .string ⟨#[115, 116, 111, 114, 101, 32, 105]⟩, .string ⟨#[112, 111, 112]⟩, .string ⟨#[100, 117, 112]⟩, .string ⟨#[115, 119, 97, 112]⟩, .string ⟨#[97, 100, 100]⟩, .string ⟨#[115, 117, 98]⟩, .string ⟨#[109, 117, 108]⟩, .string ⟨#[100, 105, 118]⟩, .string ⟨#[114, 101, 109]⟩, .string ⟨#[97, 110, 100]⟩, .string ⟨#[111, 114]⟩, .string ⟨#[120, 111, 114]⟩, .string ⟨#[115, 104, 108]⟩, .string ⟨#[115, 104, 114]⟩, .string ⟨#[117, 115, 104, 114]⟩, .string ⟨#[103, 111, 116, 111, 32, 116]⟩, .string ⟨#[105, 102, 101, 113, 32, 116]⟩, .string ⟨#[105, 102, 108, 116, 32, 116]⟩, .string ⟨#[105, 102, 115, 97, 109, 101, 32, 116]⟩, .string ⟨#[105, 102, 108, 101, 115, 115, 32, 116]⟩, .string ⟨#[105, 102, 110, 117, 108, 108, 32, 116]⟩, .string ⟨#[105, 102, 105, 115, 32, 116]⟩, .string ⟨#[114, 101, 116, 117, 114, 110]⟩, .string ⟨#[105, 114, 101, 116, 117, 114, 110]⟩, .string ⟨#[97, 114, 101, 116, 117, 114, 110]⟩, .string ⟨#[116, 104, 114, 111, 119]⟩, .string ⟨#[100, 117, 112, 50]⟩, .string ⟨#[110, 101, 119, 32, 99]⟩, .string ⟨#[103, 101, 116, 102, 105, 101, 108, 100, 32, 102]⟩, .string ⟨#[112, 117, 116, 102, 105, 101, 108, 100, 32, 102]⟩, .string ⟨#[103, 101, 116, 115, 116, 97, 116, 105, 99, 32, 102]⟩, .string ⟨#[112, 117, 116, 115, 116, 97, 116, 105, 99, 32, 102]⟩, .string ⟨#[99, 97, 108, 108, 32, 109]⟩, .string ⟨#[99, 97, 108, 108, 115, 116, 97, 116, 105, 99, 32, 109]⟩, .string ⟨#[99, 97, 108, 108, 115, 112, 101, 99, 105, 97, 108, 32, 109]⟩, .string ⟨#[99, 97, 115, 116, 32, 99]⟩, .string ⟨#[105, 115, 111, 102, 32, 99]⟩, .string ⟨#[110, 101, 119, 108, 105, 115, 116, 32, 121]⟩, .string ⟨#[103, 101, 116]⟩, .string ⟨#[112, 117, 116]⟩, .string ⟨#[115, 105, 122, 101]⟩] : Array Value))[i]? = some (.string (opsL.getD i ⟨#[]⟩)) := by
    intro i hi
    have hl : i < opsL.length := hi
    show ((opsL.map Value.string).toArray)[i]? = _
    rw [List.getElem?_toArray, List.getElem?_map, List.getD_eq_getElem?_getD, List.getElem?_eq_getElem hl]
    rfl
  exact key i hi

/-- The pieces of an op's row. -/
def opPs (op : Nat) : List ByteArray := spl (opsL.getD op ⟨#[]⟩) 32 (opsL.getD op ⟨#[]⟩).size 0 0 []
def fmS (op : Int) : ByteArray := if 1 ≤ op ∧ op < 45 then (if (opPs op.toNat).length = 2 then (opPs op.toNat).getD 1 ⟨#[]⟩ else ⟨#[]⟩) else ⟨#[33]⟩
end Go.Proofs.YtpjbhdoiffmgiaaDoor
