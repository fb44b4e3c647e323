/-
  No cell of these rows narrows 'for every input' (looked for: loops, veiled, ifaces, maps, wideKeys, modest, calm, conditions, laid).
  DERIVED. THE GIVEN ROWS OF THIS SEAT. 4 by the template 'for every input the law returns true; each argument reads behind the call as it read before'; 0 by the template 'total and deterministic' (their statements: YtfichaafmfmliafTotals.lean).
  GIVEN WITH THE SEED: the statements are not yours to turn. If you find one false, say at which input.
  Laid BY PROGRAM, IN A SANDBOX (cutbox-rows.mjs): the forced cells as the released guide's own fill.sh prints them over the translation a3c0d94de9e919c4… (all of the seat's roots in one cut). By AI agents, Wed Nov 11 2026. No macro, syntax, notation, axiom, sorry.
-/
import Derived.Test.YtfichaafmfmliafChecked
import GoSem.Claim
import GoSem.ClaimJoined
import GoSem.ClaimMapViews
import Derived.JoinedTies
import Derived.KernelRfl
namespace Go.Proofs.Ytfichaafmfmliaf
/- THE CELL 'sum', in the pinned program and in every row, IS THE sha256 OF THE DUMP (.gsa) THAT YtfichaafmfmliafProg.lean LOADS. Nothing in Lean hashes anything: it is a label: what it is worth is what the hold of that sum in a sandbox is worth. -/
noncomputable def Try.pinned : Pinned := { name := "ytfichaafmfmliaf", sum := "a3c0d94de9e919c400d8a7b8fdb5046b67de552d9eea25526f7b58738964e28b", checked := Try.checked }
namespace Rows
def none {H : Type} : Left H := { results := [], args := [] }

/-- 'laws.FnExactPut1': WHATEVER THE INPUT: true; the input reads as it did. -/
def fnExactPut1Spec : ChangeSpec := { name := "fnExactPut1", fn := fun _ => fun
  | [d] => { results := [.lit (.bool true)], args := [d] }
  | _ => none }
def fnExactPut1Row : OpenClaim := { program := "ytfichaafmfmliaf", sum := "a3c0d94de9e919c400d8a7b8fdb5046b67de552d9eea25526f7b58738964e28b", func := "loop.example/g00175/laws.FnExactPut1", spec := "fnExactPut1", apart := false }
def FnExactPut1Said : Prop := fnExactPut1Row.holds Try.pinned (OpenSpec.ofChange fnExactPut1Spec)

/-- ITS FALSE NEIGHBOUR: 'it returns false'. Refute it at one input. -/
def fnExactPut1Wrong : ChangeSpec := { name := "fnExactPut1", fn := fun _ => fun
  | [d] => { results := [.lit (.bool false)], args := [d] }
  | _ => none }
def FnExactPut1WrongFalsely : Prop := fnExactPut1Row.holds Try.pinned (OpenSpec.ofChange fnExactPut1Wrong)

/-- 'laws.FnExactPut2': WHATEVER THE INPUT: true; the input reads as it did. -/
def fnExactPut2Spec : ChangeSpec := { name := "fnExactPut2", fn := fun _ => fun
  | [d] => { results := [.lit (.bool true)], args := [d] }
  | _ => none }
def fnExactPut2Row : OpenClaim := { program := "ytfichaafmfmliaf", sum := "a3c0d94de9e919c400d8a7b8fdb5046b67de552d9eea25526f7b58738964e28b", func := "loop.example/g00175/laws.FnExactPut2", spec := "fnExactPut2", apart := false }
def FnExactPut2Said : Prop := fnExactPut2Row.holds Try.pinned (OpenSpec.ofChange fnExactPut2Spec)

/-- ITS FALSE NEIGHBOUR: 'it returns false'. Refute it at one input. -/
def fnExactPut2Wrong : ChangeSpec := { name := "fnExactPut2", fn := fun _ => fun
  | [d] => { results := [.lit (.bool false)], args := [d] }
  | _ => none }
def FnExactPut2WrongFalsely : Prop := fnExactPut2Row.holds Try.pinned (OpenSpec.ofChange fnExactPut2Wrong)

/-- 'laws.FnExactPut4': WHATEVER THE INPUT: true; the input reads as it did. -/
def fnExactPut4Spec : ChangeSpec := { name := "fnExactPut4", fn := fun _ => fun
  | [d] => { results := [.lit (.bool true)], args := [d] }
  | _ => none }
def fnExactPut4Row : OpenClaim := { program := "ytfichaafmfmliaf", sum := "a3c0d94de9e919c400d8a7b8fdb5046b67de552d9eea25526f7b58738964e28b", func := "loop.example/g00175/laws.FnExactPut4", spec := "fnExactPut4", apart := false }
def FnExactPut4Said : Prop := fnExactPut4Row.holds Try.pinned (OpenSpec.ofChange fnExactPut4Spec)

/-- ITS FALSE NEIGHBOUR: 'it returns false'. Refute it at one input. -/
def fnExactPut4Wrong : ChangeSpec := { name := "fnExactPut4", fn := fun _ => fun
  | [d] => { results := [.lit (.bool false)], args := [d] }
  | _ => none }
def FnExactPut4WrongFalsely : Prop := fnExactPut4Row.holds Try.pinned (OpenSpec.ofChange fnExactPut4Wrong)

/-- 'laws.FnExactGet1': WHATEVER THE INPUT: true; the input reads as it did. -/
def fnExactGet1Spec : ChangeSpec := { name := "fnExactGet1", fn := fun _ => fun
  | [d1, d2] => { results := [.lit (.bool true)], args := [d1, d2] }
  | _ => none }
def fnExactGet1Row : OpenClaim := { program := "ytfichaafmfmliaf", sum := "a3c0d94de9e919c400d8a7b8fdb5046b67de552d9eea25526f7b58738964e28b", func := "loop.example/g00175/laws.FnExactGet1", spec := "fnExactGet1", apart := false }
def FnExactGet1Said : Prop := fnExactGet1Row.holds Try.pinned (OpenSpec.ofChange fnExactGet1Spec)

/-- ITS FALSE NEIGHBOUR: 'it returns false'. Refute it at one input. -/
def fnExactGet1Wrong : ChangeSpec := { name := "fnExactGet1", fn := fun _ => fun
  | [d1, d2] => { results := [.lit (.bool false)], args := [d1, d2] }
  | _ => none }
def FnExactGet1WrongFalsely : Prop := fnExactGet1Row.holds Try.pinned (OpenSpec.ofChange fnExactGet1Wrong)

/- THE SECOND FORM. 'bulk': how many values and letters a reading holds, each counted each time it is reached (what is shared counts as often as it is met; a slice's spare places count too). A statement '..UptoSaid' is the law's where the arguments, and the package variables that the reading takes, are together of bulk at most 1048576: NARROWER than '..Said'. Prove '..Said' where nothing that the law and all that it calls make is longer than what came in: it says more and counts as full. Else prove '..UptoSaid'. A law counts once. -/
mutual
def uptoBulk {H : Type} : DataW H → Nat
  | .lit (.string bytes) => bytes.length + 1
  | .lit _ => 1
  | .nil => 1
  | .ptr d => uptoBulk d + 1
  | .slice elems spare => uptoBulkAll elems + uptoBulkAll spare + 1
  | .agg parts => uptoBulkAll parts + 1
  | .iface _ d => uptoBulk d + 1
  | .map entries => uptoBulkEntries entries + 1
  | .held _ => 1
def uptoBulkAll {H : Type} : List (DataW H) → Nat
  | [] => 0
  | d :: r => uptoBulk d + uptoBulkAll r
def uptoBulkEntries {H : Type} : List (Lit × DataW H) → Nat
  | [] => 0
  | x :: r => uptoBulkEntry x + uptoBulkEntries r
def uptoBulkEntry {H : Type} : Lit × DataW H → Nat
  | (.string bytes, d) => bytes.length + uptoBulk d + 1
  | (_, d) => uptoBulk d + 1
 end
def uptoSmall : (H : Type) → List (DataW H) → Bool := fun _ ds => decide (uptoBulkAll ds ≤ 1048576)
def OpenSpec.upto (s : _root_.Go.ChangeSpec) : _root_.Go.OpenSpec := { _root_.Go.OpenSpec.ofChange s with cond := some uptoSmall }

/-- 'laws.FnExactPut1', WHERE WHAT IT READS IS OF BULK AT MOST 1048576: true; the input reads as it did. -/
def fnExactPut1UptoRow : OpenClaim := { program := "ytfichaafmfmliaf", sum := "a3c0d94de9e919c400d8a7b8fdb5046b67de552d9eea25526f7b58738964e28b", func := "loop.example/g00175/laws.FnExactPut1", spec := "fnExactPut1", apart := false, narrowed := true }
def FnExactPut1UptoSaid : Prop := fnExactPut1UptoRow.holds Try.pinned (OpenSpec.upto fnExactPut1Spec)

/-- 'laws.FnExactPut2', WHERE WHAT IT READS IS OF BULK AT MOST 1048576: true; the input reads as it did. -/
def fnExactPut2UptoRow : OpenClaim := { program := "ytfichaafmfmliaf", sum := "a3c0d94de9e919c400d8a7b8fdb5046b67de552d9eea25526f7b58738964e28b", func := "loop.example/g00175/laws.FnExactPut2", spec := "fnExactPut2", apart := false, narrowed := true }
def FnExactPut2UptoSaid : Prop := fnExactPut2UptoRow.holds Try.pinned (OpenSpec.upto fnExactPut2Spec)

/-- 'laws.FnExactPut4', WHERE WHAT IT READS IS OF BULK AT MOST 1048576: true; the input reads as it did. -/
def fnExactPut4UptoRow : OpenClaim := { program := "ytfichaafmfmliaf", sum := "a3c0d94de9e919c400d8a7b8fdb5046b67de552d9eea25526f7b58738964e28b", func := "loop.example/g00175/laws.FnExactPut4", spec := "fnExactPut4", apart := false, narrowed := true }
def FnExactPut4UptoSaid : Prop := fnExactPut4UptoRow.holds Try.pinned (OpenSpec.upto fnExactPut4Spec)

/-- 'laws.FnExactGet1', WHERE WHAT IT READS IS OF BULK AT MOST 1048576: true; the input reads as it did. -/
def fnExactGet1UptoRow : OpenClaim := { program := "ytfichaafmfmliaf", sum := "a3c0d94de9e919c400d8a7b8fdb5046b67de552d9eea25526f7b58738964e28b", func := "loop.example/g00175/laws.FnExactGet1", spec := "fnExactGet1", apart := false, narrowed := true }
def FnExactGet1UptoSaid : Prop := fnExactGet1UptoRow.holds Try.pinned (OpenSpec.upto fnExactGet1Spec)

end Rows
end Go.Proofs.Ytfichaafmfmliaf
