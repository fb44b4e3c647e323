/-
  No cell of these rows narrows 'for every input' (looked for: loops, veiled, ifaces, maps, wideKeys, modest, calm, conditions, laid).
  DERIVED. THE GIVEN ROWS OF THIS SEAT. 6 by the template 'for every input the law returns true; each argument reads behind the call as it read before'; 0 by the template 'total and deterministic' (their statements: YtdoiphejockfhagTotals.lean).
  GIVEN WITH THE SEED: the statements are not yours to turn. If you find one false, say at which input.
  Laid BY PROGRAM, IN A SANDBOX (cutbox-rows.mjs): the forced cells as the released guide's own fill.sh prints them over the translation 2ea7d5062b886c69… (all of the seat's roots in one cut). By AI agents, Wed Nov 11 2026. No macro, syntax, notation, axiom, sorry.
-/
import Derived.Test.YtdoiphejockfhagChecked
import GoSem.Claim
import GoSem.ClaimJoined
import GoSem.ClaimMapViews
import Derived.JoinedTies
import Derived.KernelRfl
namespace Go.Proofs.Ytdoiphejockfhag
/- THE CELL 'sum', in the pinned program and in every row, IS THE sha256 OF THE DUMP (.gsa) THAT YtdoiphejockfhagProg.lean LOADS. Nothing in Lean hashes anything: it is a label: what it is worth is what the hold of that sum in a sandbox is worth. -/
noncomputable def Try.pinned : Pinned := { name := "ytdoiphejockfhag", sum := "2ea7d5062b886c69fb206876a0799f3a5c90811edb931752d220e13f846baf2e", checked := Try.checked }
namespace Rows
def none {H : Type} : Left H := { results := [], args := [] }

/-- 'laws.FnExactGet2': WHATEVER THE INPUT: true; the input reads as it did. -/
def fnExactGet2Spec : ChangeSpec := { name := "fnExactGet2", fn := fun _ => fun
  | [d1, d2] => { results := [.lit (.bool true)], args := [d1, d2] }
  | _ => none }
def fnExactGet2Row : OpenClaim := { program := "ytdoiphejockfhag", sum := "2ea7d5062b886c69fb206876a0799f3a5c90811edb931752d220e13f846baf2e", func := "loop.example/g00175/laws.FnExactGet2", spec := "fnExactGet2", apart := false }
def FnExactGet2Said : Prop := fnExactGet2Row.holds Try.pinned (OpenSpec.ofChange fnExactGet2Spec)

/-- ITS FALSE NEIGHBOUR: 'it returns false'. Refute it at one input. -/
def fnExactGet2Wrong : ChangeSpec := { name := "fnExactGet2", fn := fun _ => fun
  | [d1, d2] => { results := [.lit (.bool false)], args := [d1, d2] }
  | _ => none }
def FnExactGet2WrongFalsely : Prop := fnExactGet2Row.holds Try.pinned (OpenSpec.ofChange fnExactGet2Wrong)

/-- 'laws.FnExactGet4': WHATEVER THE INPUT: true; the input reads as it did. -/
def fnExactGet4Spec : ChangeSpec := { name := "fnExactGet4", fn := fun _ => fun
  | [d1, d2] => { results := [.lit (.bool true)], args := [d1, d2] }
  | _ => none }
def fnExactGet4Row : OpenClaim := { program := "ytdoiphejockfhag", sum := "2ea7d5062b886c69fb206876a0799f3a5c90811edb931752d220e13f846baf2e", func := "loop.example/g00175/laws.FnExactGet4", spec := "fnExactGet4", apart := false }
def FnExactGet4Said : Prop := fnExactGet4Row.holds Try.pinned (OpenSpec.ofChange fnExactGet4Spec)

/-- ITS FALSE NEIGHBOUR: 'it returns false'. Refute it at one input. -/
def fnExactGet4Wrong : ChangeSpec := { name := "fnExactGet4", fn := fun _ => fun
  | [d1, d2] => { results := [.lit (.bool false)], args := [d1, d2] }
  | _ => none }
def FnExactGet4WrongFalsely : Prop := fnExactGet4Row.holds Try.pinned (OpenSpec.ofChange fnExactGet4Wrong)

/-- 'laws.FnExactPutText': WHATEVER THE INPUT: true; the input reads as it did. -/
def fnExactPutTextSpec : ChangeSpec := { name := "fnExactPutText", fn := fun _ => fun
  | [d] => { results := [.lit (.bool true)], args := [d] }
  | _ => none }
def fnExactPutTextRow : OpenClaim := { program := "ytdoiphejockfhag", sum := "2ea7d5062b886c69fb206876a0799f3a5c90811edb931752d220e13f846baf2e", func := "loop.example/g00175/laws.FnExactPutText", spec := "fnExactPutText", apart := false }
def FnExactPutTextSaid : Prop := fnExactPutTextRow.holds Try.pinned (OpenSpec.ofChange fnExactPutTextSpec)

/-- ITS FALSE NEIGHBOUR: 'it returns false'. Refute it at one input. -/
def fnExactPutTextWrong : ChangeSpec := { name := "fnExactPutText", fn := fun _ => fun
  | [d] => { results := [.lit (.bool false)], args := [d] }
  | _ => none }
def FnExactPutTextWrongFalsely : Prop := fnExactPutTextRow.holds Try.pinned (OpenSpec.ofChange fnExactPutTextWrong)

/-- 'laws.FnExactNameRight': WHATEVER THE INPUT: true; the input reads as it did. -/
def fnExactNameRightSpec : ChangeSpec := { name := "fnExactNameRight", fn := fun _ => fun
  | [d] => { results := [.lit (.bool true)], args := [d] }
  | _ => none }
def fnExactNameRightRow : OpenClaim := { program := "ytdoiphejockfhag", sum := "2ea7d5062b886c69fb206876a0799f3a5c90811edb931752d220e13f846baf2e", func := "loop.example/g00175/laws.FnExactNameRight", spec := "fnExactNameRight", apart := false }
def FnExactNameRightSaid : Prop := fnExactNameRightRow.holds Try.pinned (OpenSpec.ofChange fnExactNameRightSpec)

/-- ITS FALSE NEIGHBOUR: 'it returns false'. Refute it at one input. -/
def fnExactNameRightWrong : ChangeSpec := { name := "fnExactNameRight", fn := fun _ => fun
  | [d] => { results := [.lit (.bool false)], args := [d] }
  | _ => none }
def FnExactNameRightWrongFalsely : Prop := fnExactNameRightRow.holds Try.pinned (OpenSpec.ofChange fnExactNameRightWrong)

/-- 'laws.FnExactTypeRight': WHATEVER THE INPUT: true; the input reads as it did. -/
def fnExactTypeRightSpec : ChangeSpec := { name := "fnExactTypeRight", fn := fun _ => fun
  | [d] => { results := [.lit (.bool true)], args := [d] }
  | _ => none }
def fnExactTypeRightRow : OpenClaim := { program := "ytdoiphejockfhag", sum := "2ea7d5062b886c69fb206876a0799f3a5c90811edb931752d220e13f846baf2e", func := "loop.example/g00175/laws.FnExactTypeRight", spec := "fnExactTypeRight", recurses := true, apart := false }
def FnExactTypeRightSaid : Prop := fnExactTypeRightRow.holds Try.pinned (OpenSpec.ofChange fnExactTypeRightSpec)

/-- ITS FALSE NEIGHBOUR: 'it returns false'. Refute it at one input. -/
def fnExactTypeRightWrong : ChangeSpec := { name := "fnExactTypeRight", fn := fun _ => fun
  | [d] => { results := [.lit (.bool false)], args := [d] }
  | _ => none }
def FnExactTypeRightWrongFalsely : Prop := fnExactTypeRightRow.holds Try.pinned (OpenSpec.ofChange fnExactTypeRightWrong)

/-- 'laws.FnExactTypeClass': WHATEVER THE INPUT: true; the input reads as it did. -/
def fnExactTypeClassSpec : ChangeSpec := { name := "fnExactTypeClass", fn := fun _ => fun
  | [d] => { results := [.lit (.bool true)], args := [d] }
  | _ => none }
def fnExactTypeClassRow : OpenClaim := { program := "ytdoiphejockfhag", sum := "2ea7d5062b886c69fb206876a0799f3a5c90811edb931752d220e13f846baf2e", func := "loop.example/g00175/laws.FnExactTypeClass", spec := "fnExactTypeClass", recurses := true, apart := false }
def FnExactTypeClassSaid : Prop := fnExactTypeClassRow.holds Try.pinned (OpenSpec.ofChange fnExactTypeClassSpec)

/-- ITS FALSE NEIGHBOUR: 'it returns false'. Refute it at one input. -/
def fnExactTypeClassWrong : ChangeSpec := { name := "fnExactTypeClass", fn := fun _ => fun
  | [d] => { results := [.lit (.bool false)], args := [d] }
  | _ => none }
def FnExactTypeClassWrongFalsely : Prop := fnExactTypeClassRow.holds Try.pinned (OpenSpec.ofChange fnExactTypeClassWrong)

/- THE SECOND FORM. 'bulk': how many values and letters a reading holds, each counted each time it is reached (what is shared counts as often as it is met; a slice's spare places count too). A statement '..UptoSaid' is the law's where the arguments, and the package variables that the reading takes, are together of bulk at most 1048576: NARROWER than '..Said'. Prove '..Said' where nothing that the law and all that it calls make is longer than what came in: it says more and counts as full. Else prove '..UptoSaid'. A law counts once. -/
mutual
def uptoBulk {H : Type} : DataW H → Nat
  | .lit (.string bytes) => bytes.length + 1
  | .lit _ => 1
  | .nil => 1
  | .ptr d => uptoBulk d + 1
  | .slice elems spare => uptoBulkAll elems + uptoBulkAll spare + 1
  | .agg parts => uptoBulkAll parts + 1
  | .iface _ d => uptoBulk d + 1
  | .map entries => uptoBulkEntries entries + 1
  | .held _ => 1
def uptoBulkAll {H : Type} : List (DataW H) → Nat
  | [] => 0
  | d :: r => uptoBulk d + uptoBulkAll r
def uptoBulkEntries {H : Type} : List (Lit × DataW H) → Nat
  | [] => 0
  | x :: r => uptoBulkEntry x + uptoBulkEntries r
def uptoBulkEntry {H : Type} : Lit × DataW H → Nat
  | (.string bytes, d) => bytes.length + uptoBulk d + 1
  | (_, d) => uptoBulk d + 1
 end
def uptoSmall : (H : Type) → List (DataW H) → Bool := fun _ ds => decide (uptoBulkAll ds ≤ 1048576)
def OpenSpec.upto (s : _root_.Go.ChangeSpec) : _root_.Go.OpenSpec := { _root_.Go.OpenSpec.ofChange s with cond := some uptoSmall }

/-- 'laws.FnExactGet2', WHERE WHAT IT READS IS OF BULK AT MOST 1048576: true; the input reads as it did. -/
def fnExactGet2UptoRow : OpenClaim := { program := "ytdoiphejockfhag", sum := "2ea7d5062b886c69fb206876a0799f3a5c90811edb931752d220e13f846baf2e", func := "loop.example/g00175/laws.FnExactGet2", spec := "fnExactGet2", apart := false, narrowed := true }
def FnExactGet2UptoSaid : Prop := fnExactGet2UptoRow.holds Try.pinned (OpenSpec.upto fnExactGet2Spec)

/-- 'laws.FnExactGet4', WHERE WHAT IT READS IS OF BULK AT MOST 1048576: true; the input reads as it did. -/
def fnExactGet4UptoRow : OpenClaim := { program := "ytdoiphejockfhag", sum := "2ea7d5062b886c69fb206876a0799f3a5c90811edb931752d220e13f846baf2e", func := "loop.example/g00175/laws.FnExactGet4", spec := "fnExactGet4", apart := false, narrowed := true }
def FnExactGet4UptoSaid : Prop := fnExactGet4UptoRow.holds Try.pinned (OpenSpec.upto fnExactGet4Spec)

/-- 'laws.FnExactPutText', WHERE WHAT IT READS IS OF BULK AT MOST 1048576: true; the input reads as it did. -/
def fnExactPutTextUptoRow : OpenClaim := { program := "ytdoiphejockfhag", sum := "2ea7d5062b886c69fb206876a0799f3a5c90811edb931752d220e13f846baf2e", func := "loop.example/g00175/laws.FnExactPutText", spec := "fnExactPutText", apart := false, narrowed := true }
def FnExactPutTextUptoSaid : Prop := fnExactPutTextUptoRow.holds Try.pinned (OpenSpec.upto fnExactPutTextSpec)

/-- 'laws.FnExactNameRight', WHERE WHAT IT READS IS OF BULK AT MOST 1048576: true; the input reads as it did. -/
def fnExactNameRightUptoRow : OpenClaim := { program := "ytdoiphejockfhag", sum := "2ea7d5062b886c69fb206876a0799f3a5c90811edb931752d220e13f846baf2e", func := "loop.example/g00175/laws.FnExactNameRight", spec := "fnExactNameRight", apart := false, narrowed := true }
def FnExactNameRightUptoSaid : Prop := fnExactNameRightUptoRow.holds Try.pinned (OpenSpec.upto fnExactNameRightSpec)

/-- 'laws.FnExactTypeRight', WHERE WHAT IT READS IS OF BULK AT MOST 1048576: true; the input reads as it did. -/
def fnExactTypeRightUptoRow : OpenClaim := { program := "ytdoiphejockfhag", sum := "2ea7d5062b886c69fb206876a0799f3a5c90811edb931752d220e13f846baf2e", func := "loop.example/g00175/laws.FnExactTypeRight", spec := "fnExactTypeRight", recurses := true, apart := false, narrowed := true }
def FnExactTypeRightUptoSaid : Prop := fnExactTypeRightUptoRow.holds Try.pinned (OpenSpec.upto fnExactTypeRightSpec)

/-- 'laws.FnExactTypeClass', WHERE WHAT IT READS IS OF BULK AT MOST 1048576: true; the input reads as it did. -/
def fnExactTypeClassUptoRow : OpenClaim := { program := "ytdoiphejockfhag", sum := "2ea7d5062b886c69fb206876a0799f3a5c90811edb931752d220e13f846baf2e", func := "loop.example/g00175/laws.FnExactTypeClass", spec := "fnExactTypeClass", recurses := true, apart := false, narrowed := true }
def FnExactTypeClassUptoSaid : Prop := fnExactTypeClassUptoRow.holds Try.pinned (OpenSpec.upto fnExactTypeClassSpec)

end Rows
end Go.Proofs.Ytdoiphejockfhag
