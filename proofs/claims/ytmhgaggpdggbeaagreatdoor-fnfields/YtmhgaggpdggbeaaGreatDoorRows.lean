/-
  NARROWER THAN 'FOR EVERY INPUT', by the rows' own cells (each row's printed sentence says how): FnExactFieldsOf: laid · FnExactFindField: laid · FnCommon: laid · FnFindMethod: laid · FnFields: laid · FnStands: laid.
  DERIVED. THE GIVEN ROWS OF THIS SEAT. 6 by the template 'for every input the law returns true; each argument reads behind the call as it read before'; 0 by the template 'total and deterministic' (their statements: YtmhgaggpdggbeaaGreatDoorTotals.lean).
  GIVEN WITH THE SEED: the statements are not yours to turn. If you find one false, say at which input.
  Laid BY PROGRAM, IN A SANDBOX (cutbox-rows.mjs): the forced cells as the released guide's own fill.sh prints them over the translation baf0959fada1cafa… (all of the seat's roots in one cut). By AI agents, Wed Nov 11 2026. No macro, syntax, notation, axiom, sorry.
-/
import Derived.Test.YtmhgaggpdggbeaaGreatDoorChecked
import GoSem.Claim
import GoSem.ClaimJoined
import GoSem.ClaimMapViews
import Derived.JoinedTies
import Derived.KernelRfl
namespace Go.Proofs.YtmhgaggpdggbeaaGreatDoor
/- THE CELL 'sum', in the pinned program and in every row, IS THE sha256 OF THE DUMP (.gsa) THAT YtmhgaggpdggbeaaGreatDoorProg.lean LOADS. Nothing in Lean hashes anything: it is a label: what it is worth is what the hold of that sum in a sandbox is worth. -/
noncomputable def Tryz.pinned : Pinned := { name := "ytmhgaggpdggbeaagreatdoor", sum := "baf0959fada1cafaa926293c0a47661ad697b155d1c3c848ae0cc22ce4eec887", checked := Tryz.checked }
namespace Rows
def none {H : Type} : Left H := { results := [], args := [] }

/- WHAT THE LISTED PACKAGE-LEVEL VARIABLES READ AS WHEN THE CALL BEGINS. Each datum BY PROGRAM (the guide's laid-datum.mjs) off the statement by which the dump's own 'gosem.cut.vars' lays the variable. In a bare row this is a premise. The card (YtmhgaggpdggbeaaGreatDoorCards.lean) ties it to the program's text. -/
def laid_errors_errorType {H : Type} : DataW H := .iface "internal/reflectlite.rtype" (.agg [.ptr (.lit (.string [101, 114, 114, 111, 114]))])
def laid_loop_example_g00175_impl_opTable {H : Type} : DataW H := .agg [.agg [.lit (.string []), .lit (.string [33])], .agg [.lit (.string [99, 111, 110, 115, 116]), .lit (.string [110])], .agg [.lit (.string [110, 117, 108, 108]), .lit (.string [])], .agg [.lit (.string [108, 111, 97, 100]), .lit (.string [105])], .agg [.lit (.string [115, 116, 111, 114, 101]), .lit (.string [105])], .agg [.lit (.string [112, 111, 112]), .lit (.string [])], .agg [.lit (.string [100, 117, 112]), .lit (.string [])], .agg [.lit (.string [115, 119, 97, 112]), .lit (.string [])], .agg [.lit (.string [97, 100, 100]), .lit (.string [])], .agg [.lit (.string [115, 117, 98]), .lit (.string [])], .agg [.lit (.string [109, 117, 108]), .lit (.string [])], .agg [.lit (.string [100, 105, 118]), .lit (.string [])], .agg [.lit (.string [114, 101, 109]), .lit (.string [])], .agg [.lit (.string [97, 110, 100]), .lit (.string [])], .agg [.lit (.string [111, 114]), .lit (.string [])], .agg [.lit (.string [120, 111, 114]), .lit (.string [])], .agg [.lit (.string [115, 104, 108]), .lit (.string [])], .agg [.lit (.string [115, 104, 114]), .lit (.string [])], .agg [.lit (.string [117, 115, 104, 114]), .lit (.string [])], .agg [.lit (.string [103, 111, 116, 111]), .lit (.string [116])], .agg [.lit (.string [105, 102, 101, 113]), .lit (.string [116])], .agg [.lit (.string [105, 102, 108, 116]), .lit (.string [116])], .agg [.lit (.string [105, 102, 115, 97, 109, 101]), .lit (.string [116])], .agg [.lit (.string [105, 102, 108, 101, 115, 115]), .lit (.string [116])], .agg [.lit (.string [105, 102, 110, 117, 108, 108]), .lit (.string [116])], .agg [.lit (.string [105, 102, 105, 115]), .lit (.string [116])], .agg [.lit (.string [114, 101, 116, 117, 114, 110]), .lit (.string [])], .agg [.lit (.string [105, 114, 101, 116, 117, 114, 110]), .lit (.string [])], .agg [.lit (.string [97, 114, 101, 116, 117, 114, 110]), .lit (.string [])], .agg [.lit (.string [116, 104, 114, 111, 119]), .lit (.string [])], .agg [.lit (.string [100, 117, 112, 50]), .lit (.string [])], .agg [.lit (.string [110, 101, 119]), .lit (.string [99])], .agg [.lit (.string [103, 101, 116, 102, 105, 101, 108, 100]), .lit (.string [102])], .agg [.lit (.string [112, 117, 116, 102, 105, 101, 108, 100]), .lit (.string [102])], .agg [.lit (.string [103, 101, 116, 115, 116, 97, 116, 105, 99]), .lit (.string [102])], .agg [.lit (.string [112, 117, 116, 115, 116, 97, 116, 105, 99]), .lit (.string [102])], .agg [.lit (.string [99, 97, 108, 108]), .lit (.string [109])], .agg [.lit (.string [99, 97, 108, 108, 115, 116, 97, 116, 105, 99]), .lit (.string [109])], .agg [.lit (.string [99, 97, 108, 108, 115, 112, 101, 99, 105, 97, 108]), .lit (.string [109])], .agg [.lit (.string [99, 97, 115, 116]), .lit (.string [99])], .agg [.lit (.string [105, 115, 111, 102]), .lit (.string [99])], .agg [.lit (.string [110, 101, 119, 108, 105, 115, 116]), .lit (.string [121])], .agg [.lit (.string [103, 101, 116]), .lit (.string [])], .agg [.lit (.string [112, 117, 116]), .lit (.string [])], .agg [.lit (.string [115, 105, 122, 101]), .lit (.string [])]]

/-- 'laws.FnExactFieldsOf': WHATEVER THE INPUT: true; the input reads as it did. -/
def fnExactFieldsOfSpec : ChangeSpec := { name := "fnExactFieldsOf", vars := ["loop.example/g00175/impl.opTable"], fn := fun _ => fun
  | [d1, d2, g1] => { results := [.lit (.bool true)], args := [d1, d2], vars := [g1] }
  | _ => none }
def fnExactFieldsOfRow : OpenClaim := { program := "ytmhgaggpdggbeaagreatdoor", sum := "baf0959fada1cafaa926293c0a47661ad697b155d1c3c848ae0cc22ce4eec887", func := "loop.example/g00175/laws.FnExactFieldsOf", spec := "fnExactFieldsOf", inPlace := ["internal/reflectlite.ValueOf", "(internal/reflectlite.Value).Type", "(internal/reflectlite.Value).IsNil", "internal/reflectlite.TypeOf", "(internal/reflectlite.Value).Elem", "(internal/reflectlite.Value).Set"], unfollowed := true, recurses := true, named := ["errors.errorType", "loop.example/g00175/impl.opTable"], plainKeys := false, apart := false, laid := [("errors.errorType", laid_errors_errorType), ("loop.example/g00175/impl.opTable", laid_loop_example_g00175_impl_opTable)] }
def FnExactFieldsOfSaid : Prop := fnExactFieldsOfRow.holds Tryz.pinned (OpenSpec.ofChange fnExactFieldsOfSpec)

/-- ITS FALSE NEIGHBOUR: 'it returns false'. Refute it at one input. -/
def fnExactFieldsOfWrong : ChangeSpec := { name := "fnExactFieldsOf", vars := ["loop.example/g00175/impl.opTable"], fn := fun _ => fun
  | [d1, d2, g1] => { results := [.lit (.bool false)], args := [d1, d2], vars := [g1] }
  | _ => none }
def FnExactFieldsOfWrongFalsely : Prop := fnExactFieldsOfRow.holds Tryz.pinned (OpenSpec.ofChange fnExactFieldsOfWrong)

/-- 'laws.FnExactFindField': WHATEVER THE INPUT: true; the input reads as it did. -/
def fnExactFindFieldSpec : ChangeSpec := { name := "fnExactFindField", vars := ["loop.example/g00175/impl.opTable"], fn := fun _ => fun
  | [d1, d2, d3, d4, g1] => { results := [.lit (.bool true)], args := [d1, d2, d3, d4], vars := [g1] }
  | _ => none }
def fnExactFindFieldRow : OpenClaim := { program := "ytmhgaggpdggbeaagreatdoor", sum := "baf0959fada1cafaa926293c0a47661ad697b155d1c3c848ae0cc22ce4eec887", func := "loop.example/g00175/laws.FnExactFindField", spec := "fnExactFindField", inPlace := ["internal/reflectlite.ValueOf", "(internal/reflectlite.Value).Type", "(internal/reflectlite.Value).IsNil", "internal/reflectlite.TypeOf", "(internal/reflectlite.Value).Elem", "(internal/reflectlite.Value).Set"], unfollowed := true, recurses := true, named := ["errors.errorType", "loop.example/g00175/impl.opTable"], plainKeys := false, apart := false, laid := [("errors.errorType", laid_errors_errorType), ("loop.example/g00175/impl.opTable", laid_loop_example_g00175_impl_opTable)] }
def FnExactFindFieldSaid : Prop := fnExactFindFieldRow.holds Tryz.pinned (OpenSpec.ofChange fnExactFindFieldSpec)

/-- ITS FALSE NEIGHBOUR: 'it returns false'. Refute it at one input. -/
def fnExactFindFieldWrong : ChangeSpec := { name := "fnExactFindField", vars := ["loop.example/g00175/impl.opTable"], fn := fun _ => fun
  | [d1, d2, d3, d4, g1] => { results := [.lit (.bool false)], args := [d1, d2, d3, d4], vars := [g1] }
  | _ => none }
def FnExactFindFieldWrongFalsely : Prop := fnExactFindFieldRow.holds Tryz.pinned (OpenSpec.ofChange fnExactFindFieldWrong)

/-- 'laws.FnCommon': WHATEVER THE INPUT: true; the input reads as it did. -/
def fnCommonSpec : ChangeSpec := { name := "fnCommon", vars := ["loop.example/g00175/impl.opTable"], fn := fun _ => fun
  | [d1, d2, g1] => { results := [.lit (.bool true)], args := [d1, d2], vars := [g1] }
  | _ => none }
def fnCommonRow : OpenClaim := { program := "ytmhgaggpdggbeaagreatdoor", sum := "baf0959fada1cafaa926293c0a47661ad697b155d1c3c848ae0cc22ce4eec887", func := "loop.example/g00175/laws.FnCommon", spec := "fnCommon", inPlace := ["internal/reflectlite.ValueOf", "(internal/reflectlite.Value).Type", "(internal/reflectlite.Value).IsNil", "internal/reflectlite.TypeOf", "(internal/reflectlite.Value).Elem", "(internal/reflectlite.Value).Set"], unfollowed := true, recurses := true, named := ["errors.errorType", "loop.example/g00175/impl.opTable"], plainKeys := false, apart := false, laid := [("errors.errorType", laid_errors_errorType), ("loop.example/g00175/impl.opTable", laid_loop_example_g00175_impl_opTable)] }
def FnCommonSaid : Prop := fnCommonRow.holds Tryz.pinned (OpenSpec.ofChange fnCommonSpec)

/-- ITS FALSE NEIGHBOUR: 'it returns false'. Refute it at one input. -/
def fnCommonWrong : ChangeSpec := { name := "fnCommon", vars := ["loop.example/g00175/impl.opTable"], fn := fun _ => fun
  | [d1, d2, g1] => { results := [.lit (.bool false)], args := [d1, d2], vars := [g1] }
  | _ => none }
def FnCommonWrongFalsely : Prop := fnCommonRow.holds Tryz.pinned (OpenSpec.ofChange fnCommonWrong)

/-- 'laws.FnFindMethod': WHATEVER THE INPUT: true; the input reads as it did. -/
def fnFindMethodSpec : ChangeSpec := { name := "fnFindMethod", vars := ["loop.example/g00175/impl.opTable"], fn := fun _ => fun
  | [d, g1] => { results := [.lit (.bool true)], args := [d], vars := [g1] }
  | _ => none }
def fnFindMethodRow : OpenClaim := { program := "ytmhgaggpdggbeaagreatdoor", sum := "baf0959fada1cafaa926293c0a47661ad697b155d1c3c848ae0cc22ce4eec887", func := "loop.example/g00175/laws.FnFindMethod", spec := "fnFindMethod", inPlace := ["internal/reflectlite.ValueOf", "(internal/reflectlite.Value).Type", "(internal/reflectlite.Value).IsNil", "internal/reflectlite.TypeOf", "(internal/reflectlite.Value).Elem", "(internal/reflectlite.Value).Set"], unfollowed := true, recurses := true, named := ["errors.errorType", "loop.example/g00175/impl.opTable"], plainKeys := false, apart := false, laid := [("errors.errorType", laid_errors_errorType), ("loop.example/g00175/impl.opTable", laid_loop_example_g00175_impl_opTable)] }
def FnFindMethodSaid : Prop := fnFindMethodRow.holds Tryz.pinned (OpenSpec.ofChange fnFindMethodSpec)

/-- ITS FALSE NEIGHBOUR: 'it returns false'. Refute it at one input. -/
def fnFindMethodWrong : ChangeSpec := { name := "fnFindMethod", vars := ["loop.example/g00175/impl.opTable"], fn := fun _ => fun
  | [d, g1] => { results := [.lit (.bool false)], args := [d], vars := [g1] }
  | _ => none }
def FnFindMethodWrongFalsely : Prop := fnFindMethodRow.holds Tryz.pinned (OpenSpec.ofChange fnFindMethodWrong)

/-- 'laws.FnFields': WHATEVER THE INPUT: true; the input reads as it did. -/
def fnFieldsSpec : ChangeSpec := { name := "fnFields", vars := ["loop.example/g00175/impl.opTable"], fn := fun _ => fun
  | [d, g1] => { results := [.lit (.bool true)], args := [d], vars := [g1] }
  | _ => none }
def fnFieldsRow : OpenClaim := { program := "ytmhgaggpdggbeaagreatdoor", sum := "baf0959fada1cafaa926293c0a47661ad697b155d1c3c848ae0cc22ce4eec887", func := "loop.example/g00175/laws.FnFields", spec := "fnFields", inPlace := ["internal/reflectlite.ValueOf", "(internal/reflectlite.Value).Type", "(internal/reflectlite.Value).IsNil", "internal/reflectlite.TypeOf", "(internal/reflectlite.Value).Elem", "(internal/reflectlite.Value).Set"], unfollowed := true, recurses := true, named := ["errors.errorType", "loop.example/g00175/impl.opTable"], plainKeys := false, apart := false, laid := [("errors.errorType", laid_errors_errorType), ("loop.example/g00175/impl.opTable", laid_loop_example_g00175_impl_opTable)] }
def FnFieldsSaid : Prop := fnFieldsRow.holds Tryz.pinned (OpenSpec.ofChange fnFieldsSpec)

/-- ITS FALSE NEIGHBOUR: 'it returns false'. Refute it at one input. -/
def fnFieldsWrong : ChangeSpec := { name := "fnFields", vars := ["loop.example/g00175/impl.opTable"], fn := fun _ => fun
  | [d, g1] => { results := [.lit (.bool false)], args := [d], vars := [g1] }
  | _ => none }
def FnFieldsWrongFalsely : Prop := fnFieldsRow.holds Tryz.pinned (OpenSpec.ofChange fnFieldsWrong)

/-- 'laws.FnStands': WHATEVER THE INPUT: true; the input reads as it did. -/
def fnStandsSpec : ChangeSpec := { name := "fnStands", vars := ["loop.example/g00175/impl.opTable"], fn := fun _ => fun
  | [d, g1] => { results := [.lit (.bool true)], args := [d], vars := [g1] }
  | _ => none }
def fnStandsRow : OpenClaim := { program := "ytmhgaggpdggbeaagreatdoor", sum := "baf0959fada1cafaa926293c0a47661ad697b155d1c3c848ae0cc22ce4eec887", func := "loop.example/g00175/laws.FnStands", spec := "fnStands", inPlace := ["internal/reflectlite.ValueOf", "(internal/reflectlite.Value).Type", "(internal/reflectlite.Value).IsNil", "internal/reflectlite.TypeOf", "(internal/reflectlite.Value).Elem", "(internal/reflectlite.Value).Set"], unfollowed := true, recurses := true, named := ["errors.errorType", "loop.example/g00175/impl.opTable"], plainKeys := false, apart := false, laid := [("errors.errorType", laid_errors_errorType), ("loop.example/g00175/impl.opTable", laid_loop_example_g00175_impl_opTable)] }
def FnStandsSaid : Prop := fnStandsRow.holds Tryz.pinned (OpenSpec.ofChange fnStandsSpec)

/-- ITS FALSE NEIGHBOUR: 'it returns false'. Refute it at one input. -/
def fnStandsWrong : ChangeSpec := { name := "fnStands", vars := ["loop.example/g00175/impl.opTable"], fn := fun _ => fun
  | [d, g1] => { results := [.lit (.bool false)], args := [d], vars := [g1] }
  | _ => none }
def FnStandsWrongFalsely : Prop := fnStandsRow.holds Tryz.pinned (OpenSpec.ofChange fnStandsWrong)

/- THE SECOND FORM. 'bulk': how many values and letters a reading holds, each counted each time it is reached (what is shared counts as often as it is met; a slice's spare places count too). A statement '..UptoSaid' is the law's where the arguments, and the package variables that the reading takes, are together of bulk at most 1048576: NARROWER than '..Said'. Prove '..Said' where nothing that the law and all that it calls make is longer than what came in: it says more and counts as full. Else prove '..UptoSaid'. A law counts once. -/
mutual
def uptoBulk {H : Type} : DataW H → Nat
  | .lit (.string bytes) => bytes.length + 1
  | .lit _ => 1
  | .nil => 1
  | .ptr d => uptoBulk d + 1
  | .slice elems spare => uptoBulkAll elems + uptoBulkAll spare + 1
  | .agg parts => uptoBulkAll parts + 1
  | .iface _ d => uptoBulk d + 1
  | .map entries => uptoBulkEntries entries + 1
  | .held _ => 1
def uptoBulkAll {H : Type} : List (DataW H) → Nat
  | [] => 0
  | d :: r => uptoBulk d + uptoBulkAll r
def uptoBulkEntries {H : Type} : List (Lit × DataW H) → Nat
  | [] => 0
  | x :: r => uptoBulkEntry x + uptoBulkEntries r
def uptoBulkEntry {H : Type} : Lit × DataW H → Nat
  | (.string bytes, d) => bytes.length + uptoBulk d + 1
  | (_, d) => uptoBulk d + 1
 end
def uptoSmall : (H : Type) → List (DataW H) → Bool := fun _ ds => decide (uptoBulkAll ds ≤ 1048576)
def OpenSpec.upto (s : _root_.Go.ChangeSpec) : _root_.Go.OpenSpec := { _root_.Go.OpenSpec.ofChange s with cond := some uptoSmall }

/-- 'laws.FnExactFieldsOf', WHERE WHAT IT READS IS OF BULK AT MOST 1048576: true; the input reads as it did. -/
def fnExactFieldsOfUptoRow : OpenClaim := { program := "ytmhgaggpdggbeaagreatdoor", sum := "baf0959fada1cafaa926293c0a47661ad697b155d1c3c848ae0cc22ce4eec887", func := "loop.example/g00175/laws.FnExactFieldsOf", spec := "fnExactFieldsOf", inPlace := ["internal/reflectlite.ValueOf", "(internal/reflectlite.Value).Type", "(internal/reflectlite.Value).IsNil", "internal/reflectlite.TypeOf", "(internal/reflectlite.Value).Elem", "(internal/reflectlite.Value).Set"], unfollowed := true, recurses := true, named := ["errors.errorType", "loop.example/g00175/impl.opTable"], plainKeys := false, apart := false, laid := [("errors.errorType", laid_errors_errorType), ("loop.example/g00175/impl.opTable", laid_loop_example_g00175_impl_opTable)], narrowed := true }
def FnExactFieldsOfUptoSaid : Prop := fnExactFieldsOfUptoRow.holds Tryz.pinned (OpenSpec.upto fnExactFieldsOfSpec)

/-- 'laws.FnExactFindField', WHERE WHAT IT READS IS OF BULK AT MOST 1048576: true; the input reads as it did. -/
def fnExactFindFieldUptoRow : OpenClaim := { program := "ytmhgaggpdggbeaagreatdoor", sum := "baf0959fada1cafaa926293c0a47661ad697b155d1c3c848ae0cc22ce4eec887", func := "loop.example/g00175/laws.FnExactFindField", spec := "fnExactFindField", inPlace := ["internal/reflectlite.ValueOf", "(internal/reflectlite.Value).Type", "(internal/reflectlite.Value).IsNil", "internal/reflectlite.TypeOf", "(internal/reflectlite.Value).Elem", "(internal/reflectlite.Value).Set"], unfollowed := true, recurses := true, named := ["errors.errorType", "loop.example/g00175/impl.opTable"], plainKeys := false, apart := false, laid := [("errors.errorType", laid_errors_errorType), ("loop.example/g00175/impl.opTable", laid_loop_example_g00175_impl_opTable)], narrowed := true }
def FnExactFindFieldUptoSaid : Prop := fnExactFindFieldUptoRow.holds Tryz.pinned (OpenSpec.upto fnExactFindFieldSpec)

/-- 'laws.FnCommon', WHERE WHAT IT READS IS OF BULK AT MOST 1048576: true; the input reads as it did. -/
def fnCommonUptoRow : OpenClaim := { program := "ytmhgaggpdggbeaagreatdoor", sum := "baf0959fada1cafaa926293c0a47661ad697b155d1c3c848ae0cc22ce4eec887", func := "loop.example/g00175/laws.FnCommon", spec := "fnCommon", inPlace := ["internal/reflectlite.ValueOf", "(internal/reflectlite.Value).Type", "(internal/reflectlite.Value).IsNil", "internal/reflectlite.TypeOf", "(internal/reflectlite.Value).Elem", "(internal/reflectlite.Value).Set"], unfollowed := true, recurses := true, named := ["errors.errorType", "loop.example/g00175/impl.opTable"], plainKeys := false, apart := false, laid := [("errors.errorType", laid_errors_errorType), ("loop.example/g00175/impl.opTable", laid_loop_example_g00175_impl_opTable)], narrowed := true }
def FnCommonUptoSaid : Prop := fnCommonUptoRow.holds Tryz.pinned (OpenSpec.upto fnCommonSpec)

/-- 'laws.FnFindMethod', WHERE WHAT IT READS IS OF BULK AT MOST 1048576: true; the input reads as it did. -/
def fnFindMethodUptoRow : OpenClaim := { program := "ytmhgaggpdggbeaagreatdoor", sum := "baf0959fada1cafaa926293c0a47661ad697b155d1c3c848ae0cc22ce4eec887", func := "loop.example/g00175/laws.FnFindMethod", spec := "fnFindMethod", inPlace := ["internal/reflectlite.ValueOf", "(internal/reflectlite.Value).Type", "(internal/reflectlite.Value).IsNil", "internal/reflectlite.TypeOf", "(internal/reflectlite.Value).Elem", "(internal/reflectlite.Value).Set"], unfollowed := true, recurses := true, named := ["errors.errorType", "loop.example/g00175/impl.opTable"], plainKeys := false, apart := false, laid := [("errors.errorType", laid_errors_errorType), ("loop.example/g00175/impl.opTable", laid_loop_example_g00175_impl_opTable)], narrowed := true }
def FnFindMethodUptoSaid : Prop := fnFindMethodUptoRow.holds Tryz.pinned (OpenSpec.upto fnFindMethodSpec)

/-- 'laws.FnFields', WHERE WHAT IT READS IS OF BULK AT MOST 1048576: true; the input reads as it did. -/
def fnFieldsUptoRow : OpenClaim := { program := "ytmhgaggpdggbeaagreatdoor", sum := "baf0959fada1cafaa926293c0a47661ad697b155d1c3c848ae0cc22ce4eec887", func := "loop.example/g00175/laws.FnFields", spec := "fnFields", inPlace := ["internal/reflectlite.ValueOf", "(internal/reflectlite.Value).Type", "(internal/reflectlite.Value).IsNil", "internal/reflectlite.TypeOf", "(internal/reflectlite.Value).Elem", "(internal/reflectlite.Value).Set"], unfollowed := true, recurses := true, named := ["errors.errorType", "loop.example/g00175/impl.opTable"], plainKeys := false, apart := false, laid := [("errors.errorType", laid_errors_errorType), ("loop.example/g00175/impl.opTable", laid_loop_example_g00175_impl_opTable)], narrowed := true }
def FnFieldsUptoSaid : Prop := fnFieldsUptoRow.holds Tryz.pinned (OpenSpec.upto fnFieldsSpec)

/-- 'laws.FnStands', WHERE WHAT IT READS IS OF BULK AT MOST 1048576: true; the input reads as it did. -/
def fnStandsUptoRow : OpenClaim := { program := "ytmhgaggpdggbeaagreatdoor", sum := "baf0959fada1cafaa926293c0a47661ad697b155d1c3c848ae0cc22ce4eec887", func := "loop.example/g00175/laws.FnStands", spec := "fnStands", inPlace := ["internal/reflectlite.ValueOf", "(internal/reflectlite.Value).Type", "(internal/reflectlite.Value).IsNil", "internal/reflectlite.TypeOf", "(internal/reflectlite.Value).Elem", "(internal/reflectlite.Value).Set"], unfollowed := true, recurses := true, named := ["errors.errorType", "loop.example/g00175/impl.opTable"], plainKeys := false, apart := false, laid := [("errors.errorType", laid_errors_errorType), ("loop.example/g00175/impl.opTable", laid_loop_example_g00175_impl_opTable)], narrowed := true }
def FnStandsUptoSaid : Prop := fnStandsUptoRow.holds Tryz.pinned (OpenSpec.upto fnStandsSpec)

end Rows
end Go.Proofs.YtmhgaggpdggbeaaGreatDoor
