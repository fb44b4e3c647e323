import Derived.Test.YtdlhgjadobefgaaGreatDoorSplit
/-
 The contracts of the laws' own helpers on Descs (szDesc, toDesc, eqDesc).
-/
namespace Go.Proofs.YtdlhgjadobefgaaGreatDoor
open Go.RowKit
set_option maxRecDepth 20000
set_option linter.unusedVariables false

end Go.Proofs.YtdlhgjadobefgaaGreatDoor
