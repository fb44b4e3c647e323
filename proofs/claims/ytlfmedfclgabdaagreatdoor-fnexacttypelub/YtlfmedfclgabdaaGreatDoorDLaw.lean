import Derived.Test.YtlfmedfclgabdaaGreatDoorSplit
/-
 The contracts of the laws' own helpers on Descs (szDesc, toDesc, eqDesc).
-/
namespace Go.Proofs.YtlfmedfclgabdaaGreatDoor
open Go.RowKit
set_option maxRecDepth 20000
set_option linter.unusedVariables false

end Go.Proofs.YtlfmedfclgabdaaGreatDoor
