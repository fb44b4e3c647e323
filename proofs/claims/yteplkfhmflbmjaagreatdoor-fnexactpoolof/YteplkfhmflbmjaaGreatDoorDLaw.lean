import Derived.Test.YteplkfhmflbmjaaGreatDoorSplit
/-
 The contracts of the laws' own helpers on Descs (szDesc, toDesc, eqDesc).
-/
namespace Go.Proofs.YteplkfhmflbmjaaGreatDoor
open Go.RowKit
set_option maxRecDepth 20000
set_option linter.unusedVariables false

end Go.Proofs.YteplkfhmflbmjaaGreatDoor
