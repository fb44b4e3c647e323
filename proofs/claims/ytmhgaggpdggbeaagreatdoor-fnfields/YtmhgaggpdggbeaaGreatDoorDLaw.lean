import Derived.Test.YtmhgaggpdggbeaaGreatDoorSplit
namespace Go.Proofs.YtmhgaggpdggbeaaGreatDoor
open Go.RowKit
set_option maxRecDepth 20000
set_option linter.unusedVariables false

end Go.Proofs.YtmhgaggpdggbeaaGreatDoor
