import Derived.Test.YtgohomcodjnfiaaGreatDoorSplit
namespace Go.Proofs.YtgohomcodjnfiaaGreatDoor
open Go.RowKit
set_option maxRecDepth 20000
set_option linter.unusedVariables false

end Go.Proofs.YtgohomcodjnfiaaGreatDoor
