import Derived.Test.YtpalmhojjgbkfajGreatDoorWd4
import Derived.Test.YtpalmhojjgbkfajGreatDoorWd5
/-
  WorldCheck of the model.
-/
namespace Go.Proofs.YtpalmhojjgbkfajGreatDoor
open Go.RowKit
set_option maxRecDepth 20000
set_option linter.unusedVariables false
theorem specWorldCheck (L : List CTup) (v : Value) (w : World) (h : classR.slice.In w [v] L) :
    Calls Tryz.prog 20 #[v] w fun e w' => e = .returned (.agg #[.int .i64 (wOut L).1, .int .i64 (wOut L).2]) ∧ Below w.heap.size w w' :=
  specWorldCheckIf L v w h fun hp c vc vh w' hc hb h3 h4 => specAccess L v c vc vh w' hp hc (classR.slice.mono _ _ _ _ hb h) h3 h4
end Go.Proofs.YtpalmhojjgbkfajGreatDoor

/-
  Known, SuperOf, IsSub, CommonOf of the model.
-/
namespace Go.Proofs.YtpalmhojjgbkfajGreatDoor
open Go.RowKit
set_option linter.unusedVariables false

theorem Right.part {L : List CTup} (h : Right L) : Part L L.length := h.2.part (by omega)
theorem Right.acy {L : List CTup} (h : Right L) : AcyG nmC suC (allC L) := Past.acy fun q hq => h.2 q (by omega)
end Go.Proofs.YtpalmhojjgbkfajGreatDoor

/-
  Known, SuperOf, IsSub, CommonOf of the model.
-/
namespace Go.Proofs.YtpalmhojjgbkfajGreatDoor
open Go.RowKit
set_option linter.unusedVariables false

end Go.Proofs.YtpalmhojjgbkfajGreatDoor
