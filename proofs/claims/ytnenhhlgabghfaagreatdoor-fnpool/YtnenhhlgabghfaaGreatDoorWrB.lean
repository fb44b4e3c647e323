import Derived.Test.YtnenhhlgabghfaaGreatDoorWrC
import Derived.Test.YtnenhhlgabghfaaGreatDoorMkB
/-
 The program's ClassBytes and ClassSize, and the model's ClassSize.
-/
namespace Go.Proofs.YtnenhhlgabghfaaGreatDoor
open Go.RowKit
set_option maxRecDepth 20000
open Go.Lib (strCells)
set_option linter.unusedVariables false

theorem BufAt.start {w : World} {t : TypeId} : BufAt (w.alloc (.cells #[.slice none 0 0] t)) w.heap.size [] (.slice none 0 0) := by
 have hb : (w.alloc (.cells #[.slice none 0 0] t)).heap[w.heap.size]? = some (.cells #[.slice none 0 0] t (0, 0)) := heap_alloc_new w _
 refine ⟨by simp [go_sem], ?_, World.ownsRow_nil _ _ _ _, by simp⟩
 unfold World.frozen?; rw [hb]; rfl
end Go.Proofs.YtnenhhlgabghfaaGreatDoor
