/-
  The contract of strings.Clone at this program: the same bytes; of what was there nothing has turned.
-/
import Derived.Test.YtcfihaoofiagcaaDoorRows
import Derived.WalkKit
import Derived.ProofKit
import Derived.Below
import Derived.Test.YtcfihaoofiagcaaDoorShelf
namespace Go.Proofs.YtcfihaoofiagcaaDoor
open Go.RowKit

theorem libClone (s : ByteArray) (w : World) (h : s.size ≤ 281474976710656) :
    Calls Tryd.prog 25 #[.string s] w fun e w' => e = .returned (.string s) ∧ Below w.heap.size w w' := by
  go_enter Tryd.func25, Tryd.ntmps25
  go_wp2_with fail
  refine (Tryd.stringslite_Clone s _ h).mono ?_
  rintro e w1 ⟨rfl, hb⟩
  go_wp2
  go_ret
  exact ⟨rfl, hb⟩
end Go.Proofs.YtcfihaoofiagcaaDoor
