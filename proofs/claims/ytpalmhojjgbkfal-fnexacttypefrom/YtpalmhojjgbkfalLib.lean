/-
  The contract of strings.Clone at this program: the same bytes; of what was there nothing has turned.
-/
import Derived.Test.YtpalmhojjgbkfalRows
import Derived.WalkKit
import Derived.ProofKit
import Derived.Below
import Derived.Test.YtpalmhojjgbkfalShelf
namespace Go.Proofs.Ytpalmhojjgbkfal
open Go.RowKit

theorem libClone (s : ByteArray) (w : World) (h : s.size ≤ 281474976710656) :
    Calls Try.prog 14 #[.string s] w fun e w' => e = .returned (.string s) ∧ Below w.heap.size w w' := by
  go_enter Try.func14, Try.ntmps14
  go_wp2_with fail
  refine (Try.stringslite_Clone s _ h).mono ?_
  rintro e w1 ⟨rfl, hb⟩
  go_wp2
  go_ret
  exact ⟨rfl, hb⟩
end Go.Proofs.Ytpalmhojjgbkfal
