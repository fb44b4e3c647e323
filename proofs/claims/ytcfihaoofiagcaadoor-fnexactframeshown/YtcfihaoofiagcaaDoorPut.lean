/-
  The contracts of Put1, Put2 and Put4 of the model and of the program: each returns the bytes told by p1, p2, p4, at every number, and changes nothing that was there.
-/
import Derived.Test.YtcfihaoofiagcaaDoorRows
import Derived.WalkKit
import Derived.ProofKit
import Derived.OpenShut
import Derived.ShutString
import Derived.ChangeOld
import Derived.Below
import Derived.Laws.IdiomStrings
import Derived.Laws.BytesArg
import Derived.WalkLawsBesides
namespace Go.Proofs.YtcfihaoofiagcaaDoor
open Go.RowKit

theorem convLit (w : World) (xs : List Int) :
    (convert 50 9 (.slice (some ⟨w.heap.size, 0, none⟩) xs.length xs.length)).run Tryd.prog (w.alloc (.cells (xs.map (Value.int .u8)).toArray 5)) = .ok (.string (strOfNums xs)) (w.alloc (.cells (xs.map (Value.int .u8)).toArray 5)) := by
  refine run_convert_bytes_arg (P := Tryd.prog) (w.alloc (.cells (xs.map (Value.int .u8)).toArray 5)) 50 5 Tryd.underlying50 Tryd.underlying5 w.heap.size 0 xs.length xs.length xs rfl ?_ 9 Tryd.underlying9
  intro i hi
  have := World.cell?_alloc_mark w (xs.map (Value.int .u8)).toArray 5 (0, 0) i
  simp only [Nat.zero_add]
  refine this.trans ?_
  simp [List.getD, List.getElem?_eq_getElem hi]

def p1 (n : Int) : ByteArray := if 0 ≤ n ∧ n ≤ 255 then strOfNums [n] else ⟨#[]⟩
def p2 (n : Int) : ByteArray := if 0 ≤ n ∧ n ≤ 65535 then strOfNums [n / 256, n % 256] else ⟨#[]⟩
def p4 (n : Int) : ByteArray := if -2147483648 ≤ n ∧ n ≤ 2147483647 then strOfNums [n % 4294967296 / 16777216, n % 4294967296 / 65536 % 256, n % 4294967296 / 256 % 256, n % 256] else ⟨#[]⟩

end Go.Proofs.YtcfihaoofiagcaaDoor
