/-
  The contract of l01Split of the model: the pieces between the separators.
-/
import Derived.Test.YthmdcciiaagcmajGet
import Derived.Test.YthmdcciiaagcmajStrs
import Derived.Laws.AppendOwn
import Derived.OwnWalk
namespace Go.Proofs.Ythmdcciiaagcmaj
open Go.RowKit
set_option linter.unusedVariables false

/-- The pieces from place i on, k bytes being left; the piece at hand begins at f. -/
def spl (t : ByteArray) (c : Int) : Nat → Nat → Nat → List ByteArray → List ByteArray
  | 0, _, f, acc => acc ++ [t.extract f t.size]
  | k + 1, i, f, acc => if byt t i = c then spl t c k (i + 1) (i + 1) (acc ++ [t.extract f i]) else spl t c k (i + 1) f acc

def sC (ps : List ByteArray) : List Value := ps.map Value.string

theorem sC_snoc (ps : List ByteArray) (y : ByteArray) : sC ps ++ [.string y] = sC (ps ++ [y]) := by simp [sC]

theorem splNews (w : World) (y : ByteArray) : ∀ j u, [Value.string y][j]? = some u → (w.alloc (.cells #[.string y] 9)).cell? ((⟨w.heap.size, 0, none⟩ : Addr).add j) = some u := by
  intro j u hj
  match j, hj with
  | 0, hj => simp at hj; subst hj; simp [Addr.add]

end Go.Proofs.Ythmdcciiaagcmaj
