/-
  MethodRight of the model.
-/
import Derived.Test.YtgmlooemiokhfajGreatDoorMR1
namespace Go.Proofs.YtgmlooemiokhfajGreatDoor
open Go.RowKit
set_option maxRecDepth 20000
set_option linter.unusedVariables false

def restB (m : MethD) : Bool := decide (1 ≤ m.code.length ∧ m.code.length ≤ 60) && (decide (takenI m ≤ m.locals) && (decide (m.hands.length ≤ 6) && (codeB m.code m.code.length && (handsB m.hands m.code.length && (!initB m.name || (!m.static && (!m.fin && ((dR m.desc).toList == [86]))))))))
def mOk (m : MethD) : Bool := mNameB m.name && ((dC m.desc == 0) && (decide (0 ≤ m.stack) && (decide (m.stack ≤ 16) && (decide (0 ≤ m.locals) && (decide (m.locals ≤ 16) && (cond m.abs (absB m) (restB m)))))))

theorem init_name (n : ByteArray) (h : (n.toList == [60, 105, 110, 105, 116, 62]) = true) : nameB n = false := by
  rw [ByteArray.toList_eq, beq_iff_eq] at h
  have hs : n.size = 6 := by
    have : n.data.toList.length = 6 := by rw [h]; rfl
    simpa using this
  refine nameB_at n 0 (by omega) ?_
  have hb := byt_eq n 0 (by omega)
  have h0 : n[0]'(by omega) = 60 := by
    have h1 : n.data.toList[0]? = some 60 := by rw [h]; rfl
    have h2 : n.data[0]? = some 60 := by simpa using h1
    obtain ⟨h3, h4⟩ := Array.getElem?_eq_some_iff.1 h2
    exact h4
  rw [h0] at hb
  rw [← hb]
  rfl

end Go.Proofs.YtgmlooemiokhfajGreatDoor
