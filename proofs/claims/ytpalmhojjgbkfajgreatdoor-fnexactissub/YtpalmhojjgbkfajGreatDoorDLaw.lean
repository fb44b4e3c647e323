import Derived.Test.YtpalmhojjgbkfajGreatDoorSplit
/-
  The contracts of the laws' own helpers on Descs (szDesc, toDesc, eqDesc).
-/
namespace Go.Proofs.YtpalmhojjgbkfajGreatDoor
open Go.RowKit
set_option maxRecDepth 20000
set_option linter.unusedVariables false

def descV (a : Option Addr) (n cap : Nat) (r : ByteArray) : Value := .agg #[.slice a n cap, .string r]

/-- How much is left behind a Desc. -/
def szD (xs : List ByteArray) (r : ByteArray) (left : Int) : Int := if left < (totS xs : Int) + (r.size : Int) then -1 else left - (totS xs : Int) - (r.size : Int)

end Go.Proofs.YtpalmhojjgbkfajGreatDoor
