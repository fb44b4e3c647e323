/-
  DERIVED. GIVEN WITH THE SEED: THE CARDS: each row of YtpalmhojjgbkfalDoorRows.lean that lists a variable, with what it lists TIED to the program's text (the seventh form; the later family's looks); each row that meets fmt, with fmt's text TOLD by the authors' own Lean function (tested against real Go, not proved from fmt's source: count such statements apart). THE CARD IS WHAT COUNTS. Prove the row's statement (the work); the ties are given (YtpalmhojjgbkfalDoorTie.lean); close each card by the builder's one call (the guide's Derived/Test/ToyasCard.lean, 'card_holds'). Laid BY PROGRAM, IN A SANDBOX (cutbox-door.mjs). By AI agents, Wed Nov 11 2026. No macro, syntax, notation, axiom, sorry.
-/
import Derived.Test.YtpalmhojjgbkfalDoorRows
import GoSem.ClaimSeven
namespace Go.Proofs.YtpalmhojjgbkfalDoor
namespace Rows

/-- THE TIED CARD OF 'laws.FnExactTypeShown'. -/
def fnExactTypeShownCard : Claim7 := { stood := { row := fnExactTypeShownRow, standIns := [], harness := (true, "af8c203f973724670832b782ceb383cb268576ecc5f8c5b1fae23efd74bbbac9"), looks := false }, kinds := [], alts := [], laidByText := true, laidKinds := [.data, .data, .data], laidTests := true, laidLooks := .later }
def FnExactTypeShownCardSaid : Prop := Claim7.holds Tryd.pinned (.plain (OpenSpec.ofChange fnExactTypeShownSpec)) fnExactTypeShownCard

/-- THE SECOND FORM's CARD OF 'laws.FnExactTypeShown'. -/
def fnExactTypeShownUptoCard : Claim7 := { stood := { row := fnExactTypeShownUptoRow, standIns := [], harness := (true, "af8c203f973724670832b782ceb383cb268576ecc5f8c5b1fae23efd74bbbac9"), looks := false }, kinds := [], alts := [], laidByText := true, laidKinds := [.data, .data, .data], laidTests := true, laidLooks := .later }
def FnExactTypeShownUptoCardSaid : Prop := Claim7.holds Tryd.pinned (.plain (OpenSpec.upto fnExactTypeShownSpec)) fnExactTypeShownUptoCard
end Rows
end Go.Proofs.YtpalmhojjgbkfalDoor
