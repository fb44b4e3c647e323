/-
  DERIVED. GIVEN WITH THE SEED: THE CARDS: each row of YteplkfhmflbmjaaGreatDoorRows.lean that lists a variable, with what it lists TIED to the program's text (the seventh form; the later family's looks); each row that meets fmt, with fmt's text TOLD by the authors' own Lean function (tested against real Go, not proved from fmt's source: count such statements apart). THE CARD IS WHAT COUNTS. Prove the row's statement (the work); the ties are given (YteplkfhmflbmjaaGreatDoorTie.lean); close each card by the builder's one call (the guide's Derived/Test/ToyasCard.lean, 'card_holds'). Laid BY PROGRAM, IN A SANDBOX (cutbox-door.mjs). By AI agents, Wed Nov 11 2026. No macro, syntax, notation, axiom, sorry.
-/
import Derived.Test.YteplkfhmflbmjaaGreatDoorRows
import GoSem.ClaimSeven
namespace Go.Proofs.YteplkfhmflbmjaaGreatDoor
namespace Rows

/-- THE TIED CARD OF 'laws.FnExactPoolOf'. -/
def fnExactPoolOfCard : Claim7 := { stood := { row := fnExactPoolOfRow, standIns := [], harness := (true, "6f5b63e3e028ce35c20ff04a0f8fefa78ef50c362e86e40d3ecfb2ef5a412ef4"), looks := true }, kinds := [], alts := [], laidByText := true, laidKinds := [.handle, .data], laidTests := true, laidLooks := .later }
def FnExactPoolOfCardSaid : Prop := Claim7.holds Tryz.pinned (.plain (OpenSpec.ofChange fnExactPoolOfSpec)) fnExactPoolOfCard

/-- THE TIED CARD OF 'laws.FnExactClassRead'. -/
def fnExactClassReadCard : Claim7 := { stood := { row := fnExactClassReadRow, standIns := [], harness := (true, "6f5b63e3e028ce35c20ff04a0f8fefa78ef50c362e86e40d3ecfb2ef5a412ef4"), looks := true }, kinds := [], alts := [], laidByText := true, laidKinds := [.handle, .data], laidTests := true, laidLooks := .later }
def FnExactClassReadCardSaid : Prop := Claim7.holds Tryz.pinned (.plain (OpenSpec.ofChange fnExactClassReadSpec)) fnExactClassReadCard

/-- THE SECOND FORM's CARD OF 'laws.FnExactPoolOf'. -/
def fnExactPoolOfUptoCard : Claim7 := { stood := { row := fnExactPoolOfUptoRow, standIns := [], harness := (true, "6f5b63e3e028ce35c20ff04a0f8fefa78ef50c362e86e40d3ecfb2ef5a412ef4"), looks := true }, kinds := [], alts := [], laidByText := true, laidKinds := [.handle, .data], laidTests := true, laidLooks := .later }
def FnExactPoolOfUptoCardSaid : Prop := Claim7.holds Tryz.pinned (.plain (OpenSpec.upto fnExactPoolOfSpec)) fnExactPoolOfUptoCard

/-- THE SECOND FORM's CARD OF 'laws.FnExactClassRead'. -/
def fnExactClassReadUptoCard : Claim7 := { stood := { row := fnExactClassReadUptoRow, standIns := [], harness := (true, "6f5b63e3e028ce35c20ff04a0f8fefa78ef50c362e86e40d3ecfb2ef5a412ef4"), looks := true }, kinds := [], alts := [], laidByText := true, laidKinds := [.handle, .data], laidTests := true, laidLooks := .later }
def FnExactClassReadUptoCardSaid : Prop := Claim7.holds Tryz.pinned (.plain (OpenSpec.upto fnExactClassReadSpec)) fnExactClassReadUptoCard
end Rows
end Go.Proofs.YteplkfhmflbmjaaGreatDoor
