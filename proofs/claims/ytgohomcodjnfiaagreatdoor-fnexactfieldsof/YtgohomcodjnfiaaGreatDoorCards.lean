/-
  DERIVED. GIVEN WITH THE SEED: THE CARDS: each row of YtgohomcodjnfiaaGreatDoorRows.lean that lists a variable, with what it lists TIED to the program's text (the seventh form; the later family's looks); each row that meets fmt, with fmt's text TOLD by the authors' own Lean function (tested against real Go, not proved from fmt's source: count such statements apart). THE CARD IS WHAT COUNTS. Prove the row's statement (the work); the ties are given (YtgohomcodjnfiaaGreatDoorTie.lean); close each card by the builder's one call (the guide's Derived/Test/ToyasCard.lean, 'card_holds'). Laid BY PROGRAM, IN A SANDBOX (cutbox-door.mjs). By AI agents, Wed Nov 11 2026. No macro, syntax, notation, axiom, sorry.
-/
import Derived.Test.YtgohomcodjnfiaaGreatDoorRows
import GoSem.ClaimSeven
namespace Go.Proofs.YtgohomcodjnfiaaGreatDoor
namespace Rows

/-- THE TIED CARD OF 'laws.FnExactFieldsOf'. -/
def fnExactFieldsOfCard : Claim7 := { stood := { row := fnExactFieldsOfRow, standIns := [], harness := (true, "383a7866b6ff105ecc1380e1740bbcd36550d77ea101509339eed5bad3a340c3"), looks := true }, kinds := [], alts := [], laidByText := true, laidKinds := [.handle, .data], laidTests := true, laidLooks := .later }
def FnExactFieldsOfCardSaid : Prop := Claim7.holds Tryz.pinned (.plain (OpenSpec.ofChange fnExactFieldsOfSpec)) fnExactFieldsOfCard

/-- THE TIED CARD OF 'laws.FnExactFindField'. -/
def fnExactFindFieldCard : Claim7 := { stood := { row := fnExactFindFieldRow, standIns := [], harness := (true, "383a7866b6ff105ecc1380e1740bbcd36550d77ea101509339eed5bad3a340c3"), looks := true }, kinds := [], alts := [], laidByText := true, laidKinds := [.handle, .data], laidTests := true, laidLooks := .later }
def FnExactFindFieldCardSaid : Prop := Claim7.holds Tryz.pinned (.plain (OpenSpec.ofChange fnExactFindFieldSpec)) fnExactFindFieldCard

/-- THE SECOND FORM's CARD OF 'laws.FnExactFieldsOf'. -/
def fnExactFieldsOfUptoCard : Claim7 := { stood := { row := fnExactFieldsOfUptoRow, standIns := [], harness := (true, "383a7866b6ff105ecc1380e1740bbcd36550d77ea101509339eed5bad3a340c3"), looks := true }, kinds := [], alts := [], laidByText := true, laidKinds := [.handle, .data], laidTests := true, laidLooks := .later }
def FnExactFieldsOfUptoCardSaid : Prop := Claim7.holds Tryz.pinned (.plain (OpenSpec.upto fnExactFieldsOfSpec)) fnExactFieldsOfUptoCard

/-- THE SECOND FORM's CARD OF 'laws.FnExactFindField'. -/
def fnExactFindFieldUptoCard : Claim7 := { stood := { row := fnExactFindFieldUptoRow, standIns := [], harness := (true, "383a7866b6ff105ecc1380e1740bbcd36550d77ea101509339eed5bad3a340c3"), looks := true }, kinds := [], alts := [], laidByText := true, laidKinds := [.handle, .data], laidTests := true, laidLooks := .later }
def FnExactFindFieldUptoCardSaid : Prop := Claim7.holds Tryz.pinned (.plain (OpenSpec.upto fnExactFindFieldSpec)) fnExactFindFieldUptoCard
end Rows
end Go.Proofs.YtgohomcodjnfiaaGreatDoor
