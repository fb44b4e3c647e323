/-
  DERIVED. GIVEN WITH THE SEED: THE CARDS: each row of YtnenhhlgabghfaaGreatDoorRows.lean that lists a variable, with what it lists TIED to the program's text (the seventh form; the later family's looks); each row that meets fmt, with fmt's text TOLD by the authors' own Lean function (tested against real Go, not proved from fmt's source: count such statements apart). THE CARD IS WHAT COUNTS. Prove the row's statement (the work); the ties are given (YtnenhhlgabghfaaGreatDoorTie.lean); close each card by the builder's one call (the guide's Derived/Test/ToyasCard.lean, 'card_holds'). Laid BY PROGRAM, IN A SANDBOX (cutbox-door.mjs). By AI agents, Wed Nov 11 2026. No macro, syntax, notation, axiom, sorry.
-/
import Derived.Test.YtnenhhlgabghfaaGreatDoorRows
import GoSem.ClaimSeven
namespace Go.Proofs.YtnenhhlgabghfaaGreatDoor
namespace Rows

/-- THE TIED CARD OF 'laws.FnPool'. -/
def fnPoolCard : Claim7 := { stood := { row := fnPoolRow, standIns := [], harness := (true, "331bdfa9e9b10e587e212e593b937b5952e23c1003471fadab8a21d8d107df59"), looks := true }, kinds := [], alts := [], laidByText := true, laidKinds := [.handle, .data], laidTests := true, laidLooks := .later }
def FnPoolCardSaid : Prop := Claim7.holds Tryz.pinned (.plain (OpenSpec.ofChange fnPoolSpec)) fnPoolCard

/-- THE SECOND FORM's CARD OF 'laws.FnPool'. -/
def fnPoolUptoCard : Claim7 := { stood := { row := fnPoolUptoRow, standIns := [], harness := (true, "331bdfa9e9b10e587e212e593b937b5952e23c1003471fadab8a21d8d107df59"), looks := true }, kinds := [], alts := [], laidByText := true, laidKinds := [.handle, .data], laidTests := true, laidLooks := .later }
def FnPoolUptoCardSaid : Prop := Claim7.holds Tryz.pinned (.plain (OpenSpec.upto fnPoolSpec)) fnPoolUptoCard
end Rows
end Go.Proofs.YtnenhhlgabghfaaGreatDoor
