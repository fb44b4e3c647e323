/-
  DERIVED. GIVEN WITH THE SEED: THE CARDS: each row of YtdoiphejockfhahDoorRows.lean that lists a variable, with what it lists TIED to the program's text (the seventh form; the later family's looks); each row that meets fmt, with fmt's text TOLD by the authors' own Lean function (tested against real Go, not proved from fmt's source: count such statements apart). THE CARD IS WHAT COUNTS. Prove the row's statement (the work); the ties are given (YtdoiphejockfhahDoorTie.lean); close each card by the builder's one call (the guide's Derived/Test/ToyasCard.lean, 'card_holds'). Laid BY PROGRAM, IN A SANDBOX (cutbox-door.mjs). By AI agents, Wed Nov 11 2026. No macro, syntax, notation, axiom, sorry.
-/
import Derived.Test.YtdoiphejockfhahDoorRows
import GoSem.ClaimSeven
namespace Go.Proofs.YtdoiphejockfhahDoor
namespace Rows

/-- THE TIED CARD OF 'laws.FnExactDescRead'. -/
def fnExactDescReadCard : Claim7 := { stood := { row := fnExactDescReadRow, standIns := [], harness := (true, "7592ea301bf1d64cbdd9cfd2320ebe6291f4e1df2f1647e57cf53eb65f7493ec"), looks := true }, kinds := [], alts := [], laidByText := true, laidKinds := [.handle], laidTests := true, laidLooks := .later }
def FnExactDescReadCardSaid : Prop := Claim7.holds Tryd.pinned (.plain (OpenSpec.ofChange fnExactDescReadSpec)) fnExactDescReadCard

/-- THE TIED CARD OF 'laws.FnExactDescSlots'. -/
def fnExactDescSlotsCard : Claim7 := { stood := { row := fnExactDescSlotsRow, standIns := [], harness := (true, "7592ea301bf1d64cbdd9cfd2320ebe6291f4e1df2f1647e57cf53eb65f7493ec"), looks := true }, kinds := [], alts := [], laidByText := true, laidKinds := [.handle], laidTests := true, laidLooks := .later }
def FnExactDescSlotsCardSaid : Prop := Claim7.holds Tryd.pinned (.plain (OpenSpec.ofChange fnExactDescSlotsSpec)) fnExactDescSlotsCard

/-- THE SECOND FORM's CARD OF 'laws.FnExactDescRead'. -/
def fnExactDescReadUptoCard : Claim7 := { stood := { row := fnExactDescReadUptoRow, standIns := [], harness := (true, "7592ea301bf1d64cbdd9cfd2320ebe6291f4e1df2f1647e57cf53eb65f7493ec"), looks := true }, kinds := [], alts := [], laidByText := true, laidKinds := [.handle], laidTests := true, laidLooks := .later }
def FnExactDescReadUptoCardSaid : Prop := Claim7.holds Tryd.pinned (.plain (OpenSpec.upto fnExactDescReadSpec)) fnExactDescReadUptoCard

/-- THE SECOND FORM's CARD OF 'laws.FnExactDescSlots'. -/
def fnExactDescSlotsUptoCard : Claim7 := { stood := { row := fnExactDescSlotsUptoRow, standIns := [], harness := (true, "7592ea301bf1d64cbdd9cfd2320ebe6291f4e1df2f1647e57cf53eb65f7493ec"), looks := true }, kinds := [], alts := [], laidByText := true, laidKinds := [.handle], laidTests := true, laidLooks := .later }
def FnExactDescSlotsUptoCardSaid : Prop := Claim7.holds Tryd.pinned (.plain (OpenSpec.upto fnExactDescSlotsSpec)) fnExactDescSlotsUptoCard
end Rows
end Go.Proofs.YtdoiphejockfhahDoor
