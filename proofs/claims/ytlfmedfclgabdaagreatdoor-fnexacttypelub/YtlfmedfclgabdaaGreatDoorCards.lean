/-
  DERIVED. GIVEN WITH THE SEED: THE CARDS: each row of YtlfmedfclgabdaaGreatDoorRows.lean that lists a variable, with what it lists TIED to the program's text (the seventh form; the later family's looks); each row that meets fmt, with fmt's text TOLD by the authors' own Lean function (tested against real Go, not proved from fmt's source: count such statements apart). THE CARD IS WHAT COUNTS. Prove the row's statement (the work); the ties are given (YtlfmedfclgabdaaGreatDoorTie.lean); close each card by the builder's one call (the guide's Derived/Test/ToyasCard.lean, 'card_holds'). Laid BY PROGRAM, IN A SANDBOX (cutbox-door.mjs). By AI agents, Wed Nov 11 2026. No macro, syntax, notation, axiom, sorry.
-/
import Derived.Test.YtlfmedfclgabdaaGreatDoorRows
import GoSem.ClaimSeven
namespace Go.Proofs.YtlfmedfclgabdaaGreatDoor
namespace Rows

/-- THE TIED CARD OF 'laws.FnExactTypeLe'. -/
def fnExactTypeLeCard : Claim7 := { stood := { row := fnExactTypeLeRow, standIns := [], harness := (true, "db133836e6f88b13114f3e5bdd79779f3130e163d6bc78af380d3cbe97503de3"), looks := true }, kinds := [], alts := [], laidByText := true, laidKinds := [.handle, .data], laidTests := true, laidLooks := .later }
def FnExactTypeLeCardSaid : Prop := Claim7.holds Tryz.pinned (.plain (OpenSpec.ofChange fnExactTypeLeSpec)) fnExactTypeLeCard

/-- THE TIED CARD OF 'laws.FnExactTypeLub'. -/
def fnExactTypeLubCard : Claim7 := { stood := { row := fnExactTypeLubRow, standIns := [], harness := (true, "db133836e6f88b13114f3e5bdd79779f3130e163d6bc78af380d3cbe97503de3"), looks := true }, kinds := [], alts := [], laidByText := true, laidKinds := [.handle, .data], laidTests := true, laidLooks := .later }
def FnExactTypeLubCardSaid : Prop := Claim7.holds Tryz.pinned (.plain (OpenSpec.ofChange fnExactTypeLubSpec)) fnExactTypeLubCard

/-- THE TIED CARD OF 'laws.FnExactFrameLe'. -/
def fnExactFrameLeCard : Claim7 := { stood := { row := fnExactFrameLeRow, standIns := [], harness := (true, "db133836e6f88b13114f3e5bdd79779f3130e163d6bc78af380d3cbe97503de3"), looks := true }, kinds := [], alts := [], laidByText := true, laidKinds := [.handle, .data], laidTests := true, laidLooks := .later }
def FnExactFrameLeCardSaid : Prop := Claim7.holds Tryz.pinned (.plain (OpenSpec.ofChange fnExactFrameLeSpec)) fnExactFrameLeCard

/-- THE TIED CARD OF 'laws.FnExactFrameLub'. -/
def fnExactFrameLubCard : Claim7 := { stood := { row := fnExactFrameLubRow, standIns := [], harness := (true, "db133836e6f88b13114f3e5bdd79779f3130e163d6bc78af380d3cbe97503de3"), looks := true }, kinds := [], alts := [], laidByText := true, laidKinds := [.handle, .data], laidTests := true, laidLooks := .later }
def FnExactFrameLubCardSaid : Prop := Claim7.holds Tryz.pinned (.plain (OpenSpec.ofChange fnExactFrameLubSpec)) fnExactFrameLubCard

/-- THE TIED CARD OF 'laws.FnExactFrameStart'. -/
def fnExactFrameStartCard : Claim7 := { stood := { row := fnExactFrameStartRow, standIns := [], harness := (true, "db133836e6f88b13114f3e5bdd79779f3130e163d6bc78af380d3cbe97503de3"), looks := true }, kinds := [], alts := [], laidByText := true, laidKinds := [.handle, .data], laidTests := true, laidLooks := .later }
def FnExactFrameStartCardSaid : Prop := Claim7.holds Tryz.pinned (.plain (OpenSpec.ofChange fnExactFrameStartSpec)) fnExactFrameStartCard

/-- THE SECOND FORM's CARD OF 'laws.FnExactTypeLe'. -/
def fnExactTypeLeUptoCard : Claim7 := { stood := { row := fnExactTypeLeUptoRow, standIns := [], harness := (true, "db133836e6f88b13114f3e5bdd79779f3130e163d6bc78af380d3cbe97503de3"), looks := true }, kinds := [], alts := [], laidByText := true, laidKinds := [.handle, .data], laidTests := true, laidLooks := .later }
def FnExactTypeLeUptoCardSaid : Prop := Claim7.holds Tryz.pinned (.plain (OpenSpec.upto fnExactTypeLeSpec)) fnExactTypeLeUptoCard

/-- THE SECOND FORM's CARD OF 'laws.FnExactTypeLub'. -/
def fnExactTypeLubUptoCard : Claim7 := { stood := { row := fnExactTypeLubUptoRow, standIns := [], harness := (true, "db133836e6f88b13114f3e5bdd79779f3130e163d6bc78af380d3cbe97503de3"), looks := true }, kinds := [], alts := [], laidByText := true, laidKinds := [.handle, .data], laidTests := true, laidLooks := .later }
def FnExactTypeLubUptoCardSaid : Prop := Claim7.holds Tryz.pinned (.plain (OpenSpec.upto fnExactTypeLubSpec)) fnExactTypeLubUptoCard

/-- THE SECOND FORM's CARD OF 'laws.FnExactFrameLe'. -/
def fnExactFrameLeUptoCard : Claim7 := { stood := { row := fnExactFrameLeUptoRow, standIns := [], harness := (true, "db133836e6f88b13114f3e5bdd79779f3130e163d6bc78af380d3cbe97503de3"), looks := true }, kinds := [], alts := [], laidByText := true, laidKinds := [.handle, .data], laidTests := true, laidLooks := .later }
def FnExactFrameLeUptoCardSaid : Prop := Claim7.holds Tryz.pinned (.plain (OpenSpec.upto fnExactFrameLeSpec)) fnExactFrameLeUptoCard

/-- THE SECOND FORM's CARD OF 'laws.FnExactFrameLub'. -/
def fnExactFrameLubUptoCard : Claim7 := { stood := { row := fnExactFrameLubUptoRow, standIns := [], harness := (true, "db133836e6f88b13114f3e5bdd79779f3130e163d6bc78af380d3cbe97503de3"), looks := true }, kinds := [], alts := [], laidByText := true, laidKinds := [.handle, .data], laidTests := true, laidLooks := .later }
def FnExactFrameLubUptoCardSaid : Prop := Claim7.holds Tryz.pinned (.plain (OpenSpec.upto fnExactFrameLubSpec)) fnExactFrameLubUptoCard

/-- THE SECOND FORM's CARD OF 'laws.FnExactFrameStart'. -/
def fnExactFrameStartUptoCard : Claim7 := { stood := { row := fnExactFrameStartUptoRow, standIns := [], harness := (true, "db133836e6f88b13114f3e5bdd79779f3130e163d6bc78af380d3cbe97503de3"), looks := true }, kinds := [], alts := [], laidByText := true, laidKinds := [.handle, .data], laidTests := true, laidLooks := .later }
def FnExactFrameStartUptoCardSaid : Prop := Claim7.holds Tryz.pinned (.plain (OpenSpec.upto fnExactFrameStartSpec)) fnExactFrameStartUptoCard
end Rows
end Go.Proofs.YtlfmedfclgabdaaGreatDoor
