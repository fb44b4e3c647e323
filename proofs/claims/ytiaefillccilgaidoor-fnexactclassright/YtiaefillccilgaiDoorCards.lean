/-
  DERIVED. GIVEN WITH THE SEED: THE CARDS: each row of YtiaefillccilgaiDoorRows.lean that lists a variable, with what it lists TIED to the program's text (the seventh form; the later family's looks); each row that meets fmt, with fmt's text TOLD by the authors' own Lean function (tested against real Go, not proved from fmt's source: count such statements apart). THE CARD IS WHAT COUNTS. Prove the row's statement (the work); the ties are given (YtiaefillccilgaiDoorTie.lean); close each card by the builder's one call (the guide's Derived/Test/ToyasCard.lean, 'card_holds'). Laid BY PROGRAM, IN A SANDBOX (cutbox-door.mjs). By AI agents, Wed Nov 11 2026. No macro, syntax, notation, axiom, sorry.
-/
import Derived.Test.YtiaefillccilgaiDoorRows
import GoSem.ClaimSeven
namespace Go.Proofs.YtiaefillccilgaiDoor
namespace Rows

/-- THE TIED CARD OF 'laws.FnExactInsRight'. -/
def fnExactInsRightCard : Claim7 := { stood := { row := fnExactInsRightRow, standIns := [], harness := (true, "12ac0b1fa2bdba89ebb66a06fb3e887ec23df7a89628f9d9adbca6ddb50ddb5e"), looks := true }, kinds := [], alts := [], laidByText := true, laidKinds := [.handle, .data], laidTests := true, laidLooks := .later }
def FnExactInsRightCardSaid : Prop := Claim7.holds Tryd.pinned (.plain (OpenSpec.ofChange fnExactInsRightSpec)) fnExactInsRightCard

/-- THE TIED CARD OF 'laws.FnExactMethodRight'. -/
def fnExactMethodRightCard : Claim7 := { stood := { row := fnExactMethodRightRow, standIns := [], harness := (true, "12ac0b1fa2bdba89ebb66a06fb3e887ec23df7a89628f9d9adbca6ddb50ddb5e"), looks := true }, kinds := [], alts := [], laidByText := true, laidKinds := [.handle, .data], laidTests := true, laidLooks := .later }
def FnExactMethodRightCardSaid : Prop := Claim7.holds Tryd.pinned (.plain (OpenSpec.ofChange fnExactMethodRightSpec)) fnExactMethodRightCard

/-- THE TIED CARD OF 'laws.FnExactClassRight'. -/
def fnExactClassRightCard : Claim7 := { stood := { row := fnExactClassRightRow, standIns := [], harness := (true, "12ac0b1fa2bdba89ebb66a06fb3e887ec23df7a89628f9d9adbca6ddb50ddb5e"), looks := true }, kinds := [], alts := [], laidByText := true, laidKinds := [.handle, .data], laidTests := true, laidLooks := .later }
def FnExactClassRightCardSaid : Prop := Claim7.holds Tryd.pinned (.plain (OpenSpec.ofChange fnExactClassRightSpec)) fnExactClassRightCard

/-- THE SECOND FORM's CARD OF 'laws.FnExactInsRight'. -/
def fnExactInsRightUptoCard : Claim7 := { stood := { row := fnExactInsRightUptoRow, standIns := [], harness := (true, "12ac0b1fa2bdba89ebb66a06fb3e887ec23df7a89628f9d9adbca6ddb50ddb5e"), looks := true }, kinds := [], alts := [], laidByText := true, laidKinds := [.handle, .data], laidTests := true, laidLooks := .later }
def FnExactInsRightUptoCardSaid : Prop := Claim7.holds Tryd.pinned (.plain (OpenSpec.upto fnExactInsRightSpec)) fnExactInsRightUptoCard

/-- THE SECOND FORM's CARD OF 'laws.FnExactMethodRight'. -/
def fnExactMethodRightUptoCard : Claim7 := { stood := { row := fnExactMethodRightUptoRow, standIns := [], harness := (true, "12ac0b1fa2bdba89ebb66a06fb3e887ec23df7a89628f9d9adbca6ddb50ddb5e"), looks := true }, kinds := [], alts := [], laidByText := true, laidKinds := [.handle, .data], laidTests := true, laidLooks := .later }
def FnExactMethodRightUptoCardSaid : Prop := Claim7.holds Tryd.pinned (.plain (OpenSpec.upto fnExactMethodRightSpec)) fnExactMethodRightUptoCard

/-- THE SECOND FORM's CARD OF 'laws.FnExactClassRight'. -/
def fnExactClassRightUptoCard : Claim7 := { stood := { row := fnExactClassRightUptoRow, standIns := [], harness := (true, "12ac0b1fa2bdba89ebb66a06fb3e887ec23df7a89628f9d9adbca6ddb50ddb5e"), looks := true }, kinds := [], alts := [], laidByText := true, laidKinds := [.handle, .data], laidTests := true, laidLooks := .later }
def FnExactClassRightUptoCardSaid : Prop := Claim7.holds Tryd.pinned (.plain (OpenSpec.upto fnExactClassRightSpec)) fnExactClassRightUptoCard
end Rows
end Go.Proofs.YtiaefillccilgaiDoor
