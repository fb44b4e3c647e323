/-
  DERIVED. GIVEN WITH THE SEED: THE CARDS: each row of YtiaefillccilgahDoorRows.lean that lists a variable, with what it lists TIED to the program's text (the seventh form; the later family's looks); each row that meets fmt, with fmt's text TOLD by the authors' own Lean function (tested against real Go, not proved from fmt's source: count such statements apart). THE CARD IS WHAT COUNTS. Prove the row's statement (the work); the ties are given (YtiaefillccilgahDoorTie.lean); close each card by the builder's one call (the guide's Derived/Test/ToyasCard.lean, 'card_holds'). Laid BY PROGRAM, IN A SANDBOX (cutbox-door.mjs). By AI agents, Wed Nov 11 2026. No macro, syntax, notation, axiom, sorry.
-/
import Derived.Test.YtiaefillccilgahDoorRows
import GoSem.ClaimSeven
namespace Go.Proofs.YtiaefillccilgahDoor
namespace Rows

/-- THE TIED CARD OF 'laws.FnExactDescRead'. -/
def fnExactDescReadCard : Claim7 := { stood := { row := fnExactDescReadRow, standIns := [], harness := (true, "541bdbf42c06221d4b59dd79af40cd77f62ecf653fc5a6d9059db20f3ca769d6"), looks := true }, kinds := [], alts := [], laidByText := true, laidKinds := [.handle], laidTests := true, laidLooks := .later }
def FnExactDescReadCardSaid : Prop := Claim7.holds Tryd.pinned (.plain (OpenSpec.ofChange fnExactDescReadSpec)) fnExactDescReadCard

/-- THE TIED CARD OF 'laws.FnExactDescSlots'. -/
def fnExactDescSlotsCard : Claim7 := { stood := { row := fnExactDescSlotsRow, standIns := [], harness := (true, "541bdbf42c06221d4b59dd79af40cd77f62ecf653fc5a6d9059db20f3ca769d6"), looks := true }, kinds := [], alts := [], laidByText := true, laidKinds := [.handle], laidTests := true, laidLooks := .later }
def FnExactDescSlotsCardSaid : Prop := Claim7.holds Tryd.pinned (.plain (OpenSpec.ofChange fnExactDescSlotsSpec)) fnExactDescSlotsCard

/-- THE TIED CARD OF 'laws.FnExactOpForm'. -/
def fnExactOpFormCard : Claim7 := { stood := { row := fnExactOpFormRow, standIns := [], harness := (true, "541bdbf42c06221d4b59dd79af40cd77f62ecf653fc5a6d9059db20f3ca769d6"), looks := true }, kinds := [], alts := [], laidByText := true, laidKinds := [.data], laidTests := true, laidLooks := .later }
def FnExactOpFormCardSaid : Prop := Claim7.holds Tryd.pinned (.plain (OpenSpec.ofChange fnExactOpFormSpec)) fnExactOpFormCard

/-- THE TIED CARD OF 'laws.FnExactOpName'. -/
def fnExactOpNameCard : Claim7 := { stood := { row := fnExactOpNameRow, standIns := [], harness := (true, "541bdbf42c06221d4b59dd79af40cd77f62ecf653fc5a6d9059db20f3ca769d6"), looks := true }, kinds := [], alts := [], laidByText := true, laidKinds := [.data], laidTests := true, laidLooks := .later }
def FnExactOpNameCardSaid : Prop := Claim7.holds Tryd.pinned (.plain (OpenSpec.ofChange fnExactOpNameSpec)) fnExactOpNameCard

/-- THE SECOND FORM's CARD OF 'laws.FnExactDescRead'. -/
def fnExactDescReadUptoCard : Claim7 := { stood := { row := fnExactDescReadUptoRow, standIns := [], harness := (true, "541bdbf42c06221d4b59dd79af40cd77f62ecf653fc5a6d9059db20f3ca769d6"), looks := true }, kinds := [], alts := [], laidByText := true, laidKinds := [.handle], laidTests := true, laidLooks := .later }
def FnExactDescReadUptoCardSaid : Prop := Claim7.holds Tryd.pinned (.plain (OpenSpec.upto fnExactDescReadSpec)) fnExactDescReadUptoCard

/-- THE SECOND FORM's CARD OF 'laws.FnExactDescSlots'. -/
def fnExactDescSlotsUptoCard : Claim7 := { stood := { row := fnExactDescSlotsUptoRow, standIns := [], harness := (true, "541bdbf42c06221d4b59dd79af40cd77f62ecf653fc5a6d9059db20f3ca769d6"), looks := true }, kinds := [], alts := [], laidByText := true, laidKinds := [.handle], laidTests := true, laidLooks := .later }
def FnExactDescSlotsUptoCardSaid : Prop := Claim7.holds Tryd.pinned (.plain (OpenSpec.upto fnExactDescSlotsSpec)) fnExactDescSlotsUptoCard

/-- THE SECOND FORM's CARD OF 'laws.FnExactOpForm'. -/
def fnExactOpFormUptoCard : Claim7 := { stood := { row := fnExactOpFormUptoRow, standIns := [], harness := (true, "541bdbf42c06221d4b59dd79af40cd77f62ecf653fc5a6d9059db20f3ca769d6"), looks := true }, kinds := [], alts := [], laidByText := true, laidKinds := [.data], laidTests := true, laidLooks := .later }
def FnExactOpFormUptoCardSaid : Prop := Claim7.holds Tryd.pinned (.plain (OpenSpec.upto fnExactOpFormSpec)) fnExactOpFormUptoCard

/-- THE SECOND FORM's CARD OF 'laws.FnExactOpName'. -/
def fnExactOpNameUptoCard : Claim7 := { stood := { row := fnExactOpNameUptoRow, standIns := [], harness := (true, "541bdbf42c06221d4b59dd79af40cd77f62ecf653fc5a6d9059db20f3ca769d6"), looks := true }, kinds := [], alts := [], laidByText := true, laidKinds := [.data], laidTests := true, laidLooks := .later }
def FnExactOpNameUptoCardSaid : Prop := Claim7.holds Tryd.pinned (.plain (OpenSpec.upto fnExactOpNameSpec)) fnExactOpNameUptoCard
end Rows
end Go.Proofs.YtiaefillccilgahDoor
