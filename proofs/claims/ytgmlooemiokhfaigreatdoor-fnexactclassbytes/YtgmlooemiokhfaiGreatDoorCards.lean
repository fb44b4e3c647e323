/-
  DERIVED. GIVEN WITH THE SEED: THE CARDS: each row of YtgmlooemiokhfaiGreatDoorRows.lean that lists a variable, with what it lists TIED to the program's text (the seventh form; the later family's looks); each row that meets fmt, with fmt's text TOLD by the authors' own Lean function (tested against real Go, not proved from fmt's source: count such statements apart). THE CARD IS WHAT COUNTS. Prove the row's statement (the work); the ties are given (YtgmlooemiokhfaiGreatDoorTie.lean); close each card by the builder's one call (the guide's Derived/Test/ToyasCard.lean, 'card_holds'). Laid BY PROGRAM, IN A SANDBOX (cutbox-door.mjs). By AI agents, Wed Nov 11 2026. No macro, syntax, notation, axiom, sorry.
-/
import Derived.Test.YtgmlooemiokhfaiGreatDoorRows
import GoSem.ClaimSeven
namespace Go.Proofs.YtgmlooemiokhfaiGreatDoor
namespace Rows

/-- THE TIED CARD OF 'laws.FnExactClassSame'. -/
def fnExactClassSameCard : Claim7 := { stood := { row := fnExactClassSameRow, standIns := [], harness := (true, "b974a9b850ae1f327c20e3cee9d05fb5c5028e61e30c0f1979a39d1734239497"), looks := true }, kinds := [], alts := [], laidByText := true, laidKinds := [.handle, .data], laidTests := true, laidLooks := .later }
def FnExactClassSameCardSaid : Prop := Claim7.holds Tryz.pinned (.plain (OpenSpec.ofChange fnExactClassSameSpec)) fnExactClassSameCard

/-- THE TIED CARD OF 'laws.FnExactClassBytes'. -/
def fnExactClassBytesCard : Claim7 := { stood := { row := fnExactClassBytesRow, standIns := [], harness := (true, "b974a9b850ae1f327c20e3cee9d05fb5c5028e61e30c0f1979a39d1734239497"), looks := true }, kinds := [], alts := [], laidByText := true, laidKinds := [.handle, .data], laidTests := true, laidLooks := .later }
def FnExactClassBytesCardSaid : Prop := Claim7.holds Tryz.pinned (.plain (OpenSpec.ofChange fnExactClassBytesSpec)) fnExactClassBytesCard

/-- THE TIED CARD OF 'laws.FnExactClassRead'. -/
def fnExactClassReadCard : Claim7 := { stood := { row := fnExactClassReadRow, standIns := [], harness := (true, "b974a9b850ae1f327c20e3cee9d05fb5c5028e61e30c0f1979a39d1734239497"), looks := true }, kinds := [], alts := [], laidByText := true, laidKinds := [.handle, .data], laidTests := true, laidLooks := .later }
def FnExactClassReadCardSaid : Prop := Claim7.holds Tryz.pinned (.plain (OpenSpec.ofChange fnExactClassReadSpec)) fnExactClassReadCard

/-- THE SECOND FORM's CARD OF 'laws.FnExactClassSame'. -/
def fnExactClassSameUptoCard : Claim7 := { stood := { row := fnExactClassSameUptoRow, standIns := [], harness := (true, "b974a9b850ae1f327c20e3cee9d05fb5c5028e61e30c0f1979a39d1734239497"), looks := true }, kinds := [], alts := [], laidByText := true, laidKinds := [.handle, .data], laidTests := true, laidLooks := .later }
def FnExactClassSameUptoCardSaid : Prop := Claim7.holds Tryz.pinned (.plain (OpenSpec.upto fnExactClassSameSpec)) fnExactClassSameUptoCard

/-- THE SECOND FORM's CARD OF 'laws.FnExactClassBytes'. -/
def fnExactClassBytesUptoCard : Claim7 := { stood := { row := fnExactClassBytesUptoRow, standIns := [], harness := (true, "b974a9b850ae1f327c20e3cee9d05fb5c5028e61e30c0f1979a39d1734239497"), looks := true }, kinds := [], alts := [], laidByText := true, laidKinds := [.handle, .data], laidTests := true, laidLooks := .later }
def FnExactClassBytesUptoCardSaid : Prop := Claim7.holds Tryz.pinned (.plain (OpenSpec.upto fnExactClassBytesSpec)) fnExactClassBytesUptoCard

/-- THE SECOND FORM's CARD OF 'laws.FnExactClassRead'. -/
def fnExactClassReadUptoCard : Claim7 := { stood := { row := fnExactClassReadUptoRow, standIns := [], harness := (true, "b974a9b850ae1f327c20e3cee9d05fb5c5028e61e30c0f1979a39d1734239497"), looks := true }, kinds := [], alts := [], laidByText := true, laidKinds := [.handle, .data], laidTests := true, laidLooks := .later }
def FnExactClassReadUptoCardSaid : Prop := Claim7.holds Tryz.pinned (.plain (OpenSpec.upto fnExactClassReadSpec)) fnExactClassReadUptoCard
end Rows
end Go.Proofs.YtgmlooemiokhfaiGreatDoor
