/-
  DERIVED. GIVEN WITH THE SEED: THE CARDS: each row of YtgmlooemiokhfajGreatDoorRows.lean that lists a variable, with what it lists TIED to the program's text (the seventh form; the later family's looks); each row that meets fmt, with fmt's text TOLD by the authors' own Lean function (tested against real Go, not proved from fmt's source: count such statements apart). THE CARD IS WHAT COUNTS. Prove the row's statement (the work); the ties are given (YtgmlooemiokhfajGreatDoorTie.lean); close each card by the builder's one call (the guide's Derived/Test/ToyasCard.lean, 'card_holds'). Laid BY PROGRAM, IN A SANDBOX (cutbox-door.mjs). By AI agents, Wed Nov 11 2026. No macro, syntax, notation, axiom, sorry.
-/
import Derived.Test.YtgmlooemiokhfajGreatDoorRows
import GoSem.ClaimSeven
namespace Go.Proofs.YtgmlooemiokhfajGreatDoor
namespace Rows

/-- THE TIED CARD OF 'laws.FnExactPoolOf'. -/
def fnExactPoolOfCard : Claim7 := { stood := { row := fnExactPoolOfRow, standIns := [], harness := (true, "85240e5ac94e26044b420e33b2661d43882a9538811329fa57561045cba908bb"), looks := true }, kinds := [], alts := [], laidByText := true, laidKinds := [.handle, .data], laidTests := true, laidLooks := .later }
def FnExactPoolOfCardSaid : Prop := Claim7.holds Tryz.pinned (.plain (OpenSpec.ofChange fnExactPoolOfSpec)) fnExactPoolOfCard

/-- THE TIED CARD OF 'laws.FnExactClassSize'. -/
def fnExactClassSizeCard : Claim7 := { stood := { row := fnExactClassSizeRow, standIns := [], harness := (true, "85240e5ac94e26044b420e33b2661d43882a9538811329fa57561045cba908bb"), looks := true }, kinds := [], alts := [], laidByText := true, laidKinds := [.handle, .data], laidTests := true, laidLooks := .later }
def FnExactClassSizeCardSaid : Prop := Claim7.holds Tryz.pinned (.plain (OpenSpec.ofChange fnExactClassSizeSpec)) fnExactClassSizeCard

/-- THE SECOND FORM's CARD OF 'laws.FnExactPoolOf'. -/
def fnExactPoolOfUptoCard : Claim7 := { stood := { row := fnExactPoolOfUptoRow, standIns := [], harness := (true, "85240e5ac94e26044b420e33b2661d43882a9538811329fa57561045cba908bb"), looks := true }, kinds := [], alts := [], laidByText := true, laidKinds := [.handle, .data], laidTests := true, laidLooks := .later }
def FnExactPoolOfUptoCardSaid : Prop := Claim7.holds Tryz.pinned (.plain (OpenSpec.upto fnExactPoolOfSpec)) fnExactPoolOfUptoCard

/-- THE SECOND FORM's CARD OF 'laws.FnExactClassSize'. -/
def fnExactClassSizeUptoCard : Claim7 := { stood := { row := fnExactClassSizeUptoRow, standIns := [], harness := (true, "85240e5ac94e26044b420e33b2661d43882a9538811329fa57561045cba908bb"), looks := true }, kinds := [], alts := [], laidByText := true, laidKinds := [.handle, .data], laidTests := true, laidLooks := .later }
def FnExactClassSizeUptoCardSaid : Prop := Claim7.holds Tryz.pinned (.plain (OpenSpec.upto fnExactClassSizeSpec)) fnExactClassSizeUptoCard
end Rows
end Go.Proofs.YtgmlooemiokhfajGreatDoor
