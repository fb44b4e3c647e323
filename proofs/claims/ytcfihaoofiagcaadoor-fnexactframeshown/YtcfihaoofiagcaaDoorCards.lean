/-
  DERIVED. GIVEN WITH THE SEED: THE CARDS: each row of YtcfihaoofiagcaaDoorRows.lean that lists a variable, with what it lists TIED to the program's text (the seventh form; the later family's looks); each row that meets fmt, with fmt's text TOLD by the authors' own Lean function (tested against real Go, not proved from fmt's source: count such statements apart). THE CARD IS WHAT COUNTS. Prove the row's statement (the work); the ties are given (YtcfihaoofiagcaaDoorTie.lean); close each card by the builder's one call (the guide's Derived/Test/ToyasCard.lean, 'card_holds'). Laid BY PROGRAM, IN A SANDBOX (cutbox-door.mjs). By AI agents, Wed Nov 11 2026. No macro, syntax, notation, axiom, sorry.
-/
import Derived.Test.YtcfihaoofiagcaaDoorRows
import GoSem.ClaimSeven
namespace Go.Proofs.YtcfihaoofiagcaaDoor
namespace Rows

/-- THE TIED CARD OF 'laws.FnExactFrameShown'. -/
def fnExactFrameShownCard : Claim7 := { stood := { row := fnExactFrameShownRow, standIns := [], harness := (true, "aa819c0e87a5e85eeb52891d1178b77b8935aa646535ac81b76482d769bb8558"), looks := false }, kinds := [], alts := [], laidByText := true, laidKinds := [.data, .data, .data], laidTests := true, laidLooks := .later }
def FnExactFrameShownCardSaid : Prop := Claim7.holds Tryd.pinned (.plain (OpenSpec.ofChange fnExactFrameShownSpec)) fnExactFrameShownCard

/-- THE SECOND FORM's CARD OF 'laws.FnExactFrameShown'. -/
def fnExactFrameShownUptoCard : Claim7 := { stood := { row := fnExactFrameShownUptoRow, standIns := [], harness := (true, "aa819c0e87a5e85eeb52891d1178b77b8935aa646535ac81b76482d769bb8558"), looks := false }, kinds := [], alts := [], laidByText := true, laidKinds := [.data, .data, .data], laidTests := true, laidLooks := .later }
def FnExactFrameShownUptoCardSaid : Prop := Claim7.holds Tryd.pinned (.plain (OpenSpec.upto fnExactFrameShownSpec)) fnExactFrameShownUptoCard
end Rows
end Go.Proofs.YtcfihaoofiagcaaDoor
