/-
  DERIVED. GIVEN WITH THE SEED: THE CARDS: each row of YtpjbhdoiffmgiaaDoorRows.lean that lists a variable, with what it lists TIED to the program's text (the seventh form; the later family's looks); each row that meets fmt, with fmt's text TOLD by the authors' own Lean function (tested against real Go, not proved from fmt's source: count such statements apart). THE CARD IS WHAT COUNTS. Prove the row's statement (the work); the ties are given (YtpjbhdoiffmgiaaDoorTie.lean); close each card by the builder's one call (the guide's Derived/Test/ToyasCard.lean, 'card_holds'). Laid BY PROGRAM, IN A SANDBOX (cutbox-door.mjs). By AI agents, Wed Nov 11 2026. No macro, syntax, notation, axiom, sorry.
-/
import Derived.Test.YtpjbhdoiffmgiaaDoorRows
import GoSem.ClaimSeven
namespace Go.Proofs.YtpjbhdoiffmgiaaDoor
namespace Rows

/-- THE TIED CARD OF 'laws.FnExactFlowJumps'. -/
def fnExactFlowJumpsCard : Claim7 := { stood := { row := fnExactFlowJumpsRow, standIns := [], harness := (true, "1d5b16016bfc79b9f655bf75eaf620d3ddd1083a47356111890fc71dc512df03"), looks := false }, kinds := [], alts := [], laidByText := true, laidKinds := [.data], laidTests := true, laidLooks := .later }
def FnExactFlowJumpsCardSaid : Prop := Claim7.holds Tryd.pinned (.plain (OpenSpec.ofChange fnExactFlowJumpsSpec)) fnExactFlowJumpsCard

/-- THE SECOND FORM's CARD OF 'laws.FnExactFlowJumps'. -/
def fnExactFlowJumpsUptoCard : Claim7 := { stood := { row := fnExactFlowJumpsUptoRow, standIns := [], harness := (true, "1d5b16016bfc79b9f655bf75eaf620d3ddd1083a47356111890fc71dc512df03"), looks := false }, kinds := [], alts := [], laidByText := true, laidKinds := [.data], laidTests := true, laidLooks := .later }
def FnExactFlowJumpsUptoCardSaid : Prop := Claim7.holds Tryd.pinned (.plain (OpenSpec.upto fnExactFlowJumpsSpec)) fnExactFlowJumpsUptoCard
end Rows
end Go.Proofs.YtpjbhdoiffmgiaaDoor
