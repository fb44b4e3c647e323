/-
  DERIVED. GIVEN WITH THE SEED: THE CARDS: each row of YtpalmhojjgbkfajGreatDoorRows.lean that lists a variable, with what it lists TIED to the program's text (the seventh form; the later family's looks); each row that meets fmt, with fmt's text TOLD by the authors' own Lean function (tested against real Go, not proved from fmt's source: count such statements apart). THE CARD IS WHAT COUNTS. Prove the row's statement (the work); the ties are given (YtpalmhojjgbkfajGreatDoorTie.lean); close each card by the builder's one call (the guide's Derived/Test/ToyasCard.lean, 'card_holds'). Laid BY PROGRAM, IN A SANDBOX (cutbox-door.mjs). By AI agents, Wed Nov 11 2026. No macro, syntax, notation, axiom, sorry.
-/
import Derived.Test.YtpalmhojjgbkfajGreatDoorRows
import GoSem.ClaimSeven
namespace Go.Proofs.YtpalmhojjgbkfajGreatDoor
namespace Rows

/-- THE TIED CARD OF 'laws.FnExactPoolOf'. -/
def fnExactPoolOfCard : Claim7 := { stood := { row := fnExactPoolOfRow, standIns := [], harness := (true, "5dcb9a3e87dd832e9f8e6be521c42e75a58d78207668d4c748a842841721a2fe"), looks := true }, kinds := [], alts := [], laidByText := true, laidKinds := [.handle, .data], laidTests := true, laidLooks := .later }
def FnExactPoolOfCardSaid : Prop := Claim7.holds Tryz.pinned (.plain (OpenSpec.ofChange fnExactPoolOfSpec)) fnExactPoolOfCard

/-- THE TIED CARD OF 'laws.FnExactClassSize'. -/
def fnExactClassSizeCard : Claim7 := { stood := { row := fnExactClassSizeRow, standIns := [], harness := (true, "5dcb9a3e87dd832e9f8e6be521c42e75a58d78207668d4c748a842841721a2fe"), looks := true }, kinds := [], alts := [], laidByText := true, laidKinds := [.handle, .data], laidTests := true, laidLooks := .later }
def FnExactClassSizeCardSaid : Prop := Claim7.holds Tryz.pinned (.plain (OpenSpec.ofChange fnExactClassSizeSpec)) fnExactClassSizeCard

/-- THE TIED CARD OF 'laws.FnExactWorldCheck'. -/
def fnExactWorldCheckCard : Claim7 := { stood := { row := fnExactWorldCheckRow, standIns := [], harness := (true, "5dcb9a3e87dd832e9f8e6be521c42e75a58d78207668d4c748a842841721a2fe"), looks := true }, kinds := [], alts := [], laidByText := true, laidKinds := [.handle, .data], laidTests := true, laidLooks := .later }
def FnExactWorldCheckCardSaid : Prop := Claim7.holds Tryz.pinned (.plain (OpenSpec.ofChange fnExactWorldCheckSpec)) fnExactWorldCheckCard

/-- THE TIED CARD OF 'laws.FnExactSuperOf'. -/
def fnExactSuperOfCard : Claim7 := { stood := { row := fnExactSuperOfRow, standIns := [], harness := (true, "5dcb9a3e87dd832e9f8e6be521c42e75a58d78207668d4c748a842841721a2fe"), looks := true }, kinds := [], alts := [], laidByText := true, laidKinds := [.handle, .data], laidTests := true, laidLooks := .later }
def FnExactSuperOfCardSaid : Prop := Claim7.holds Tryz.pinned (.plain (OpenSpec.ofChange fnExactSuperOfSpec)) fnExactSuperOfCard

/-- THE TIED CARD OF 'laws.FnExactIsSub'. -/
def fnExactIsSubCard : Claim7 := { stood := { row := fnExactIsSubRow, standIns := [], harness := (true, "5dcb9a3e87dd832e9f8e6be521c42e75a58d78207668d4c748a842841721a2fe"), looks := true }, kinds := [], alts := [], laidByText := true, laidKinds := [.handle, .data], laidTests := true, laidLooks := .later }
def FnExactIsSubCardSaid : Prop := Claim7.holds Tryz.pinned (.plain (OpenSpec.ofChange fnExactIsSubSpec)) fnExactIsSubCard

/-- THE SECOND FORM's CARD OF 'laws.FnExactPoolOf'. -/
def fnExactPoolOfUptoCard : Claim7 := { stood := { row := fnExactPoolOfUptoRow, standIns := [], harness := (true, "5dcb9a3e87dd832e9f8e6be521c42e75a58d78207668d4c748a842841721a2fe"), looks := true }, kinds := [], alts := [], laidByText := true, laidKinds := [.handle, .data], laidTests := true, laidLooks := .later }
def FnExactPoolOfUptoCardSaid : Prop := Claim7.holds Tryz.pinned (.plain (OpenSpec.upto fnExactPoolOfSpec)) fnExactPoolOfUptoCard

/-- THE SECOND FORM's CARD OF 'laws.FnExactClassSize'. -/
def fnExactClassSizeUptoCard : Claim7 := { stood := { row := fnExactClassSizeUptoRow, standIns := [], harness := (true, "5dcb9a3e87dd832e9f8e6be521c42e75a58d78207668d4c748a842841721a2fe"), looks := true }, kinds := [], alts := [], laidByText := true, laidKinds := [.handle, .data], laidTests := true, laidLooks := .later }
def FnExactClassSizeUptoCardSaid : Prop := Claim7.holds Tryz.pinned (.plain (OpenSpec.upto fnExactClassSizeSpec)) fnExactClassSizeUptoCard

/-- THE SECOND FORM's CARD OF 'laws.FnExactWorldCheck'. -/
def fnExactWorldCheckUptoCard : Claim7 := { stood := { row := fnExactWorldCheckUptoRow, standIns := [], harness := (true, "5dcb9a3e87dd832e9f8e6be521c42e75a58d78207668d4c748a842841721a2fe"), looks := true }, kinds := [], alts := [], laidByText := true, laidKinds := [.handle, .data], laidTests := true, laidLooks := .later }
def FnExactWorldCheckUptoCardSaid : Prop := Claim7.holds Tryz.pinned (.plain (OpenSpec.upto fnExactWorldCheckSpec)) fnExactWorldCheckUptoCard

/-- THE SECOND FORM's CARD OF 'laws.FnExactSuperOf'. -/
def fnExactSuperOfUptoCard : Claim7 := { stood := { row := fnExactSuperOfUptoRow, standIns := [], harness := (true, "5dcb9a3e87dd832e9f8e6be521c42e75a58d78207668d4c748a842841721a2fe"), looks := true }, kinds := [], alts := [], laidByText := true, laidKinds := [.handle, .data], laidTests := true, laidLooks := .later }
def FnExactSuperOfUptoCardSaid : Prop := Claim7.holds Tryz.pinned (.plain (OpenSpec.upto fnExactSuperOfSpec)) fnExactSuperOfUptoCard

/-- THE SECOND FORM's CARD OF 'laws.FnExactIsSub'. -/
def fnExactIsSubUptoCard : Claim7 := { stood := { row := fnExactIsSubUptoRow, standIns := [], harness := (true, "5dcb9a3e87dd832e9f8e6be521c42e75a58d78207668d4c748a842841721a2fe"), looks := true }, kinds := [], alts := [], laidByText := true, laidKinds := [.handle, .data], laidTests := true, laidLooks := .later }
def FnExactIsSubUptoCardSaid : Prop := Claim7.holds Tryz.pinned (.plain (OpenSpec.upto fnExactIsSubSpec)) fnExactIsSubUptoCard
end Rows
end Go.Proofs.YtpalmhojjgbkfajGreatDoor
