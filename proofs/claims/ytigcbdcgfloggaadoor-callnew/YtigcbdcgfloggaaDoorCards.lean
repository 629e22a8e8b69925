/-
  DERIVED. GIVEN WITH THE SEED: THE CARDS: each row of YtigcbdcgfloggaaDoorRows.lean that lists a variable, with what it lists TIED to the program's text (the seventh form; the later family's looks); each row that meets fmt, with fmt's text TOLD by the authors' own Lean function (tested against real Go, not proved from fmt's source: count such statements apart). THE CARD IS WHAT COUNTS. Prove the row's statement (the work); the ties are given (YtigcbdcgfloggaaDoorTie.lean); close each card by the builder's one call (the guide's Derived/Test/ToyasCard.lean, 'card_holds'). Laid BY PROGRAM, IN A SANDBOX (cutbox-door.mjs). By AI agents, Wed Nov 11 2026. No macro, syntax, notation, axiom, sorry.
-/
import Derived.Test.YtigcbdcgfloggaaDoorRows
import GoSem.ClaimSeven
namespace Go.Proofs.YtigcbdcgfloggaaDoor
namespace Rows

/-- THE TIED CARD OF 'pigeonholeslaw3.CallCodes'. -/
def callCodesCard : Claim7 := { stood := { row := callCodesRow, standIns := [], harness := (true, "532efab451d268be8e879e98151666eb86636f86a666a4341c1508dccca68488"), looks := true }, kinds := [], alts := [], laidByText := true, laidKinds := [.handle, .sentinel, .sentinel, .sentinel, .sentinel, .sentinel, .sentinel, .sentinel, .sentinel, .sentinel, .sentinel, .sentinel, .sentinel, .sentinel, .sentinel, .sentinel], laidTests := true, laidLooks := .later }
def CallCodesCardSaid : Prop := Claim7.holds Tryd.pinned (.plain (OpenSpec.ofChange callCodesSpec)) callCodesCard

/-- THE TIED CARD OF 'pigeonholeslaw3.CallNew'. -/
def callNewCard : Claim7 := { stood := { row := callNewRow, standIns := [], harness := (true, "532efab451d268be8e879e98151666eb86636f86a666a4341c1508dccca68488"), looks := true }, kinds := [], alts := [], laidByText := true, laidKinds := [.handle, .sentinel, .sentinel, .sentinel, .sentinel, .sentinel, .sentinel, .sentinel, .sentinel, .sentinel, .sentinel, .sentinel, .sentinel, .sentinel, .sentinel, .sentinel], laidTests := true, laidLooks := .later }
def CallNewCardSaid : Prop := Claim7.holds Tryd.pinned (.plain (OpenSpec.ofChange callNewSpec)) callNewCard

/-- THE SECOND FORM's CARD OF 'pigeonholeslaw3.CallCodes'. -/
def callCodesUptoCard : Claim7 := { stood := { row := callCodesUptoRow, standIns := [], harness := (true, "532efab451d268be8e879e98151666eb86636f86a666a4341c1508dccca68488"), looks := true }, kinds := [], alts := [], laidByText := true, laidKinds := [.handle, .sentinel, .sentinel, .sentinel, .sentinel, .sentinel, .sentinel, .sentinel, .sentinel, .sentinel, .sentinel, .sentinel, .sentinel, .sentinel, .sentinel, .sentinel], laidTests := true, laidLooks := .later }
def CallCodesUptoCardSaid : Prop := Claim7.holds Tryd.pinned (.plain (OpenSpec.upto callCodesSpec)) callCodesUptoCard

/-- THE SECOND FORM's CARD OF 'pigeonholeslaw3.CallNew'. -/
def callNewUptoCard : Claim7 := { stood := { row := callNewUptoRow, standIns := [], harness := (true, "532efab451d268be8e879e98151666eb86636f86a666a4341c1508dccca68488"), looks := true }, kinds := [], alts := [], laidByText := true, laidKinds := [.handle, .sentinel, .sentinel, .sentinel, .sentinel, .sentinel, .sentinel, .sentinel, .sentinel, .sentinel, .sentinel, .sentinel, .sentinel, .sentinel, .sentinel, .sentinel], laidTests := true, laidLooks := .later }
def CallNewUptoCardSaid : Prop := Claim7.holds Tryd.pinned (.plain (OpenSpec.upto callNewSpec)) callNewUptoCard
end Rows
end Go.Proofs.YtigcbdcgfloggaaDoor
