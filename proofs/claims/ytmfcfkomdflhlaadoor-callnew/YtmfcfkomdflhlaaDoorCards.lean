/-
  DERIVED. GIVEN WITH THE SEED: THE CARDS: each row of YtmfcfkomdflhlaaDoorRows.lean that lists a variable, with what it lists TIED to the program's text (the seventh form; the later family's looks); each row that meets fmt, with fmt's text TOLD by the authors' own Lean function (tested against real Go, not proved from fmt's source: count such statements apart). THE CARD IS WHAT COUNTS. Prove the row's statement (the work); the ties are given (YtmfcfkomdflhlaaDoorTie.lean); close each card by the builder's one call (the guide's Derived/Test/ToyasCard.lean, 'card_holds'). Laid BY PROGRAM, IN A SANDBOX (cutbox-door.mjs). By AI agents, Wed Nov 11 2026. No macro, syntax, notation, axiom, sorry.
-/
import Derived.Test.YtmfcfkomdflhlaaDoorRows
import GoSem.ClaimSeven
namespace Go.Proofs.YtmfcfkomdflhlaaDoor
namespace Rows

/-- THE TIED CARD OF 'pigeonholeslaw3.CallNew'. -/
def callNewCard : Claim7 := { stood := { row := callNewRow, standIns := [], harness := (true, "bb6ef9ebd667e16617b1d5d3f77862ab6d089bba1489f54a8f376d8a2a80bb1a"), looks := true }, kinds := [], alts := [], laidByText := true, laidKinds := [.handle, .sentinel, .sentinel, .sentinel, .sentinel, .sentinel, .sentinel, .sentinel, .sentinel, .sentinel, .sentinel, .sentinel, .sentinel, .sentinel, .sentinel, .sentinel], laidTests := true, laidLooks := .later }
def CallNewCardSaid : Prop := Claim7.holds Tryd.pinned (.plain (OpenSpec.ofChange callNewSpec)) callNewCard

/-- THE SECOND FORM's CARD OF 'pigeonholeslaw3.CallNew'. -/
def callNewUptoCard : Claim7 := { stood := { row := callNewUptoRow, standIns := [], harness := (true, "bb6ef9ebd667e16617b1d5d3f77862ab6d089bba1489f54a8f376d8a2a80bb1a"), looks := true }, kinds := [], alts := [], laidByText := true, laidKinds := [.handle, .sentinel, .sentinel, .sentinel, .sentinel, .sentinel, .sentinel, .sentinel, .sentinel, .sentinel, .sentinel, .sentinel, .sentinel, .sentinel, .sentinel, .sentinel], laidTests := true, laidLooks := .later }
def CallNewUptoCardSaid : Prop := Claim7.holds Tryd.pinned (.plain (OpenSpec.upto callNewSpec)) callNewUptoCard
end Rows
end Go.Proofs.YtmfcfkomdflhlaaDoor
