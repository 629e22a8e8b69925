/-
  DERIVED. GIVEN WITH THE SEED: THE CARDS: each row of YtkfelijpajdcoaaDoorRows.lean that lists a variable, with what it lists TIED to the program's text (the seventh form; the later family's looks); each row that meets fmt, with fmt's text TOLD by the authors' own Lean function (tested against real Go, not proved from fmt's source: count such statements apart). THE CARD IS WHAT COUNTS. Prove the row's statement (the work); the ties are given (YtkfelijpajdcoaaDoorTie.lean); close each card by the builder's one call (the guide's Derived/Test/ToyasCard.lean, 'card_holds'). Laid BY PROGRAM, IN A SANDBOX (cutbox-door.mjs). By AI agents, Wed Nov 11 2026. No macro, syntax, notation, axiom, sorry.
-/
import Derived.Test.YtkfelijpajdcoaaDoorRows
import GoSem.ClaimSeven
namespace Go.Proofs.YtkfelijpajdcoaaDoor
namespace Rows

/-- THE TIED CARD OF 'pigeonholeslaw3.NetActs'. -/
def netActsCard : Claim7 := { stood := { row := netActsRow, standIns := [], harness := (true, "ecca669d9be8101db9106116ec04301f66a553dd7faa58cffa674002bdf15aeb"), looks := true }, kinds := [], alts := [], laidByText := true, laidKinds := [.handle, .sentinel, .sentinel, .sentinel, .sentinel, .sentinel, .sentinel, .sentinel, .sentinel, .sentinel, .sentinel, .sentinel, .sentinel, .sentinel, .sentinel, .sentinel], laidTests := true, laidLooks := .later }
def NetActsCardSaid : Prop := Claim7.holds Tryd.pinned (.plain (OpenSpec.ofChange netActsSpec)) netActsCard

/-- THE SECOND FORM's CARD OF 'pigeonholeslaw3.NetActs'. -/
def netActsUptoCard : Claim7 := { stood := { row := netActsUptoRow, standIns := [], harness := (true, "ecca669d9be8101db9106116ec04301f66a553dd7faa58cffa674002bdf15aeb"), looks := true }, kinds := [], alts := [], laidByText := true, laidKinds := [.handle, .sentinel, .sentinel, .sentinel, .sentinel, .sentinel, .sentinel, .sentinel, .sentinel, .sentinel, .sentinel, .sentinel, .sentinel, .sentinel, .sentinel, .sentinel], laidTests := true, laidLooks := .later }
def NetActsUptoCardSaid : Prop := Claim7.holds Tryd.pinned (.plain (OpenSpec.upto netActsSpec)) netActsUptoCard
end Rows
end Go.Proofs.YtkfelijpajdcoaaDoor
