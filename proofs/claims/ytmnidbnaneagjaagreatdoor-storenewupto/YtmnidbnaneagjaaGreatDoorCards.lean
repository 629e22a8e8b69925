/-
  DERIVED. GIVEN WITH THE SEED: THE CARDS: each row of YtmnidbnaneagjaaGreatDoorRows.lean that lists a variable, with what it lists TIED to the program's text (the seventh form; the later family's looks); each row that meets fmt, with fmt's text TOLD by the authors' own Lean function (tested against real Go, not proved from fmt's source: count such statements apart). THE CARD IS WHAT COUNTS. Prove the row's statement (the work); the ties are given (YtmnidbnaneagjaaGreatDoorTie.lean); close each card by the builder's one call (the guide's Derived/Test/ToyasCard.lean, 'card_holds'). Laid BY PROGRAM, IN A SANDBOX (cutbox-door.mjs). By AI agents, Wed Nov 11 2026. No macro, syntax, notation, axiom, sorry.
-/
import Derived.Test.YtmnidbnaneagjaaGreatDoorRows
import GoSem.ClaimSeven
namespace Go.Proofs.YtmnidbnaneagjaaGreatDoor
namespace Rows

/-- THE TIED CARD OF 'pigeonholeslaw4.StoreNew'. -/
def storeNewCard : Claim7 := { stood := { row := storeNewRow, standIns := [], harness := (true, "545a6ca235ffd3fa0baf3e7a4d5bc62cf19b2636319b16655bbf9f12a05b8786"), looks := true }, kinds := [], alts := [], laidByText := true, laidKinds := [.sentinel, .sentinel, .sentinel, .sentinel, .sentinel, .sentinel, .sentinel, .sentinel, .sentinel, .sentinel, .sentinel, .sentinel, .sentinel, .sentinel, .sentinel, .handle, .data, .data, .data, .pinned, .data], laidTests := true, laidLooks := .later }
def StoreNewCardSaid : Prop := Claim7.holds Tryz.pinned (.plain (OpenSpec.ofChange storeNewSpec)) storeNewCard

/-- THE SECOND FORM's CARD OF 'pigeonholeslaw4.StoreNew'. -/
def storeNewUptoCard : Claim7 := { stood := { row := storeNewUptoRow, standIns := [], harness := (true, "545a6ca235ffd3fa0baf3e7a4d5bc62cf19b2636319b16655bbf9f12a05b8786"), looks := true }, kinds := [], alts := [], laidByText := true, laidKinds := [.sentinel, .sentinel, .sentinel, .sentinel, .sentinel, .sentinel, .sentinel, .sentinel, .sentinel, .sentinel, .sentinel, .sentinel, .sentinel, .sentinel, .sentinel, .handle, .data, .data, .data, .pinned, .data], laidTests := true, laidLooks := .later }
def StoreNewUptoCardSaid : Prop := Claim7.holds Tryz.pinned (.plain (OpenSpec.upto storeNewSpec)) storeNewUptoCard
end Rows
end Go.Proofs.YtmnidbnaneagjaaGreatDoor
