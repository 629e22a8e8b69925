/-
  DERIVED. GIVEN WITH THE SEED: THE CARDS: each row of YtaipigiinljpkaaGreatDoorRows.lean that lists a variable, with what it lists TIED to the program's text (the seventh form; the later family's looks); each row that meets fmt, with fmt's text TOLD by the authors' own Lean function (tested against real Go, not proved from fmt's source: count such statements apart). THE CARD IS WHAT COUNTS. Prove the row's statement (the work); the ties are given (YtaipigiinljpkaaGreatDoorTie.lean); close each card by the builder's one call (the guide's Derived/Test/ToyasCard.lean, 'card_holds'). Laid BY PROGRAM, IN A SANDBOX (cutbox-door.mjs). By AI agents, Wed Nov 11 2026. No macro, syntax, notation, axiom, sorry.
-/
import Derived.Test.YtaipigiinljpkaaGreatDoorRows
import GoSem.ClaimSeven
namespace Go.Proofs.YtaipigiinljpkaaGreatDoor
namespace Rows

/-- THE TIED CARD OF 'pigeonholeslaw2.LeaseActs'. -/
def leaseActsCard : Claim7 := { stood := { row := leaseActsRow, standIns := [], harness := (true, "3290296710446c3d91dde7739ad177e6bf03d36666eac433acbb1709afb6e004"), looks := true }, kinds := [], alts := [], laidByText := true, laidKinds := [.handle, .sentinel, .sentinel, .sentinel, .sentinel, .sentinel, .sentinel, .sentinel, .sentinel, .sentinel, .sentinel, .sentinel, .sentinel, .sentinel, .sentinel, .sentinel], laidTests := true, laidLooks := .later }
def LeaseActsCardSaid : Prop := Claim7.holds Tryz.pinned (.plain (OpenSpec.ofChange leaseActsSpec)) leaseActsCard

/-- THE SECOND FORM's CARD OF 'pigeonholeslaw2.LeaseActs'. -/
def leaseActsUptoCard : Claim7 := { stood := { row := leaseActsUptoRow, standIns := [], harness := (true, "3290296710446c3d91dde7739ad177e6bf03d36666eac433acbb1709afb6e004"), looks := true }, kinds := [], alts := [], laidByText := true, laidKinds := [.handle, .sentinel, .sentinel, .sentinel, .sentinel, .sentinel, .sentinel, .sentinel, .sentinel, .sentinel, .sentinel, .sentinel, .sentinel, .sentinel, .sentinel, .sentinel], laidTests := true, laidLooks := .later }
def LeaseActsUptoCardSaid : Prop := Claim7.holds Tryz.pinned (.plain (OpenSpec.upto leaseActsSpec)) leaseActsUptoCard
end Rows
end Go.Proofs.YtaipigiinljpkaaGreatDoor
