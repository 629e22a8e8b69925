/-
  DERIVED. GIVEN WITH THE SEED: THE CARDS: each row of YtaipigiinljpkaaDoorRows.lean that lists a variable, with what it lists TIED to the program's text (the seventh form; the later family's looks); each row that meets fmt, with fmt's text TOLD by the authors' own Lean function (tested against real Go, not proved from fmt's source: count such statements apart). THE CARD IS WHAT COUNTS. Prove the row's statement (the work); the ties are given (YtaipigiinljpkaaDoorTie.lean); close each card by the builder's one call (the guide's Derived/Test/ToyasCard.lean, 'card_holds'). Laid BY PROGRAM, IN A SANDBOX (cutbox-door.mjs). By AI agents, Wed Nov 11 2026. No macro, syntax, notation, axiom, sorry.
-/
import Derived.Test.YtaipigiinljpkaaDoorRows
import GoSem.ClaimSeven
namespace Go.Proofs.YtaipigiinljpkaaDoor
namespace Rows

/-- THE TIED CARD OF 'pigeonholeslaw2.LeaseKeeps'. -/
def leaseKeepsCard : Claim7 := { stood := { row := leaseKeepsRow, standIns := [], harness := (true, "29af65a152c54e29839f8bc1b9bbbb5986b57ebbc220a703839274c69006e8af"), looks := true }, kinds := [], alts := [], laidByText := true, laidKinds := [.handle, .sentinel, .sentinel, .sentinel, .sentinel, .sentinel, .sentinel, .sentinel, .sentinel, .sentinel, .sentinel, .sentinel, .sentinel, .sentinel, .sentinel, .sentinel], laidTests := true, laidLooks := .later }
def LeaseKeepsCardSaid : Prop := Claim7.holds Tryd.pinned (.plain (OpenSpec.ofChange leaseKeepsSpec)) leaseKeepsCard

/-- THE SECOND FORM's CARD OF 'pigeonholeslaw2.LeaseKeeps'. -/
def leaseKeepsUptoCard : Claim7 := { stood := { row := leaseKeepsUptoRow, standIns := [], harness := (true, "29af65a152c54e29839f8bc1b9bbbb5986b57ebbc220a703839274c69006e8af"), looks := true }, kinds := [], alts := [], laidByText := true, laidKinds := [.handle, .sentinel, .sentinel, .sentinel, .sentinel, .sentinel, .sentinel, .sentinel, .sentinel, .sentinel, .sentinel, .sentinel, .sentinel, .sentinel, .sentinel, .sentinel], laidTests := true, laidLooks := .later }
def LeaseKeepsUptoCardSaid : Prop := Claim7.holds Tryd.pinned (.plain (OpenSpec.upto leaseKeepsSpec)) leaseKeepsUptoCard
end Rows
end Go.Proofs.YtaipigiinljpkaaDoor
