/-
  DERIVED. GIVEN WITH THE SEED: THE CARDS: each row of YthofinllkdajhacDoorRows.lean that lists a variable, with what it lists TIED to the program's text (the seventh form; the later family's looks); each row that meets fmt, with fmt's text TOLD by the authors' own Lean function (tested against real Go, not proved from fmt's source: count such statements apart). THE CARD IS WHAT COUNTS. Prove the row's statement (the work); the ties are given (YthofinllkdajhacDoorTie.lean); close each card by the builder's one call (the guide's Derived/Test/ToyasCard.lean, 'card_holds'). Laid BY PROGRAM, IN A SANDBOX (cutbox-door.mjs). By AI agents, Wed Nov 11 2026. No macro, syntax, notation, axiom, sorry.
-/
import Derived.Test.YthofinllkdajhacDoorRows
import GoSem.ClaimSeven
namespace Go.Proofs.YthofinllkdajhacDoor
namespace Rows

/-- THE TIED CARD OF 'pigeonholeslaw1.DataKeeps'. -/
def dataKeepsCard : Claim7 := { stood := { row := dataKeepsRow, standIns := [], harness := (true, "7e188bdfbf4ae9e3fc81a8686db7ebdf30954ec1245c386800bd95e8d3d22c81"), looks := false }, kinds := [], alts := [], laidByText := true, laidKinds := [.sentinel], laidTests := true, laidLooks := .later }
def DataKeepsCardSaid : Prop := Claim7.holds Tryd.pinned (.plain (OpenSpec.ofChange dataKeepsSpec)) dataKeepsCard

/-- THE SECOND FORM's CARD OF 'pigeonholeslaw1.DataKeeps'. -/
def dataKeepsUptoCard : Claim7 := { stood := { row := dataKeepsUptoRow, standIns := [], harness := (true, "7e188bdfbf4ae9e3fc81a8686db7ebdf30954ec1245c386800bd95e8d3d22c81"), looks := false }, kinds := [], alts := [], laidByText := true, laidKinds := [.sentinel], laidTests := true, laidLooks := .later }
def DataKeepsUptoCardSaid : Prop := Claim7.holds Tryd.pinned (.plain (OpenSpec.upto dataKeepsSpec)) dataKeepsUptoCard
end Rows
end Go.Proofs.YthofinllkdajhacDoor
