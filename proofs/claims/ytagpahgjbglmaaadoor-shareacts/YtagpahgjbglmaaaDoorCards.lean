/-
  DERIVED. GIVEN WITH THE SEED: THE CARDS: each row of YtagpahgjbglmaaaDoorRows.lean that lists a variable, with what it lists TIED to the program's text (the seventh form; the later family's looks); each row that meets fmt, with fmt's text TOLD by the authors' own Lean function (tested against real Go, not proved from fmt's source: count such statements apart). THE CARD IS WHAT COUNTS. Prove the row's statement (the work); the ties are given (YtagpahgjbglmaaaDoorTie.lean); close each card by the builder's one call (the guide's Derived/Test/ToyasCard.lean, 'card_holds'). Laid BY PROGRAM, IN A SANDBOX (cutbox-door.mjs). By AI agents, Wed Nov 11 2026. No macro, syntax, notation, axiom, sorry.
-/
import Derived.Test.YtagpahgjbglmaaaDoorRows
import GoSem.ClaimSeven
namespace Go.Proofs.YtagpahgjbglmaaaDoor
namespace Rows

/-- THE TIED CARD OF 'pigeonholeslaw2.ShareActs'. -/
def shareActsCard : Claim7 := { stood := { row := shareActsRow, standIns := [], harness := (true, "103b440f808aefcf6e1b693553bebfbdcbf70f054cb6f23aadd0d09fb5f15079"), looks := true }, kinds := [], alts := [], laidByText := true, laidKinds := [.handle, .sentinel, .sentinel, .sentinel, .sentinel, .sentinel, .sentinel, .sentinel, .sentinel, .sentinel, .sentinel, .sentinel, .sentinel, .sentinel, .sentinel, .sentinel], laidTests := true, laidLooks := .later }
def ShareActsCardSaid : Prop := Claim7.holds Tryd.pinned (.plain (OpenSpec.ofChange shareActsSpec)) shareActsCard

/-- THE TIED CARD OF 'pigeonholeslaw2.ShareSound'. -/
def shareSoundCard : Claim7 := { stood := { row := shareSoundRow, standIns := [], harness := (true, "103b440f808aefcf6e1b693553bebfbdcbf70f054cb6f23aadd0d09fb5f15079"), looks := true }, kinds := [], alts := [], laidByText := true, laidKinds := [.sentinel, .sentinel, .sentinel, .sentinel, .sentinel], laidTests := true, laidLooks := .later }
def ShareSoundCardSaid : Prop := Claim7.holds Tryd.pinned (.plain (OpenSpec.ofChange shareSoundSpec)) shareSoundCard

/-- THE SECOND FORM's CARD OF 'pigeonholeslaw2.ShareActs'. -/
def shareActsUptoCard : Claim7 := { stood := { row := shareActsUptoRow, standIns := [], harness := (true, "103b440f808aefcf6e1b693553bebfbdcbf70f054cb6f23aadd0d09fb5f15079"), looks := true }, kinds := [], alts := [], laidByText := true, laidKinds := [.handle, .sentinel, .sentinel, .sentinel, .sentinel, .sentinel, .sentinel, .sentinel, .sentinel, .sentinel, .sentinel, .sentinel, .sentinel, .sentinel, .sentinel, .sentinel], laidTests := true, laidLooks := .later }
def ShareActsUptoCardSaid : Prop := Claim7.holds Tryd.pinned (.plain (OpenSpec.upto shareActsSpec)) shareActsUptoCard

/-- THE SECOND FORM's CARD OF 'pigeonholeslaw2.ShareSound'. -/
def shareSoundUptoCard : Claim7 := { stood := { row := shareSoundUptoRow, standIns := [], harness := (true, "103b440f808aefcf6e1b693553bebfbdcbf70f054cb6f23aadd0d09fb5f15079"), looks := true }, kinds := [], alts := [], laidByText := true, laidKinds := [.sentinel, .sentinel, .sentinel, .sentinel, .sentinel], laidTests := true, laidLooks := .later }
def ShareSoundUptoCardSaid : Prop := Claim7.holds Tryd.pinned (.plain (OpenSpec.upto shareSoundSpec)) shareSoundUptoCard
end Rows
end Go.Proofs.YtagpahgjbglmaaaDoor
