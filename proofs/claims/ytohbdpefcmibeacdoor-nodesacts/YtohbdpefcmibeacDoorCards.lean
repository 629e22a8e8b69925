/-
  DERIVED. GIVEN WITH THE SEED: THE CARDS: each row of YtohbdpefcmibeacDoorRows.lean that lists a variable, with what it lists TIED to the program's text (the seventh form; the later family's looks); each row that meets fmt, with fmt's text TOLD by the authors' own Lean function (tested against real Go, not proved from fmt's source: count such statements apart). THE CARD IS WHAT COUNTS. Prove the row's statement (the work); the ties are given (YtohbdpefcmibeacDoorTie.lean); close each card by the builder's one call (the guide's Derived/Test/ToyasCard.lean, 'card_holds'). Laid BY PROGRAM, IN A SANDBOX (cutbox-door.mjs). By AI agents, Wed Nov 11 2026. No macro, syntax, notation, axiom, sorry.
-/
import Derived.Test.YtohbdpefcmibeacDoorRows
import GoSem.ClaimSeven
namespace Go.Proofs.YtohbdpefcmibeacDoor
namespace Rows

/-- THE TIED CARD OF 'pigeonholeslaw1.DataKeeps'. -/
def dataKeepsCard : Claim7 := { stood := { row := dataKeepsRow, standIns := [], harness := (true, "30f825ce758ce536e0fd368dbe44e0bdc262f793eeecd4ae39d5f735f39a9ac5"), looks := true }, kinds := [], alts := [], laidByText := true, laidKinds := [.sentinel], laidTests := true, laidLooks := .later }
def DataKeepsCardSaid : Prop := Claim7.holds Tryd.pinned (.plain (OpenSpec.ofChange dataKeepsSpec)) dataKeepsCard

/-- THE TIED CARD OF 'pigeonholeslaw1.NodesActs'. -/
def nodesActsCard : Claim7 := { stood := { row := nodesActsRow, standIns := [], harness := (true, "30f825ce758ce536e0fd368dbe44e0bdc262f793eeecd4ae39d5f735f39a9ac5"), looks := true }, kinds := [], alts := [], laidByText := true, laidKinds := [.handle, .sentinel, .sentinel, .sentinel, .sentinel, .sentinel, .sentinel, .sentinel, .sentinel, .sentinel, .sentinel, .sentinel, .sentinel, .sentinel, .sentinel, .sentinel], laidTests := true, laidLooks := .later }
def NodesActsCardSaid : Prop := Claim7.holds Tryd.pinned (.plain (OpenSpec.ofChange nodesActsSpec)) nodesActsCard

/-- THE TIED CARD OF 'pigeonholeslaw1.NodesStale'. -/
def nodesStaleCard : Claim7 := { stood := { row := nodesStaleRow, standIns := [], harness := (true, "30f825ce758ce536e0fd368dbe44e0bdc262f793eeecd4ae39d5f735f39a9ac5"), looks := true }, kinds := [], alts := [], laidByText := true, laidKinds := [.handle, .sentinel, .sentinel, .sentinel, .sentinel, .sentinel, .sentinel, .sentinel, .sentinel, .sentinel, .sentinel, .sentinel, .sentinel, .sentinel, .sentinel, .sentinel], laidTests := true, laidLooks := .later }
def NodesStaleCardSaid : Prop := Claim7.holds Tryd.pinned (.plain (OpenSpec.ofChange nodesStaleSpec)) nodesStaleCard

/-- THE SECOND FORM's CARD OF 'pigeonholeslaw1.DataKeeps'. -/
def dataKeepsUptoCard : Claim7 := { stood := { row := dataKeepsUptoRow, standIns := [], harness := (true, "30f825ce758ce536e0fd368dbe44e0bdc262f793eeecd4ae39d5f735f39a9ac5"), looks := true }, kinds := [], alts := [], laidByText := true, laidKinds := [.sentinel], laidTests := true, laidLooks := .later }
def DataKeepsUptoCardSaid : Prop := Claim7.holds Tryd.pinned (.plain (OpenSpec.upto dataKeepsSpec)) dataKeepsUptoCard

/-- THE SECOND FORM's CARD OF 'pigeonholeslaw1.NodesActs'. -/
def nodesActsUptoCard : Claim7 := { stood := { row := nodesActsUptoRow, standIns := [], harness := (true, "30f825ce758ce536e0fd368dbe44e0bdc262f793eeecd4ae39d5f735f39a9ac5"), looks := true }, kinds := [], alts := [], laidByText := true, laidKinds := [.handle, .sentinel, .sentinel, .sentinel, .sentinel, .sentinel, .sentinel, .sentinel, .sentinel, .sentinel, .sentinel, .sentinel, .sentinel, .sentinel, .sentinel, .sentinel], laidTests := true, laidLooks := .later }
def NodesActsUptoCardSaid : Prop := Claim7.holds Tryd.pinned (.plain (OpenSpec.upto nodesActsSpec)) nodesActsUptoCard

/-- THE SECOND FORM's CARD OF 'pigeonholeslaw1.NodesStale'. -/
def nodesStaleUptoCard : Claim7 := { stood := { row := nodesStaleUptoRow, standIns := [], harness := (true, "30f825ce758ce536e0fd368dbe44e0bdc262f793eeecd4ae39d5f735f39a9ac5"), looks := true }, kinds := [], alts := [], laidByText := true, laidKinds := [.handle, .sentinel, .sentinel, .sentinel, .sentinel, .sentinel, .sentinel, .sentinel, .sentinel, .sentinel, .sentinel, .sentinel, .sentinel, .sentinel, .sentinel, .sentinel], laidTests := true, laidLooks := .later }
def NodesStaleUptoCardSaid : Prop := Claim7.holds Tryd.pinned (.plain (OpenSpec.upto nodesStaleSpec)) nodesStaleUptoCard
end Rows
end Go.Proofs.YtohbdpefcmibeacDoor
