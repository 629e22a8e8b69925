/-
  DERIVED. GIVEN WITH THE SEED: THE CARDS: each row of YtnhpgpjopogbiabDoorRows.lean that lists a variable, with what it lists TIED to the program's text (the seventh form; the later family's looks); each row that meets fmt, with fmt's text TOLD by the authors' own Lean function (tested against real Go, not proved from fmt's source: count such statements apart). THE CARD IS WHAT COUNTS. Prove the row's statement (the work); the ties are given (YtnhpgpjopogbiabDoorTie.lean); close each card by the builder's one call (the guide's Derived/Test/ToyasCard.lean, 'card_holds'). Laid BY PROGRAM, IN A SANDBOX (cutbox-door.mjs). By AI agents, Wed Nov 11 2026. No macro, syntax, notation, axiom, sorry.
-/
import Derived.Test.YtnhpgpjopogbiabDoorRows
import GoSem.ClaimSeven
namespace Go.Proofs.YtnhpgpjopogbiabDoor
namespace Rows

/-- THE TIED CARD OF 'pigeonholeslaw1.NamesMatch'. -/
def namesMatchCard : Claim7 := { stood := { row := namesMatchRow, standIns := [], harness := (true, "09adbb38edab1a61e8086e9836eb0fd6bef60aee4224aa2e575d55f220b91480"), looks := true }, kinds := [], alts := [], laidByText := true, laidKinds := [.data, .handle, .sentinel, .sentinel, .sentinel, .sentinel, .sentinel, .sentinel, .sentinel, .sentinel, .sentinel, .sentinel, .sentinel, .sentinel, .sentinel, .sentinel, .sentinel, .pinned], laidTests := true, laidLooks := .later }
def NamesMatchCardSaid : Prop := Claim7.holds Tryd.pinned (.plain (OpenSpec.ofChange namesMatchSpec)) namesMatchCard

/-- THE TIED CARD OF 'pigeonholeslaw1.NamesStar'. -/
def namesStarCard : Claim7 := { stood := { row := namesStarRow, standIns := [], harness := (true, "09adbb38edab1a61e8086e9836eb0fd6bef60aee4224aa2e575d55f220b91480"), looks := true }, kinds := [], alts := [], laidByText := true, laidKinds := [.data, .handle, .sentinel, .sentinel, .sentinel, .sentinel, .sentinel, .sentinel, .sentinel, .sentinel, .sentinel, .sentinel, .sentinel, .sentinel, .sentinel, .sentinel, .sentinel, .pinned], laidTests := true, laidLooks := .later }
def NamesStarCardSaid : Prop := Claim7.holds Tryd.pinned (.plain (OpenSpec.ofChange namesStarSpec)) namesStarCard

/-- THE SECOND FORM's CARD OF 'pigeonholeslaw1.NamesMatch'. -/
def namesMatchUptoCard : Claim7 := { stood := { row := namesMatchUptoRow, standIns := [], harness := (true, "09adbb38edab1a61e8086e9836eb0fd6bef60aee4224aa2e575d55f220b91480"), looks := true }, kinds := [], alts := [], laidByText := true, laidKinds := [.data, .handle, .sentinel, .sentinel, .sentinel, .sentinel, .sentinel, .sentinel, .sentinel, .sentinel, .sentinel, .sentinel, .sentinel, .sentinel, .sentinel, .sentinel, .sentinel, .pinned], laidTests := true, laidLooks := .later }
def NamesMatchUptoCardSaid : Prop := Claim7.holds Tryd.pinned (.plain (OpenSpec.upto namesMatchSpec)) namesMatchUptoCard

/-- THE SECOND FORM's CARD OF 'pigeonholeslaw1.NamesStar'. -/
def namesStarUptoCard : Claim7 := { stood := { row := namesStarUptoRow, standIns := [], harness := (true, "09adbb38edab1a61e8086e9836eb0fd6bef60aee4224aa2e575d55f220b91480"), looks := true }, kinds := [], alts := [], laidByText := true, laidKinds := [.data, .handle, .sentinel, .sentinel, .sentinel, .sentinel, .sentinel, .sentinel, .sentinel, .sentinel, .sentinel, .sentinel, .sentinel, .sentinel, .sentinel, .sentinel, .sentinel, .pinned], laidTests := true, laidLooks := .later }
def NamesStarUptoCardSaid : Prop := Claim7.holds Tryd.pinned (.plain (OpenSpec.upto namesStarSpec)) namesStarUptoCard
end Rows
end Go.Proofs.YtnhpgpjopogbiabDoor
