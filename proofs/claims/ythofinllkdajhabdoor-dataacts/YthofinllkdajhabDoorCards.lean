/-
  DERIVED. GIVEN WITH THE SEED: THE CARDS: each row of YthofinllkdajhabDoorRows.lean that lists a variable, with what it lists TIED to the program's text (the seventh form; the later family's looks); each row that meets fmt, with fmt's text TOLD by the authors' own Lean function (tested against real Go, not proved from fmt's source: count such statements apart). THE CARD IS WHAT COUNTS. Prove the row's statement (the work); the ties are given (YthofinllkdajhabDoorTie.lean); close each card by the builder's one call (the guide's Derived/Test/ToyasCard.lean, 'card_holds'). Laid BY PROGRAM, IN A SANDBOX (cutbox-door.mjs). By AI agents, Wed Nov 11 2026. No macro, syntax, notation, axiom, sorry.
-/
import Derived.Test.YthofinllkdajhabDoorRows
import GoSem.ClaimSeven
namespace Go.Proofs.YthofinllkdajhabDoor
namespace Rows

/-- THE TIED CARD OF 'pigeonholeslaw1.NamesMatch'. -/
def namesMatchCard : Claim7 := { stood := { row := namesMatchRow, standIns := [], harness := (true, "57dae654132ae86c43b2e1674319a252696b969e51e1e2a57a7976229b4d5449"), looks := true }, kinds := [], alts := [], laidByText := true, laidKinds := [.data, .handle, .sentinel, .sentinel, .sentinel, .sentinel, .sentinel, .sentinel, .sentinel, .sentinel, .sentinel, .sentinel, .sentinel, .sentinel, .sentinel, .sentinel, .sentinel, .pinned], laidTests := true, laidLooks := .later }
def NamesMatchCardSaid : Prop := Claim7.holds Tryd.pinned (.plain (OpenSpec.ofChange namesMatchSpec)) namesMatchCard

/-- THE TIED CARD OF 'pigeonholeslaw1.NamesStar'. -/
def namesStarCard : Claim7 := { stood := { row := namesStarRow, standIns := [], harness := (true, "57dae654132ae86c43b2e1674319a252696b969e51e1e2a57a7976229b4d5449"), looks := true }, kinds := [], alts := [], laidByText := true, laidKinds := [.data, .handle, .sentinel, .sentinel, .sentinel, .sentinel, .sentinel, .sentinel, .sentinel, .sentinel, .sentinel, .sentinel, .sentinel, .sentinel, .sentinel, .sentinel, .sentinel, .pinned], laidTests := true, laidLooks := .later }
def NamesStarCardSaid : Prop := Claim7.holds Tryd.pinned (.plain (OpenSpec.ofChange namesStarSpec)) namesStarCard

/-- THE TIED CARD OF 'pigeonholeslaw1.AttrCodes'. -/
def attrCodesCard : Claim7 := { stood := { row := attrCodesRow, standIns := [], harness := (true, "57dae654132ae86c43b2e1674319a252696b969e51e1e2a57a7976229b4d5449"), looks := true }, kinds := [], alts := [], laidByText := true, laidKinds := [.handle, .sentinel, .sentinel, .sentinel, .sentinel, .sentinel, .sentinel, .sentinel, .sentinel, .sentinel, .sentinel, .sentinel, .sentinel, .sentinel, .sentinel, .sentinel], laidTests := true, laidLooks := .later }
def AttrCodesCardSaid : Prop := Claim7.holds Tryd.pinned (.plain (OpenSpec.ofChange attrCodesSpec)) attrCodesCard

/-- THE TIED CARD OF 'pigeonholeslaw1.AttrReads'. -/
def attrReadsCard : Claim7 := { stood := { row := attrReadsRow, standIns := [], harness := (true, "57dae654132ae86c43b2e1674319a252696b969e51e1e2a57a7976229b4d5449"), looks := true }, kinds := [], alts := [], laidByText := true, laidKinds := [.handle, .sentinel, .sentinel, .sentinel, .sentinel, .sentinel, .sentinel, .sentinel, .sentinel, .sentinel, .sentinel, .sentinel, .sentinel, .sentinel, .sentinel, .sentinel], laidTests := true, laidLooks := .later }
def AttrReadsCardSaid : Prop := Claim7.holds Tryd.pinned (.plain (OpenSpec.ofChange attrReadsSpec)) attrReadsCard

/-- THE TIED CARD OF 'pigeonholeslaw1.AttrSame'. -/
def attrSameCard : Claim7 := { stood := { row := attrSameRow, standIns := [], harness := (true, "57dae654132ae86c43b2e1674319a252696b969e51e1e2a57a7976229b4d5449"), looks := true }, kinds := [], alts := [], laidByText := true, laidKinds := [.handle, .sentinel, .sentinel, .sentinel, .sentinel, .sentinel, .sentinel, .sentinel, .sentinel, .sentinel, .sentinel, .sentinel, .sentinel, .sentinel, .sentinel, .sentinel], laidTests := true, laidLooks := .later }
def AttrSameCardSaid : Prop := Claim7.holds Tryd.pinned (.plain (OpenSpec.ofChange attrSameSpec)) attrSameCard

/-- THE TIED CARD OF 'pigeonholeslaw1.DataActs'. -/
def dataActsCard : Claim7 := { stood := { row := dataActsRow, standIns := [], harness := (true, "57dae654132ae86c43b2e1674319a252696b969e51e1e2a57a7976229b4d5449"), looks := true }, kinds := [], alts := [], laidByText := true, laidKinds := [.handle, .sentinel, .sentinel, .sentinel, .sentinel, .sentinel, .sentinel, .sentinel, .sentinel, .sentinel, .sentinel, .sentinel, .sentinel, .sentinel, .sentinel, .sentinel], laidTests := true, laidLooks := .later }
def DataActsCardSaid : Prop := Claim7.holds Tryd.pinned (.plain (OpenSpec.ofChange dataActsSpec)) dataActsCard

/-- THE SECOND FORM's CARD OF 'pigeonholeslaw1.NamesMatch'. -/
def namesMatchUptoCard : Claim7 := { stood := { row := namesMatchUptoRow, standIns := [], harness := (true, "57dae654132ae86c43b2e1674319a252696b969e51e1e2a57a7976229b4d5449"), looks := true }, kinds := [], alts := [], laidByText := true, laidKinds := [.data, .handle, .sentinel, .sentinel, .sentinel, .sentinel, .sentinel, .sentinel, .sentinel, .sentinel, .sentinel, .sentinel, .sentinel, .sentinel, .sentinel, .sentinel, .sentinel, .pinned], laidTests := true, laidLooks := .later }
def NamesMatchUptoCardSaid : Prop := Claim7.holds Tryd.pinned (.plain (OpenSpec.upto namesMatchSpec)) namesMatchUptoCard

/-- THE SECOND FORM's CARD OF 'pigeonholeslaw1.NamesStar'. -/
def namesStarUptoCard : Claim7 := { stood := { row := namesStarUptoRow, standIns := [], harness := (true, "57dae654132ae86c43b2e1674319a252696b969e51e1e2a57a7976229b4d5449"), looks := true }, kinds := [], alts := [], laidByText := true, laidKinds := [.data, .handle, .sentinel, .sentinel, .sentinel, .sentinel, .sentinel, .sentinel, .sentinel, .sentinel, .sentinel, .sentinel, .sentinel, .sentinel, .sentinel, .sentinel, .sentinel, .pinned], laidTests := true, laidLooks := .later }
def NamesStarUptoCardSaid : Prop := Claim7.holds Tryd.pinned (.plain (OpenSpec.upto namesStarSpec)) namesStarUptoCard

/-- THE SECOND FORM's CARD OF 'pigeonholeslaw1.AttrCodes'. -/
def attrCodesUptoCard : Claim7 := { stood := { row := attrCodesUptoRow, standIns := [], harness := (true, "57dae654132ae86c43b2e1674319a252696b969e51e1e2a57a7976229b4d5449"), looks := true }, kinds := [], alts := [], laidByText := true, laidKinds := [.handle, .sentinel, .sentinel, .sentinel, .sentinel, .sentinel, .sentinel, .sentinel, .sentinel, .sentinel, .sentinel, .sentinel, .sentinel, .sentinel, .sentinel, .sentinel], laidTests := true, laidLooks := .later }
def AttrCodesUptoCardSaid : Prop := Claim7.holds Tryd.pinned (.plain (OpenSpec.upto attrCodesSpec)) attrCodesUptoCard

/-- THE SECOND FORM's CARD OF 'pigeonholeslaw1.AttrReads'. -/
def attrReadsUptoCard : Claim7 := { stood := { row := attrReadsUptoRow, standIns := [], harness := (true, "57dae654132ae86c43b2e1674319a252696b969e51e1e2a57a7976229b4d5449"), looks := true }, kinds := [], alts := [], laidByText := true, laidKinds := [.handle, .sentinel, .sentinel, .sentinel, .sentinel, .sentinel, .sentinel, .sentinel, .sentinel, .sentinel, .sentinel, .sentinel, .sentinel, .sentinel, .sentinel, .sentinel], laidTests := true, laidLooks := .later }
def AttrReadsUptoCardSaid : Prop := Claim7.holds Tryd.pinned (.plain (OpenSpec.upto attrReadsSpec)) attrReadsUptoCard

/-- THE SECOND FORM's CARD OF 'pigeonholeslaw1.AttrSame'. -/
def attrSameUptoCard : Claim7 := { stood := { row := attrSameUptoRow, standIns := [], harness := (true, "57dae654132ae86c43b2e1674319a252696b969e51e1e2a57a7976229b4d5449"), looks := true }, kinds := [], alts := [], laidByText := true, laidKinds := [.handle, .sentinel, .sentinel, .sentinel, .sentinel, .sentinel, .sentinel, .sentinel, .sentinel, .sentinel, .sentinel, .sentinel, .sentinel, .sentinel, .sentinel, .sentinel], laidTests := true, laidLooks := .later }
def AttrSameUptoCardSaid : Prop := Claim7.holds Tryd.pinned (.plain (OpenSpec.upto attrSameSpec)) attrSameUptoCard

/-- THE SECOND FORM's CARD OF 'pigeonholeslaw1.DataActs'. -/
def dataActsUptoCard : Claim7 := { stood := { row := dataActsUptoRow, standIns := [], harness := (true, "57dae654132ae86c43b2e1674319a252696b969e51e1e2a57a7976229b4d5449"), looks := true }, kinds := [], alts := [], laidByText := true, laidKinds := [.handle, .sentinel, .sentinel, .sentinel, .sentinel, .sentinel, .sentinel, .sentinel, .sentinel, .sentinel, .sentinel, .sentinel, .sentinel, .sentinel, .sentinel, .sentinel], laidTests := true, laidLooks := .later }
def DataActsUptoCardSaid : Prop := Claim7.holds Tryd.pinned (.plain (OpenSpec.upto dataActsSpec)) dataActsUptoCard
end Rows
end Go.Proofs.YthofinllkdajhabDoor
