/-
  DERIVED. GIVEN WITH THE SEED: THE CARDS: each row of YtpecfccadhfdhaaDoorRows.lean that lists a variable, with what it lists TIED to the program's text (the seventh form; the later family's looks); each row that meets fmt, with fmt's text TOLD by the authors' own Lean function (tested against real Go, not proved from fmt's source: count such statements apart). THE CARD IS WHAT COUNTS. Prove the row's statement (the work); the ties are given (YtpecfccadhfdhaaDoorTie.lean); close each card by the builder's one call (the guide's Derived/Test/ToyasCard.lean, 'card_holds'). Laid BY PROGRAM, IN A SANDBOX (cutbox-door.mjs). By AI agents, Wed Nov 11 2026. No macro, syntax, notation, axiom, sorry.
-/
import Derived.Test.YtpecfccadhfdhaaDoorRows
import GoSem.ClaimSeven
namespace Go.Proofs.YtpecfccadhfdhaaDoor
namespace Rows

/-- THE TIED CARD OF 'pigeonholeslaw2.TurnActs'. -/
def turnActsCard : Claim7 := { stood := { row := turnActsRow, standIns := [], harness := (true, "8261bb1b3e6ee2c172918485acbb2156dedd33c055952607f8978a616e9c63fd"), looks := true }, kinds := [], alts := [], laidByText := true, laidKinds := [.handle, .sentinel, .sentinel, .sentinel, .sentinel, .sentinel, .sentinel, .sentinel, .sentinel, .sentinel, .sentinel, .sentinel, .sentinel, .sentinel, .sentinel, .sentinel], laidTests := true, laidLooks := .later }
def TurnActsCardSaid : Prop := Claim7.holds Tryd.pinned (.plain (OpenSpec.ofChange turnActsSpec)) turnActsCard

/-- THE TIED CARD OF 'pigeonholeslaw2.TurnGoes'. -/
def turnGoesCard : Claim7 := { stood := { row := turnGoesRow, standIns := [], harness := (true, "8261bb1b3e6ee2c172918485acbb2156dedd33c055952607f8978a616e9c63fd"), looks := true }, kinds := [], alts := [], laidByText := true, laidKinds := [.sentinel, .sentinel, .sentinel], laidTests := true, laidLooks := .later }
def TurnGoesCardSaid : Prop := Claim7.holds Tryd.pinned (.plain (OpenSpec.ofChange turnGoesSpec)) turnGoesCard

/-- THE SECOND FORM's CARD OF 'pigeonholeslaw2.TurnActs'. -/
def turnActsUptoCard : Claim7 := { stood := { row := turnActsUptoRow, standIns := [], harness := (true, "8261bb1b3e6ee2c172918485acbb2156dedd33c055952607f8978a616e9c63fd"), looks := true }, kinds := [], alts := [], laidByText := true, laidKinds := [.handle, .sentinel, .sentinel, .sentinel, .sentinel, .sentinel, .sentinel, .sentinel, .sentinel, .sentinel, .sentinel, .sentinel, .sentinel, .sentinel, .sentinel, .sentinel], laidTests := true, laidLooks := .later }
def TurnActsUptoCardSaid : Prop := Claim7.holds Tryd.pinned (.plain (OpenSpec.upto turnActsSpec)) turnActsUptoCard

/-- THE SECOND FORM's CARD OF 'pigeonholeslaw2.TurnGoes'. -/
def turnGoesUptoCard : Claim7 := { stood := { row := turnGoesUptoRow, standIns := [], harness := (true, "8261bb1b3e6ee2c172918485acbb2156dedd33c055952607f8978a616e9c63fd"), looks := true }, kinds := [], alts := [], laidByText := true, laidKinds := [.sentinel, .sentinel, .sentinel], laidTests := true, laidLooks := .later }
def TurnGoesUptoCardSaid : Prop := Claim7.holds Tryd.pinned (.plain (OpenSpec.upto turnGoesSpec)) turnGoesUptoCard
end Rows
end Go.Proofs.YtpecfccadhfdhaaDoor
