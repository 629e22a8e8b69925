/-
  DERIVED. GIVEN WITH THE SEED: THE CARDS: each row of YtfnniphemlnanaaDoorRows.lean that lists a variable, with what it lists TIED to the program's text (the seventh form; the later family's looks); each row that meets fmt, with fmt's text TOLD by the authors' own Lean function (tested against real Go, not proved from fmt's source: count such statements apart). THE CARD IS WHAT COUNTS. Prove the row's statement (the work); the ties are given (YtfnniphemlnanaaDoorTie.lean); close each card by the builder's one call (the guide's Derived/Test/ToyasCard.lean, 'card_holds'). Laid BY PROGRAM, IN A SANDBOX (cutbox-door.mjs). By AI agents, Wed Nov 11 2026. No macro, syntax, notation, axiom, sorry.
-/
import Derived.Test.YtfnniphemlnanaaDoorRows
import GoSem.ClaimSeven
namespace Go.Proofs.YtfnniphemlnanaaDoor
namespace Rows

/-- THE TIED CARD OF 'pigeonholeslaw2.LockActs'. -/
def lockActsCard : Claim7 := { stood := { row := lockActsRow, standIns := [], harness := (true, "a02c2930eddba113e6d5be64f0e6d0213a933e6032a05504a4502221053c67d5"), looks := true }, kinds := [], alts := [], laidByText := true, laidKinds := [.handle, .sentinel, .sentinel, .sentinel, .sentinel, .sentinel, .sentinel, .sentinel, .sentinel, .sentinel, .sentinel, .sentinel, .sentinel, .sentinel, .sentinel, .sentinel], laidTests := true, laidLooks := .later }
def LockActsCardSaid : Prop := Claim7.holds Tryd.pinned (.plain (OpenSpec.ofChange lockActsSpec)) lockActsCard

/-- THE TIED CARD OF 'pigeonholeslaw2.LockSound'. -/
def lockSoundCard : Claim7 := { stood := { row := lockSoundRow, standIns := [], harness := (true, "a02c2930eddba113e6d5be64f0e6d0213a933e6032a05504a4502221053c67d5"), looks := true }, kinds := [], alts := [], laidByText := true, laidKinds := [.sentinel, .sentinel, .sentinel], laidTests := true, laidLooks := .later }
def LockSoundCardSaid : Prop := Claim7.holds Tryd.pinned (.plain (OpenSpec.ofChange lockSoundSpec)) lockSoundCard

/-- THE TIED CARD OF 'pigeonholeslaw2.LockFull'. -/
def lockFullCard : Claim7 := { stood := { row := lockFullRow, standIns := [], harness := (true, "a02c2930eddba113e6d5be64f0e6d0213a933e6032a05504a4502221053c67d5"), looks := true }, kinds := [], alts := [], laidByText := true, laidKinds := [.handle, .sentinel, .sentinel, .sentinel, .sentinel, .sentinel, .sentinel, .sentinel, .sentinel, .sentinel, .sentinel, .sentinel, .sentinel, .sentinel, .sentinel, .sentinel], laidTests := true, laidLooks := .later }
def LockFullCardSaid : Prop := Claim7.holds Tryd.pinned (.plain (OpenSpec.ofChange lockFullSpec)) lockFullCard

/-- THE TIED CARD OF 'pigeonholeslaw2.LockBytes'. -/
def lockBytesCard : Claim7 := { stood := { row := lockBytesRow, standIns := [], harness := (true, "a02c2930eddba113e6d5be64f0e6d0213a933e6032a05504a4502221053c67d5"), looks := true }, kinds := [], alts := [], laidByText := true, laidKinds := [.handle, .sentinel, .sentinel, .sentinel, .sentinel, .sentinel, .sentinel, .sentinel, .sentinel, .sentinel, .sentinel, .sentinel, .sentinel, .sentinel, .sentinel, .sentinel], laidTests := true, laidLooks := .later }
def LockBytesCardSaid : Prop := Claim7.holds Tryd.pinned (.plain (OpenSpec.ofChange lockBytesSpec)) lockBytesCard

/-- THE SECOND FORM's CARD OF 'pigeonholeslaw2.LockActs'. -/
def lockActsUptoCard : Claim7 := { stood := { row := lockActsUptoRow, standIns := [], harness := (true, "a02c2930eddba113e6d5be64f0e6d0213a933e6032a05504a4502221053c67d5"), looks := true }, kinds := [], alts := [], laidByText := true, laidKinds := [.handle, .sentinel, .sentinel, .sentinel, .sentinel, .sentinel, .sentinel, .sentinel, .sentinel, .sentinel, .sentinel, .sentinel, .sentinel, .sentinel, .sentinel, .sentinel], laidTests := true, laidLooks := .later }
def LockActsUptoCardSaid : Prop := Claim7.holds Tryd.pinned (.plain (OpenSpec.upto lockActsSpec)) lockActsUptoCard

/-- THE SECOND FORM's CARD OF 'pigeonholeslaw2.LockSound'. -/
def lockSoundUptoCard : Claim7 := { stood := { row := lockSoundUptoRow, standIns := [], harness := (true, "a02c2930eddba113e6d5be64f0e6d0213a933e6032a05504a4502221053c67d5"), looks := true }, kinds := [], alts := [], laidByText := true, laidKinds := [.sentinel, .sentinel, .sentinel], laidTests := true, laidLooks := .later }
def LockSoundUptoCardSaid : Prop := Claim7.holds Tryd.pinned (.plain (OpenSpec.upto lockSoundSpec)) lockSoundUptoCard

/-- THE SECOND FORM's CARD OF 'pigeonholeslaw2.LockFull'. -/
def lockFullUptoCard : Claim7 := { stood := { row := lockFullUptoRow, standIns := [], harness := (true, "a02c2930eddba113e6d5be64f0e6d0213a933e6032a05504a4502221053c67d5"), looks := true }, kinds := [], alts := [], laidByText := true, laidKinds := [.handle, .sentinel, .sentinel, .sentinel, .sentinel, .sentinel, .sentinel, .sentinel, .sentinel, .sentinel, .sentinel, .sentinel, .sentinel, .sentinel, .sentinel, .sentinel], laidTests := true, laidLooks := .later }
def LockFullUptoCardSaid : Prop := Claim7.holds Tryd.pinned (.plain (OpenSpec.upto lockFullSpec)) lockFullUptoCard

/-- THE SECOND FORM's CARD OF 'pigeonholeslaw2.LockBytes'. -/
def lockBytesUptoCard : Claim7 := { stood := { row := lockBytesUptoRow, standIns := [], harness := (true, "a02c2930eddba113e6d5be64f0e6d0213a933e6032a05504a4502221053c67d5"), looks := true }, kinds := [], alts := [], laidByText := true, laidKinds := [.handle, .sentinel, .sentinel, .sentinel, .sentinel, .sentinel, .sentinel, .sentinel, .sentinel, .sentinel, .sentinel, .sentinel, .sentinel, .sentinel, .sentinel, .sentinel], laidTests := true, laidLooks := .later }
def LockBytesUptoCardSaid : Prop := Claim7.holds Tryd.pinned (.plain (OpenSpec.upto lockBytesSpec)) lockBytesUptoCard
end Rows
end Go.Proofs.YtfnniphemlnanaaDoor
