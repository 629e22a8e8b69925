/-
  DERIVED. GIVEN WITH THE SEED: THE CARDS: each row of YtmfcfkomdflhlaaGreatDoorRows.lean that lists a variable, with what it lists TIED to the program's text (the seventh form; the later family's looks); each row that meets fmt, with fmt's text TOLD by the authors' own Lean function (tested against real Go, not proved from fmt's source: count such statements apart). THE CARD IS WHAT COUNTS. Prove the row's statement (the work); the ties are given (YtmfcfkomdflhlaaGreatDoorTie.lean); close each card by the builder's one call (the guide's Derived/Test/ToyasCard.lean, 'card_holds'). Laid BY PROGRAM, IN A SANDBOX (cutbox-door.mjs). By AI agents, Wed Nov 11 2026. No macro, syntax, notation, axiom, sorry.
-/
import Derived.Test.YtmfcfkomdflhlaaGreatDoorRows
import GoSem.ClaimSeven
namespace Go.Proofs.YtmfcfkomdflhlaaGreatDoor
namespace Rows

/-- THE TIED CARD OF 'pigeonholeslaw3.CallOnce'. -/
def callOnceCard : Claim7 := { stood := { row := callOnceRow, standIns := [], harness := (true, "ed9469832f5c44b72548fc34e9e53fc7160ced17e70444048960fbd18edccafc"), looks := true }, kinds := [], alts := [], laidByText := true, laidKinds := [.data, .data, .data, .handle, .sentinel, .sentinel, .sentinel, .sentinel, .sentinel, .sentinel, .sentinel, .sentinel, .sentinel, .sentinel, .sentinel, .sentinel, .sentinel, .sentinel, .sentinel], laidTests := true, laidLooks := .later }
def CallOnceCardSaid : Prop := Claim7.holds Tryz.pinned (.plain (OpenSpec.ofChange callOnceSpec)) callOnceCard

/-- THE SECOND FORM's CARD OF 'pigeonholeslaw3.CallOnce'. -/
def callOnceUptoCard : Claim7 := { stood := { row := callOnceUptoRow, standIns := [], harness := (true, "ed9469832f5c44b72548fc34e9e53fc7160ced17e70444048960fbd18edccafc"), looks := true }, kinds := [], alts := [], laidByText := true, laidKinds := [.data, .data, .data, .handle, .sentinel, .sentinel, .sentinel, .sentinel, .sentinel, .sentinel, .sentinel, .sentinel, .sentinel, .sentinel, .sentinel, .sentinel, .sentinel, .sentinel, .sentinel], laidTests := true, laidLooks := .later }
def CallOnceUptoCardSaid : Prop := Claim7.holds Tryz.pinned (.plain (OpenSpec.upto callOnceSpec)) callOnceUptoCard
end Rows
end Go.Proofs.YtmfcfkomdflhlaaGreatDoor
