/-
  DERIVED. GIVEN WITH THE SEED: THE CARDS: each row of YtlmppddgeclddaaDoorRows.lean that lists a variable, with what it lists TIED to the program's text (the seventh form; the later family's looks); each row that meets fmt, with fmt's text TOLD by the authors' own Lean function (tested against real Go, not proved from fmt's source: count such statements apart). THE CARD IS WHAT COUNTS. Prove the row's statement (the work); the ties are given (YtlmppddgeclddaaDoorTie.lean); close each card by the builder's one call (the guide's Derived/Test/ToyasCard.lean, 'card_holds'). Laid BY PROGRAM, IN A SANDBOX (cutbox-door.mjs). By AI agents, Wed Nov 11 2026. No macro, syntax, notation, axiom, sorry.
-/
import Derived.Test.YtlmppddgeclddaaDoorRows
import GoSem.ClaimSeven
namespace Go.Proofs.YtlmppddgeclddaaDoor
namespace Rows

/-- THE TIED CARD OF 'pigeonholeslaw3.CacheActs'. -/
def cacheActsCard : Claim7 := { stood := { row := cacheActsRow, standIns := [], harness := (true, "664d9ea2d9ca211a603f7bb357e881121402468fa4a0d1c4699d4a4d9c8ebc2f"), looks := true }, kinds := [], alts := [], laidByText := true, laidKinds := [.handle, .sentinel, .sentinel, .sentinel, .sentinel, .sentinel, .sentinel, .sentinel, .sentinel, .sentinel, .sentinel, .sentinel, .sentinel, .sentinel, .sentinel, .sentinel], laidTests := true, laidLooks := .later }
def CacheActsCardSaid : Prop := Claim7.holds Tryd.pinned (.plain (OpenSpec.ofChange cacheActsSpec)) cacheActsCard

/-- THE TIED CARD OF 'pigeonholeslaw3.CacheLast'. -/
def cacheLastCard : Claim7 := { stood := { row := cacheLastRow, standIns := [], harness := (true, "664d9ea2d9ca211a603f7bb357e881121402468fa4a0d1c4699d4a4d9c8ebc2f"), looks := true }, kinds := [], alts := [], laidByText := true, laidKinds := [.sentinel, .sentinel, .sentinel], laidTests := true, laidLooks := .later }
def CacheLastCardSaid : Prop := Claim7.holds Tryd.pinned (.plain (OpenSpec.ofChange cacheLastSpec)) cacheLastCard

/-- THE SECOND FORM's CARD OF 'pigeonholeslaw3.CacheActs'. -/
def cacheActsUptoCard : Claim7 := { stood := { row := cacheActsUptoRow, standIns := [], harness := (true, "664d9ea2d9ca211a603f7bb357e881121402468fa4a0d1c4699d4a4d9c8ebc2f"), looks := true }, kinds := [], alts := [], laidByText := true, laidKinds := [.handle, .sentinel, .sentinel, .sentinel, .sentinel, .sentinel, .sentinel, .sentinel, .sentinel, .sentinel, .sentinel, .sentinel, .sentinel, .sentinel, .sentinel, .sentinel], laidTests := true, laidLooks := .later }
def CacheActsUptoCardSaid : Prop := Claim7.holds Tryd.pinned (.plain (OpenSpec.upto cacheActsSpec)) cacheActsUptoCard

/-- THE SECOND FORM's CARD OF 'pigeonholeslaw3.CacheLast'. -/
def cacheLastUptoCard : Claim7 := { stood := { row := cacheLastUptoRow, standIns := [], harness := (true, "664d9ea2d9ca211a603f7bb357e881121402468fa4a0d1c4699d4a4d9c8ebc2f"), looks := true }, kinds := [], alts := [], laidByText := true, laidKinds := [.sentinel, .sentinel, .sentinel], laidTests := true, laidLooks := .later }
def CacheLastUptoCardSaid : Prop := Claim7.holds Tryd.pinned (.plain (OpenSpec.upto cacheLastSpec)) cacheLastUptoCard
end Rows
end Go.Proofs.YtlmppddgeclddaaDoor
