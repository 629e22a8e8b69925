/- Regions that draw their order, whose operations only read, and whose callees write no block that was there: one walk, in the order of the text. No program is named here. -/
import Derived.Test.YtlcloahkeamdkaaDoorO1
import Derived.Shelf.SlSortCmp.QuietGrown
import Derived.BigQuiet
namespace Go.Proofs.YtlcloahkeamdkaaDoor
open Go Go.RowKit Go.Deep

/-- A world in which all that lay in w0 is as it was. -/
structure OnlyBy (w0 : World) where
  w : World
  ho : Only [] w0 w
theorem wp_region_quiet_only {P : Program} {id : Nat} {Q : Exit → Act → World → Prop} {a : Act} {w0 w : World} {l : List Oper} (hO : Only [] w0 w) (hm : P.follows .mixedOrders = true) (hB : Region.lexB .any l.toArray = true)
    (h : wpQuiet P l.toArray (fun w' => ∃ p : OnlyBy w0, w' = p.w) (fun a' => ∀ w', (∃ p : OnlyBy w0, w' = p.w) → Q .normal a' w') l a) : (Code.region id l.toArray true).wp P Q a w :=
  wp_region_quiet (C := fun w' => ∃ p : OnlyBy w0, w' = p.w) hm hB ⟨⟨w.drew, hO.drew⟩, rfl⟩ (by simpa using h)
theorem Calls.only_of {P : Program} {f : FuncId} {args : Array Value} {w0 : World} {p : OnlyBy w0} {v : Value} (h : Calls P f args p.w fun e w' => e = .returned v ∧ Only [] p.w w') : Calls P f args p.w fun e w'' => e = .returned v ∧ ∃ q : OnlyBy w0, w'' = q.w :=
  h.mono fun _ w'' ⟨he, ho⟩ => ⟨he, ⟨w'', p.ho.trans ho (fun _ hk => by cases hk)⟩, rfl⟩
end Go.Proofs.YtlcloahkeamdkaaDoor
