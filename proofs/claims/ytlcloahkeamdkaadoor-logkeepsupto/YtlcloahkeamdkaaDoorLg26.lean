/- LogKeeps, whatever came in. -/
import Derived.Test.YtlcloahkeamdkaaDoorLg24
import Derived.Test.YtlcloahkeamdkaaDoorLg25
namespace Go.Proofs.YtlcloahkeamdkaaDoor
open Go Go.RowKit Go.Deep

theorem lkeeps_recs (A : Nat → Addr) (w : World) (n : Int) (ad : Option Addr) (len cap : Nat) (hE : Errs w A) (hI : IsRecs w ad len) :
    Calls Tryd.prog 3 #[.int .i64 n, .slice ad len cap] w fun e w' => e = .returned (.bool true) ∧ Below w.heap.size w w' := by
  obtain ⟨hl, L, rfl, hA⟩ := hI
  exact lkeeps_all A w n ad cap L hE hA hl
end Go.Proofs.YtlcloahkeamdkaaDoor
