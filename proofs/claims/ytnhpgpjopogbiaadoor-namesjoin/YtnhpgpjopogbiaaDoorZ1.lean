/- A world in which the rows on names can begin: the door's run, and the one great table of Go's library laid behind it. -/
import Derived.Test.YtnhpgpjopogbiaaDoorZ0
import Derived.Test.YtnhpgpjopogbiaaDoorTie
import Derived.Test.YtnhpgpjopogbiaaDoorCards
import Derived.ProofKit
import Derived.Deep.Strs
import Derived.Deep.Slices
import Derived.OpenShut
namespace Go.Proofs.YtnhpgpjopogbiaaDoor
open Go Go.ChangeShapes Go.WideShapes Go.ChangeAt Go.RowKit

theorem own : ownKnob Tryd.prog.godebug = none := by kernel_rfl
theorem laidOut : laidOutB Tryd.prog = true := by kernel_rfl

/-- What a row on names lists. -/
def namesLaid : List (String × DataW Unit) := [("unicode/utf8.acceptRanges", Rows.laid_unicode_utf8_acceptRanges), ("errors.errorType", Rows.laid_errors_errorType)] ++ (errNames.map (sent "*errors.errorString") ++ [("unicode/utf8.first", Rows.laid_unicode_utf8_first)])

set_option maxRecDepth 100000 in
theorem names_met (os : Os) (args : Array Value) : laidMetH Tryd.prog namesLaid (((World.doorLaid Tryd.prog 311 os).layVars Tryd.prog [("unicode/utf8.first", Rows.laid_unicode_utf8_first)]).forCall (fun _ _ => 0) ⟨#[], args, []⟩).memory :=
  laidMetH_of_parts3 (fuel := 8)
    (laidMet_layVars (w0 := World.doorLaid Tryd.prog 311 os) ["unicode/utf8.first"] ((List.range (World.doorLaid Tryd.prog 311 os).heap.size).filter fun b => b != 17) rfl (by kernel_rfl) (by kernel_rfl) (LaidIn.of_run _ 8 (by kernel_rfl) (by kernel_rfl) (by kernel_rfl) (by kernel_rfl)))
    (by kernel_rfl) (by kernel_rfl)
end Go.Proofs.YtnhpgpjopogbiaaDoor
