/- A disk: Copy. -/
import Derived.Test.YtlcloahkeamdkaaDoorDk7
import Derived.Lib.SliceRun
namespace Go.Proofs.YtlcloahkeamdkaaDoor
open Go Go.RowKit Go.Deep

end Go.Proofs.YtlcloahkeamdkaaDoor
