/- A disk: Copy. -/
import Derived.Test.YtgkipfiaijnolaaDoorDk7
import Derived.Lib.SliceRun
namespace Go.Proofs.YtgkipfiaijnolaaDoor
open Go Go.RowKit Go.Deep

end Go.Proofs.YtgkipfiaijnolaaDoor
