/- The closed fact that the statements begin with: an Int has four bytes. -/
import Derived.Test.YtmfcfkomdflhlaaDoorW2
import Derived.Test.YtmfcfkomdflhlaaDoorMem
namespace Go.Proofs.YtmfcfkomdflhlaaDoor
open Go Go.RowKit Go.Deep

theorem four_text : ((⟨#[]⟩ : ByteArray) ++ bs (be 4 258)) = ⟨#[0, 0, 1, 2]⟩ := by
  apply data_inj
  decide

end Go.Proofs.YtmfcfkomdflhlaaDoor
