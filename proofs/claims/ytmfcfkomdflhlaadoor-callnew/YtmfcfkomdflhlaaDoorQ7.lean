/- The reader's functions: their contracts. -/
import Derived.Test.YtmfcfkomdflhlaaDoorR1
import Derived.Test.YtmfcfkomdflhlaaDoorW2
import Derived.Lib.Strings
/- The reader's functions: their contracts. -/
namespace Go.Proofs.YtmfcfkomdflhlaaDoor
open Go Go.RowKit Go.Deep

/-- The number of the first so many bytes. -/
def numAt (t : ByteArray) (k : Nat) : Nat := num (t.data.toList.take k)
theorem numAt_lt (t : ByteArray) (k : Nat) : numAt t k < 256 ^ k := num_take_lt _ _
/-- What is left behind the first so many bytes. -/
def cutAt (t : ByteArray) (k : Nat) : ByteArray := t.extract k t.size
theorem cutAt_size (t : ByteArray) (k : Nat) : (cutAt t k).size = t.size - k := by simp [cutAt, ByteArray.size_extract]

/-! A sentinel is no nil: E is '.iface T v'. -/
end Go.Proofs.YtmfcfkomdflhlaaDoor
/- Reader.Bytes: its contracts. -/
namespace Go.Proofs.YtmfcfkomdflhlaaDoor
open Go Go.RowKit Go.Deep

end Go.Proofs.YtmfcfkomdflhlaaDoor
