/- The document's answer for texts on the wire: its small functions by their contracts. -/
import Derived.Test.YtmfcfkomdflhlaaDoorT0
namespace Go.Proofs.YtmfcfkomdflhlaaDoor
open Go Go.RowKit Go.Deep

theorem be_succ_bs (j n : Nat) : bs [UInt8.ofNat (n / 256 ^ j % 256)] ++ bs (be j n) = bs (be (j + 1) n) := by
  rw [bs_append]
  show bs (UInt8.ofNat (n / 256 ^ j % 256) :: be j n) = bs (UInt8.ofNat (n / 256 ^ j) :: be j n)
  have : UInt8.ofNat (n / 256 ^ j % 256) = UInt8.ofNat (n / 256 ^ j) := by
    apply UInt8.toNat_inj.1
    simp
  rw [this]

end Go.Proofs.YtmfcfkomdflhlaaDoor
