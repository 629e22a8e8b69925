/- The errors as values. -/
import Derived.Test.YtmfcfkomdflhlaaDoorE3
namespace Go.Proofs.YtmfcfkomdflhlaaDoor
open Go Go.RowKit

def sErr (A : Nat → Addr) (k : Nat) : Value := .iface 171 (.pointer (some (A k)))
def errN (A : Nat → Addr) (c : Nat) : Value := if c = 0 then .nilIface else sErr A (c - 1)
end Go.Proofs.YtmfcfkomdflhlaaDoor
