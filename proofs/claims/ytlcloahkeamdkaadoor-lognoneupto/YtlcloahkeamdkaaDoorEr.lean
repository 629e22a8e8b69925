/- The errors as values. -/
import Derived.Test.YtlcloahkeamdkaaDoorE3
namespace Go.Proofs.YtlcloahkeamdkaaDoor
open Go Go.RowKit

def sErr (A : Nat → Addr) (k : Nat) : Value := .iface 154 (.pointer (some (A k)))
def errN (A : Nat → Addr) (c : Nat) : Value := if c = 0 then .nilIface else sErr A (c - 1)
end Go.Proofs.YtlcloahkeamdkaaDoor
