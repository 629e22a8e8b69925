import Derived.Test.YtodldddakjmonaaGreatDoorProg
import Derived.Test.YtodldddakjmonaaGreatDoorK0
import Derived.WalkKit
import Derived.LaidEql
import Derived.Stop.Asserts
import Derived.RowKitTokens
namespace Go.Proofs.YtodldddakjmonaaGreatDoor
section
open Go Go.RowKit Go.Extern.Stop Go.Stop Go.Extern
def ext (tab:Func→Option (Array Value→Sem Value))(f:Func):Array Value→Sem Value:=(tab f).getD fun _=>pure (.tuple #[])
theorem Tryz.noAsE (v:Value)(xT:TypeId)(w:World):(Instr.typeAssert (.iface 416 v) xT 147 true).run Tryz.prog w = .ok (.tuple #[.nilIface,.bool false]) w:=run_typeAssert_lacksB Tryz.underlying147 (by kernel_rfl) (by kernel_rfl) v xT w
theorem Tryz.noUnwrapE (v:Value)(xT:TypeId)(w:World):(Instr.typeAssert (.iface 416 v) xT 150 true).run Tryz.prog w = .ok (.tuple #[.nilIface,.bool false]) w:=run_typeAssert_lacksB Tryz.underlying150 (by kernel_rfl) (by kernel_rfl) v xT w
theorem Tryz.noUnwrapsE (v:Value)(xT:TypeId)(w:World):(Instr.typeAssert (.iface 416 v) xT 152 true).run Tryz.prog w = .ok (.tuple #[.nilIface,.bool false]) w:=run_typeAssert_lacksB Tryz.underlying152 (by kernel_rfl) (by kernel_rfl) v xT w
end
end Go.Proofs.YtodldddakjmonaaGreatDoor
