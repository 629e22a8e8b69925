import Derived.Test.YtodldddakjmonaaGreatDoorK4
import Derived.Test.YtodldddakjmonaaGreatDoorProg
import Derived.WalkKit
import Derived.Deep.WholeRow
namespace Go.Proofs.YtodldddakjmonaaGreatDoor
section
open Go Go.RowKit
abbrev zI (a:Int):Value := .int .i64 a
abbrev zH (a b:Int):Obj := .cells #[.int .i64 a,.int .i64 b] 35
abbrev zG (a b:Int):Value := .agg #[.int .i64 a,.int .i64 b]
abbrev zP (a:Nat):Value := .pointer (some ⟨a,0,none⟩)
abbrev zA (a b:Nat):Addr:=⟨a,b,none⟩
abbrev zO (f:FuncId)(A:Array Value)(W:World)(v:Value):Prop:=Calls Tryz.prog f A W fun e w'=>e = .returned v∧Only [] W w'
abbrev zQ (a b:World):Prop:=Only [] a b
abbrev zK (f:FuncId)(A:Array Value)(w:World)(R:Ending→World→Prop):Prop:=Calls Tryz.prog f A w R
abbrev zE (f:FuncId)(A:Array Value)(W:World)(v:Value):Prop:=Calls Tryz.prog f A W fun e w'=>e = .returned v∧W=w'
abbrev zF (f:FuncId)(A:Array Value)(W:World)(v:Value):Prop:=Calls Tryz.prog f A W fun e w'=>e = .returned v∧w'=W
theorem zh (w:World)(o:Obj):(w.alloc o).heap[w.heap.size]?=some o:=heap_alloc_last w o
theorem zb {α:Type}[BEq α][LawfulBEq α]{a b:α}(h:a≠b):(a==b)=false:=beq_eq_false_iff_ne.2 h
theorem zT {a b c:World}(h:Hid (Only [] a b))(k:Only [] b c):Hid (Only [] a c):=Only.trans h.out k (fun _ hk=>by cases hk)
end
end Go.Proofs.YtodldddakjmonaaGreatDoor
