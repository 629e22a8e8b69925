import Derived.Test.YtodldddakjmonaaGreatDoorK1
set_option maxRecDepth 100000
set_option maxHeartbeats 8000000
namespace Go.Proofs.YtodldddakjmonaaGreatDoor
section
open Go Go.RowKit Go.Extern.Stop Go.Stop Go.Extern
theorem Tryz.valueOfT (t:Addr)(w:World):(ext find Tryz.f24 #[.iface 60 (.pointer (some t))]).run Tryz.prog w
 = .ok (.agg #[.pointer (some ⟨29,60,none⟩),.pointer (some ⟨w.heap.size,0,none⟩),.int .u64 150]) (w.alloc (.cells #[.pointer (some t)] 60)):=by kernel_rfl
theorem Tryz.typeT (a:Addr)(w:World):(ext find Tryz.f25 #[.agg #[.pointer (some ⟨29,60,none⟩),.pointer (some a),.int .u64 150]]).run Tryz.prog w
 = .ok (.iface 142 (.agg #[.pointer (some ⟨29,60,none⟩)])) w:=by kernel_rfl
theorem Tryz.methodKind (h:Value)(w:World):(Go.method 711 142 (.agg #[h]) "Kind").run Tryz.prog w = .ok (501,h) w:=by kernel_rfl
theorem Tryz.methodElem (h:Value)(w:World):(Go.method 711 142 (.agg #[h]) "Elem").run Tryz.prog w = .ok (513,.agg #[h]) w:=by kernel_rfl
theorem Tryz.methodImplements (h:Value)(w:World):(Go.method 711 142 (.agg #[h]) "Implements").run Tryz.prog w = .ok (514,.agg #[h]) w:=by kernel_rfl
theorem Tryz.methodAssignableTo (h:Value)(w:World):(Go.method 711 142 (.agg #[h]) "AssignableTo").run Tryz.prog w = .ok (511,.agg #[h]) w:=by kernel_rfl
theorem Tryz.kindT (w:World):(ext find Tryz.f501 #[.pointer (some ⟨29,60,none⟩)]).run Tryz.prog w = .ok (.int .u8 22) w:=by kernel_rfl
theorem Tryz.kindE (w:World):(ext find Tryz.f501 #[.pointer (some ⟨29,58,none⟩)]).run Tryz.prog w = .ok (.int .u8 22) w:=by kernel_rfl
theorem Tryz.elemT (w:World):(ext find Tryz.f513 #[.agg #[.pointer (some ⟨29,60,none⟩)]]).run Tryz.prog w = .ok (.iface 142 (.agg #[.pointer (some ⟨29,58,none⟩)])) w:=by kernel_rfl
theorem Tryz.implementsE (w:World):(ext find Tryz.f514 #[.agg #[.pointer (some ⟨29,58,none⟩)],.iface 142 (.agg #[.pointer (some ⟨29,27,none⟩)])]).run Tryz.prog w = .ok (.bool true) w:=by kernel_rfl
theorem Tryz.typeOfS (v:Value)(w:World):(ext find Tryz.f59 #[.iface 416 v]).run Tryz.prog w = .ok (.iface 142 (.agg #[.pointer (some ⟨29,416,none⟩)])) w:=by kernel_rfl
theorem Tryz.assignS (w:World):(ext find Tryz.f511 #[.agg #[.pointer (some ⟨29,416,none⟩)],.iface 142 (.agg #[.pointer (some ⟨29,58,none⟩)])]).run Tryz.prog w = .ok (.bool false) w:=by kernel_rfl
theorem Tryz.partsT (a:Addr)(w:World):(ReflectliteValue.parts (.agg #[.pointer (some ⟨29,60,none⟩),.pointer (some a),.int .u64 150])).run Tryz.prog w = .ok (some (60,a,150)) w:=by kernel_rfl
theorem Tryz.extIsNil:ext find Tryz.f26=ReflectliteValue.method (ReflectliteValue.valueError "reflectlite.Value.IsNil" 0) ReflectliteValue.isNil:=by kernel_rfl
theorem Tryz.isNilT (a p:Addr)(W:World)(ha:W.cell? a=some (.pointer (some p))):
  (ext find Tryz.f26 #[.agg #[.pointer (some ⟨29,60,none⟩),.pointer (some a),.int .u64 150]]).run Tryz.prog W = .ok (.bool false) W:=by
 rw [Tryz.extIsNil]
 refine Eq.trans (congrArg (fun s=>Sem.run Tryz.prog s W) (show ReflectliteValue.method _ _ #[(.agg #[.pointer (some ⟨29,60,none⟩),.pointer (some a),.int .u64 150])]=bind (ReflectliteValue.parts (.agg #[.pointer (some ⟨29,60,none⟩),.pointer (some a),.int .u64 150])) _ from rfl)) ?_
 simp only [Sem.run_bind,Tryz.partsT,Result.andThen];simp [Result.andThen,ReflectliteValue.isNil,loadVar,isAgg,underlying,Tryz.underlying60,ha]
theorem as_miss (a t:Addr)(old:Value)(w:World)(hg:w.cell? ⟨3,0,none⟩=some (.iface 142 (.agg #[.pointer (some ⟨29,27,none⟩)])))(ht0:w.cell? t=some old):
  Calls Tryz.prog 16 #[.iface 416 (.pointer (some a)),.iface 60 (.pointer (some t))] w fun ev w'=>ev = .returned (.bool false)∧Below w.heap.size w w':=by
 have x0:=@run_callFunc_extern Tryz.prog 24 _ (ext find Tryz.f24) Tryz.func24 (by kernel_rfl) (by kernel_rfl) (by kernel_rfl) (by kernel_rfl);have x1:=@run_callFunc_extern Tryz.prog 25 _ (ext find Tryz.f25) Tryz.func25 (by kernel_rfl) (by kernel_rfl) (by kernel_rfl) (by kernel_rfl);have x2:=@run_callFunc_extern Tryz.prog 26 _ (ext find Tryz.f26) Tryz.func26 (by kernel_rfl) (by kernel_rfl) (by kernel_rfl) (by kernel_rfl);have x3:=@run_callFunc_extern Tryz.prog 501 _ (ext find Tryz.f501) Tryz.func501 (by kernel_rfl) (by kernel_rfl) (by kernel_rfl) (by kernel_rfl);have x4:=@run_callFunc_extern Tryz.prog 513 _ (ext find Tryz.f513) Tryz.func513 (by kernel_rfl) (by kernel_rfl) (by kernel_rfl) (by kernel_rfl);have x5:=@run_callFunc_extern Tryz.prog 514 _ (ext find Tryz.f514) Tryz.func514 (by kernel_rfl) (by kernel_rfl) (by kernel_rfl) (by kernel_rfl);have x6:=@run_callFunc_extern Tryz.prog 59 _ (ext find Tryz.f59) Tryz.func59 (by kernel_rfl) (by kernel_rfl) (by kernel_rfl) (by kernel_rfl);have x7:=@run_callFunc_extern Tryz.prog 511 _ (ext find Tryz.f511) Tryz.func511 (by kernel_rfl) (by kernel_rfl) (by kernel_rfl) (by kernel_rfl);have f6:=Tryz.valueOfT;have f7:=Tryz.typeT;have mK:=Tryz.methodKind;have mE:=Tryz.methodElem;have mI:=Tryz.methodImplements;have mA:=Tryz.methodAssignableTo;have kT:=Tryz.kindT;have kE:=Tryz.kindE;have eT:=Tryz.elemT;have iE:=Tryz.implementsE;have htl:t.block < w.heap.size:=lt_of_cell ht0;have hgl:3 < w.heap.size:=lt_of_cell hg;have n8:=Tryz.isNilT ⟨w.heap.size,0,none⟩ t ((w.alloc (.cells #[.pointer (some t)] 60)).alloc (.cells #[.pointer (some ⟨29,60,none⟩),.pointer (some ⟨w.heap.size,0,none⟩),.int .u64 150] 94)) (by simp)
 have hg2:((w.alloc (.cells #[.pointer (some t)] 60)).alloc (.cells #[.pointer (some ⟨29,60,none⟩),.pointer (some ⟨w.heap.size,0,none⟩),.int .u64 150] 94)).cell? ⟨3,0,none⟩=some (.iface 142 (.agg #[.pointer (some ⟨29,27,none⟩)])):=by
  rw [World.cell?_alloc_lt _ _ ⟨3,0,none⟩ (by simp;omega),World.cell?_alloc_lt _ _ ⟨3,0,none⟩ hgl];exact hg
 have tS:=Tryz.typeOfS;have aS:=Tryz.assignS;have nA:=Tryz.noAsE;have uE:=Tryz.noUnwrapE;have vE:=Tryz.noUnwrapsE
 go_enter Tryz.func16,Tryz.ntmps16
 go_wp2
 refine wp_loop_rounds 1 ?_;rw [rounds_succ]
 go_wp2
 go_ret
 exact ⟨rfl,(((Below.refl _ _).alloc (Nat.le_refl _) _).alloc (by simp) _).alloc (by simp;omega) _⟩
end
end Go.Proofs.YtodldddakjmonaaGreatDoor
