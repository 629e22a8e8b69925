import Derived.Test.YtofbkeecbdahnaaGreatDoorK19
set_option maxRecDepth 100000
set_option maxHeartbeats 8000000
namespace Go.Proofs.YtofbkeecbdahnaaGreatDoor
section
open Go Go.RowKit Go.Extern.Stop Go.Stop Go.Extern
theorem Tryz.valueOfT (t:Addr)(w:World):(ext find Tryz.f145 #[.iface 185 (.pointer (some t))]).run Tryz.prog w
 = .ok (.agg #[.pointer (some ⟨17,185,none⟩),.pointer (some ⟨w.heap.size,0,none⟩),.int .u64 150]) (w.alloc (.cells #[.pointer (some t)] 185)):=by kernel_rfl
theorem Tryz.typeT (a:Addr)(w:World):(ext find Tryz.f146 #[.agg #[.pointer (some ⟨17,185,none⟩),.pointer (some a),.int .u64 150]]).run Tryz.prog w
 = .ok (.iface 251 (.agg #[.pointer (some ⟨17,185,none⟩)])) w:=by kernel_rfl
theorem Tryz.methodKind (h:Value)(w:World):(Go.method 425 251 (.agg #[h]) "Kind").run Tryz.prog w = .ok (225,h) w:=by kernel_rfl
theorem Tryz.methodElem (h:Value)(w:World):(Go.method 425 251 (.agg #[h]) "Elem").run Tryz.prog w = .ok (237,.agg #[h]) w:=by kernel_rfl
theorem Tryz.methodImplements (h:Value)(w:World):(Go.method 425 251 (.agg #[h]) "Implements").run Tryz.prog w = .ok (238,.agg #[h]) w:=by kernel_rfl
theorem Tryz.methodAssignableTo (h:Value)(w:World):(Go.method 425 251 (.agg #[h]) "AssignableTo").run Tryz.prog w = .ok (235,.agg #[h]) w:=by kernel_rfl
theorem Tryz.kindT (w:World):(ext find Tryz.f225 #[.pointer (some ⟨17,185,none⟩)]).run Tryz.prog w = .ok (.int .u8 22) w:=by kernel_rfl
theorem Tryz.kindE (w:World):(ext find Tryz.f225 #[.pointer (some ⟨17,183,none⟩)]).run Tryz.prog w = .ok (.int .u8 22) w:=by kernel_rfl
theorem Tryz.elemT (w:World):(ext find Tryz.f237 #[.agg #[.pointer (some ⟨17,185,none⟩)]]).run Tryz.prog w = .ok (.iface 251 (.agg #[.pointer (some ⟨17,183,none⟩)])) w:=by kernel_rfl
theorem Tryz.implementsE (w:World):(ext find Tryz.f238 #[.agg #[.pointer (some ⟨17,183,none⟩)],.iface 251 (.agg #[.pointer (some ⟨17,27,none⟩)])]).run Tryz.prog w = .ok (.bool true) w:=by kernel_rfl
theorem Tryz.typeOfS (v:Value)(w:World):(ext find Tryz.f149 #[.iface 296 v]).run Tryz.prog w = .ok (.iface 251 (.agg #[.pointer (some ⟨17,296,none⟩)])) w:=by kernel_rfl
theorem Tryz.assignS (w:World):(ext find Tryz.f235 #[.agg #[.pointer (some ⟨17,296,none⟩)],.iface 251 (.agg #[.pointer (some ⟨17,183,none⟩)])]).run Tryz.prog w = .ok (.bool false) w:=by kernel_rfl
theorem Tryz.partsT (a:Addr)(w:World):(ReflectliteValue.parts (.agg #[.pointer (some ⟨17,185,none⟩),.pointer (some a),.int .u64 150])).run Tryz.prog w = .ok (some (185,a,150)) w:=by kernel_rfl
theorem Tryz.extIsNil:ext find Tryz.f147=ReflectliteValue.method (ReflectliteValue.valueError "reflectlite.Value.IsNil" 0) ReflectliteValue.isNil:=by kernel_rfl
theorem Tryz.isNilT (a p:Addr)(W:World)(ha:W.cell? a=some (.pointer (some p))):
  (ext find Tryz.f147 #[.agg #[.pointer (some ⟨17,185,none⟩),.pointer (some a),.int .u64 150]]).run Tryz.prog W = .ok (.bool false) W:=by
 rw [Tryz.extIsNil]
 refine Eq.trans (congrArg (fun s=>Sem.run Tryz.prog s W) (show ReflectliteValue.method _ _ #[(.agg #[.pointer (some ⟨17,185,none⟩),.pointer (some a),.int .u64 150])]=bind (ReflectliteValue.parts (.agg #[.pointer (some ⟨17,185,none⟩),.pointer (some a),.int .u64 150])) _ from rfl)) ?_
 simp only [Sem.run_bind,Tryz.partsT,Result.andThen];simp [Result.andThen,ReflectliteValue.isNil,loadVar,isAgg,underlying,Tryz.underlying185,ha]
theorem as_miss (a t:Addr)(old:Value)(w:World)(hg:w.cell? ⟨15,0,none⟩=some (.iface 251 (.agg #[.pointer (some ⟨17,27,none⟩)])))(ht0:w.cell? t=some old):
  Calls Tryz.prog 117 #[.iface 296 (.pointer (some a)),.iface 185 (.pointer (some t))] w fun ev w'=>ev = .returned (.bool false)∧Below w.heap.size w w':=by
 have x0:=@run_callFunc_extern Tryz.prog 145 _ (ext find Tryz.f145) Tryz.func145 (by kernel_rfl) (by kernel_rfl) (by kernel_rfl) (by kernel_rfl);have x1:=@run_callFunc_extern Tryz.prog 146 _ (ext find Tryz.f146) Tryz.func146 (by kernel_rfl) (by kernel_rfl) (by kernel_rfl) (by kernel_rfl);have x2:=@run_callFunc_extern Tryz.prog 147 _ (ext find Tryz.f147) Tryz.func147 (by kernel_rfl) (by kernel_rfl) (by kernel_rfl) (by kernel_rfl);have x3:=@run_callFunc_extern Tryz.prog 225 _ (ext find Tryz.f225) Tryz.func225 (by kernel_rfl) (by kernel_rfl) (by kernel_rfl) (by kernel_rfl);have x4:=@run_callFunc_extern Tryz.prog 237 _ (ext find Tryz.f237) Tryz.func237 (by kernel_rfl) (by kernel_rfl) (by kernel_rfl) (by kernel_rfl);have x5:=@run_callFunc_extern Tryz.prog 238 _ (ext find Tryz.f238) Tryz.func238 (by kernel_rfl) (by kernel_rfl) (by kernel_rfl) (by kernel_rfl);have x6:=@run_callFunc_extern Tryz.prog 149 _ (ext find Tryz.f149) Tryz.func149 (by kernel_rfl) (by kernel_rfl) (by kernel_rfl) (by kernel_rfl);have x7:=@run_callFunc_extern Tryz.prog 235 _ (ext find Tryz.f235) Tryz.func235 (by kernel_rfl) (by kernel_rfl) (by kernel_rfl) (by kernel_rfl);have f6:=Tryz.valueOfT;have f7:=Tryz.typeT;have mK:=Tryz.methodKind;have mE:=Tryz.methodElem;have mI:=Tryz.methodImplements;have mA:=Tryz.methodAssignableTo;have kT:=Tryz.kindT;have kE:=Tryz.kindE;have eT:=Tryz.elemT;have iE:=Tryz.implementsE;have htl:t.block < w.heap.size:=lt_of_cell ht0;have hgl:15 < w.heap.size:=lt_of_cell hg;have n8:=Tryz.isNilT ⟨w.heap.size,0,none⟩ t ((w.alloc (.cells #[.pointer (some t)] 185)).alloc (.cells #[.pointer (some ⟨17,185,none⟩),.pointer (some ⟨w.heap.size,0,none⟩),.int .u64 150] 220)) (by simp)
 have hg2:((w.alloc (.cells #[.pointer (some t)] 185)).alloc (.cells #[.pointer (some ⟨17,185,none⟩),.pointer (some ⟨w.heap.size,0,none⟩),.int .u64 150] 220)).cell? ⟨15,0,none⟩=some (.iface 251 (.agg #[.pointer (some ⟨17,27,none⟩)])):=by
  rw [World.cell?_alloc_lt _ _ ⟨15,0,none⟩ (by simp;omega),World.cell?_alloc_lt _ _ ⟨15,0,none⟩ hgl];exact hg
 have tS:=Tryz.typeOfS;have aS:=Tryz.assignS;have nA:=Tryz.noAsE;have uE:=Tryz.noUnwrapE;have vE:=Tryz.noUnwrapsE
 go_enter Tryz.func117,Tryz.ntmps117
 go_wp2
 refine wp_loop_rounds 1 ?_;rw [rounds_succ]
 go_wp2
 go_ret
 exact ⟨rfl,(((Below.refl _ _).alloc (Nat.le_refl _) _).alloc (by simp) _).alloc (by simp;omega) _⟩
end
end Go.Proofs.YtofbkeecbdahnaaGreatDoor
