import Derived.Test.YtmfcfkomdflhlaaGreatDoorK14
set_option maxRecDepth 100000
set_option maxHeartbeats 8000000
namespace Go.Proofs.YtmfcfkomdflhlaaGreatDoor
section
open Go Go.RowKit Go.Extern.Stop Go.Stop Go.Extern
theorem Tryz.valueOfT (t:Addr)(w:World):(ext find Tryz.f131 #[.iface 249 (.pointer (some t))]).run Tryz.prog w
 = .ok (.agg #[.pointer (some ⟨20,249,none⟩),.pointer (some ⟨w.heap.size,0,none⟩),.int .u64 150]) (w.alloc (.cells #[.pointer (some t)] 249)):=by kernel_rfl
theorem Tryz.typeT (a:Addr)(w:World):(ext find Tryz.f132 #[.agg #[.pointer (some ⟨20,249,none⟩),.pointer (some a),.int .u64 150]]).run Tryz.prog w
 = .ok (.iface 324 (.agg #[.pointer (some ⟨20,249,none⟩)])) w:=by kernel_rfl
theorem Tryz.methodKind (h:Value)(w:World):(Go.method 616 324 (.agg #[h]) "Kind").run Tryz.prog w = .ok (393,h) w:=by kernel_rfl
theorem Tryz.methodElem (h:Value)(w:World):(Go.method 616 324 (.agg #[h]) "Elem").run Tryz.prog w = .ok (406,.agg #[h]) w:=by kernel_rfl
theorem Tryz.methodImplements (h:Value)(w:World):(Go.method 616 324 (.agg #[h]) "Implements").run Tryz.prog w = .ok (407,.agg #[h]) w:=by kernel_rfl
theorem Tryz.methodAssignableTo (h:Value)(w:World):(Go.method 616 324 (.agg #[h]) "AssignableTo").run Tryz.prog w = .ok (404,.agg #[h]) w:=by kernel_rfl
theorem Tryz.kindT (w:World):(ext find Tryz.f393 #[.pointer (some ⟨20,249,none⟩)]).run Tryz.prog w = .ok (.int .u8 22) w:=by kernel_rfl
theorem Tryz.kindE (w:World):(ext find Tryz.f393 #[.pointer (some ⟨20,247,none⟩)]).run Tryz.prog w = .ok (.int .u8 22) w:=by kernel_rfl
theorem Tryz.elemT (w:World):(ext find Tryz.f406 #[.agg #[.pointer (some ⟨20,249,none⟩)]]).run Tryz.prog w = .ok (.iface 324 (.agg #[.pointer (some ⟨20,247,none⟩)])) w:=by kernel_rfl
theorem Tryz.implementsE (w:World):(ext find Tryz.f407 #[.agg #[.pointer (some ⟨20,247,none⟩)],.iface 324 (.agg #[.pointer (some ⟨20,28,none⟩)])]).run Tryz.prog w = .ok (.bool true) w:=by kernel_rfl
theorem Tryz.typeOfS (v:Value)(w:World):(ext find Tryz.f135 #[.iface 485 v]).run Tryz.prog w = .ok (.iface 324 (.agg #[.pointer (some ⟨20,485,none⟩)])) w:=by kernel_rfl
theorem Tryz.assignS (w:World):(ext find Tryz.f404 #[.agg #[.pointer (some ⟨20,485,none⟩)],.iface 324 (.agg #[.pointer (some ⟨20,247,none⟩)])]).run Tryz.prog w = .ok (.bool false) w:=by kernel_rfl
theorem Tryz.partsT (a:Addr)(w:World):(ReflectliteValue.parts (.agg #[.pointer (some ⟨20,249,none⟩),.pointer (some a),.int .u64 150])).run Tryz.prog w = .ok (some (249,a,150)) w:=by kernel_rfl
theorem Tryz.extIsNil:ext find Tryz.f133=ReflectliteValue.method (ReflectliteValue.valueError "reflectlite.Value.IsNil" 0) ReflectliteValue.isNil:=by kernel_rfl
theorem Tryz.isNilT (a p:Addr)(W:World)(ha:W.cell? a=some (.pointer (some p))):
  (ext find Tryz.f133 #[.agg #[.pointer (some ⟨20,249,none⟩),.pointer (some a),.int .u64 150]]).run Tryz.prog W = .ok (.bool false) W:=by
 rw [Tryz.extIsNil]
 refine Eq.trans (congrArg (fun s=>Sem.run Tryz.prog s W) (show ReflectliteValue.method _ _ #[(.agg #[.pointer (some ⟨20,249,none⟩),.pointer (some a),.int .u64 150])]=bind (ReflectliteValue.parts (.agg #[.pointer (some ⟨20,249,none⟩),.pointer (some a),.int .u64 150])) _ from rfl)) ?_
 simp only [Sem.run_bind,Tryz.partsT,Result.andThen];simp [Result.andThen,ReflectliteValue.isNil,loadVar,isAgg,underlying,Tryz.underlying249,ha]
theorem as_miss (a t:Addr)(old:Value)(w:World)(hg:w.cell? ⟨15,0,none⟩=some (.iface 324 (.agg #[.pointer (some ⟨20,28,none⟩)])))(ht0:w.cell? t=some old):
  Calls Tryz.prog 104 #[.iface 485 (.pointer (some a)),.iface 249 (.pointer (some t))] w fun ev w'=>ev = .returned (.bool false)∧Below w.heap.size w w':=by
 have x0:=@run_callFunc_extern Tryz.prog 131 _ (ext find Tryz.f131) Tryz.func131 (by kernel_rfl) (by kernel_rfl) (by kernel_rfl) (by kernel_rfl);have x1:=@run_callFunc_extern Tryz.prog 132 _ (ext find Tryz.f132) Tryz.func132 (by kernel_rfl) (by kernel_rfl) (by kernel_rfl) (by kernel_rfl);have x2:=@run_callFunc_extern Tryz.prog 133 _ (ext find Tryz.f133) Tryz.func133 (by kernel_rfl) (by kernel_rfl) (by kernel_rfl) (by kernel_rfl);have x3:=@run_callFunc_extern Tryz.prog 393 _ (ext find Tryz.f393) Tryz.func393 (by kernel_rfl) (by kernel_rfl) (by kernel_rfl) (by kernel_rfl);have x4:=@run_callFunc_extern Tryz.prog 406 _ (ext find Tryz.f406) Tryz.func406 (by kernel_rfl) (by kernel_rfl) (by kernel_rfl) (by kernel_rfl);have x5:=@run_callFunc_extern Tryz.prog 407 _ (ext find Tryz.f407) Tryz.func407 (by kernel_rfl) (by kernel_rfl) (by kernel_rfl) (by kernel_rfl);have x6:=@run_callFunc_extern Tryz.prog 135 _ (ext find Tryz.f135) Tryz.func135 (by kernel_rfl) (by kernel_rfl) (by kernel_rfl) (by kernel_rfl);have x7:=@run_callFunc_extern Tryz.prog 404 _ (ext find Tryz.f404) Tryz.func404 (by kernel_rfl) (by kernel_rfl) (by kernel_rfl) (by kernel_rfl);have f6:=Tryz.valueOfT;have f7:=Tryz.typeT;have mK:=Tryz.methodKind;have mE:=Tryz.methodElem;have mI:=Tryz.methodImplements;have mA:=Tryz.methodAssignableTo;have kT:=Tryz.kindT;have kE:=Tryz.kindE;have eT:=Tryz.elemT;have iE:=Tryz.implementsE;have htl:t.block < w.heap.size:=lt_of_cell ht0;have hgl:15 < w.heap.size:=lt_of_cell hg;have n8:=Tryz.isNilT ⟨w.heap.size,0,none⟩ t ((w.alloc (.cells #[.pointer (some t)] 249)).alloc (.cells #[.pointer (some ⟨20,249,none⟩),.pointer (some ⟨w.heap.size,0,none⟩),.int .u64 150] 274)) (by simp)
 have hg2:((w.alloc (.cells #[.pointer (some t)] 249)).alloc (.cells #[.pointer (some ⟨20,249,none⟩),.pointer (some ⟨w.heap.size,0,none⟩),.int .u64 150] 274)).cell? ⟨15,0,none⟩=some (.iface 324 (.agg #[.pointer (some ⟨20,28,none⟩)])):=by
  rw [World.cell?_alloc_lt _ _ ⟨15,0,none⟩ (by simp;omega),World.cell?_alloc_lt _ _ ⟨15,0,none⟩ hgl];exact hg
 have tS:=Tryz.typeOfS;have aS:=Tryz.assignS;have nA:=Tryz.noAsE;have uE:=Tryz.noUnwrapE;have vE:=Tryz.noUnwrapsE
 go_enter Tryz.func104,Tryz.ntmps104
 go_wp2
 refine wp_loop_rounds 1 ?_;rw [rounds_succ]
 go_wp2
 go_ret
 exact ⟨rfl,(((Below.refl _ _).alloc (Nat.le_refl _) _).alloc (by simp) _).alloc (by simp;omega) _⟩
end
end Go.Proofs.YtmfcfkomdflhlaaGreatDoor
