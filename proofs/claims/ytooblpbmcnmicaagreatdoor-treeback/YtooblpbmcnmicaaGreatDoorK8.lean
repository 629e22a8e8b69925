import Derived.Test.YtooblpbmcnmicaaGreatDoorK7
set_option maxRecDepth 100000
set_option maxHeartbeats 8000000
namespace Go.Proofs.YtooblpbmcnmicaaGreatDoor
section
open Go Go.RowKit Go.Extern.Stop Go.Stop Go.Extern
theorem Tryz.valueOfT (t:Addr)(w:World):(ext find Tryz.f100 #[.iface 135 (.pointer (some t))]).run Tryz.prog w
 = .ok (.agg #[.pointer (some ⟨17,135,none⟩),zP w.heap.size,.int .u64 150]) (w.alloc (.cells #[.pointer (some t)] 135)):=by kernel_rfl
theorem Tryz.typeT (a:Addr)(w:World):(ext find Tryz.f101 #[.agg #[.pointer (some ⟨17,135,none⟩),.pointer (some a),.int .u64 150]]).run Tryz.prog w
 = .ok (.iface 195 (.agg #[.pointer (some ⟨17,135,none⟩)])) w:=by kernel_rfl
theorem Tryz.methodKind (h:Value)(w:World):(Go.method 372 195 (.agg #[h]) "Kind").run Tryz.prog w = .ok (159,h) w:=by kernel_rfl
theorem Tryz.methodElem (h:Value)(w:World):(Go.method 372 195 (.agg #[h]) "Elem").run Tryz.prog w = .ok (173,.agg #[h]) w:=by kernel_rfl
theorem Tryz.methodImplements (h:Value)(w:World):(Go.method 372 195 (.agg #[h]) "Implements").run Tryz.prog w = .ok (174,.agg #[h]) w:=by kernel_rfl
theorem Tryz.methodAssignableTo (h:Value)(w:World):(Go.method 372 195 (.agg #[h]) "AssignableTo").run Tryz.prog w = .ok (171,.agg #[h]) w:=by kernel_rfl
theorem Tryz.kindT (w:World):(ext find Tryz.f159 #[.pointer (some ⟨17,135,none⟩)]).run Tryz.prog w = .ok (.int .u8 22) w:=by kernel_rfl
theorem Tryz.kindE (w:World):(ext find Tryz.f159 #[.pointer (some ⟨17,123,none⟩)]).run Tryz.prog w = .ok (.int .u8 22) w:=by kernel_rfl
theorem Tryz.elemT (w:World):(ext find Tryz.f173 #[.agg #[.pointer (some ⟨17,135,none⟩)]]).run Tryz.prog w = .ok (.iface 195 (.agg #[.pointer (some ⟨17,123,none⟩)])) w:=by kernel_rfl
theorem Tryz.implementsE (w:World):(ext find Tryz.f174 #[.agg #[.pointer (some ⟨17,123,none⟩)],.iface 195 (.agg #[.pointer (some ⟨17,27,none⟩)])]).run Tryz.prog w = .ok (.bool true) w:=by kernel_rfl
theorem Tryz.typeOfS (v:Value)(w:World):(ext find Tryz.f104 #[.iface 240 v]).run Tryz.prog w = .ok (.iface 195 (.agg #[.pointer (some ⟨17,240,none⟩)])) w:=by kernel_rfl
theorem Tryz.assignS (w:World):(ext find Tryz.f171 #[.agg #[.pointer (some ⟨17,240,none⟩)],.iface 195 (.agg #[.pointer (some ⟨17,123,none⟩)])]).run Tryz.prog w = .ok (.bool false) w:=by kernel_rfl
theorem Tryz.partsT (a:Addr)(w:World):(ReflectliteValue.parts (.agg #[.pointer (some ⟨17,135,none⟩),.pointer (some a),.int .u64 150])).run Tryz.prog w = .ok (some (135,a,150)) w:=by kernel_rfl
theorem Tryz.extIsNil:ext find Tryz.f102=ReflectliteValue.method (ReflectliteValue.valueError "reflectlite.Value.IsNil" 0) ReflectliteValue.isNil:=by kernel_rfl
theorem Tryz.isNilT (a p:Addr)(W:World)(ha:W.cell? a=some (.pointer (some p))):
  (ext find Tryz.f102 #[.agg #[.pointer (some ⟨17,135,none⟩),.pointer (some a),.int .u64 150]]).run Tryz.prog W = .ok (.bool false) W:=by
 rw [Tryz.extIsNil]
 refine Eq.trans (congrArg (fun s=>Sem.run Tryz.prog s W) (show ReflectliteValue.method _ _ #[(.agg #[.pointer (some ⟨17,135,none⟩),.pointer (some a),.int .u64 150])]=bind (ReflectliteValue.parts (.agg #[.pointer (some ⟨17,135,none⟩),.pointer (some a),.int .u64 150])) _ from rfl)) ?_
 simp only [Sem.run_bind,Tryz.partsT,Result.andThen];simp [Result.andThen,ReflectliteValue.isNil,loadVar,isAgg,underlying,Tryz.underlying135,ha]
theorem as_miss (a t:Addr)(old:Value)(w:World)(hg:w.cell? ⟨15,0,none⟩=some (.iface 195 (.agg #[.pointer (some ⟨17,27,none⟩)])))(ht0:w.cell? t=some old):
  zK 69 #[.iface 240 (.pointer (some a)),.iface 135 (.pointer (some t))] w fun ev w'=>ev = .returned (.bool false)∧Below w.heap.size w w':=by
 have x0:=@run_callFunc_extern Tryz.prog 100 _ (ext find Tryz.f100) Tryz.func100 (by kernel_rfl) (by kernel_rfl) (by kernel_rfl) (by kernel_rfl);have x1:=@run_callFunc_extern Tryz.prog 101 _ (ext find Tryz.f101) Tryz.func101 (by kernel_rfl) (by kernel_rfl) (by kernel_rfl) (by kernel_rfl);have x2:=@run_callFunc_extern Tryz.prog 102 _ (ext find Tryz.f102) Tryz.func102 (by kernel_rfl) (by kernel_rfl) (by kernel_rfl) (by kernel_rfl);have x3:=@run_callFunc_extern Tryz.prog 159 _ (ext find Tryz.f159) Tryz.func159 (by kernel_rfl) (by kernel_rfl) (by kernel_rfl) (by kernel_rfl);have x4:=@run_callFunc_extern Tryz.prog 173 _ (ext find Tryz.f173) Tryz.func173 (by kernel_rfl) (by kernel_rfl) (by kernel_rfl) (by kernel_rfl);have x5:=@run_callFunc_extern Tryz.prog 174 _ (ext find Tryz.f174) Tryz.func174 (by kernel_rfl) (by kernel_rfl) (by kernel_rfl) (by kernel_rfl);have x6:=@run_callFunc_extern Tryz.prog 104 _ (ext find Tryz.f104) Tryz.func104 (by kernel_rfl) (by kernel_rfl) (by kernel_rfl) (by kernel_rfl);have x7:=@run_callFunc_extern Tryz.prog 171 _ (ext find Tryz.f171) Tryz.func171 (by kernel_rfl) (by kernel_rfl) (by kernel_rfl) (by kernel_rfl);have f6:=Tryz.valueOfT;have f7:=Tryz.typeT;have mK:=Tryz.methodKind;have mE:=Tryz.methodElem;have mI:=Tryz.methodImplements;have mA:=Tryz.methodAssignableTo;have kT:=Tryz.kindT;have kE:=Tryz.kindE;have eT:=Tryz.elemT;have iE:=Tryz.implementsE;have htl:t.block < w.heap.size:=zv ht0;have hgl:15 < w.heap.size:=zv hg;have n8:=Tryz.isNilT ⟨w.heap.size,0,none⟩ t ((w.alloc (.cells #[.pointer (some t)] 135)).alloc (.cells #[.pointer (some ⟨17,135,none⟩),zP w.heap.size,.int .u64 150] 173)) (by simp)
 have hg2:((w.alloc (.cells #[.pointer (some t)] 135)).alloc (.cells #[.pointer (some ⟨17,135,none⟩),zP w.heap.size,.int .u64 150] 173)).cell? ⟨15,0,none⟩=some (.iface 195 (.agg #[.pointer (some ⟨17,27,none⟩)])):=by
  rw [World.cell?_alloc_lt _ _ ⟨15,0,none⟩ (by simp;omega),World.cell?_alloc_lt _ _ ⟨15,0,none⟩ hgl];exact hg
 have tS:=Tryz.typeOfS;have aS:=Tryz.assignS;have nA:=Tryz.noAsE;have uE:=Tryz.noUnwrapE;have vE:=Tryz.noUnwrapsE
 go_enter Tryz.func69,Tryz.ntmps69
 go_wp2
 refine wp_loop_rounds 1 ?_;rw [rounds_succ]
 go_wp2
 go_ret
 exact ⟨rfl,(((Below.refl _ _).alloc (Nat.le_refl _) _).alloc (by simp) _).alloc (by simp;omega) _⟩
end
end Go.Proofs.YtooblpbmcnmicaaGreatDoor
