import Derived.Test.YtkcabopgajlmdaaGreatDoorK6
set_option maxRecDepth 100000
set_option maxHeartbeats 8000000
namespace Go.Proofs.YtkcabopgajlmdaaGreatDoor
section
open Go Go.RowKit Go.Extern.Stop Go.Stop Go.Extern
theorem Tryz.valueOfT (t:Addr)(w:World):(ext find Tryz.f97 #[.iface 139 (.pointer (some t))]).run Tryz.prog w
 = .ok (.agg #[.pointer (some ⟨17,139,none⟩),zP w.heap.size,.int .u64 150]) (w.alloc (.cells #[.pointer (some t)] 139)):=by kernel_rfl
theorem Tryz.valueOfE (e:Addr)(w:World):(ext find Tryz.f97 #[.iface 114 (.pointer (some e))]).run Tryz.prog w
 = .ok (.agg #[.pointer (some ⟨17,114,none⟩),zP w.heap.size,.int .u64 150]) (w.alloc (.cells #[.pointer (some e)] 114)):=by kernel_rfl
theorem Tryz.typeT (a:Addr)(w:World):(ext find Tryz.f98 #[.agg #[.pointer (some ⟨17,139,none⟩),.pointer (some a),.int .u64 150]]).run Tryz.prog w
 = .ok (.iface 189 (.agg #[.pointer (some ⟨17,139,none⟩)])) w:=by kernel_rfl
theorem Tryz.methodKind (h:Value)(w:World):(Go.method 360 189 (.agg #[h]) "Kind").run Tryz.prog w = .ok (150,h) w:=by kernel_rfl
theorem Tryz.methodElem (h:Value)(w:World):(Go.method 360 189 (.agg #[h]) "Elem").run Tryz.prog w = .ok (164,.agg #[h]) w:=by kernel_rfl
theorem Tryz.methodImplements (h:Value)(w:World):(Go.method 360 189 (.agg #[h]) "Implements").run Tryz.prog w = .ok (165,.agg #[h]) w:=by kernel_rfl
theorem Tryz.methodAssignableTo (h:Value)(w:World):(Go.method 360 189 (.agg #[h]) "AssignableTo").run Tryz.prog w = .ok (162,.agg #[h]) w:=by kernel_rfl
theorem Tryz.kindT (w:World):(ext find Tryz.f150 #[.pointer (some ⟨17,139,none⟩)]).run Tryz.prog w = .ok (.int .u8 22) w:=by kernel_rfl
theorem Tryz.kindE (w:World):(ext find Tryz.f150 #[.pointer (some ⟨17,114,none⟩)]).run Tryz.prog w = .ok (.int .u8 22) w:=by kernel_rfl
theorem Tryz.elemT (w:World):(ext find Tryz.f164 #[.agg #[.pointer (some ⟨17,139,none⟩)]]).run Tryz.prog w = .ok (.iface 189 (.agg #[.pointer (some ⟨17,114,none⟩)])) w:=by kernel_rfl
theorem Tryz.implementsE (w:World):(ext find Tryz.f165 #[.agg #[.pointer (some ⟨17,114,none⟩)],.iface 189 (.agg #[.pointer (some ⟨17,28,none⟩)])]).run Tryz.prog w = .ok (.bool true) w:=by kernel_rfl
theorem Tryz.typeOfE (v:Value)(w:World):(ext find Tryz.f101 #[.iface 114 v]).run Tryz.prog w = .ok (.iface 189 (.agg #[.pointer (some ⟨17,114,none⟩)])) w:=by kernel_rfl
theorem Tryz.typeOfS (v:Value)(w:World):(ext find Tryz.f101 #[.iface 228 v]).run Tryz.prog w = .ok (.iface 189 (.agg #[.pointer (some ⟨17,228,none⟩)])) w:=by kernel_rfl
theorem Tryz.assignE (w:World):(ext find Tryz.f162 #[.agg #[.pointer (some ⟨17,114,none⟩)],.iface 189 (.agg #[.pointer (some ⟨17,114,none⟩)])]).run Tryz.prog w = .ok (.bool true) w:=by kernel_rfl
theorem Tryz.assignS (w:World):(ext find Tryz.f162 #[.agg #[.pointer (some ⟨17,228,none⟩)],.iface 189 (.agg #[.pointer (some ⟨17,114,none⟩)])]).run Tryz.prog w = .ok (.bool false) w:=by kernel_rfl
theorem Tryz.partsT (a:Addr)(w:World):(ReflectliteValue.parts (.agg #[.pointer (some ⟨17,139,none⟩),.pointer (some a),.int .u64 150])).run Tryz.prog w = .ok (some (139,a,150)) w:=by kernel_rfl
theorem Tryz.extIsNil:ext find Tryz.f99=ReflectliteValue.method (ReflectliteValue.valueError "reflectlite.Value.IsNil" 0) ReflectliteValue.isNil:=by kernel_rfl
theorem Tryz.isNilT (a p:Addr)(W:World)(ha:W.cell? a=some (.pointer (some p))):
  (ext find Tryz.f99 #[.agg #[.pointer (some ⟨17,139,none⟩),.pointer (some a),.int .u64 150]]).run Tryz.prog W = .ok (.bool false) W:=by
 rw [Tryz.extIsNil]
 refine Eq.trans (congrArg (fun s=>Sem.run Tryz.prog s W) (show ReflectliteValue.method _ _ #[(.agg #[.pointer (some ⟨17,139,none⟩),.pointer (some a),.int .u64 150])]=bind (ReflectliteValue.parts (.agg #[.pointer (some ⟨17,139,none⟩),.pointer (some a),.int .u64 150])) _ from rfl)) ?_
 simp only [Sem.run_bind,Tryz.partsT,Result.andThen];simp [Result.andThen,ReflectliteValue.isNil,loadVar,isAgg,underlying,Tryz.underlying139,ha]
theorem Tryz.elemOfT (w:World):(Rtype.elem? 139).run Tryz.prog w = .ok (some 114) w:=by kernel_rfl
theorem Tryz.mkE (p:Addr)(w:World):(ReflectliteValue.mk 114 p ReflectliteValue.flagAddr).run Tryz.prog w = .ok (.agg #[.pointer (some ⟨17,114,none⟩),.pointer (some p),.int .u64 406]) w:=by kernel_rfl
theorem Tryz.extElem:ext find Tryz.f111=ReflectliteValue.method (ReflectliteValue.valueError "reflectlite.Value.Elem" 0) ReflectliteValue.elem:=by kernel_rfl
theorem Tryz.elemVT (a p:Addr)(W:World)(ha:W.cell? a=some (.pointer (some p))):
  (ext find Tryz.f111 #[.agg #[.pointer (some ⟨17,139,none⟩),.pointer (some a),.int .u64 150]]).run Tryz.prog W
   = .ok (.agg #[.pointer (some ⟨17,114,none⟩),.pointer (some p),.int .u64 406]) W:=by
 rw [Tryz.extElem]
 refine Eq.trans (congrArg (fun s=>Sem.run Tryz.prog s W) (show ReflectliteValue.method _ _ #[(.agg #[.pointer (some ⟨17,139,none⟩),.pointer (some a),.int .u64 150])]=bind (ReflectliteValue.parts (.agg #[.pointer (some ⟨17,139,none⟩),.pointer (some a),.int .u64 150])) _ from rfl)) ?_
 simp only [Sem.run_bind,Tryz.partsT,Result.andThen];simp [Result.andThen,ReflectliteValue.elem,loadVar,isAgg,underlying,Tryz.underlying139,ha,Tryz.elemOfT,Tryz.mkE]
theorem Tryz.partsEa (a:Addr)(w:World):(ReflectliteValue.parts (.agg #[.pointer (some ⟨17,114,none⟩),.pointer (some a),.int .u64 406])).run Tryz.prog w = .ok (some (114,a,406)) w:=by kernel_rfl
theorem Tryz.partsE (a:Addr)(w:World):(ReflectliteValue.parts (.agg #[.pointer (some ⟨17,114,none⟩),.pointer (some a),.int .u64 150])).run Tryz.prog w = .ok (some (114,a,150)) w:=by kernel_rfl
theorem Tryz.directE (w:World):(Rtype.directlyAssignable 114 114).run Tryz.prog w = .ok true w:=by kernel_rfl
theorem Tryz.extSet:ext find Tryz.f112=ReflectliteValue.set:=by kernel_rfl
theorem Tryz.setE (ta b e:Addr)(old:Value)(W:World)(hb:W.cell? b=some (.pointer (some e)))(ht:W.cell? ta=some old)(hf:W.frozen? ta=false):
  (ext find Tryz.f112 #[.agg #[.pointer (some ⟨17,114,none⟩),.pointer (some ta),.int .u64 406],.agg #[.pointer (some ⟨17,114,none⟩),.pointer (some b),.int .u64 150]]).run Tryz.prog W
   = .ok (.tuple #[]) (W.setCell ta (.pointer (some e))):=by
 rw [Tryz.extSet]
 refine Eq.trans (congrArg (fun s=>Sem.run Tryz.prog s W) (show ReflectliteValue.set #[(.agg #[.pointer (some ⟨17,114,none⟩),.pointer (some ta),.int .u64 406]),(.agg #[.pointer (some ⟨17,114,none⟩),.pointer (some b),.int .u64 150])]=bind (ReflectliteValue.parts (.agg #[.pointer (some ⟨17,114,none⟩),.pointer (some ta),.int .u64 406])) (fun p=>bind (ReflectliteValue.parts (.agg #[.pointer (some ⟨17,114,none⟩),.pointer (some b),.int .u64 150])) _) from rfl)) ?_
 simp only [Sem.run_bind,Tryz.partsEa,Tryz.partsE,Result.andThen];simp [Result.andThen,ReflectliteValue.flagAddr,loadVar,isAgg,underlying,Tryz.underlying114,hb,Tryz.directE,storeVar,Value.cells,storeCells,Addr.add];rw [run_store Tryz.prog W ta _ _ (by rfl)];simp [ht,hf]
theorem as_miss (a t:Addr)(old:Value)(w:World)(hg:w.cell? ⟨15,0,none⟩=some (.iface 189 (.agg #[.pointer (some ⟨17,28,none⟩)])))(ht0:w.cell? t=some old):
  zK 78 #[.iface 228 (.pointer (some a)),.iface 139 (.pointer (some t))] w fun ev w'=>ev = .returned (.bool false)∧Below w.heap.size w w':=by
 have x0:=@run_callFunc_extern Tryz.prog 97 _ (ext find Tryz.f97) Tryz.func97 (by kernel_rfl) (by kernel_rfl) (by kernel_rfl) (by kernel_rfl);have x1:=@run_callFunc_extern Tryz.prog 98 _ (ext find Tryz.f98) Tryz.func98 (by kernel_rfl) (by kernel_rfl) (by kernel_rfl) (by kernel_rfl);have x2:=@run_callFunc_extern Tryz.prog 99 _ (ext find Tryz.f99) Tryz.func99 (by kernel_rfl) (by kernel_rfl) (by kernel_rfl) (by kernel_rfl);have x3:=@run_callFunc_extern Tryz.prog 150 _ (ext find Tryz.f150) Tryz.func150 (by kernel_rfl) (by kernel_rfl) (by kernel_rfl) (by kernel_rfl);have x4:=@run_callFunc_extern Tryz.prog 164 _ (ext find Tryz.f164) Tryz.func164 (by kernel_rfl) (by kernel_rfl) (by kernel_rfl) (by kernel_rfl);have x5:=@run_callFunc_extern Tryz.prog 165 _ (ext find Tryz.f165) Tryz.func165 (by kernel_rfl) (by kernel_rfl) (by kernel_rfl) (by kernel_rfl);have x6:=@run_callFunc_extern Tryz.prog 101 _ (ext find Tryz.f101) Tryz.func101 (by kernel_rfl) (by kernel_rfl) (by kernel_rfl) (by kernel_rfl);have x7:=@run_callFunc_extern Tryz.prog 162 _ (ext find Tryz.f162) Tryz.func162 (by kernel_rfl) (by kernel_rfl) (by kernel_rfl) (by kernel_rfl);have f6:=Tryz.valueOfT;have f7:=Tryz.typeT;have mK:=Tryz.methodKind;have mE:=Tryz.methodElem;have mI:=Tryz.methodImplements;have mA:=Tryz.methodAssignableTo;have kT:=Tryz.kindT;have kE:=Tryz.kindE;have eT:=Tryz.elemT;have iE:=Tryz.implementsE;have htl:t.block < w.heap.size:=zv ht0;have hgl:15 < w.heap.size:=zv hg;have n8:=Tryz.isNilT ⟨w.heap.size,0,none⟩ t ((w.alloc (.cells #[.pointer (some t)] 139)).alloc (.cells #[.pointer (some ⟨17,139,none⟩),zP w.heap.size,.int .u64 150] 167)) (by simp)
 have hg2:((w.alloc (.cells #[.pointer (some t)] 139)).alloc (.cells #[.pointer (some ⟨17,139,none⟩),zP w.heap.size,.int .u64 150] 167)).cell? ⟨15,0,none⟩=some (.iface 189 (.agg #[.pointer (some ⟨17,28,none⟩)])):=by
  rw [World.cell?_alloc_lt _ _ ⟨15,0,none⟩ (by simp;omega),World.cell?_alloc_lt _ _ ⟨15,0,none⟩ hgl];exact hg
 have tS:=Tryz.typeOfS;have aS:=Tryz.assignS;have nA:=Tryz.noAsE;have uE:=Tryz.noUnwrapE;have vE:=Tryz.noUnwrapsE
 go_enter Tryz.func78,Tryz.ntmps78
 go_wp2
 refine wp_loop_rounds 1 ?_;rw [rounds_succ]
 go_wp2
 go_ret
 exact ⟨rfl,(((Below.refl _ _).alloc (Nat.le_refl _) _).alloc (by simp) _).alloc (by simp;omega) _⟩
theorem as_hit (e t:Addr)(old:Value)(w:World)(hg:w.cell? ⟨15,0,none⟩=some (.iface 189 (.agg #[.pointer (some ⟨17,28,none⟩)])))(ht0:w.cell? t=some old)(hf0:w.frozen? t=false):
  zK 78 #[.iface 114 (.pointer (some e)),.iface 139 (.pointer (some t))] w fun ev w'=>ev = .returned (.bool true)∧Below w.heap.size (w.setCell t (.pointer (some e))) w':=by
 have x0:=@run_callFunc_extern Tryz.prog 97 _ (ext find Tryz.f97) Tryz.func97 (by kernel_rfl) (by kernel_rfl) (by kernel_rfl) (by kernel_rfl);have x1:=@run_callFunc_extern Tryz.prog 98 _ (ext find Tryz.f98) Tryz.func98 (by kernel_rfl) (by kernel_rfl) (by kernel_rfl) (by kernel_rfl);have x2:=@run_callFunc_extern Tryz.prog 99 _ (ext find Tryz.f99) Tryz.func99 (by kernel_rfl) (by kernel_rfl) (by kernel_rfl) (by kernel_rfl);have x3:=@run_callFunc_extern Tryz.prog 150 _ (ext find Tryz.f150) Tryz.func150 (by kernel_rfl) (by kernel_rfl) (by kernel_rfl) (by kernel_rfl);have x4:=@run_callFunc_extern Tryz.prog 164 _ (ext find Tryz.f164) Tryz.func164 (by kernel_rfl) (by kernel_rfl) (by kernel_rfl) (by kernel_rfl);have x5:=@run_callFunc_extern Tryz.prog 165 _ (ext find Tryz.f165) Tryz.func165 (by kernel_rfl) (by kernel_rfl) (by kernel_rfl) (by kernel_rfl);have x6:=@run_callFunc_extern Tryz.prog 101 _ (ext find Tryz.f101) Tryz.func101 (by kernel_rfl) (by kernel_rfl) (by kernel_rfl) (by kernel_rfl);have x7:=@run_callFunc_extern Tryz.prog 162 _ (ext find Tryz.f162) Tryz.func162 (by kernel_rfl) (by kernel_rfl) (by kernel_rfl) (by kernel_rfl);have x8:=@run_callFunc_extern Tryz.prog 111 _ (ext find Tryz.f111) Tryz.func111 (by kernel_rfl) (by kernel_rfl) (by kernel_rfl) (by kernel_rfl);have x9:=@run_callFunc_extern Tryz.prog 112 _ (ext find Tryz.f112) Tryz.func112 (by kernel_rfl) (by kernel_rfl) (by kernel_rfl) (by kernel_rfl);have f6:=Tryz.valueOfT;have f7:=Tryz.typeT;have mK:=Tryz.methodKind;have mE:=Tryz.methodElem;have mI:=Tryz.methodImplements;have mA:=Tryz.methodAssignableTo;have kT:=Tryz.kindT;have kE:=Tryz.kindE;have eT:=Tryz.elemT;have iE:=Tryz.implementsE;have htl:t.block < w.heap.size:=zv ht0;have hgl:15 < w.heap.size:=zv hg;have n8:=Tryz.isNilT ⟨w.heap.size,0,none⟩ t ((w.alloc (.cells #[.pointer (some t)] 139)).alloc (.cells #[.pointer (some ⟨17,139,none⟩),zP w.heap.size,.int .u64 150] 167)) (by simp)
 have hg2:((w.alloc (.cells #[.pointer (some t)] 139)).alloc (.cells #[.pointer (some ⟨17,139,none⟩),zP w.heap.size,.int .u64 150] 167)).cell? ⟨15,0,none⟩=some (.iface 189 (.agg #[.pointer (some ⟨17,28,none⟩)])):=by
  rw [World.cell?_alloc_lt _ _ ⟨15,0,none⟩ (by simp;omega),World.cell?_alloc_lt _ _ ⟨15,0,none⟩ hgl];exact hg
 have tO:=Tryz.typeOfE;have aE:=Tryz.assignE;have vE:=Tryz.valueOfE;have el:=Tryz.elemVT ⟨w.heap.size,0,none⟩ t (((w.alloc (.cells #[.pointer (some t)] 139)).alloc (.cells #[.pointer (some ⟨17,139,none⟩),zP w.heap.size,.int .u64 150] 167)).alloc (.cells #[.pointer (some ⟨17,139,none⟩),zP w.heap.size,.int .u64 150] 167)) (by rw [World.cell?_alloc_lt _ _ ⟨w.heap.size,0,none⟩ (by simp;omega)];simp)
 have st:=Tryz.setE t ⟨w.heap.size+1+1+1,0,none⟩ e old ((((w.alloc (.cells #[.pointer (some t)] 139)).alloc (.cells #[.pointer (some ⟨17,139,none⟩),zP w.heap.size,.int .u64 150] 167)).alloc (.cells #[.pointer (some ⟨17,139,none⟩),zP w.heap.size,.int .u64 150] 167)).alloc (.cells #[.pointer (some e)] 114))
  (by rw [World.cell?_alloc_at _ _ _ _ (by simp)];rfl)
  (by rw [World.cell?_alloc_lt _ _ t (by simp;omega),World.cell?_alloc_lt _ _ t (by simp;omega),World.cell?_alloc_lt _ _ t (by simp;omega),World.cell?_alloc_lt _ _ t htl];exact ht0)
  (by rw [World.frozen?_alloc_old _ _ t (by simp;omega),World.frozen?_alloc_old _ _ t (by simp;omega),World.frozen?_alloc_old _ _ t (by simp;omega),World.frozen?_alloc_old _ _ t (Nat.ne_of_lt htl)];exact hf0)
 go_enter Tryz.func78,Tryz.ntmps78
 go_wp2
 refine wp_loop_rounds 1 ?_;rw [rounds_succ]
 go_wp2
 go_ret
 exact ⟨rfl,below_set ((((Below.refl _ _).alloc (Nat.le_refl _) _).alloc (by simp) _).alloc (by simp;omega) _ |>.alloc (by simp;omega) _) _ _⟩
end
end Go.Proofs.YtkcabopgajlmdaaGreatDoor
