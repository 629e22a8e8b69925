/- errors.As by its contracts, at the target '&f', f a *api.Fault: a sentinel is no Fault; a Fault is one. Go's own text of errors.As is walked; what package reflectlite does is the model's own entry, asked by its name. -/
import Derived.Test.YtmfcfkomdflhlaaDoorE1
namespace Go.Proofs.YtmfcfkomdflhlaaDoor
open Go Go.RowKit Go.Extern.Stop Go.Stop Go.Extern

theorem Tryd.valueOfT (t : Addr) (w : World) : (ext find Tryd.f32 #[.iface 66 (.pointer (some t))]).run Tryd.prog w
    = .ok (.agg #[.pointer (some ⟨17, 66, none⟩), .pointer (some ⟨w.heap.size, 0, none⟩), .int .u64 150]) (w.alloc (.cells #[.pointer (some t)] 66)) := by kernel_rfl
theorem Tryd.valueOfE (e : Addr) (w : World) : (ext find Tryd.f32 #[.iface 64 (.pointer (some e))]).run Tryd.prog w
    = .ok (.agg #[.pointer (some ⟨17, 64, none⟩), .pointer (some ⟨w.heap.size, 0, none⟩), .int .u64 150]) (w.alloc (.cells #[.pointer (some e)] 64)) := by kernel_rfl
theorem Tryd.typeT (a : Addr) (w : World) : (ext find Tryd.f33 #[.agg #[.pointer (some ⟨17, 66, none⟩), .pointer (some a), .int .u64 150]]).run Tryd.prog w
    = .ok (.iface 134 (.agg #[.pointer (some ⟨17, 66, none⟩)])) w := by kernel_rfl
theorem Tryd.methodKind (h : Value) (w : World) : (Go.method 328 134 (.agg #[h]) "Kind").run Tryd.prog w = .ok (71, h) w := by kernel_rfl
theorem Tryd.methodElem (h : Value) (w : World) : (Go.method 328 134 (.agg #[h]) "Elem").run Tryd.prog w = .ok (87, .agg #[h]) w := by kernel_rfl
theorem Tryd.methodImplements (h : Value) (w : World) : (Go.method 328 134 (.agg #[h]) "Implements").run Tryd.prog w = .ok (88, .agg #[h]) w := by kernel_rfl
theorem Tryd.methodAssignableTo (h : Value) (w : World) : (Go.method 328 134 (.agg #[h]) "AssignableTo").run Tryd.prog w = .ok (85, .agg #[h]) w := by kernel_rfl
theorem Tryd.kindT (w : World) : (ext find Tryd.f71 #[.pointer (some ⟨17, 66, none⟩)]).run Tryd.prog w = .ok (.int .u8 22) w := by kernel_rfl
theorem Tryd.kindE (w : World) : (ext find Tryd.f71 #[.pointer (some ⟨17, 64, none⟩)]).run Tryd.prog w = .ok (.int .u8 22) w := by kernel_rfl
theorem Tryd.elemT (w : World) : (ext find Tryd.f87 #[.agg #[.pointer (some ⟨17, 66, none⟩)]]).run Tryd.prog w = .ok (.iface 134 (.agg #[.pointer (some ⟨17, 64, none⟩)])) w := by kernel_rfl
theorem Tryd.implementsE (w : World) : (ext find Tryd.f88 #[.agg #[.pointer (some ⟨17, 64, none⟩)], .iface 134 (.agg #[.pointer (some ⟨17, 25, none⟩)])]).run Tryd.prog w = .ok (.bool true) w := by kernel_rfl
theorem Tryd.typeOfE (v : Value) (w : World) : (ext find Tryd.f36 #[.iface 64 v]).run Tryd.prog w = .ok (.iface 134 (.agg #[.pointer (some ⟨17, 64, none⟩)])) w := by kernel_rfl
theorem Tryd.typeOfS (v : Value) (w : World) : (ext find Tryd.f36 #[.iface 171 v]).run Tryd.prog w = .ok (.iface 134 (.agg #[.pointer (some ⟨17, 171, none⟩)])) w := by kernel_rfl
theorem Tryd.assignE (w : World) : (ext find Tryd.f85 #[.agg #[.pointer (some ⟨17, 64, none⟩)], .iface 134 (.agg #[.pointer (some ⟨17, 64, none⟩)])]).run Tryd.prog w = .ok (.bool true) w := by kernel_rfl
theorem Tryd.assignS (w : World) : (ext find Tryd.f85 #[.agg #[.pointer (some ⟨17, 171, none⟩)], .iface 134 (.agg #[.pointer (some ⟨17, 64, none⟩)])]).run Tryd.prog w = .ok (.bool false) w := by kernel_rfl

/-! ### the entries that read or write memory -/
theorem Tryd.partsT (a : Addr) (w : World) : (ReflectliteValue.parts (.agg #[.pointer (some ⟨17, 66, none⟩), .pointer (some a), .int .u64 150])).run Tryd.prog w = .ok (some (66, a, 150)) w := by kernel_rfl
theorem Tryd.extIsNil : ext find Tryd.f34 = ReflectliteValue.method (ReflectliteValue.valueError "reflectlite.Value.IsNil" 0) ReflectliteValue.isNil := by kernel_rfl
theorem Tryd.isNilT (a p : Addr) (W : World) (ha : W.cell? a = some (.pointer (some p))) :
    (ext find Tryd.f34 #[.agg #[.pointer (some ⟨17, 66, none⟩), .pointer (some a), .int .u64 150]]).run Tryd.prog W = .ok (.bool false) W := by
  rw [Tryd.extIsNil]
  refine Eq.trans (congrArg (fun s => Sem.run Tryd.prog s W) (show ReflectliteValue.method _ _ #[(.agg #[.pointer (some ⟨17, 66, none⟩), .pointer (some a), .int .u64 150])] = bind (ReflectliteValue.parts (.agg #[.pointer (some ⟨17, 66, none⟩), .pointer (some a), .int .u64 150])) _ from rfl)) ?_
  simp only [Sem.run_bind, Tryd.partsT, Result.andThen]
  simp [Result.andThen, ReflectliteValue.isNil, loadVar, isAgg, underlying, Tryd.underlying66, ha]
theorem Tryd.elemOfT (w : World) : (Rtype.elem? 66).run Tryd.prog w = .ok (some 64) w := by kernel_rfl
theorem Tryd.mkE (p : Addr) (w : World) : (ReflectliteValue.mk 64 p ReflectliteValue.flagAddr).run Tryd.prog w = .ok (.agg #[.pointer (some ⟨17, 64, none⟩), .pointer (some p), .int .u64 406]) w := by kernel_rfl
theorem Tryd.extElem : ext find Tryd.f42 = ReflectliteValue.method (ReflectliteValue.valueError "reflectlite.Value.Elem" 0) ReflectliteValue.elem := by kernel_rfl
theorem Tryd.elemVT (a p : Addr) (W : World) (ha : W.cell? a = some (.pointer (some p))) :
    (ext find Tryd.f42 #[.agg #[.pointer (some ⟨17, 66, none⟩), .pointer (some a), .int .u64 150]]).run Tryd.prog W
      = .ok (.agg #[.pointer (some ⟨17, 64, none⟩), .pointer (some p), .int .u64 406]) W := by
  rw [Tryd.extElem]
  refine Eq.trans (congrArg (fun s => Sem.run Tryd.prog s W) (show ReflectliteValue.method _ _ #[(.agg #[.pointer (some ⟨17, 66, none⟩), .pointer (some a), .int .u64 150])] = bind (ReflectliteValue.parts (.agg #[.pointer (some ⟨17, 66, none⟩), .pointer (some a), .int .u64 150])) _ from rfl)) ?_
  simp only [Sem.run_bind, Tryd.partsT, Result.andThen]
  simp [Result.andThen, ReflectliteValue.elem, loadVar, isAgg, underlying, Tryd.underlying66, ha, Tryd.elemOfT, Tryd.mkE]
theorem Tryd.partsEa (a : Addr) (w : World) : (ReflectliteValue.parts (.agg #[.pointer (some ⟨17, 64, none⟩), .pointer (some a), .int .u64 406])).run Tryd.prog w = .ok (some (64, a, 406)) w := by kernel_rfl
theorem Tryd.partsE (a : Addr) (w : World) : (ReflectliteValue.parts (.agg #[.pointer (some ⟨17, 64, none⟩), .pointer (some a), .int .u64 150])).run Tryd.prog w = .ok (some (64, a, 150)) w := by kernel_rfl
theorem Tryd.directE (w : World) : (Rtype.directlyAssignable 64 64).run Tryd.prog w = .ok true w := by kernel_rfl
theorem Tryd.extSet : ext find Tryd.f43 = ReflectliteValue.set := by kernel_rfl
theorem Tryd.setE (ta b e : Addr) (old : Value) (W : World) (hb : W.cell? b = some (.pointer (some e))) (ht : W.cell? ta = some old) (hf : W.frozen? ta = false) :
    (ext find Tryd.f43 #[.agg #[.pointer (some ⟨17, 64, none⟩), .pointer (some ta), .int .u64 406], .agg #[.pointer (some ⟨17, 64, none⟩), .pointer (some b), .int .u64 150]]).run Tryd.prog W
      = .ok (.tuple #[]) (W.setCell ta (.pointer (some e))) := by
  rw [Tryd.extSet]
  refine Eq.trans (congrArg (fun s => Sem.run Tryd.prog s W) (show ReflectliteValue.set #[(.agg #[.pointer (some ⟨17, 64, none⟩), .pointer (some ta), .int .u64 406]), (.agg #[.pointer (some ⟨17, 64, none⟩), .pointer (some b), .int .u64 150])] = bind (ReflectliteValue.parts (.agg #[.pointer (some ⟨17, 64, none⟩), .pointer (some ta), .int .u64 406])) (fun p => bind (ReflectliteValue.parts (.agg #[.pointer (some ⟨17, 64, none⟩), .pointer (some b), .int .u64 150])) _) from rfl)) ?_
  simp only [Sem.run_bind, Tryd.partsEa, Tryd.partsE, Result.andThen]
  simp [Result.andThen, ReflectliteValue.flagAddr, loadVar, isAgg, underlying, Tryd.underlying64, hb, Tryd.directE, storeVar, Value.cells, storeCells, Addr.add]
  rw [run_store Tryd.prog W ta _ _ (by rfl)]
  simp [ht, hf]

set_option maxRecDepth 100000 in
set_option maxHeartbeats 4000000 in
/-- errors.As(x, &f), x a pointer to an errors.errorString: false; f stays. -/
theorem as_miss (a t : Addr) (old : Value) (w : World) (hg : w.cell? ⟨15, 0, none⟩ = some (.iface 134 (.agg #[.pointer (some ⟨17, 25, none⟩)]))) (ht0 : w.cell? t = some old) :
    Calls Tryd.prog 20 #[.iface 171 (.pointer (some a)), .iface 66 (.pointer (some t))] w fun ev w' => ev = .returned (.bool false) ∧ Below w.heap.size w w' := by
  have x0 := @run_callFunc_extern Tryd.prog 32 _ (ext find Tryd.f32) Tryd.func32 (by kernel_rfl) (by kernel_rfl) (by kernel_rfl) (by kernel_rfl)
  have x1 := @run_callFunc_extern Tryd.prog 33 _ (ext find Tryd.f33) Tryd.func33 (by kernel_rfl) (by kernel_rfl) (by kernel_rfl) (by kernel_rfl)
  have x2 := @run_callFunc_extern Tryd.prog 34 _ (ext find Tryd.f34) Tryd.func34 (by kernel_rfl) (by kernel_rfl) (by kernel_rfl) (by kernel_rfl)
  have x3 := @run_callFunc_extern Tryd.prog 71 _ (ext find Tryd.f71) Tryd.func71 (by kernel_rfl) (by kernel_rfl) (by kernel_rfl) (by kernel_rfl)
  have x4 := @run_callFunc_extern Tryd.prog 87 _ (ext find Tryd.f87) Tryd.func87 (by kernel_rfl) (by kernel_rfl) (by kernel_rfl) (by kernel_rfl)
  have x5 := @run_callFunc_extern Tryd.prog 88 _ (ext find Tryd.f88) Tryd.func88 (by kernel_rfl) (by kernel_rfl) (by kernel_rfl) (by kernel_rfl)
  have x6 := @run_callFunc_extern Tryd.prog 36 _ (ext find Tryd.f36) Tryd.func36 (by kernel_rfl) (by kernel_rfl) (by kernel_rfl) (by kernel_rfl)
  have x7 := @run_callFunc_extern Tryd.prog 85 _ (ext find Tryd.f85) Tryd.func85 (by kernel_rfl) (by kernel_rfl) (by kernel_rfl) (by kernel_rfl)
  have f6 := Tryd.valueOfT
  have f7 := Tryd.typeT
  have mK := Tryd.methodKind
  have mE := Tryd.methodElem
  have mI := Tryd.methodImplements
  have mA := Tryd.methodAssignableTo
  have kT := Tryd.kindT
  have kE := Tryd.kindE
  have eT := Tryd.elemT
  have iE := Tryd.implementsE
  have htl : t.block < w.heap.size := lt_of_cell ht0
  have hgl : 15 < w.heap.size := lt_of_cell hg
  have n8 := Tryd.isNilT ⟨w.heap.size, 0, none⟩ t ((w.alloc (.cells #[.pointer (some t)] 66)).alloc (.cells #[.pointer (some ⟨17, 66, none⟩), .pointer (some ⟨w.heap.size, 0, none⟩), .int .u64 150] 109)) (by simp)
  have hg2 : ((w.alloc (.cells #[.pointer (some t)] 66)).alloc (.cells #[.pointer (some ⟨17, 66, none⟩), .pointer (some ⟨w.heap.size, 0, none⟩), .int .u64 150] 109)).cell? ⟨15, 0, none⟩ = some (.iface 134 (.agg #[.pointer (some ⟨17, 25, none⟩)])) := by
    rw [World.cell?_alloc_lt _ _ ⟨15, 0, none⟩ (by simp; omega), World.cell?_alloc_lt _ _ ⟨15, 0, none⟩ hgl]; exact hg
  have tS := Tryd.typeOfS
  have aS := Tryd.assignS
  have nA := Tryd.noAsE
  have uE := Tryd.noUnwrapE
  have vE := Tryd.noUnwrapsE
  go_enter Tryd.func20, Tryd.ntmps20
  go_wp2
  refine wp_loop_rounds 1 ?_
  rw [rounds_succ]
  go_wp2
  go_ret
  exact ⟨rfl, (((Below.refl _ _).alloc (Nat.le_refl _) _).alloc (by simp) _).alloc (by simp; omega) _⟩

set_option maxRecDepth 100000 in
set_option maxHeartbeats 4000000 in
/-- errors.As(x, &f), x a *api.Fault: true; f is x. -/
theorem as_hit (e t : Addr) (old : Value) (w : World) (hg : w.cell? ⟨15, 0, none⟩ = some (.iface 134 (.agg #[.pointer (some ⟨17, 25, none⟩)]))) (ht0 : w.cell? t = some old) (hf0 : w.frozen? t = false) :
    Calls Tryd.prog 20 #[.iface 64 (.pointer (some e)), .iface 66 (.pointer (some t))] w fun ev w' => ev = .returned (.bool true) ∧ Below w.heap.size (w.setCell t (.pointer (some e))) w' := by
  have x0 := @run_callFunc_extern Tryd.prog 32 _ (ext find Tryd.f32) Tryd.func32 (by kernel_rfl) (by kernel_rfl) (by kernel_rfl) (by kernel_rfl)
  have x1 := @run_callFunc_extern Tryd.prog 33 _ (ext find Tryd.f33) Tryd.func33 (by kernel_rfl) (by kernel_rfl) (by kernel_rfl) (by kernel_rfl)
  have x2 := @run_callFunc_extern Tryd.prog 34 _ (ext find Tryd.f34) Tryd.func34 (by kernel_rfl) (by kernel_rfl) (by kernel_rfl) (by kernel_rfl)
  have x3 := @run_callFunc_extern Tryd.prog 71 _ (ext find Tryd.f71) Tryd.func71 (by kernel_rfl) (by kernel_rfl) (by kernel_rfl) (by kernel_rfl)
  have x4 := @run_callFunc_extern Tryd.prog 87 _ (ext find Tryd.f87) Tryd.func87 (by kernel_rfl) (by kernel_rfl) (by kernel_rfl) (by kernel_rfl)
  have x5 := @run_callFunc_extern Tryd.prog 88 _ (ext find Tryd.f88) Tryd.func88 (by kernel_rfl) (by kernel_rfl) (by kernel_rfl) (by kernel_rfl)
  have x6 := @run_callFunc_extern Tryd.prog 36 _ (ext find Tryd.f36) Tryd.func36 (by kernel_rfl) (by kernel_rfl) (by kernel_rfl) (by kernel_rfl)
  have x7 := @run_callFunc_extern Tryd.prog 85 _ (ext find Tryd.f85) Tryd.func85 (by kernel_rfl) (by kernel_rfl) (by kernel_rfl) (by kernel_rfl)
  have x8 := @run_callFunc_extern Tryd.prog 42 _ (ext find Tryd.f42) Tryd.func42 (by kernel_rfl) (by kernel_rfl) (by kernel_rfl) (by kernel_rfl)
  have x9 := @run_callFunc_extern Tryd.prog 43 _ (ext find Tryd.f43) Tryd.func43 (by kernel_rfl) (by kernel_rfl) (by kernel_rfl) (by kernel_rfl)
  have f6 := Tryd.valueOfT
  have f7 := Tryd.typeT
  have mK := Tryd.methodKind
  have mE := Tryd.methodElem
  have mI := Tryd.methodImplements
  have mA := Tryd.methodAssignableTo
  have kT := Tryd.kindT
  have kE := Tryd.kindE
  have eT := Tryd.elemT
  have iE := Tryd.implementsE
  have htl : t.block < w.heap.size := lt_of_cell ht0
  have hgl : 15 < w.heap.size := lt_of_cell hg
  have n8 := Tryd.isNilT ⟨w.heap.size, 0, none⟩ t ((w.alloc (.cells #[.pointer (some t)] 66)).alloc (.cells #[.pointer (some ⟨17, 66, none⟩), .pointer (some ⟨w.heap.size, 0, none⟩), .int .u64 150] 109)) (by simp)
  have hg2 : ((w.alloc (.cells #[.pointer (some t)] 66)).alloc (.cells #[.pointer (some ⟨17, 66, none⟩), .pointer (some ⟨w.heap.size, 0, none⟩), .int .u64 150] 109)).cell? ⟨15, 0, none⟩ = some (.iface 134 (.agg #[.pointer (some ⟨17, 25, none⟩)])) := by
    rw [World.cell?_alloc_lt _ _ ⟨15, 0, none⟩ (by simp; omega), World.cell?_alloc_lt _ _ ⟨15, 0, none⟩ hgl]; exact hg
  have tO := Tryd.typeOfE
  have aE := Tryd.assignE
  have vE := Tryd.valueOfE
  have el := Tryd.elemVT ⟨w.heap.size, 0, none⟩ t (((w.alloc (.cells #[.pointer (some t)] 66)).alloc (.cells #[.pointer (some ⟨17, 66, none⟩), .pointer (some ⟨w.heap.size, 0, none⟩), .int .u64 150] 109)).alloc (.cells #[.pointer (some ⟨17, 66, none⟩), .pointer (some ⟨w.heap.size, 0, none⟩), .int .u64 150] 109)) (by rw [World.cell?_alloc_lt _ _ ⟨w.heap.size, 0, none⟩ (by simp; omega)]; simp)
  have st := Tryd.setE t ⟨w.heap.size + 1 + 1 + 1, 0, none⟩ e old ((((w.alloc (.cells #[.pointer (some t)] 66)).alloc (.cells #[.pointer (some ⟨17, 66, none⟩), .pointer (some ⟨w.heap.size, 0, none⟩), .int .u64 150] 109)).alloc (.cells #[.pointer (some ⟨17, 66, none⟩), .pointer (some ⟨w.heap.size, 0, none⟩), .int .u64 150] 109)).alloc (.cells #[.pointer (some e)] 64))
    (by rw [World.cell?_alloc_at _ _ _ _ (by simp)]; rfl)
    (by rw [World.cell?_alloc_lt _ _ t (by simp; omega), World.cell?_alloc_lt _ _ t (by simp; omega), World.cell?_alloc_lt _ _ t (by simp; omega), World.cell?_alloc_lt _ _ t htl]; exact ht0)
    (by rw [World.frozen?_alloc_old _ _ t (by simp; omega), World.frozen?_alloc_old _ _ t (by simp; omega), World.frozen?_alloc_old _ _ t (by simp; omega), World.frozen?_alloc_old _ _ t (Nat.ne_of_lt htl)]; exact hf0)
  go_enter Tryd.func20, Tryd.ntmps20
  go_wp2
  refine wp_loop_rounds 1 ?_
  rw [rounds_succ]
  go_wp2
  go_ret
  exact ⟨rfl, below_set ((((Below.refl _ _).alloc (Nat.le_refl _) _).alloc (by simp) _).alloc (by simp; omega) _ |>.alloc (by simp; omega) _) _ _⟩
end Go.Proofs.YtmfcfkomdflhlaaDoor
