/- errors.As by its contracts, at the target '&f', f a *api.Fault: a sentinel is no Fault; a Fault is one. Go's own text of errors.As is walked; what package reflectlite does is the model's own entry, asked by its name. -/
import Derived.Test.YtaipigiinljpkaaGreatDoorE1
namespace Go.Proofs.YtaipigiinljpkaaGreatDoor
open Go Go.RowKit Go.Extern.Stop Go.Stop Go.Extern

theorem Tryz.valueOfT (t : Addr) (w : World) : (ext find Tryz.f44 #[.iface 81 (.pointer (some t))]).run Tryz.prog w
    = .ok (.agg #[.pointer (some ⟨17, 81, none⟩), .pointer (some ⟨w.heap.size, 0, none⟩), .int .u64 150]) (w.alloc (.cells #[.pointer (some t)] 81)) := by kernel_rfl
theorem Tryz.valueOfE (e : Addr) (w : World) : (ext find Tryz.f44 #[.iface 79 (.pointer (some e))]).run Tryz.prog w
    = .ok (.agg #[.pointer (some ⟨17, 79, none⟩), .pointer (some ⟨w.heap.size, 0, none⟩), .int .u64 150]) (w.alloc (.cells #[.pointer (some e)] 79)) := by kernel_rfl
theorem Tryz.typeT (a : Addr) (w : World) : (ext find Tryz.f45 #[.agg #[.pointer (some ⟨17, 81, none⟩), .pointer (some a), .int .u64 150]]).run Tryz.prog w
    = .ok (.iface 124 (.agg #[.pointer (some ⟨17, 81, none⟩)])) w := by kernel_rfl
theorem Tryz.methodKind (h : Value) (w : World) : (Go.method 287 124 (.agg #[h]) "Kind").run Tryz.prog w = .ok (104, h) w := by kernel_rfl
theorem Tryz.methodElem (h : Value) (w : World) : (Go.method 287 124 (.agg #[h]) "Elem").run Tryz.prog w = .ok (115, .agg #[h]) w := by kernel_rfl
theorem Tryz.methodImplements (h : Value) (w : World) : (Go.method 287 124 (.agg #[h]) "Implements").run Tryz.prog w = .ok (116, .agg #[h]) w := by kernel_rfl
theorem Tryz.methodAssignableTo (h : Value) (w : World) : (Go.method 287 124 (.agg #[h]) "AssignableTo").run Tryz.prog w = .ok (113, .agg #[h]) w := by kernel_rfl
theorem Tryz.kindT (w : World) : (ext find Tryz.f104 #[.pointer (some ⟨17, 81, none⟩)]).run Tryz.prog w = .ok (.int .u8 22) w := by kernel_rfl
theorem Tryz.kindE (w : World) : (ext find Tryz.f104 #[.pointer (some ⟨17, 79, none⟩)]).run Tryz.prog w = .ok (.int .u8 22) w := by kernel_rfl
theorem Tryz.elemT (w : World) : (ext find Tryz.f115 #[.agg #[.pointer (some ⟨17, 81, none⟩)]]).run Tryz.prog w = .ok (.iface 124 (.agg #[.pointer (some ⟨17, 79, none⟩)])) w := by kernel_rfl
theorem Tryz.implementsE (w : World) : (ext find Tryz.f116 #[.agg #[.pointer (some ⟨17, 79, none⟩)], .iface 124 (.agg #[.pointer (some ⟨17, 33, none⟩)])]).run Tryz.prog w = .ok (.bool true) w := by kernel_rfl
theorem Tryz.typeOfE (v : Value) (w : World) : (ext find Tryz.f48 #[.iface 79 v]).run Tryz.prog w = .ok (.iface 124 (.agg #[.pointer (some ⟨17, 79, none⟩)])) w := by kernel_rfl
theorem Tryz.typeOfS (v : Value) (w : World) : (ext find Tryz.f48 #[.iface 155 v]).run Tryz.prog w = .ok (.iface 124 (.agg #[.pointer (some ⟨17, 155, none⟩)])) w := by kernel_rfl
theorem Tryz.assignE (w : World) : (ext find Tryz.f113 #[.agg #[.pointer (some ⟨17, 79, none⟩)], .iface 124 (.agg #[.pointer (some ⟨17, 79, none⟩)])]).run Tryz.prog w = .ok (.bool true) w := by kernel_rfl
theorem Tryz.assignS (w : World) : (ext find Tryz.f113 #[.agg #[.pointer (some ⟨17, 155, none⟩)], .iface 124 (.agg #[.pointer (some ⟨17, 79, none⟩)])]).run Tryz.prog w = .ok (.bool false) w := by kernel_rfl

/-! ### the entries that read or write memory -/
theorem Tryz.partsT (a : Addr) (w : World) : (ReflectliteValue.parts (.agg #[.pointer (some ⟨17, 81, none⟩), .pointer (some a), .int .u64 150])).run Tryz.prog w = .ok (some (81, a, 150)) w := by kernel_rfl
theorem Tryz.extIsNil : ext find Tryz.f46 = ReflectliteValue.method (ReflectliteValue.valueError "reflectlite.Value.IsNil" 0) ReflectliteValue.isNil := by kernel_rfl
theorem Tryz.isNilT (a p : Addr) (W : World) (ha : W.cell? a = some (.pointer (some p))) :
    (ext find Tryz.f46 #[.agg #[.pointer (some ⟨17, 81, none⟩), .pointer (some a), .int .u64 150]]).run Tryz.prog W = .ok (.bool false) W := by
  rw [Tryz.extIsNil]
  refine Eq.trans (congrArg (fun s => Sem.run Tryz.prog s W) (show ReflectliteValue.method _ _ #[(.agg #[.pointer (some ⟨17, 81, none⟩), .pointer (some a), .int .u64 150])] = bind (ReflectliteValue.parts (.agg #[.pointer (some ⟨17, 81, none⟩), .pointer (some a), .int .u64 150])) _ from rfl)) ?_
  simp only [Sem.run_bind, Tryz.partsT, Result.andThen]
  simp [Result.andThen, ReflectliteValue.isNil, loadVar, isAgg, underlying, Tryz.underlying81, ha]
theorem Tryz.elemOfT (w : World) : (Rtype.elem? 81).run Tryz.prog w = .ok (some 79) w := by kernel_rfl
theorem Tryz.mkE (p : Addr) (w : World) : (ReflectliteValue.mk 79 p ReflectliteValue.flagAddr).run Tryz.prog w = .ok (.agg #[.pointer (some ⟨17, 79, none⟩), .pointer (some p), .int .u64 406]) w := by kernel_rfl
theorem Tryz.extElem : ext find Tryz.f65 = ReflectliteValue.method (ReflectliteValue.valueError "reflectlite.Value.Elem" 0) ReflectliteValue.elem := by kernel_rfl
theorem Tryz.elemVT (a p : Addr) (W : World) (ha : W.cell? a = some (.pointer (some p))) :
    (ext find Tryz.f65 #[.agg #[.pointer (some ⟨17, 81, none⟩), .pointer (some a), .int .u64 150]]).run Tryz.prog W
      = .ok (.agg #[.pointer (some ⟨17, 79, none⟩), .pointer (some p), .int .u64 406]) W := by
  rw [Tryz.extElem]
  refine Eq.trans (congrArg (fun s => Sem.run Tryz.prog s W) (show ReflectliteValue.method _ _ #[(.agg #[.pointer (some ⟨17, 81, none⟩), .pointer (some a), .int .u64 150])] = bind (ReflectliteValue.parts (.agg #[.pointer (some ⟨17, 81, none⟩), .pointer (some a), .int .u64 150])) _ from rfl)) ?_
  simp only [Sem.run_bind, Tryz.partsT, Result.andThen]
  simp [Result.andThen, ReflectliteValue.elem, loadVar, isAgg, underlying, Tryz.underlying81, ha, Tryz.elemOfT, Tryz.mkE]
theorem Tryz.partsEa (a : Addr) (w : World) : (ReflectliteValue.parts (.agg #[.pointer (some ⟨17, 79, none⟩), .pointer (some a), .int .u64 406])).run Tryz.prog w = .ok (some (79, a, 406)) w := by kernel_rfl
theorem Tryz.partsE (a : Addr) (w : World) : (ReflectliteValue.parts (.agg #[.pointer (some ⟨17, 79, none⟩), .pointer (some a), .int .u64 150])).run Tryz.prog w = .ok (some (79, a, 150)) w := by kernel_rfl
theorem Tryz.directE (w : World) : (Rtype.directlyAssignable 79 79).run Tryz.prog w = .ok true w := by kernel_rfl
theorem Tryz.extSet : ext find Tryz.f66 = ReflectliteValue.set := by kernel_rfl
theorem Tryz.setE (ta b e : Addr) (old : Value) (W : World) (hb : W.cell? b = some (.pointer (some e))) (ht : W.cell? ta = some old) (hf : W.frozen? ta = false) :
    (ext find Tryz.f66 #[.agg #[.pointer (some ⟨17, 79, none⟩), .pointer (some ta), .int .u64 406], .agg #[.pointer (some ⟨17, 79, none⟩), .pointer (some b), .int .u64 150]]).run Tryz.prog W
      = .ok (.tuple #[]) (W.setCell ta (.pointer (some e))) := by
  rw [Tryz.extSet]
  refine Eq.trans (congrArg (fun s => Sem.run Tryz.prog s W) (show ReflectliteValue.set #[(.agg #[.pointer (some ⟨17, 79, none⟩), .pointer (some ta), .int .u64 406]), (.agg #[.pointer (some ⟨17, 79, none⟩), .pointer (some b), .int .u64 150])] = bind (ReflectliteValue.parts (.agg #[.pointer (some ⟨17, 79, none⟩), .pointer (some ta), .int .u64 406])) (fun p => bind (ReflectliteValue.parts (.agg #[.pointer (some ⟨17, 79, none⟩), .pointer (some b), .int .u64 150])) _) from rfl)) ?_
  simp only [Sem.run_bind, Tryz.partsEa, Tryz.partsE, Result.andThen]
  simp [Result.andThen, ReflectliteValue.flagAddr, loadVar, isAgg, underlying, Tryz.underlying79, hb, Tryz.directE, storeVar, Value.cells, storeCells, Addr.add]
  rw [run_store Tryz.prog W ta _ _ (by rfl)]
  simp [ht, hf]

set_option maxRecDepth 100000 in
set_option maxHeartbeats 4000000 in
/-- errors.As(x, &f), x a pointer to an errors.errorString: false; f stays. -/
theorem as_miss (a t : Addr) (old : Value) (w : World) (hg : w.cell? ⟨15, 0, none⟩ = some (.iface 124 (.agg #[.pointer (some ⟨17, 33, none⟩)]))) (ht0 : w.cell? t = some old) :
    Calls Tryz.prog 35 #[.iface 155 (.pointer (some a)), .iface 81 (.pointer (some t))] w fun ev w' => ev = .returned (.bool false) ∧ Below w.heap.size w w' := by
  have x0 := @run_callFunc_extern Tryz.prog 44 _ (ext find Tryz.f44) Tryz.func44 (by kernel_rfl) (by kernel_rfl) (by kernel_rfl) (by kernel_rfl)
  have x1 := @run_callFunc_extern Tryz.prog 45 _ (ext find Tryz.f45) Tryz.func45 (by kernel_rfl) (by kernel_rfl) (by kernel_rfl) (by kernel_rfl)
  have x2 := @run_callFunc_extern Tryz.prog 46 _ (ext find Tryz.f46) Tryz.func46 (by kernel_rfl) (by kernel_rfl) (by kernel_rfl) (by kernel_rfl)
  have x3 := @run_callFunc_extern Tryz.prog 104 _ (ext find Tryz.f104) Tryz.func104 (by kernel_rfl) (by kernel_rfl) (by kernel_rfl) (by kernel_rfl)
  have x4 := @run_callFunc_extern Tryz.prog 115 _ (ext find Tryz.f115) Tryz.func115 (by kernel_rfl) (by kernel_rfl) (by kernel_rfl) (by kernel_rfl)
  have x5 := @run_callFunc_extern Tryz.prog 116 _ (ext find Tryz.f116) Tryz.func116 (by kernel_rfl) (by kernel_rfl) (by kernel_rfl) (by kernel_rfl)
  have x6 := @run_callFunc_extern Tryz.prog 48 _ (ext find Tryz.f48) Tryz.func48 (by kernel_rfl) (by kernel_rfl) (by kernel_rfl) (by kernel_rfl)
  have x7 := @run_callFunc_extern Tryz.prog 113 _ (ext find Tryz.f113) Tryz.func113 (by kernel_rfl) (by kernel_rfl) (by kernel_rfl) (by kernel_rfl)
  have f6 := Tryz.valueOfT
  have f7 := Tryz.typeT
  have mK := Tryz.methodKind
  have mE := Tryz.methodElem
  have mI := Tryz.methodImplements
  have mA := Tryz.methodAssignableTo
  have kT := Tryz.kindT
  have kE := Tryz.kindE
  have eT := Tryz.elemT
  have iE := Tryz.implementsE
  have htl : t.block < w.heap.size := lt_of_cell ht0
  have hgl : 15 < w.heap.size := lt_of_cell hg
  have n8 := Tryz.isNilT ⟨w.heap.size, 0, none⟩ t ((w.alloc (.cells #[.pointer (some t)] 81)).alloc (.cells #[.pointer (some ⟨17, 81, none⟩), .pointer (some ⟨w.heap.size, 0, none⟩), .int .u64 150] 96)) (by simp)
  have hg2 : ((w.alloc (.cells #[.pointer (some t)] 81)).alloc (.cells #[.pointer (some ⟨17, 81, none⟩), .pointer (some ⟨w.heap.size, 0, none⟩), .int .u64 150] 96)).cell? ⟨15, 0, none⟩ = some (.iface 124 (.agg #[.pointer (some ⟨17, 33, none⟩)])) := by
    rw [World.cell?_alloc_lt _ _ ⟨15, 0, none⟩ (by simp; omega), World.cell?_alloc_lt _ _ ⟨15, 0, none⟩ hgl]; exact hg
  have tS := Tryz.typeOfS
  have aS := Tryz.assignS
  have nA := Tryz.noAsE
  have uE := Tryz.noUnwrapE
  have vE := Tryz.noUnwrapsE
  go_enter Tryz.func35, Tryz.ntmps35
  go_wp2
  refine wp_loop_rounds 1 ?_
  rw [rounds_succ]
  go_wp2
  go_ret
  exact ⟨rfl, (((Below.refl _ _).alloc (Nat.le_refl _) _).alloc (by simp) _).alloc (by simp; omega) _⟩

set_option maxRecDepth 100000 in
set_option maxHeartbeats 4000000 in
/-- errors.As(x, &f), x a *api.Fault: true; f is x. -/
theorem as_hit (e t : Addr) (old : Value) (w : World) (hg : w.cell? ⟨15, 0, none⟩ = some (.iface 124 (.agg #[.pointer (some ⟨17, 33, none⟩)]))) (ht0 : w.cell? t = some old) (hf0 : w.frozen? t = false) :
    Calls Tryz.prog 35 #[.iface 79 (.pointer (some e)), .iface 81 (.pointer (some t))] w fun ev w' => ev = .returned (.bool true) ∧ Below w.heap.size (w.setCell t (.pointer (some e))) w' := by
  have x0 := @run_callFunc_extern Tryz.prog 44 _ (ext find Tryz.f44) Tryz.func44 (by kernel_rfl) (by kernel_rfl) (by kernel_rfl) (by kernel_rfl)
  have x1 := @run_callFunc_extern Tryz.prog 45 _ (ext find Tryz.f45) Tryz.func45 (by kernel_rfl) (by kernel_rfl) (by kernel_rfl) (by kernel_rfl)
  have x2 := @run_callFunc_extern Tryz.prog 46 _ (ext find Tryz.f46) Tryz.func46 (by kernel_rfl) (by kernel_rfl) (by kernel_rfl) (by kernel_rfl)
  have x3 := @run_callFunc_extern Tryz.prog 104 _ (ext find Tryz.f104) Tryz.func104 (by kernel_rfl) (by kernel_rfl) (by kernel_rfl) (by kernel_rfl)
  have x4 := @run_callFunc_extern Tryz.prog 115 _ (ext find Tryz.f115) Tryz.func115 (by kernel_rfl) (by kernel_rfl) (by kernel_rfl) (by kernel_rfl)
  have x5 := @run_callFunc_extern Tryz.prog 116 _ (ext find Tryz.f116) Tryz.func116 (by kernel_rfl) (by kernel_rfl) (by kernel_rfl) (by kernel_rfl)
  have x6 := @run_callFunc_extern Tryz.prog 48 _ (ext find Tryz.f48) Tryz.func48 (by kernel_rfl) (by kernel_rfl) (by kernel_rfl) (by kernel_rfl)
  have x7 := @run_callFunc_extern Tryz.prog 113 _ (ext find Tryz.f113) Tryz.func113 (by kernel_rfl) (by kernel_rfl) (by kernel_rfl) (by kernel_rfl)
  have x8 := @run_callFunc_extern Tryz.prog 65 _ (ext find Tryz.f65) Tryz.func65 (by kernel_rfl) (by kernel_rfl) (by kernel_rfl) (by kernel_rfl)
  have x9 := @run_callFunc_extern Tryz.prog 66 _ (ext find Tryz.f66) Tryz.func66 (by kernel_rfl) (by kernel_rfl) (by kernel_rfl) (by kernel_rfl)
  have f6 := Tryz.valueOfT
  have f7 := Tryz.typeT
  have mK := Tryz.methodKind
  have mE := Tryz.methodElem
  have mI := Tryz.methodImplements
  have mA := Tryz.methodAssignableTo
  have kT := Tryz.kindT
  have kE := Tryz.kindE
  have eT := Tryz.elemT
  have iE := Tryz.implementsE
  have htl : t.block < w.heap.size := lt_of_cell ht0
  have hgl : 15 < w.heap.size := lt_of_cell hg
  have n8 := Tryz.isNilT ⟨w.heap.size, 0, none⟩ t ((w.alloc (.cells #[.pointer (some t)] 81)).alloc (.cells #[.pointer (some ⟨17, 81, none⟩), .pointer (some ⟨w.heap.size, 0, none⟩), .int .u64 150] 96)) (by simp)
  have hg2 : ((w.alloc (.cells #[.pointer (some t)] 81)).alloc (.cells #[.pointer (some ⟨17, 81, none⟩), .pointer (some ⟨w.heap.size, 0, none⟩), .int .u64 150] 96)).cell? ⟨15, 0, none⟩ = some (.iface 124 (.agg #[.pointer (some ⟨17, 33, none⟩)])) := by
    rw [World.cell?_alloc_lt _ _ ⟨15, 0, none⟩ (by simp; omega), World.cell?_alloc_lt _ _ ⟨15, 0, none⟩ hgl]; exact hg
  have tO := Tryz.typeOfE
  have aE := Tryz.assignE
  have vE := Tryz.valueOfE
  have el := Tryz.elemVT ⟨w.heap.size, 0, none⟩ t (((w.alloc (.cells #[.pointer (some t)] 81)).alloc (.cells #[.pointer (some ⟨17, 81, none⟩), .pointer (some ⟨w.heap.size, 0, none⟩), .int .u64 150] 96)).alloc (.cells #[.pointer (some ⟨17, 81, none⟩), .pointer (some ⟨w.heap.size, 0, none⟩), .int .u64 150] 96)) (by rw [World.cell?_alloc_lt _ _ ⟨w.heap.size, 0, none⟩ (by simp; omega)]; simp)
  have st := Tryz.setE t ⟨w.heap.size + 1 + 1 + 1, 0, none⟩ e old ((((w.alloc (.cells #[.pointer (some t)] 81)).alloc (.cells #[.pointer (some ⟨17, 81, none⟩), .pointer (some ⟨w.heap.size, 0, none⟩), .int .u64 150] 96)).alloc (.cells #[.pointer (some ⟨17, 81, none⟩), .pointer (some ⟨w.heap.size, 0, none⟩), .int .u64 150] 96)).alloc (.cells #[.pointer (some e)] 79))
    (by rw [World.cell?_alloc_at _ _ _ _ (by simp)]; rfl)
    (by rw [World.cell?_alloc_lt _ _ t (by simp; omega), World.cell?_alloc_lt _ _ t (by simp; omega), World.cell?_alloc_lt _ _ t (by simp; omega), World.cell?_alloc_lt _ _ t htl]; exact ht0)
    (by rw [World.frozen?_alloc_old _ _ t (by simp; omega), World.frozen?_alloc_old _ _ t (by simp; omega), World.frozen?_alloc_old _ _ t (by simp; omega), World.frozen?_alloc_old _ _ t (Nat.ne_of_lt htl)]; exact hf0)
  go_enter Tryz.func35, Tryz.ntmps35
  go_wp2
  refine wp_loop_rounds 1 ?_
  rw [rounds_succ]
  go_wp2
  go_ret
  exact ⟨rfl, below_set ((((Below.refl _ _).alloc (Nat.le_refl _) _).alloc (by simp) _).alloc (by simp; omega) _ |>.alloc (by simp; omega) _) _ _⟩
end Go.Proofs.YtaipigiinljpkaaGreatDoor
