/- Data: one block is written, one is read: the program's writeInBlock and readInBlock by their contracts. -/
import Derived.Test.YtmfcfkomdflhlaaDoorG4
import Derived.RegionTactic
import Derived.Deep.RegionHeld3
namespace Go.Proofs.YtmfcfkomdflhlaaDoor
open Go Go.RowKit Go.Deep Go.Maps

/-! ### at the operation -/
/-- A look at a block, whether the map is there or not. -/
theorem look_run (w : World) (m : Option Nat) (f : Nat → Option (List UInt8)) (hm : MapAt w m f) (k : Nat) (hk : k < 9223372036854775808) : (Instr.lookup 152 (.map m) (.int .i64 k) false).run Tryd.prog w = .ok (blkV ((f k).getD zero64)) w := by
  cases m with
  | none =>
    rw [show f = _ from hm]
    exact look_nil false lawInt undMap (zeroBlk w) (keyInt k hk)
  | some b =>
    obtain ⟨D, h1, h2⟩ := hm
    obtain ⟨v, ps, hr, hv⟩ := h1.lookup lawInt undMap (zeroBlk w) (blkElem_mk zero64_len) (keyInt k hk)
    obtain ⟨bs, _, rfl, e⟩ := blkElem_inv hv
    rw [h2.look k] at e
    have e1 := congrArg Prod.fst e
    simp at e1
    rw [hr, e1]
theorem wpList_look {w : World} {ops : Array Oper} {rest : List Oper} {o : Oper} {a : Act} {Q : Exit → Act → World → Prop} (hg : o.guard = none) (mo x : Operand) (hop : o.op = Op.lookup 152 mo x false)
    (m : Option Nat) (f : Nat → Option (List UInt8)) (hm : MapAt w m f) (k : Nat) (hk : k < 9223372036854775808) (z : Int) (h1 : a.eval mo = .map m) (h2 : a.eval x = .int .i64 z) (hz : z = (k : Int))
    (hK : wpList Tryd.prog ops Q rest (a.put o.dst (blkV ((f k).getD zero64))) w) : wpList Tryd.prog ops Q (o :: rest) a w := by
  subst hz
  refine wpList_plain hg fun K' hK' => ?_
  unfold Oper.wp
  simp [execOp, hop, h1, h2, look_run w m f hm k hk, Result.andThen]
  exact hK' _ _ hK
/-- A new row of 64 bytes 0. -/
theorem wpList_newBlk {w : World} {ops : Array Oper} {rest : List Oper} {o : Oper} {a : Act} {Q : Exit → Act → World → Prop} (hg : o.guard = none) (hop : o.op = Op.alloc 215)
    (hK : ∀ w', RowAt w' w.heap.size 215 zero64 → Only [] w w' → wpList Tryd.prog ops Q rest (a.put o.dst (.pointer (some ⟨w.heap.size, 0, none⟩))) w') : wpList Tryd.prog ops Q (o :: rest) a w := by
  refine wpList_plain hg fun K' hK' => ?_
  have := hK _ (heap_alloc_last w _) ((Only.refl [] w).alloc (.cells (Lib.byteCells zero64).toArray 215))
  unfold Oper.wp
  simp only [execOp, hop]
  have hr : (Instr.alloc 215 true (.tuple #[])).run Tryd.prog w = .ok (.pointer (some ⟨w.heap.size, 0, none⟩)) (w.alloc (.cells (Lib.byteCells zero64).toArray 215)) := by
    simp [Instr.alloc, newVar, newRow, Value.cells, Result.andThen, go_sem]
    rfl
  simp [hr, Result.andThen]
  exact hK' _ _ this
theorem only_row (w : World) (g : Nat) (c : Array Value) : Only [g] w (w.setRow g c) :=
  ⟨rfl, rfl, rfl, by simp [World.setRow], fun k _ hk => only_setRow w g c k (by simpa using hk)⟩
theorem blk_one (l : List UInt8) : (Lib.byteCells l).toArray.all (·.oneCell') = true := by
  rw [Array.all_eq_true_iff_forall_mem]
  intro v hv
  exact Lib.byteCells_one l v (by simpa using hv)
/-- A block is laid over such a row. -/
theorem wpList_storeBlk {w : World} {ops : Array Oper} {rest : List Oper} {o : Oper} {a : Act} {Q : Exit → Act → World → Prop} (hg : o.guard = none) (x y : Operand) (hop : o.op = Op.store 215 x y)
    (g : Nat) (old new : List UInt8) (hr : RowAt w g 215 old) (h1 : old.length = 64) (h2 : new.length = 64) (hx : a.eval x = .pointer (some ⟨g, 0, none⟩)) (hy : a.eval y = blkV new)
    (hK : ∀ w', RowAt w' g 215 new → Only [g] w w' → wpList Tryd.prog ops Q rest (a.put o.dst undef) w') : wpList Tryd.prog ops Q (o :: rest) a w :=
  wpList_plain hg fun _ hK' => wp_store_row _ x y hop g (Lib.byteCells new).toArray hx hy _ _ hr (by rw [sizeBlk]; simp [cells_len, h2]) (by simp [cells_len, h1, h2]) (blk_one _) (hK' _ _ (hK _ (hr.set new) (only_row w g _)))
/-- A copy whose run is known. -/
theorem wpList_copied {P : Program} {w : World} {ops : Array Oper} {rest : List Oper} {o : Oper} {a : Act} {Q : Exit → Act → World → Prop} (hg : o.guard = none) (d s : Operand) (t t' : TypeId)
    (ho : o.op = .call { callee := .builtin .copy, args := #[d, s], argTypes := #[t, t'] }) (v u : Value) (hd : a.eval d = v) (hs : a.eval s = u) {v' : Value} {w' : World}
    (hr : ∀ ty, (Builtin.copy_ #[t, t'] ty #[v, u]).run P w = .ok v' w') (h : wpList P ops Q rest (a.put o.dst v') w') : wpList P ops Q (o :: rest) a w := by
  refine wpList_plain hg fun K' hK' => ?_
  unfold Oper.wp execOp
  simp only [ho, resolve, invoke, builtin, Sem.run_bind, Sem.run_pure, Result.andThen_ok, List.map_toArray, List.map_cons, List.map_nil, hd, hs, hr]
  exact hK' _ _ h

theorem undBlk' : Tryd.prog.underlying 215 = some (.array (Tryd.prog.arrayLen 215) (Tryd.prog.elem 215)) := by kernel_rfl
theorem slice_blk (W : World) (g o : Nat) (ho : o < 64) (z : Int) (hz : z = (o : Int)) : (Instr.sliceAt 215 (.pointer (some ⟨g, 0, none⟩)) (some (.int .i64 z)) none none).run Tryd.prog W = .ok (.slice (some ⟨g, o, none⟩) (64 - o) (64 - o)) W := by
  subst hz
  have hl : Tryd.prog.arrayLen 215 = 64 := by kernel_rfl
  have he : Tryd.prog.elem 215 = 5 := by kernel_rfl
  have hadd : (⟨g, 0, none⟩ : Addr).add (o * 1) = ⟨g, o, none⟩ := by unfold Addr.add; split <;> simp_all
  rw [run_sliceAt_array_l (P := Tryd.prog) W 215 ⟨g, 0, none⟩ undBlk' .i64 (o : Int) (by omega) (by rw [hl]; omega), he, Tryd.sizeOf5, hl]
  simp only [Result.andThen, slicedAt, Int.toNat_natCast, hadd]
  rw [if_neg (by omega)]
theorem infoU8 : (Tryd.prog.info? 5).map (·.size) = some 1 := by kernel_rfl
theorem wrap_small {z : Int} (h0 : 0 ≤ z) (h1 : z < 9223372036854775808) : IntKind.i64.wrap z = z := by
  simp [IntKind.wrap, IntKind.signed, IntKind.bits]
  omega
theorem RowAt.range {w : World} {g : Nat} {t : TypeId} {l : List UInt8} (h : RowAt w g t l) : w.rangeAt g 0 (Lib.byteCells l) := fun j v hv => by
  rw [cell_of_row _ _ _ _ _ _ h, Nat.zero_add]
  simpa using hv

end Go.Proofs.YtmfcfkomdflhlaaDoor
