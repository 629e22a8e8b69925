/- Data: one block is written, one is read: the program's writeInBlock and readInBlock by their contracts. -/
import Derived.Test.YtohbdpefcmibeacDoorG4
import Derived.RegionTactic
import Derived.Deep.RegionHeld3
namespace Go.Proofs.YtohbdpefcmibeacDoor
open Go Go.RowKit Go.Deep Go.Maps

/-! ### at the operation -/
/-- A look at a block, whether the map is there or not. -/
theorem look_run (w : World) (m : Option Nat) (f : Nat → Option (List UInt8)) (hm : MapAt w m f) (k : Nat) (hk : k < 9223372036854775808) : (Instr.lookup 24 (.map m) (.int .i64 k) false).run Tryd.prog w = .ok (blkV ((f k).getD zero64)) w := by
  cases m with
  | none =>
    rw [show f = _ from hm]
    exact look_nil false lawInt undMap (zeroBlk w) (keyInt k hk)
  | some b =>
    obtain ⟨D, h1, h2⟩ := hm
    obtain ⟨v, ps, hr, hv⟩ := h1.lookup lawInt undMap (zeroBlk w) (blkElem_mk zero64_len) (keyInt k hk)
    obtain ⟨bs, _, rfl, e⟩ := blkElem_inv hv
    rw [h2.look k] at e
    have e1 := congrArg Prod.fst e
    simp at e1
    rw [hr, e1]
theorem wpList_look {w : World} {ops : Array Oper} {rest : List Oper} {o : Oper} {a : Act} {Q : Exit → Act → World → Prop} (hg : o.guard = none) (mo x : Operand) (hop : o.op = Op.lookup 24 mo x false)
    (m : Option Nat) (f : Nat → Option (List UInt8)) (hm : MapAt w m f) (k : Nat) (hk : k < 9223372036854775808) (z : Int) (h1 : a.eval mo = .map m) (h2 : a.eval x = .int .i64 z) (hz : z = (k : Int))
    (hK : wpList Tryd.prog ops Q rest (a.put o.dst (blkV ((f k).getD zero64))) w) : wpList Tryd.prog ops Q (o :: rest) a w := by
  subst hz
  refine wpList_plain hg fun K' hK' => ?_
  unfold Oper.wp
  simp [execOp, hop, h1, h2, look_run w m f hm k hk, Result.andThen]
  exact hK' _ _ hK
/-- A new row of 64 bytes 0. -/
theorem wpList_newBlk {w : World} {ops : Array Oper} {rest : List Oper} {o : Oper} {a : Act} {Q : Exit → Act → World → Prop} (hg : o.guard = none) (hop : o.op = Op.alloc 80)
    (hK : ∀ w', RowAt w' w.heap.size 80 zero64 → Only [] w w' → wpList Tryd.prog ops Q rest (a.put o.dst (.pointer (some ⟨w.heap.size, 0, none⟩))) w') : wpList Tryd.prog ops Q (o :: rest) a w := by
  refine wpList_plain hg fun K' hK' => ?_
  have := hK _ (heap_alloc_last w _) ((Only.refl [] w).alloc (.cells (Lib.byteCells zero64).toArray 80))
  unfold Oper.wp
  simp only [execOp, hop]
  have hr : (Instr.alloc 80 true (.tuple #[])).run Tryd.prog w = .ok (.pointer (some ⟨w.heap.size, 0, none⟩)) (w.alloc (.cells (Lib.byteCells zero64).toArray 80)) := by
    simp [Instr.alloc, newVar, newRow, Value.cells, Result.andThen, go_sem]
    rfl
  simp [hr, Result.andThen]
  exact hK' _ _ this
theorem only_row (w : World) (g : Nat) (c : Array Value) : Only [g] w (w.setRow g c) :=
  ⟨rfl, rfl, rfl, by simp [World.setRow], fun k _ hk => only_setRow w g c k (by simpa using hk)⟩
theorem blk_one (l : List UInt8) : (Lib.byteCells l).toArray.all (·.oneCell') = true := by
  rw [Array.all_eq_true_iff_forall_mem]
  intro v hv
  exact Lib.byteCells_one l v (by simpa using hv)
/-- A block is laid over such a row. -/
theorem wpList_storeBlk {w : World} {ops : Array Oper} {rest : List Oper} {o : Oper} {a : Act} {Q : Exit → Act → World → Prop} (hg : o.guard = none) (x y : Operand) (hop : o.op = Op.store 80 x y)
    (g : Nat) (old new : List UInt8) (hr : RowAt w g 80 old) (h1 : old.length = 64) (h2 : new.length = 64) (hx : a.eval x = .pointer (some ⟨g, 0, none⟩)) (hy : a.eval y = blkV new)
    (hK : ∀ w', RowAt w' g 80 new → Only [g] w w' → wpList Tryd.prog ops Q rest (a.put o.dst undef) w') : wpList Tryd.prog ops Q (o :: rest) a w :=
  wpList_plain hg fun _ hK' => wp_store_row _ x y hop g (Lib.byteCells new).toArray hx hy _ _ hr (by rw [sizeBlk]; simp [cells_len, h2]) (by simp [cells_len, h1, h2]) (blk_one _) (hK' _ _ (hK _ (hr.set new) (only_row w g _)))
/-- A copy whose run is known. -/
theorem wpList_copied {P : Program} {w : World} {ops : Array Oper} {rest : List Oper} {o : Oper} {a : Act} {Q : Exit → Act → World → Prop} (hg : o.guard = none) (d s : Operand) (t t' : TypeId)
    (ho : o.op = .call { callee := .builtin .copy, args := #[d, s], argTypes := #[t, t'] }) (v u : Value) (hd : a.eval d = v) (hs : a.eval s = u) {v' : Value} {w' : World}
    (hr : ∀ ty, (Builtin.copy_ #[t, t'] ty #[v, u]).run P w = .ok v' w') (h : wpList P ops Q rest (a.put o.dst v') w') : wpList P ops Q (o :: rest) a w := by
  refine wpList_plain hg fun K' hK' => ?_
  unfold Oper.wp execOp
  simp only [ho, resolve, invoke, builtin, Sem.run_bind, Sem.run_pure, Result.andThen_ok, List.map_toArray, List.map_cons, List.map_nil, hd, hs, hr]
  exact hK' _ _ h

theorem undBlk' : Tryd.prog.underlying 80 = some (.array (Tryd.prog.arrayLen 80) (Tryd.prog.elem 80)) := by kernel_rfl
theorem slice_blk (W : World) (g o : Nat) (ho : o < 64) (z : Int) (hz : z = (o : Int)) : (Instr.sliceAt 80 (.pointer (some ⟨g, 0, none⟩)) (some (.int .i64 z)) none none).run Tryd.prog W = .ok (.slice (some ⟨g, o, none⟩) (64 - o) (64 - o)) W := by
  subst hz
  have hl : Tryd.prog.arrayLen 80 = 64 := by kernel_rfl
  have he : Tryd.prog.elem 80 = 5 := by kernel_rfl
  have hadd : (⟨g, 0, none⟩ : Addr).add (o * 1) = ⟨g, o, none⟩ := by unfold Addr.add; split <;> simp_all
  rw [run_sliceAt_array_l (P := Tryd.prog) W 80 ⟨g, 0, none⟩ undBlk' .i64 (o : Int) (by omega) (by rw [hl]; omega), he, Tryd.sizeOf5, hl]
  simp only [Result.andThen, slicedAt, Int.toNat_natCast, hadd]
  rw [if_neg (by omega)]
theorem infoU8 : (Tryd.prog.info? 5).map (·.size) = some 1 := by kernel_rfl
theorem wrap_small {z : Int} (h0 : 0 ≤ z) (h1 : z < 9223372036854775808) : IntKind.i64.wrap z = z := by
  simp [IntKind.wrap, IntKind.signed, IntKind.bits]
  omega
theorem RowAt.range {w : World} {g : Nat} {t : TypeId} {l : List UInt8} (h : RowAt w g t l) : w.rangeAt g 0 (Lib.byteCells l) := fun j v hv => by
  rw [cell_of_row _ _ _ _ _ _ h, Nat.zero_add]
  simpa using hv

set_option maxHeartbeats 1000000 in
set_option maxRecDepth 100000 in
theorem writeIn (w : World) (g b : Nat) (f : Nat → Option (List UInt8)) (D : DataW Unit) (q : Nat) (s : ByteArray) (hc : w.cell? ⟨g, 1, none⟩ = some (.map (some b))) (hown : w.ownsMap Tryd.prog 3 blkElem b 64 D) (hf : Holds D f) (hq : q < 4096) :
    Calls Tryd.prog 23 #[.pointer (some ⟨g, 0, none⟩), .int .i64 q, .string s] w fun e w' => e = .returned (.int .i64 (min s.size (64 - q % 64) : Nat)) ∧
      (∃ D', w'.ownsMap Tryd.prog 3 blkElem b 64 D' ∧ Holds D' (upd f (q / 64) (over ((f (q / 64)).getD zero64) (q % 64) (partS s 0 (min s.size (64 - q % 64)))))) ∧ Only [b] w w' := by
  have hM : Hid (MapAt w (some b) f) := ⟨D, hown, hf⟩
  have hlt : g < w.heap.size := lt_of_cell hc
  have hblt := hown.lt
  have hne : b ≠ g := own_ne hown hc
  have hL : Hid (((f (q / 64)).getD zero64).length = 64) := hf.len (q / 64)
  generalize hBk : (f (q / 64)).getD zero64 = Bk at hL ⊢
  have hsl := fun W => slice_blk W w.heap.size (q % 64) (by omega) ((q : Int) % 64) (by omega)
  go_enter Tryd.func23, Tryd.ntmps23
  go_wp2_with (first
    | (at_lookup; refine wpList_look rfl _ _ rfl (some b) f hM.out (q / 64) (by omega) _ rfl rfl (by omega) ?_; rw [hBk])
    | (refine wpList_newBlk rfl rfl ?_; intro w1 r1 o1)
    | (refine wpList_storeBlk rfl _ _ rfl w.heap.size zero64 Bk r1 zero64_len hL.out rfl rfl ?_; intro w2 r2 o2
       have hcp := fun ty => run_copy_part (P := Tryd.prog) w2 63 9 ty 5 w.heap.size (q % 64) (64 - q % 64) (64 - q % 64) s Bk 80 Tryd.underlying63 infoU8 r2 (by rw [hL.out]; omega)
       generalize hw3 : w2.setRow w.heap.size (Lib.byteCells (over Bk (q % 64) (partS s 0 (min s.size (64 - q % 64))))).toArray = w3 at hcp
       have r3 : Hid (RowAt w3 w.heap.size 80 (over Bk (q % 64) (partS s 0 (min s.size (64 - q % 64))))) := by subst hw3; exact (r2.set _ : RowAt _ _ _ _)
       have o3 : Hid (Only [w.heap.size] w w3) := by
         have : Only [w.heap.size] w w3 := by subst hw3; exact ((o1.mono (L' := [w.heap.size]) (by simp)).trans o2 (by simp)).trans (only_row w2 _ _) (by simp)
         exact this
       have c3 : w3.cell? ⟨g, 1, none⟩ = some (.map (some b)) := by rw [o3.out.cell hlt (by simp; omega)]; exact hc
       clear hw3)
    | go_in)
  have hLn : (over Bk (q % 64) (partS s 0 (min s.size (64 - q % 64)))).length = 64 := by
    rw [over_len (by rw [hL.out, partS_len (by omega)]; omega), hL.out]
  have own3 : w3.drew.ownsMap Tryd.prog 3 blkElem b 64 D := by
    obtain ⟨es, clock, h1, r⟩ := hown
    exact ⟨es, clock, (o3.out.block b hblt (by simp; omega)).trans h1, r⟩
  obtain ⟨w4, hmu, own4, turn4⟩ := own3.store lawInt undMap (by unfold maxLen; omega) (keyInt (q / 64) (by omega)) (blkElem_mk hLn)
  have e64 : ((q / 64 : Nat) : Int) = (q : Int) / 64 := by omega
  rw [e64] at hmu
  have HF : Hid (∃ D', w4.ownsMap Tryd.prog 3 blkElem b 64 D' ∧ Holds D' (upd f (q / 64) (over Bk (q % 64) (partS s 0 (min s.size (64 - q % 64)))))) := by
    have hp := hf.put (hown.isMap) (k := q / 64) (by omega) hLn
    exact ⟨_, (own_tight own4 hp).1, hp⟩
  have HO : Hid (Only [b] w w4) := by
    have h1 : Only [b] w w3.drew := (o3.out.mono (by simp)).drew
    have : Only [b] w w4 := h1.grown turn4.grown (by simp)
    exact this
  have hlt4 : g < w3.heap.size := Nat.lt_of_lt_of_le hlt o3.out.size
  have hS4 : w4.cell? ⟨g, 1, none⟩ = some (.map (some b)) ∧ w4.rangeAt w.heap.size 0 (Lib.byteCells (over Bk (q % 64) (partS s 0 (min s.size (64 - q % 64))))) := by
    have hg := turn4.grown
    refine ⟨(World.cell?_of_block (w := w3.drew) (hg.block g hlt4 (by simp; omega))).trans c3, fun jj v hv => ?_⟩
    have hlt5 : w.heap.size < w3.heap.size := lt_of_heap r3.out
    exact (World.cell?_of_block (w := w3.drew) (hg.block w.heap.size hlt5 (by simp; omega))).trans (r3.out.range jj v hv)
  have hS3 : w3.drew.cell? ⟨g, 1, none⟩ = some (.map (some b)) ∧ w3.drew.rangeAt w.heap.size 0 (Lib.byteCells (over Bk (q % 64) (partS s 0 (min s.size (64 - q % 64))))) := ⟨c3, fun jj v hv => r3.out.range jj v hv⟩
  have hi1 : (Tryd.prog.info? 80).map (·.size) = some (Lib.byteCells (over Bk (q % 64) (partS s 0 (min s.size (64 - q % 64))))).length := by rw [sizeBlk, cells_len, hLn]
  have hu1 := undBlk
  unfold blkV at hmu
  clear hcp hsl r1 o1 r2 o2 r3 o3 own3 own4 turn4 hown hf hM hc e64 hLn hBk hL hlt4 c3
  generalize hLE : over Bk (q % 64) (partS s 0 (min s.size (64 - q % 64))) = Ln at hmu hS3 hS4 hi1 HF
  have HE : Hid (over Bk (q % 64) (partS s 0 (min s.size (64 - q % 64))) = Ln) := hLE
  clear hLE
  have hwr : IntKind.i64.wrap ((q : Int) / 64) = (q : Int) / 64 := wrap_small (by omega) (by omega)
  go_region_held3 (fun W => W.cell? ⟨g, 1, none⟩ = some (.map (some b)) ∧ W.rangeAt w.heap.size 0 (Lib.byteCells Ln)) (first | exact hS3 | exact hS4) (fail)
  all_goals (go_wp2; go_ret; exact ⟨rfl, by rw [HE.out]; exact HF.out, HO.out⟩)
end Go.Proofs.YtohbdpefcmibeacDoor
