/- A disk: a write as a value: built, stored, copied into, appended: what the runs give. -/
import Derived.Test.YtlcloahkeamdkaaDoorDk4
import Derived.Laws.Tables
import Derived.Deep.AppendLies
namespace Go.Proofs.YtlcloahkeamdkaaDoor
open Go Go.RowKit Go.Deep

theorem fold_over (off : Nat) : ∀ (cs : List Value) (k : Nat) (cur : Array Value), off + k + cs.length ≤ cur.size → (cs.zipIdx k).foldl (fun (a : Array Value) (p : Value × Nat) => a.setIfInBounds (off + p.2) p.1) cur = (overV cur.toList (off + k) cs).toArray
  | [], k, cur, _ => by simp [overV]
  | c :: cs, k, cur, h => by
    simp only [List.length_cons] at h
    rw [List.zipIdx_cons, List.foldl_cons, fold_over off cs (k + 1) _ (by simp; omega)]
    apply congrArg
    have hk : off + k < cur.toList.length := by simp; omega
    simp only [overV, Array.toList_setIfInBounds, List.length_cons]
    rw [List.drop_set_of_lt (by omega), show off + (k + 1) = off + k + 1 by omega, List.take_add_one, List.take_set_of_le (by omega)]
    have e : (cur.toList.set (off + k) c)[off + k]? = some c := List.getElem?_set_self hk
    rw [e]
    simp only [Option.toList, List.append_assoc, List.cons_append, List.nil_append]
    rw [show off + k + 1 + cs.length = off + k + (cs.length + 1) by omega]
theorem fill_one {place : Nat → Option (Nat × Nat)} {cur : Array Value} {i off : Nat} {cs : List Value} {v : Value} {rest : List (Nat × Value)} (hv : v.cells = cs.toArray) (hp : place i = some (off, cs.length)) (h : off + cs.length ≤ cur.size) : Instr.fill place cur ((i, v) :: rest) = Instr.fill place (overV cur.toList off cs).toArray rest := by
  have hf := fold_over off cs 0 cur (by omega)
  rw [Nat.add_zero] at hf
  have h1 : ¬ (off + cs.length > cur.size) := by omega
  simp only [Instr.fill, hp, hv, List.size_toArray, ne_eq, not_true, decide_false, Bool.false_or, h1]
  rw [← hf]
  congr 1
  simp
theorem wrInfo : (Tryd.prog.info? 83).map (fun i => (i.zero, i.size, i.bytes)) = some (some (.agg (wrC ⟨0, zeroS, zeroS⟩).toArray), 129, 136) := by kernel_rfl
theorem wrSize : (Tryd.prog.info? 83).map (·.size) = some 129 := by kernel_rfl
theorem wrsUnd : Tryd.prog.underlying 58 = some (.slice 83) := by kernel_rfl
theorem wr_built (parts : List (Nat × Value)) : Tryd.prog.built 83 parts = Instr.fill (fun i => #[(0, 1), (1, 64), (65, 64)][i]?) (wrC ⟨0, zeroS, zeroS⟩).toArray parts := by kernel_rfl
theorem over_at (a b cs : List Value) (o : Nat) (h : a.length = o) : overV (a ++ b) o cs = a ++ cs ++ b.drop cs.length := by
  subst h
  unfold overV
  rw [List.take_left, List.drop_append, List.drop_eq_nil_of_le (by omega), Nat.add_sub_cancel_left]
  simp
theorem wr_build (W : World) (n : Nat) (s : Sec) : (Instr.build 83 #[(0, .int .i64 (n : Nat)), (1, .agg (secC s).toArray)]).run Tryd.prog W = .ok (.agg (wrC ⟨n, s, zeroS⟩).toArray) W := by
  refine run_build W _ _ _ ?_
  rw [wr_built, fill_one (cs := [.int .i64 (n : Nat)]) (off := 0) rfl rfl (by simp [wrC, secC_len]), fill_one (cs := secC s) (off := 1) rfl (by rw [secC_len]; rfl) (by simp [overV, wrC, secC_len])]
  show some _ = some _
  congr 2
  show overV (overV (wrC ⟨0, zeroS, zeroS⟩) 0 [.int .i64 (n : Nat)]) 1 (secC s) = _
  have e1 : overV (wrC ⟨0, zeroS, zeroS⟩) 0 [.int .i64 (n : Nat)] = [.int .i64 (n : Nat)] ++ (secC zeroS ++ secC zeroS) := by
    unfold wrC
    rw [show (Value.int .i64 ((0 : Nat) : Int) :: (secC zeroS ++ secC zeroS)) = [] ++ (Value.int .i64 ((0 : Nat) : Int) :: (secC zeroS ++ secC zeroS)) from rfl, over_at _ _ _ 0 rfl]
    rfl
  rw [e1, over_at _ _ _ 1 rfl, secC_len, List.drop_append, List.drop_eq_nil_of_le (by rw [secC_len]; exact Nat.le_refl _), secC_len]
  simp [wrC]
theorem one_slice (W : World) (x : Wr) : (Instr.buildSlice 58 1 #[(0, .agg (wrC x).toArray)]).run Tryd.prog W = .ok (.slice (some ⟨W.heap.size, 0, none⟩) 1 1) (W.alloc (.cells (wrC x).toArray 83)) := by
  obtain ⟨i, hi, hz⟩ := Option.map_eq_some_iff.1 wrInfo
  simp only [Prod.mk.injEq] at hz
  obtain ⟨z0, z1, z2⟩ := hz
  have hsz : ∀ W, (sizeOf 83).run Tryd.prog W = .ok 129 W := fun W => by simp [sizeOf, typeInfo, hi, z1]
  have hzv : ∀ W, (zeroValue 83).run Tryd.prog W = .ok (.agg (wrC ⟨0, zeroS, zeroS⟩).toArray) W := fun W => by simp [zeroValue, typeInfo, hi, z0]
  have hs0 : (Array.map (fun j => (wrC ⟨0, zeroS, zeroS⟩).toArray[j % (wrC ⟨0, zeroS, zeroS⟩).toArray.size]!) (Array.range (1 * 129))).size = 129 := by simp
  have hfl := fun rest => fill_one (place := fun i => some (i * 129, 129)) (cur := Array.map (fun j => (wrC ⟨0, zeroS, zeroS⟩).toArray[j % (wrC ⟨0, zeroS, zeroS⟩).toArray.size]!) (Array.range (1 * 129))) (i := 0) (off := 0) (cs := wrC x) (v := .agg (wrC x).toArray) (rest := rest) rfl (by rw [wrC_len]) (by rw [hs0, wrC_len]; exact Nat.le_refl _)
  have hov : ∀ l : List Value, l.length = 129 → overV l 0 (wrC x) = wrC x := fun l hl => by
    unfold overV
    rw [List.drop_eq_nil_of_le (by rw [hl, wrC_len]; exact Nat.le_refl _)]
    simp
  rw [hov _ (by rw [Array.length_toList]; exact hs0)] at hfl
  simp only [Instr.buildSlice, Sem.run_bind, run_underlying wrsUnd, hsz, Result.andThen_ok]
  rw [if_neg (by decide), if_neg (by decide)]
  simp only [Sem.run_bind, hzv, Result.andThen_ok, Sem.run_pure, Value.cells]
  rw [hfl]
  simp [Instr.fill, newRow, Result.andThen]
theorem bytes_len (s : ByteArray) : (Lib.byteCells s.data.toList).length = s.size := by
  rw [Lib.byteCells, List.length_map]
  rfl
/-- A text is copied into a part of a row. -/
theorem run_copy_str {P : Program} (w : World) (dT sT ty elem : TypeId) (g o dLen dCap : Nat) (s : ByteArray) (cur : Array Value) (t : TypeId)
    (hu : P.underlying dT = some (.slice elem)) (hs : (P.info? elem).map (·.size) = some 1) (hg : w.heap[g]? = some (.cells cur t (0, 0))) (hd : s.size ≤ dLen) (hfit : o + s.size ≤ cur.size) :
    (Builtin.copy_ #[dT, sT] ty #[.slice (some ⟨g, o, none⟩) dLen dCap, .string s]).run P w = .ok (.int .i64 (s.size : Nat)) (w.setRow g (overV cur.toList o (Lib.byteCells s.data.toList)).toArray) := by
  have hl : (Lib.byteCells s.data.toList).length = s.size := bytes_len s
  have hst := run_storeCells_at P g o t (Lib.byteCells s.data.toList) 0 _ w hg (by rw [hl]; omega) (Lib.byteCells_one _)
  simp only [Nat.add_zero] at hst
  have hc : ((s.extract 0 s.size).data.map fun b : UInt8 => Value.int .u8 b.toNat).toList = Lib.byteCells s.data.toList := by
    rw [Array.toList_map, ByteArray.data_extract, Array.toList_extract, List.extract_eq_take_drop, List.drop_zero, Nat.sub_zero, List.take_of_length_le (i := s.size) (Nat.le_of_eq rfl)]
    rfl
  have hm : Nat.min s.size dLen = s.size := Nat.min_eq_left hd
  cases hq : P.info? elem with
  | none => simp [hq] at hs
  | some i =>
    simp only [Builtin.copy_, Sem.run_bind, run_underlying hu, Builtin.lenOf, Builtin.firstCells, sizeOf, typeInfo, Sem.run_pure, hm, goInt, Result.andThen_ok, List.getElem?_toArray, List.getElem?_cons_zero, List.getElem?_cons_succ, hc]
    simp [hq, hst, overV]
theorem padB_val {s : ByteArray} (h : s.size ≤ 64) : (padB s).1 = s.data.toList ++ List.replicate (64 - s.size) 0 := by
  have hl : s.data.toList.length = s.size := rfl
  simp only [padB]
  rw [List.take_append, List.take_of_length_le (by omega), hl, List.take_replicate, Nat.min_eq_left (by omega)]
theorem wr_copied (n : Nat) (a : Sec) {s : ByteArray} (h : s.size ≤ 64) : overV (wrC ⟨n, a, zeroS⟩) 65 (Lib.byteCells s.data.toList) = wrC ⟨n, a, padB s⟩ := by
  have hl : (Lib.byteCells s.data.toList).length = s.size := bytes_len s
  have e : wrC ⟨n, a, zeroS⟩ = (.int .i64 (n : Nat) :: secC a) ++ secC zeroS := rfl
  rw [e, over_at _ _ _ 65 (by simp [secC_len]), hl]
  have e2 : secC zeroS = List.replicate 64 (.int .u8 0) := by
    unfold secC zeroS Lib.byteCells
    rw [List.map_replicate]
    rfl
  have e3 : secC (padB s) = Lib.byteCells s.data.toList ++ List.replicate (64 - s.size) (.int .u8 0) := by
    unfold secC Lib.byteCells
    rw [padB_val h, List.map_append, List.map_replicate]
    rfl
  rw [e2, List.drop_replicate]
  show _ = .int .i64 (n : Nat) :: (secC a ++ secC (padB s))
  rw [e3]
  simp
end Go.Proofs.YtlcloahkeamdkaaDoor
