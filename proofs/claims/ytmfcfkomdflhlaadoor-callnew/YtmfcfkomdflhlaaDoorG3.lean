/- Data: copying into rows of bytes, clearing them: what the runs give, for any program. -/
import Derived.Test.YtmfcfkomdflhlaaDoorG2
import Derived.Laws.CopyRow
import Derived.Lib.BufferWrite
import Derived.Deep.WholeRow
namespace Go.Proofs.YtmfcfkomdflhlaaDoor
open Go Go.RowKit

theorem cells_len (l : List UInt8) : (Lib.byteCells l).length = l.length := by simp [Lib.byteCells]
theorem cells_over {b l : List UInt8} {o : Nat} : (Lib.byteCells b).take o ++ Lib.byteCells l ++ (Lib.byteCells b).drop (o + l.length) = Lib.byteCells (over b o l) := by
  simp [Lib.byteCells, over, List.map_take, List.map_drop]
/-- A row of bytes at block g. -/
def RowAt (w : World) (g : Nat) (t : TypeId) (l : List UInt8) : Prop := w.heap[g]? = some (.cells (Lib.byteCells l).toArray t (0, 0))
theorem RowAt.set {w : World} {g : Nat} {t : TypeId} {l : List UInt8} (h : RowAt w g t l) (l' : List UInt8) : RowAt (w.setRow g (Lib.byteCells l').toArray) g t l' := setRow_heap w g _ _ t _ h
theorem lt_of_heap {w : World} {g : Nat} {o : Obj} (h : w.heap[g]? = some o) : g < w.heap.size := (Array.getElem?_eq_some_iff.1 h).1
theorem only_setRow (w : World) (g : Nat) (c : Array Value) : ∀ k, k ≠ g → (w.setRow g c).heap[k]? = w.heap[k]? := by
  intro k hk
  simp only [World.setRow]
  rw [Array.getElem?_modify, if_neg (fun e => hk e.symm)]
theorem run_copy_part {P : Program} (w : World) (dT sT ty elem : TypeId) (g o dLen dCap : Nat) (s : ByteArray) (b : List UInt8) (t : TypeId)
    (hu : P.underlying dT = some (.slice elem)) (hs : (P.info? elem).map (·.size) = some 1) (hg : RowAt w g t b) (hfit : o + dLen ≤ b.length) :
    (Builtin.copy_ #[dT, sT] ty #[.slice (some ⟨g, o, none⟩) dLen dCap, .string s]).run P w =
      .ok (.int .i64 (min s.size dLen : Nat)) (w.setRow g (Lib.byteCells (over b o (partS s 0 (min s.size dLen)))).toArray) := by
  have hl : (partS s 0 (min s.size dLen)).length = min s.size dLen := partS_len (by omega)
  have hst := run_storeCells_at P g o t (Lib.byteCells (partS s 0 (min s.size dLen))) 0 _ w hg (by rw [cells_len, hl]; simp only [List.size_toArray, cells_len]; omega) (Lib.byteCells_one _)
  simp only [Nat.add_zero, cells_len] at hst
  rw [cells_over] at hst
  have hc : ((s.extract 0 (min s.size dLen)).data.map fun b : UInt8 => Value.int .u8 b.toNat).toList = Lib.byteCells (partS s 0 (min s.size dLen)) := by
    rw [Array.toList_map, ByteArray.data_extract, Array.toList_extract]
    simp [partS, Lib.byteCells, List.extract_eq_take_drop]
  have hm : Nat.min s.size dLen = min s.size dLen := rfl
  generalize min s.size dLen = m at hl hst hc hm ⊢
  cases hq : P.info? elem with
  | none => simp [hq] at hs
  | some i =>
    simp only [Builtin.copy_, Sem.run_bind, run_underlying hu, Builtin.lenOf, Builtin.firstCells, sizeOf, typeInfo, Sem.run_pure, hm, goInt, Result.andThen_ok, List.getElem?_toArray, List.getElem?_cons_zero, List.getElem?_cons_succ, hc]
    simp [hq, hst]
/-- A row's part, as cells. -/
theorem part_cell {w : World} {g o : Nat} {t : TypeId} {b : List UInt8} (h : RowAt w g t b) (n : Nat) (j : Nat) (v : Value) (hv : (Lib.byteCells ((b.drop o).take n))[j]? = some v) : w.cell? ((⟨g, o, none⟩ : Addr).add j) = some v := by
  have hadd : (⟨g, o, none⟩ : Addr).add j = ⟨g, o + j, none⟩ := by unfold Addr.add; split <;> simp_all
  rw [hadd, cell_of_row _ _ _ _ _ _ h]
  simp only [Lib.byteCells, List.getElem?_map, List.getElem?_take, List.getElem?_drop] at hv
  simp only [Lib.byteCells, List.getElem?_toArray, List.getElem?_map]
  split at hv
  · exact hv
  · cases hv
theorem run_copy_block {P : Program} (w : World) (dT sT ty elem : TypeId) (g p dLen dCap gb o sLen sCap : Nat) (l b : List UInt8) (t tb : TypeId)
    (hu : P.underlying dT = some (.slice elem)) (hs : (P.info? elem).map (·.size) = some 1) (hg : RowAt w g t l) (hb : RowAt w gb tb b) (hfit : p + dLen ≤ l.length) (hsrc : o + sLen ≤ b.length) :
    (Builtin.copy_ #[dT, sT] ty #[.slice (some ⟨g, p, none⟩) dLen dCap, .slice (some ⟨gb, o, none⟩) sLen sCap]).run P w =
      .ok (.int .i64 (min sLen dLen : Nat)) (w.setRow g (Lib.byteCells (over l p ((b.drop o).take (min sLen dLen)))).toArray) := by
  have hl : ((b.drop o).take (min sLen dLen)).length = min sLen dLen := by rw [List.length_take, List.length_drop]; omega
  have h := run_copy_row P w dT sT ty elem g p dLen dCap ⟨gb, o, none⟩ sLen sCap (Lib.byteCells l).toArray t (Lib.byteCells ((b.drop o).take (min sLen dLen))) hu hs hg (by rw [cells_len, hl]) (fun j v hv => part_cell hb _ j v hv)
    (by rw [cells_len, hl]; simp only [List.size_toArray, cells_len]; omega) (Lib.byteCells_one _)
  simp only [cells_len] at h
  rw [cells_over] at h
  rw [h, hl]
  rfl
theorem zeroCells_one (n : Nat) : (Builtin.zeroCells #[.int .u8 0] n).toList = Lib.byteCells (List.replicate n 0) := by
  simp only [Builtin.zeroCells, Lib.byteCells, List.map_replicate, Array.toList_map, Array.toList_range]
  apply List.ext_getElem
  · simp
  · intro i h1 h2
    simp [Nat.mod_one]
theorem run_clear_row {P : Program} (w : World) (t ty elem : TypeId) (g o n cap : Nat) (b : List UInt8) (tb : TypeId)
    (hu : P.underlying t = some (.slice elem)) (hz : ∀ w, (zeroValue elem).run P w = .ok (.int .u8 0) w) (hg : RowAt w g tb b) (hn : 0 < n) (hfit : o + n ≤ b.length) :
    (Builtin.clear_ #[t] ty #[.slice (some ⟨g, o, none⟩) n cap]).run P w = .ok (.tuple #[]) (w.setRow g (Lib.byteCells (over b o (List.replicate n 0))).toArray) := by
  have hst := run_storeCells_at P g o tb (Lib.byteCells (List.replicate n 0)) 0 _ w hg (by rw [cells_len, List.length_replicate]; simp only [List.size_toArray, cells_len]; omega) (Lib.byteCells_one _)
  simp only [Nat.add_zero, cells_len] at hst
  rw [cells_over] at hst
  obtain ⟨k, rfl⟩ : ∃ k, n = k + 1 := ⟨n - 1, by omega⟩
  have hz2 := zeroCells_one (k + 1)
  simp only [Builtin.clear_, Sem.run_bind, run_underlying hu, hz, Result.andThen_ok, List.getElem?_toArray, List.getElem?_cons_zero, Value.cells]
  rw [hz2, hst]
  rfl
end Go.Proofs.YtmfcfkomdflhlaaDoor
