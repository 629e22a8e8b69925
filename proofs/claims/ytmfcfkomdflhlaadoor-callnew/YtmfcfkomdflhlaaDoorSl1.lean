/- Rows of structs: copied, cleared: what the runs give, for any program. -/
import Derived.Test.YtmfcfkomdflhlaaDoorO1
import Derived.Test.YtmfcfkomdflhlaaDoorH1
import Derived.Laws.CopyRow
import Derived.Laws.OwnMore
import Derived.Deep.AppendLies
import Derived.Lib.AppendZerosOnto
namespace Go.Proofs.YtmfcfkomdflhlaaDoor
open Go Go.RowKit

/-- A row, a part of it written over. -/
def overV (l : List Value) (o : Nat) (cs : List Value) : List Value := l.take o ++ cs ++ l.drop (o + cs.length)
theorem overV_len {l cs : List Value} {o : Nat} (h : o + cs.length ≤ l.length) : (overV l o cs).length = l.length := by
  simp only [overV, List.length_append, List.length_take, List.length_drop]
  omega
theorem overV_take {l cs : List Value} {o n : Nat} (h : o + cs.length ≤ n) (hn : n ≤ l.length) : (overV l o cs).take n = overV (l.take n) o cs := by
  have h1 : (l.take n).drop (o + cs.length) = (l.drop (o + cs.length)).take (n - (o + cs.length)) := by rw [List.drop_take]
  unfold overV
  rw [List.take_append, List.take_of_length_le (l := l.take o ++ cs) (by simp; omega), List.take_take, Nat.min_eq_left (by omega), h1]
  congr 2
  simp
  omega
theorem overV_end {l cs : List Value} {n : Nat} (h : n + cs.length ≤ l.length) : (overV l n cs).take (n + cs.length) = l.take n ++ cs := by
  unfold overV
  rw [List.take_append_of_le_length (by simp; omega), List.take_of_length_le (by simp; omega)]
theorem only_rowS (w : World) (g : Nat) (c : Array Value) : Only [g] w (w.setRow g c) :=
  ⟨rfl, rfl, rfl, by simp [World.setRow], fun k _ hk => by
    simp only [World.setRow]
    rw [Array.getElem?_modify, if_neg (fun e => hk (by simp [e]))]⟩
theorem run_copy_k {P : Program} (w : World) (dT sT ty elem : TypeId) (k : Nat) (g o dLen dCap : Nat) (a : Addr) (sLen sCap : Nat) (cur : Array Value) (t : TypeId) (cs : List Value)
    (hu : P.underlying dT = some (.slice elem)) (hs : (P.info? elem).map (·.size) = some k)
    (hg : w.heap[g]? = some (.cells cur t (0, 0))) (m : Nat) (hm : Nat.min sLen dLen = m) (hn : cs.length = m * k)
    (hsrc : ∀ j v, cs[j]? = some v → w.cell? (a.add j) = some v) (hfit : o + cs.length ≤ cur.size) (h1 : ∀ v ∈ cs, v.oneCell' = true) :
    (Builtin.copy_ #[dT, sT] ty #[.slice (some ⟨g, o, none⟩) dLen dCap, .slice (some a) sLen sCap]).run P w =
      .ok (goInt m) (w.setRow g (overV cur.toList o cs).toArray) := by
  have hl := run_loadCells_list (P := P) w a cs hsrc
  have hst := run_storeCells_at P g o t cs 0 cur w hg (by simpa using hfit) h1
  simp only [Nat.add_zero] at hst
  cases hq : P.info? elem with
  | none => simp [hq] at hs
  | some i =>
    have hi : i.size = k := by simpa [hq] using hs
    simp [Builtin.copy_, run_underlying hu, Builtin.lenOf, Builtin.firstCells, sizeOf, typeInfo, hq, hi, hm, ← hn, hl, hst, overV]
theorem run_clear_k {P : Program} (w : World) (t ty elem : TypeId) (z : Value) (g o n cap : Nat) (cur : Array Value) (tb : TypeId)
    (hu : P.underlying t = some (.slice elem)) (hz : ∀ w, (zeroValue elem).run P w = .ok z w) (hg : w.heap[g]? = some (.cells cur tb (0, 0))) (hn : 0 < n) (hfit : o + n * z.cells.size ≤ cur.size) (h1 : ∀ v ∈ (Builtin.zeroCells z.cells n).toList, v.oneCell' = true) :
    (Builtin.clear_ #[t] ty #[.slice (some ⟨g, o, none⟩) n cap]).run P w = .ok (.tuple #[]) (w.setRow g (overV cur.toList o (Builtin.zeroCells z.cells n).toList).toArray) := by
  have hst := run_storeCells_at P g o tb (Builtin.zeroCells z.cells n).toList 0 cur w hg (by rw [Array.length_toList, size_zeroCells]; omega) h1
  simp only [Nat.add_zero] at hst
  obtain ⟨k, rfl⟩ : ∃ k, n = k + 1 := ⟨n - 1, by omega⟩
  simp only [Builtin.clear_, Sem.run_bind, run_underlying hu, hz, Result.andThen_ok, List.getElem?_toArray, List.getElem?_cons_zero]
  rw [hst]
  rfl
theorem add_none (g o j : Nat) : (⟨g, o, none⟩ : Addr).add j = ⟨g, o + j, none⟩ := by unfold Addr.add; split <;> simp_all
/-- What an owned row that is not empty is. -/
theorem own_open {w : World} {base : Nat} {e : TypeId} {k n : Nat} {v : Value} {xs : List Value} (h : w.ownsRow base e k v n xs) (hn : v ≠ .slice none 0 0) :
    ∃ g cap cur, v = .slice (some ⟨g, 0, none⟩) n cap ∧ base ≤ g ∧ w.heap[g]? = some (.cells cur e (0, 0)) ∧ n ≤ cap ∧ cap ≤ maxLen ∧ cur.size = cap * k ∧ cur.toList.take (n * k) = xs := by
  rcases h.2 with ⟨h1, _⟩ | h1
  · exact absurd h1 hn
  · exact h1
/-- The cells of a part of a row. -/
theorem part_of {w : World} {g : Nat} {e : TypeId} {cur : Array Value} (hg : w.heap[g]? = some (.cells cur e (0, 0))) (o : Nat) {cs : List Value} (hc : ∀ j v, cs[j]? = some v → cur.toList[o + j]? = some v) : ∀ j v, cs[j]? = some v → w.cell? ((⟨g, o, none⟩ : Addr).add j) = some v := fun j v hv => by
  rw [add_none, cell_of_row _ _ _ _ _ _ hg]
  simpa using hc j v hv
end Go.Proofs.YtmfcfkomdflhlaaDoor
