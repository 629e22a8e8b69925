/- Messages: copies, clears, appends whose runs are known. -/
import Derived.Test.YtkfelijpajdcoaaDoorNe1
import Derived.Shelf.Spec.SlicesInsert
import Derived.Lib.AppendZerosOnto
import Derived.Lib.Overlaps
namespace Go.Proofs.YtkfelijpajdcoaaDoor
open Go Go.RowKit Go.Deep

theorem msSize : (Tryd.prog.info? 40).map (·.size) = some 3 := by
  obtain ⟨i0, h1, _, h2, _⟩ := msInfo'
  rw [h1]
  simp [h2]
/-- A copy within, or into, a row of opens. -/
theorem copy_at {w : World} {g o dLen dCap sg so sLen sCap m : Nat} {cur : Array Value} {cs : List Value} (hg : w.heap[g]? = some (.cells cur 40 (0, 0))) (hm : Nat.min sLen dLen = m) (hn : cs.length = m * 3)
    (hsrc : ∀ j v, cs[j]? = some v → w.cell? ((⟨sg, so, none⟩ : Addr).add j) = some v) (hfit : o + cs.length ≤ cur.size) (h1 : ∀ v ∈ cs, v.oneCell' = true) :
    ∃ w', (∀ ty, (Builtin.copy_ #[25, 25] ty #[.slice (some ⟨g, o, none⟩) dLen dCap, .slice (some ⟨sg, so, none⟩) sLen sCap]).run Tryd.prog w = .ok (goInt m) w') ∧ w'.heap[g]? = some (.cells (overV cur.toList o cs).toArray 40 (0, 0)) ∧ Only [g] w w' :=
  ⟨w.setRow g (overV cur.toList o cs).toArray, fun ty => run_copy_k (P := Tryd.prog) w 25 25 ty 40 3 g o dLen dCap ⟨sg, so, none⟩ sLen sCap cur 40 cs msUnd msSize hg m hm hn hsrc hfit h1, setRow_heap w g cur _ 40 _ hg, only_row w g _⟩
theorem msZero (w : World) : (zeroValue 40).run Tryd.prog w = .ok (.agg #[.string ⟨#[]⟩, .string ⟨#[]⟩, .string ⟨#[]⟩]) w := by
  obtain ⟨i0, h1, h2, _⟩ := msInfo'
  simp [zeroValue, typeInfo, h1, h2]
theorem zeroOne (n : Nat) : ∀ v ∈ (Builtin.zeroCells (Value.agg #[.string ⟨#[]⟩, .string ⟨#[]⟩, .string ⟨#[]⟩]).cells n).toList, v.oneCell' = true := by
  intro v hv
  simp only [Builtin.zeroCells, Array.toList_map, List.mem_map] at hv
  obtain ⟨i, _, rfl⟩ := hv
  have h : i % 3 < 3 := Nat.mod_lt _ (by decide)
  have hs : (Value.agg #[.string ⟨#[]⟩, .string ⟨#[]⟩, .string ⟨#[]⟩]).cells = #[.string ⟨#[]⟩, .string ⟨#[]⟩, .string ⟨#[]⟩] := rfl
  rw [hs]
  rcases (show i % 3 = 0 ∨ i % 3 = 1 ∨ i % 3 = 2 by omega) with e | e | e <;> simp [e] <;> rfl
/-- A part of a row of opens is cleared. -/
theorem clear_at {w : World} {g o n cap : Nat} {cur : Array Value} (hg : w.heap[g]? = some (.cells cur 40 (0, 0))) (hn : 0 < n) (hfit : o + n * 3 ≤ cur.size) :
    ∃ w' cs, (∀ ty, (Builtin.clear_ #[25] ty #[.slice (some ⟨g, o, none⟩) n cap]).run Tryd.prog w = .ok (.tuple #[]) w') ∧ w'.heap[g]? = some (.cells (overV cur.toList o cs).toArray 40 (0, 0)) ∧ cs.length = n * 3 ∧ Only [g] w w' :=
  ⟨_, _, fun ty => run_clear_k (P := Tryd.prog) w 25 ty 40 _ g o n cap cur 40 msUnd msZero hg hn (by have h := hfit; exact h) (zeroOne n), setRow_heap w g cur _ 40 _ hg, by rw [Array.length_toList, size_zeroCells]; rfl, only_row w g _⟩
/-- An append whose run is known, as a step of a region that draws. -/
theorem step_append_known {P : Program} {ops : Array Oper} {o : Oper} {a : Act} {w : World} {K : Act → World → Prop} {Q : Exit → Act → World → Prop} {E : Prop} (hg : o.guard = none) (s x : Operand) (t t' : TypeId) (hop : o.op = Op.call { callee := Callee.builtin Builtin.append, args := #[s, x], argTypes := #[t, t'] })
    (v u : Value) (hs : a.eval s = v) (hx : a.eval x = u) {v' : Value} {w' : World} (hr : (Builtin.append_ #[t, t'] o.type #[v, u]).run P w = .ok v' w') (hK : K (a.put o.dst v') w') : if Region.wanted o (yielded ops a.tmps) = true then Oper.wp P o a w K Q else E := by
  have hw : Region.wanted o (yielded ops a.tmps) = true := by simp [Region.wanted, hg]
  rw [if_pos hw]
  unfold Oper.wp
  simp [execOp, hop, resolve, invoke, builtin, hs, hx, hr, Result.andThen]
  exact hK
/-- A clearing whose run is known. -/
theorem wpList_clear_known {P : Program} {w : World} {ops : Array Oper} {rest : List Oper} {o : Oper} {a : Act} {Q : Exit → Act → World → Prop} (hgd : o.guard = none) (s : Operand) (t : TypeId) (ho : o.op = .call { callee := .builtin .clear, args := #[s], argTypes := #[t] }) (v : Value) (hs : a.eval s = v) {v' : Value} {w' : World}
    (hr : (Builtin.clear_ #[t] o.type #[v]).run P w = .ok v' w') (h : wpList P ops Q rest (a.put o.dst v') w') : wpList P ops Q (o :: rest) a w :=
  wpList_plain hgd fun K hK => by
    unfold Oper.wp execOp
    simp only [ho, resolve, invoke, builtin, Sem.run_bind, Sem.run_pure, Result.andThen_ok, List.map_toArray, List.map_cons, List.map_nil, hs, hr]
    exact hK _ _ h
end Go.Proofs.YtkfelijpajdcoaaDoor
