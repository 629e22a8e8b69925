/- What was answered: slices.Delete of one request. -/
import Derived.Test.YtlmppddgeclddaaDoorCa2
import Derived.Shelf.Spec.SlicesInsert
import Derived.Lib.SliceRun
import Derived.Lib.Overlaps
namespace Go.Proofs.YtlmppddgeclddaaDoor
open Go Go.RowKit Go.Deep

theorem rqZero (w : World) : (zeroValue 53).run Tryd.prog w = .ok (.agg #[.string ⟨#[]⟩, .int .i64 0]) w := by
  obtain ⟨i0, h1, h2, _⟩ := rqInfo'
  simp [zeroValue, typeInfo, h1, h2]
theorem zeroOne (n : Nat) : ∀ v ∈ (Builtin.zeroCells (Value.agg #[.string ⟨#[]⟩, .int .i64 0]).cells n).toList, v.oneCell' = true := by
  intro v hv
  simp only [Builtin.zeroCells, Array.toList_map, List.mem_map] at hv
  obtain ⟨i, _, rfl⟩ := hv
  have h : i % 2 < 2 := Nat.mod_lt _ (by decide)
  have hs : (Value.agg #[.string ⟨#[]⟩, .int .i64 0]).cells = #[.string ⟨#[]⟩, .int .i64 0] := rfl
  rw [hs]
  rcases (show i % 2 = 0 ∨ i % 2 = 1 by omega) with e | e <;> simp [e] <;> rfl
/-- A part of a row of opens is cleared. -/
theorem clear_at {w : World} {g o n cap : Nat} {cur : Array Value} (hg : w.heap[g]? = some (.cells cur 53 (0, 0))) (hn : 0 < n) (hfit : o + n * 2 ≤ cur.size) :
    ∃ w' cs, (∀ ty, (Builtin.clear_ #[47] ty #[.slice (some ⟨g, o, none⟩) n cap]).run Tryd.prog w = .ok (.tuple #[]) w') ∧ w'.heap[g]? = some (.cells (overV cur.toList o cs).toArray 53 (0, 0)) ∧ cs.length = n * 2 ∧ Only [g] w w' :=
  ⟨_, _, fun ty => run_clear_k (P := Tryd.prog) w 47 ty 53 _ g o n cap cur 53 rqsUnd rqZero hg hn (by have h := hfit; exact h) (zeroOne n), setRow_heap w g cur _ 53 _ hg, by rw [Array.length_toList, size_zeroCells]; rfl, only_row w g _⟩
/-- An append whose run is known, as a step of a region that draws. -/
theorem step_append_known {P : Program} {ops : Array Oper} {o : Oper} {a : Act} {w : World} {K : Act → World → Prop} {Q : Exit → Act → World → Prop} {E : Prop} (hg : o.guard = none) (s x : Operand) (t t' : TypeId) (hop : o.op = Op.call { callee := Callee.builtin Builtin.append, args := #[s, x], argTypes := #[t, t'] })
    (v u : Value) (hs : a.eval s = v) (hx : a.eval x = u) {v' : Value} {w' : World} (hr : (Builtin.append_ #[t, t'] o.type #[v, u]).run P w = .ok v' w') (hK : K (a.put o.dst v') w') : if Region.wanted o (yielded ops a.tmps) = true then Oper.wp P o a w K Q else E := by
  have hw : Region.wanted o (yielded ops a.tmps) = true := by simp [Region.wanted, hg]
  rw [if_pos hw]
  unfold Oper.wp
  simp [execOp, hop, resolve, invoke, builtin, hs, hx, hr, Result.andThen]
  exact hK
/-- A clearing whose run is known. -/
theorem wpList_clear_known {P : Program} {w : World} {ops : Array Oper} {rest : List Oper} {o : Oper} {a : Act} {Q : Exit → Act → World → Prop} (hgd : o.guard = none) (s : Operand) (t : TypeId) (ho : o.op = .call { callee := .builtin .clear, args := #[s], argTypes := #[t] }) (v : Value) (hs : a.eval s = v) {v' : Value} {w' : World}
    (hr : (Builtin.clear_ #[t] o.type #[v]).run P w = .ok v' w') (h : wpList P ops Q rest (a.put o.dst v') w') : wpList P ops Q (o :: rest) a w :=
  wpList_plain hgd fun K hK => by
    unfold Oper.wp execOp
    simp only [ho, resolve, invoke, builtin, Sem.run_bind, Sem.run_pure, Result.andThen_ok, List.map_toArray, List.map_cons, List.map_nil, hs, hr]
    exact hK _ _ h
set_option maxRecDepth 100000 in
set_option maxHeartbeats 4000000 in
theorem delete_any (w : World) (base g n cap i : Nat) (l : List Kp) (h : Rqs w base (.slice (some ⟨g, 0, none⟩) n cap) l) (hn : l.length = n) (hl : n ≤ 1000) (hi : i < n) :
    Calls Tryd.prog 19 #[.slice (some ⟨g, 0, none⟩) n cap, .int .i64 i, .int .i64 ((i : Int) + 1)] w fun e w' => e = .returned (.slice (some ⟨g, 0, none⟩) (n - 1) cap) ∧ Rqs w' base (.slice (some ⟨g, 0, none⟩) (n - 1) cap) (l.take i ++ l.drop (i + 1)) ∧ Only [g] w w' := by
  obtain ⟨i0, hi0, hz0, hz1, hz2⟩ := rqInfo'
  rcases h.open with ⟨h1, _⟩ | ⟨g', cap', cur, h1, hbg, hgl, hg, hnc, hcm, hcs, htk⟩
  · cases h1
  simp only [Value.slice.injEq, Option.some.injEq, Addr.mk.injEq, and_true] at h1
  obtain ⟨rfl, -, rfl⟩ := h1
  have hdl : (rowOf rqC (l.drop (i + 1))).length = (n - (i + 1)) * 2 := by rw [rowOf_len rqC_len, List.length_drop, hn]
  have hcl : cur.toList.length = cap * 2 := by rw [Array.length_toList, hcs]
  have hc1 : ∀ (ad : Addr) ty c, (i + 1 < n → ad = ⟨g, (i + 1) * 2, none⟩) → (Builtin.append_ #[47, 47] ty #[.slice (some ⟨g, 0, none⟩) i cap, .slice (some ad) (n - (i + 1)) c]).run Tryd.prog w.drew = .ok (.slice (some ⟨g, 0, none⟩) (i + (n - (i + 1))) cap) (w.drew.setRow g (cur.toList.take (i * 2) ++ rowOf rqC (l.drop (i + 1)) ++ cur.toList.drop (i * 2 + (rowOf rqC (l.drop (i + 1))).length)).toArray) := fun ad ty c had => by
    have := run_append_room (P := Tryd.prog) w.drew 47 ty 53 i0 rqsUnd hi0 g i cap cur hg ad (n - (i + 1)) c (rowOf rqC (l.drop (i + 1))) (by rw [hz1, hdl]) (fun j v hv => by
      by_cases hlt : i + 1 < n
      · rw [had hlt]
        refine part_of (w := w.drew) hg ((i + 1) * 2) (cs := rowOf rqC (l.drop (i + 1))) (fun j v hv => ?_) j v hv
        rw [rowOf_drop rqC_len, ← htk, List.getElem?_drop, List.getElem?_take] at hv
        split at hv
        · exact hv
        · cases hv
      · have := (List.getElem?_eq_some_iff.1 hv).1
        omega) (rowOf_one rqC_one _) (by omega) (by rw [hz1]; rw [← Array.length_toList]; omega)
    rw [hz1] at this
    exact this
  have e1 : i + (n - (i + 1)) = n - 1 := by omega
  rw [e1] at hc1
  have hh1 : (w.drew.setRow g (cur.toList.take (i * 2) ++ rowOf rqC (l.drop (i + 1)) ++ cur.toList.drop (i * 2 + (rowOf rqC (l.drop (i + 1))).length)).toArray).heap[g]? = some (.cells (overV cur.toList (i * 2) (rowOf rqC (l.drop (i + 1)))).toArray 53 (0, 0)) := setRow_heap w.drew g cur _ 53 _ hg
  have o1 : Only [g] w (w.drew.setRow g (cur.toList.take (i * 2) ++ rowOf rqC (l.drop (i + 1)) ++ cur.toList.drop (i * 2 + (rowOf rqC (l.drop (i + 1))).length)).toArray) := ((Only.refl [g] w).drew).trans (only_row _ g _) (fun _ hk => Or.inl hk)
  generalize w.drew.setRow g (cur.toList.take (i * 2) ++ rowOf rqC (l.drop (i + 1)) ++ cur.toList.drop (i * 2 + (rowOf rqC (l.drop (i + 1))).length)).toArray = w2 at hc1 hh1 o1
  have hov1 : (overV cur.toList (i * 2) (rowOf rqC (l.drop (i + 1)))).length = cap * 2 := by rw [overV_len (by omega), hcl]
  obtain ⟨w3, cs, hc3, hh3, hcsl, o3⟩ := clear_at (g := g) (o := (n - 1) * 2) (n := n - (n - 1)) (cap := cap - (n - 1)) hh1 (by omega) (by rw [List.size_toArray, hov1]; omega)
  have fin : Rqs w3 base (.slice (some ⟨g, 0, none⟩) (n - 1) cap) (l.take i ++ l.drop (i + 1)) ∧ Only [g] w w3 := by
    have hlen : (l.take i ++ l.drop (i + 1)).length = n - 1 := by rw [List.length_append, List.length_take, List.length_drop]; omega
    refine ⟨⟨by rw [rowOf_len rqC_len], Or.inr ⟨g, cap, _, by rw [hlen], hbg, hh3, by rw [hlen]; omega, hcm, ?_, ?_⟩⟩, o1.trans o3 (fun k hk => Or.inl hk)⟩
    · rw [List.size_toArray, List.toList_toArray, overV_len (by omega), hov1]
    · rw [hlen, List.toList_toArray, List.toList_toArray]
      have a1 : (overV (overV cur.toList (i * 2) (rowOf rqC (l.drop (i + 1)))) ((n - 1) * 2) cs).take ((n - 1) * 2) = (overV cur.toList (i * 2) (rowOf rqC (l.drop (i + 1)))).take ((n - 1) * 2) := by
        rw [overV, List.append_assoc, List.take_append_of_le_length (by rw [List.length_take]; omega), List.take_take, Nat.min_self]
      have a2 : (n - 1) * 2 = i * 2 + (rowOf rqC (l.drop (i + 1))).length := by omega
      rw [a1, a2, overV_end (by omega), rowOf_append]
      congr 1
      rw [rowOf_take rqC_len, ← htk, List.take_take, Nat.min_eq_left (by omega)]
  have HFIN : Hid (Rqs w3 base (.slice (some ⟨g, 0, none⟩) (n - 1) cap) (l.take i ++ l.drop (i + 1)) ∧ Only [g] w w3) := fin
  have hG63 : (cap : Int) ≤ 9223372036854775807 := by unfold maxLen at hcm; omega
  have HC1 : Hid (∀ (ad : Addr) ty c, (i + 1 < n → ad = ⟨g, (i + 1) * 2, none⟩) → (Builtin.append_ #[47, 47] ty #[.slice (some ⟨g, 0, none⟩) i cap, .slice (some ad) (n - (i + 1)) c]).run Tryd.prog w.drew = .ok (.slice (some ⟨g, 0, none⟩) (n - 1) cap) w2) := hc1
  have mixed : Tryd.prog.follows Departure.mixedOrders = true := by kernel_rfl
  have q1 : ¬ ((i : Int) = (i : Int) + 1) := by omega
  have q2 : (i : Int) + 1 ≤ n := by omega
  have q3 : (i : Int) ≤ (i : Int) + 1 := by omega
  have q4 : (0 : Int) ≤ (i : Int) + 1 := by omega
  have q5 : ((i : Int) + 1).toNat = i + 1 := by omega
  have q6 : (i : Int) ≤ cap := by omega
  have q7 : ¬ (cap = n - 1) := by omega
  have q8 : ((n - 1 : Nat) : Int) ≤ n := by omega
  clear fin hc1 hh1 hh3 o1 o3 hcsl hdl hcl hov1 hgl hg hcs htk h hbg hcm hi0 hz0 hz1 hz2
  by_cases hce : cap = i + 1
  · obtain rfl : n = cap := by omega
    have HC2 := HC1.out ⟨g, 0, none⟩ 47 0 (fun h => absurd h (by omega))
    rw [show n - (i + 1) = 0 by omega] at HC2
    rw [show n - (n - 1) = 1 by omega] at hc3
    have hn1 : n - 1 = i := by omega
    rw [hn1] at HC2 HFIN hc3 ⊢
    have hic : (i : Int) + 1 = (n : Int) := by omega
    have r1 : ¬ ((i : Int) = (n : Int)) := by omega
    have r2 : ¬ (n = i) := by omega
    have r3 : (i : Int) ≤ n := by omega
    have r4 : n - i = 1 := by omega
    rw [hic]
    clear HC1 q1 q2 q3 q4 q5 q6 q7 q8 e1 hce hn1 hic
    go_enter Tryd.func19, Tryd.ntmps19
    go_wp2
    go_region_law_o (refine step_append_known rfl _ _ 47 47 rfl (Value.slice (some ⟨g, 0, none⟩) i n) (Value.slice (some ⟨g, 0, none⟩) 0 0) (by simp [Act.eval, Act.put]) (by simp [Act.eval, Act.put]) (HC2) ?_)
    go_wp2_with (at_builtin; refine wpList_clear_known rfl _ 47 rfl _ rfl (hc3 _) ?_)
    go_ret
    exact ⟨rfl, HFIN.out⟩
  · go_enter Tryd.func19, Tryd.ntmps19
    go_wp2
    go_region_law_o (refine step_append_known rfl _ _ 47 47 rfl (Value.slice (some ⟨g, 0, none⟩) i cap) (Value.slice (some ⟨g, (i + 1) * 2, none⟩) (n - (i + 1)) (cap - (i + 1))) (by simp [Act.eval, Act.put]) (by simp [Act.eval, Act.put]) (HC1.out _ _ _ (fun _ => rfl)) ?_)
    go_wp2_with (at_builtin; refine wpList_clear_known rfl _ 47 rfl _ rfl (hc3 _) ?_)
    go_ret
    exact ⟨rfl, HFIN.out⟩
end Go.Proofs.YtlmppddgeclddaaDoor
