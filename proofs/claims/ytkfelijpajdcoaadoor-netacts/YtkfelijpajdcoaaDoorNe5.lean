/- Messages: slices.Repeat of one; slices.Replace of one: what the runs give. -/
import Derived.Test.YtkfelijpajdcoaaDoorNe4
namespace Go.Proofs.YtkfelijpajdcoaaDoor
open Go Go.RowKit Go.Deep

theorem run_append_zero (w : World) (g i cap : Nat) (sa : Option Addr) (c : Nat) (ty : TypeId) (hic : i ≤ cap) : (Builtin.append_ #[25, 25] ty #[.slice (some ⟨g, 0, none⟩) i cap, .slice sa 0 c]).run Tryd.prog w = .ok (.slice (some ⟨g, 0, none⟩) i cap) w := by
  obtain ⟨i0, hi0, hz0, hz1, hz2⟩ := msInfo'
  cases sa <;> simp [Builtin.append_, run_underlying msUnd, sizeOf, typeInfo, hi0, Builtin.lenOf, Builtin.firstCells, hic, storeCells, loadCells, loadCellsFrom]
theorem run_copy_zero (w : World) (g o dLen dCap : Nat) (sa : Option Addr) (c : Nat) (ty : TypeId) : (Builtin.copy_ #[25, 25] ty #[.slice (some ⟨g, o, none⟩) dLen dCap, .slice sa 0 c]).run Tryd.prog w = .ok (goInt 0) w := by
  obtain ⟨i0, hi0, hz0, hz1, hz2⟩ := msInfo'
  cases sa <;> simp [Builtin.copy_, run_underlying msUnd, sizeOf, typeInfo, hi0, Builtin.lenOf, Builtin.firstCells, storeCells, loadCells, loadCellsFrom]
/-- What a replacing leaves. -/
def Placed (w w' : World) (base g : Nat) (v' : Value) (l : List Msg) : Prop := Msgs w' base v' l ∧ Only [g] w w' ∧ (v'.ownBlock = some g ∨ ∃ k, v'.ownBlock = some k ∧ w.heap.size ≤ k)
theorem row_open {w : World} {base g n cap : Nat} {l : List Msg} (h : Msgs w base (.slice (some ⟨g, 0, none⟩) n cap) l) (hn : l.length = n) : ∃ cur, base ≤ g ∧ g < w.heap.size ∧ w.heap[g]? = some (.cells cur 40 (0, 0)) ∧ n ≤ cap ∧ cap ≤ maxLen ∧ cur.size = cap * 3 ∧ cur.toList.take (n * 3) = rowOf msC l := by
  rcases RowM.open h with ⟨h1, _⟩ | ⟨g', cap', cur, h1, hbg, hgl, hg, hnc, hcm, hcs, htk⟩
  · cases h1
  · simp only [Value.slice.injEq, Option.some.injEq, Addr.mk.injEq, and_true] at h1
    obtain ⟨rfl, -, rfl⟩ := h1
    subst hn
    exact ⟨cur, hbg, hgl, hg, hnc, hcm, hcs, htk⟩
theorem row_take {w : World} {base g n cap i : Nat} {l : List Msg} (h : Msgs w base (.slice (some ⟨g, 0, none⟩) n cap) l) (hn : l.length = n) (hi : i ≤ n) : w.ownsRow base 40 3 (.slice (some ⟨g, 0, none⟩) i cap) i (rowOf msC (l.take i)) := by
  obtain ⟨cur, hbg, hgl, hg, hnc, hcm, hcs, htk⟩ := row_open h hn
  refine ⟨by rw [rowOf_len msC_len, List.length_take]; omega, Or.inr ⟨g, cap, cur, rfl, hbg, hg, by omega, hcm, hcs, ?_⟩⟩
  rw [rowOf_take msC_len, ← htk, List.take_take, Nat.min_eq_left (by omega)]
/-- Some cells of a row, from one of its places on. -/
theorem row_part {w : World} {g n i : Nat} {l : List Msg} {cur : Array Value} (hg : w.heap[g]? = some (.cells cur 40 (0, 0))) (htk : cur.toList.take (n * 3) = rowOf msC l) : ∀ j v, (rowOf msC (l.drop i))[j]? = some v → w.cell? ((⟨g, i * 3, none⟩ : Addr).add j) = some v :=
  part_of hg (i * 3) (fun j v hv => by
    rw [rowOf_drop msC_len, ← htk, List.getElem?_drop, List.getElem?_take] at hv
    split at hv
    · exact hv
    · cases hv)
/-- One goes, from among others. -/
theorem shrink_runs (w : World) (base g n cap i : Nat) (l : List Msg) (h : Msgs w base (.slice (some ⟨g, 0, none⟩) n cap) l) (hn : l.length = n) (hi : i + 1 < n) :
    ∃ w2 w3, (∀ ty, (Builtin.copy_ #[25, 25] ty #[.slice (some ⟨g, i * 3, none⟩) (n - 1 - i) (cap - i), .slice (some ⟨g, (i + 1) * 3, none⟩) (n - (i + 1)) (cap - (i + 1))]).run Tryd.prog w.drew = .ok (goInt (n - (i + 1) : Nat)) w2) ∧
      (∀ ty, (Builtin.clear_ #[25] ty #[.slice (some ⟨g, (n - 1) * 3, none⟩) (n - (n - 1)) (cap - (n - 1))]).run Tryd.prog w2 = .ok (.tuple #[]) w3) ∧ Placed w w3 base g (.slice (some ⟨g, 0, none⟩) (n - 1) cap) (l.take i ++ l.drop (i + 1)) := by
  obtain ⟨cur, hbg, hgl, hg, hnc, hcm, hcs, htk⟩ := row_open h hn
  have hdl : (rowOf msC (l.drop (i + 1))).length = (n - (i + 1)) * 3 := by rw [rowOf_len msC_len, List.length_drop, hn]
  have hcl : cur.toList.length = cap * 3 := by rw [Array.length_toList, hcs]
  obtain ⟨w2, hc2, hh2, o2⟩ := copy_at (w := w.drew) (g := g) (dLen := n - 1 - i) (dCap := cap - i) (sLen := n - (i + 1)) (sCap := cap - (i + 1)) (m := n - (i + 1)) (cs := rowOf msC (l.drop (i + 1))) (so := (i + 1) * 3) (sg := g) (o := i * 3) hg (by simp only [Nat.min_def]; split <;> omega) hdl
    (row_part (w := w.drew) (n := n) hg htk) (by omega) (rowOf_one msC_one _)
  have hov1 : (overV cur.toList (i * 3) (rowOf msC (l.drop (i + 1)))).length = cap * 3 := by rw [overV_len (by omega), hcl]
  obtain ⟨w3, cs, hc3, hh3, hcsl, o3⟩ := clear_at (g := g) (o := (n - 1) * 3) (n := n - (n - 1)) (cap := cap - (n - 1)) hh2 (by omega) (by rw [List.size_toArray, hov1]; omega)
  have hlen : (l.take i ++ l.drop (i + 1)).length = n - 1 := by rw [List.length_append, List.length_take, List.length_drop]; omega
  refine ⟨w2, w3, hc2, hc3, ⟨by rw [rowOf_len msC_len], Or.inr ⟨g, cap, _, by rw [hlen], hbg, hh3, by rw [hlen]; omega, hcm, ?_, ?_⟩⟩, (((Only.refl [g] w).drew).trans o2 (fun _ hk => Or.inl hk)).trans o3 (fun k hk => Or.inl hk), Or.inl rfl⟩
  · rw [List.size_toArray, List.toList_toArray, overV_len (by omega), hov1]
  · rw [hlen, List.toList_toArray, List.toList_toArray]
    have a1 : (overV (overV cur.toList (i * 3) (rowOf msC (l.drop (i + 1)))) ((n - 1) * 3) cs).take ((n - 1) * 3) = (overV cur.toList (i * 3) (rowOf msC (l.drop (i + 1)))).take ((n - 1) * 3) := by
      rw [overV, List.append_assoc, List.take_append_of_le_length (by rw [List.length_take]; omega), List.take_take, Nat.min_self]
    have a2 : (n - 1) * 3 = i * 3 + (rowOf msC (l.drop (i + 1))).length := by omega
    rw [a1, a2, overV_end (by omega), rowOf_append]
    congr 1
    rw [rowOf_take msC_len, ← htk, List.take_take, Nat.min_eq_left (by omega)]
/-- The last one goes. -/
theorem last_run (w : World) (base g n cap : Nat) (l : List Msg) (h : Msgs w base (.slice (some ⟨g, 0, none⟩) (n + 1) cap) l) (hn : l.length = n + 1) :
    ∃ w3, (∀ ty, (Builtin.clear_ #[25] ty #[.slice (some ⟨g, n * 3, none⟩) (n + 1 - n) (cap - n)]).run Tryd.prog w = .ok (.tuple #[]) w3) ∧ Placed w w3 base g (.slice (some ⟨g, 0, none⟩) n cap) (l.take n) := by
  obtain ⟨cur, hbg, hgl, hg, hnc, hcm, hcs, htk⟩ := row_open h hn
  have hcl : cur.toList.length = cap * 3 := by rw [Array.length_toList, hcs]
  obtain ⟨w3, cs, hc3, hh3, hcsl, o3⟩ := clear_at (g := g) (o := n * 3) (n := n + 1 - n) (cap := cap - n) hg (by omega) (by omega)
  have hlen : (l.take n).length = n := by rw [List.length_take]; omega
  refine ⟨w3, hc3, ⟨by rw [rowOf_len msC_len], Or.inr ⟨g, cap, _, by rw [hlen], hbg, hh3, by rw [hlen]; omega, hcm, ?_, ?_⟩⟩, o3, Or.inl rfl⟩
  · rw [List.size_toArray, overV_len (by omega), hcl]
  · rw [hlen, List.toList_toArray, overV, List.append_assoc, List.take_append_of_le_length (by rw [List.length_take]; omega), List.take_take, Nat.min_self, rowOf_take msC_len, ← htk, List.take_take, Nat.min_eq_left (by omega)]
/-- Two cells' worth of messages put over a row. -/
theorem two_cells (l : List Msg) (i : Nat) (vs : List Msg) (hv : vs.length = 2) (hi : i + 1 < l.length) (ROW : List Value) (hR : (l.length + 1) * 3 ≤ ROW.length) (hr : ROW.take (i * 3) = rowOf msC (l.take i)) :
    (overV (overV ROW (i * 3) (rowOf msC vs)) ((i + 2) * 3) (rowOf msC (l.drop (i + 1)))).take ((l.length + 1) * 3) = rowOf msC (l.take i ++ vs ++ l.drop (i + 1)) := by
  have hd : (rowOf msC (l.drop (i + 1))).length = (l.length - (i + 1)) * 3 := by rw [rowOf_len msC_len, List.length_drop]
  have ho : (rowOf msC vs).length = 6 := by rw [rowOf_len msC_len, hv]
  have e1 : (overV ROW (i * 3) (rowOf msC vs)).length = ROW.length := overV_len (by omega)
  have e2 : (i + 2) * 3 + (rowOf msC (l.drop (i + 1))).length = (l.length + 1) * 3 := by omega
  rw [← e2, overV_end (by omega)]
  have e3 : (i + 2) * 3 = i * 3 + (rowOf msC vs).length := by omega
  rw [e3, overV_end (by omega), hr]
  simp [rowOf_append]
theorem two_cells2 (l : List Msg) (i : Nat) (vs : List Msg) (hv : vs.length = 2) (hi : i + 1 < l.length) (ROW : List Value) (hR : (l.length + 1) * 3 ≤ ROW.length) (hr : ROW.take (l.length * 3) = rowOf msC l) :
    (overV (overV ROW ((i + 2) * 3) (rowOf msC (l.drop (i + 1)))) (i * 3) (rowOf msC vs)).take ((l.length + 1) * 3) = rowOf msC (l.take i ++ vs ++ l.drop (i + 1)) := by
  have hd : (rowOf msC (l.drop (i + 1))).length = (l.length - (i + 1)) * 3 := by rw [rowOf_len msC_len, List.length_drop]
  have ho : (rowOf msC vs).length = 6 := by rw [rowOf_len msC_len, hv]
  have hr2 : ROW.take (i * 3) = rowOf msC (l.take i) := by
    rw [rowOf_take msC_len, ← hr, List.take_take, Nat.min_eq_left (by omega)]
  unfold overV
  have a1 : (ROW.take ((i + 2) * 3) ++ rowOf msC (l.drop (i + 1)) ++ ROW.drop ((i + 2) * 3 + (rowOf msC (l.drop (i + 1))).length)).take (i * 3) = rowOf msC (l.take i) := by
    rw [List.append_assoc, List.take_append_of_le_length (by rw [List.length_take]; omega), List.take_take, Nat.min_eq_left (by omega), hr2]
  have a2 : (ROW.take ((i + 2) * 3) ++ rowOf msC (l.drop (i + 1)) ++ ROW.drop ((i + 2) * 3 + (rowOf msC (l.drop (i + 1))).length)).drop (i * 3 + (rowOf msC vs).length) = rowOf msC (l.drop (i + 1)) ++ ROW.drop ((i + 2) * 3 + (rowOf msC (l.drop (i + 1))).length) := by
    have hlt : (ROW.take ((i + 2) * 3)).length = i * 3 + (rowOf msC vs).length := by rw [List.length_take]; omega
    rw [List.append_assoc, ← hlt, List.drop_left]
  rw [a1, a2]
  have hlen : (rowOf msC (l.take i) ++ rowOf msC vs ++ rowOf msC (l.drop (i + 1))).length = (l.length + 1) * 3 := by
    simp only [List.length_append, rowOf_len msC_len, List.length_take, List.length_drop, hv]
    omega
  rw [← List.append_assoc, ← hlen, List.take_left]
  simp [rowOf_append]
/-- Two for one among others, where there is room. -/
theorem shift_runs (w : World) (base b2 g vb n cap c i : Nat) (l vs : List Msg) (h : Msgs w base (.slice (some ⟨g, 0, none⟩) n cap) l) (hn : l.length = n) (hi : i + 1 < n) (hroom : n + 1 ≤ cap) (hv : Msgs w b2 (.slice (some ⟨vb, 0, none⟩) 2 c) vs) (hv2 : vs.length = 2) (hvb : vb ≠ g) :
    ∃ w2 w3, (∀ ty, (Builtin.copy_ #[25, 25] ty #[.slice (some ⟨g, (i + 2) * 3, none⟩) (n + 1 - (i + 2)) (cap - (i + 2)), .slice (some ⟨g, (i + 1) * 3, none⟩) (n - (i + 1)) (cap - (i + 1))]).run Tryd.prog w.drew = .ok (goInt (n - (i + 1) : Nat)) w2) ∧
      (∀ ty, (Builtin.copy_ #[25, 25] ty #[.slice (some ⟨g, i * 3, none⟩) (n + 1 - i) (cap - i), .slice (some ⟨vb, 0, none⟩) 2 c]).run Tryd.prog w2 = .ok (goInt (2 : Nat)) w3) ∧ Placed w w3 base g (.slice (some ⟨g, 0, none⟩) (n + 1) cap) (l.take i ++ vs ++ l.drop (i + 1)) := by
  obtain ⟨cur, hbg, hgl, hg, hnc, hcm, hcs, htk⟩ := row_open h hn
  have hdl : (rowOf msC (l.drop (i + 1))).length = (n - (i + 1)) * 3 := by rw [rowOf_len msC_len, List.length_drop, hn]
  have hvl : (rowOf msC vs).length = 6 := by rw [rowOf_len msC_len, hv2]
  have hcl : cur.toList.length = cap * 3 := by rw [Array.length_toList, hcs]
  obtain ⟨w2, hc2, hh2, o2⟩ := copy_at (w := w.drew) (g := g) (dLen := n + 1 - (i + 2)) (dCap := cap - (i + 2)) (sLen := n - (i + 1)) (sCap := cap - (i + 1)) (m := n - (i + 1)) (cs := rowOf msC (l.drop (i + 1))) (so := (i + 1) * 3) (sg := g) (o := (i + 2) * 3) hg (by simp only [Nat.min_def]; split <;> omega) hdl
    (row_part (w := w.drew) (n := n) hg htk) (by omega) (rowOf_one msC_one _)
  have hov1 : (overV cur.toList ((i + 2) * 3) (rowOf msC (l.drop (i + 1)))).length = cap * 3 := by rw [overV_len (by omega), hcl]
  have o02 : Only [g] w w2 := ((Only.refl [g] w).drew).trans o2 (fun _ hk => Or.inl hk)
  have hv' : Msgs w2 b2 (.slice (some ⟨vb, 0, none⟩) 2 c) vs := RowM.only hv o02 (fun k hk => by cases hk; simpa using hvb)
  obtain ⟨w3, hc3, hh3, o3⟩ := copy_at (w := w2) (g := g) (dLen := n + 1 - i) (dCap := cap - i) (sLen := 2) (sCap := c) (m := 2) (cs := rowOf msC vs) (so := 0) (sg := vb) (o := i * 3) hh2 (by simp only [Nat.min_def]; split <;> omega) hvl (RowM.rows hv' hv2) (by rw [List.size_toArray, hov1]; omega) (rowOf_one msC_one _)
  have hlen : (l.take i ++ vs ++ l.drop (i + 1)).length = n + 1 := by rw [List.length_append, List.length_append, List.length_take, List.length_drop]; omega
  refine ⟨w2, w3, hc2, hc3, ⟨by rw [rowOf_len msC_len], Or.inr ⟨g, cap, _, by rw [hlen], hbg, hh3, by rw [hlen]; exact hroom, hcm, ?_, ?_⟩⟩, o02.trans o3 (fun k hk => Or.inl hk), Or.inl rfl⟩
  · rw [List.size_toArray, List.toList_toArray, overV_len (by omega), hov1]
  · rw [hlen, List.toList_toArray, List.toList_toArray, ← hn]
    exact two_cells2 l i vs hv2 (by omega) cur.toList (by omega) (by rw [hn]; exact htk)
/-- Two for one among others, where there is none. -/
theorem grow_runs (w : World) (base b2 g vb n c i : Nat) (l vs : List Msg) (h : Msgs w base (.slice (some ⟨g, 0, none⟩) n n) l) (hn : l.length = n) (hl : n ≤ 1000) (hi : i + 1 < n) (hv : Msgs w b2 (.slice (some ⟨vb, 0, none⟩) 2 c) vs) (hv2 : vs.length = 2) (hb : base ≤ w.heap.size) :
    ∃ w1 w2 w3 gn G, n + 1 ≤ G ∧ (G : Int) ≤ 9223372036854775807 ∧ (∀ ty, (Builtin.append_ #[25, 3] ty #[.slice (some ⟨g, 0, none⟩) i n, .int .i64 ((n + 1 - i : Nat) : Int)]).run Tryd.prog w = .ok (.slice (some ⟨gn, 0, none⟩) (n + 1) G) w1) ∧
      (∀ ty, (Builtin.copy_ #[25, 25] ty #[.slice (some ⟨gn, i * 3, none⟩) (n + 1 - i) (G - i), .slice (some ⟨vb, 0, none⟩) 2 c]).run Tryd.prog w1 = .ok (goInt (2 : Nat)) w2) ∧
      (∀ ty, (Builtin.copy_ #[25, 25] ty #[.slice (some ⟨gn, (i + 2) * 3, none⟩) (n + 1 - (i + 2)) (G - (i + 2)), .slice (some ⟨g, (i + 1) * 3, none⟩) (n - (i + 1)) (n - (i + 1))]).run Tryd.prog w2.drew = .ok (goInt (n - (i + 1) : Nat)) w3) ∧ Placed w w3 base g (.slice (some ⟨gn, 0, none⟩) (n + 1) G) (l.take i ++ vs ++ l.drop (i + 1)) := by
  obtain ⟨i0, hi0, hz0, hz1, hz2⟩ := msInfo'
  obtain ⟨cur, hbg, hgl, hg, hnc, hcm, hcs, htk⟩ := row_open h hn
  have hvl : (rowOf msC vs).length = 6 := by rw [rowOf_len msC_len, hv2]
  have hold : (Builtin.firstCells i0.size i (.slice (some ⟨g, 0, none⟩) i n)).run Tryd.prog w.drew = .ok (rowOf msC (l.take i)).toArray w.drew := by
    rw [hz1]
    refine run_firstCells_some w.drew 3 i ⟨g, 0, none⟩ i n _ (by rw [rowOf_len msC_len, List.length_take]; omega) (fun j v hj => ?_)
    rw [rowOf_take msC_len, ← htk, List.take_take, Nat.min_eq_left (by omega)] at hj
    exact part_of (w := w.drew) hg 0 (cs := cur.toList.take (i * 3)) (fun j v hv => by rw [Nat.zero_add]; rw [List.getElem?_take] at hv; split at hv; exact hv; cases hv) j v hj
  have hap := fun ty => Lib.run_append_grow_zeros (P := Tryd.prog) w 25 3 ty 40 i0 _ .i64 .i64 msUnd Tryd.underlying3 hi0 hz0 (some ⟨g, 0, none⟩) i n _ hold (n + 1 - i) (by omega) (by omega) (by omega) (by omega) (by rw [hz2]; omega) (by rw [hz2, show i + (n + 1 - i) = n + 1 by omega]; exact growslice_fits (by omega) (by omega))
  rw [show i + (n + 1 - i) = n + 1 by omega] at hap
  have hGn := grownCap_ge w (n + 1) n 40
  have hGm := grownCap_le_maxLen w (n + 1) n 40 (by unfold maxLen; omega)
  generalize grownCap w (n + 1) n 40 = G at hap hGn hGm
  obtain ⟨ROW, hROW⟩ : ∃ ROW : Array Value, (rowOf msC (l.take i)).toArray ++ Builtin.zeroCells ((.agg #[.string ⟨#[]⟩, .string ⟨#[]⟩, .string ⟨#[]⟩]) : Value).cells (n + 1 - i) ++ Builtin.zeroCells ((.agg #[.string ⟨#[]⟩, .string ⟨#[]⟩, .string ⟨#[]⟩]) : Value).cells (G - (n + 1)) = ROW := ⟨_, rfl⟩
  rw [hROW] at hap
  have hzs : ((.agg #[.string ⟨#[]⟩, .string ⟨#[]⟩, .string ⟨#[]⟩]) : Value).cells.size = 3 := rfl
  have hRs : ROW.size = G * 3 := by
    rw [← hROW]
    simp only [Array.size_append, size_zeroCells, hzs, List.size_toArray, rowOf_len msC_len, List.length_take]
    omega
  have hRt : ROW.toList.take (i * 3) = rowOf msC (l.take i) := by
    have hx : (rowOf msC (l.take i)).length = i * 3 := by rw [rowOf_len msC_len, List.length_take]; omega
    rw [← hROW]
    simp only [Array.toList_append, List.append_assoc]
    rw [← hx, List.take_left]
  clear hROW hold
  have hRl : ROW.toList.length = G * 3 := by rw [Array.length_toList, hRs]
  have hov1 : (overV ROW.toList (i * 3) (rowOf msC vs)).length = G * 3 := by rw [overV_len (by omega), hRl]
  have hh1 : (w.drew.alloc (.cells ROW 40)).heap[w.heap.size]? = some (.cells ROW 40 (0, 0)) := heap_alloc_last w.drew (.cells ROW 40)
  have o1 : Only [] w (w.drew.alloc (.cells ROW 40)) := ((Only.refl [] w).drew).alloc _
  generalize w.drew.alloc (.cells ROW 40) = w1 at hap hh1 o1
  have hv' : Msgs w1 b2 (.slice (some ⟨vb, 0, none⟩) 2 c) vs := RowM.only hv o1 (fun k _ => by simp)
  obtain ⟨w2, hc2, hh2, o2⟩ := copy_at (dLen := n + 1 - i) (dCap := G - i) (sLen := 2) (sCap := c) (m := 2) (cs := rowOf msC vs) (so := 0) (sg := vb) (o := i * 3) hh1 (by simp only [Nat.min_def]; split <;> omega) hvl (RowM.rows hv' hv2) (by rw [hRs]; omega) (rowOf_one msC_one _)
  have hdl : (rowOf msC (l.drop (i + 1))).length = (n - (i + 1)) * 3 := by rw [rowOf_len msC_len, List.length_drop, hn]
  have hg2 : w2.drew.heap[g]? = some (.cells cur 40 (0, 0)) := (o2.block g (Nat.lt_of_lt_of_le hgl o1.size) (by simp; omega)).trans ((o1.block g hgl (by simp)).trans hg)
  obtain ⟨w3, hc3, hh3, o3⟩ := copy_at (w := w2.drew) (g := w.heap.size) (dLen := n + 1 - (i + 2)) (dCap := G - (i + 2)) (sLen := n - (i + 1)) (sCap := n - (i + 1)) (m := n - (i + 1)) (cs := rowOf msC (l.drop (i + 1))) (so := (i + 1) * 3) (sg := g) (o := (i + 2) * 3) hh2 (by simp only [Nat.min_def]; split <;> omega) hdl
    (row_part (w := w2.drew) (n := n) hg2 htk) (by rw [List.size_toArray, hov1, hdl]; omega) (rowOf_one msC_one _)
  have hlen : (l.take i ++ vs ++ l.drop (i + 1)).length = n + 1 := by rw [List.length_append, List.length_append, List.length_take, List.length_drop]; omega
  refine ⟨w1, w2, w3, w.heap.size, G, hGn, by unfold maxLen at hGm; omega, hap, hc2, hc3, ⟨by rw [rowOf_len msC_len], Or.inr ⟨w.heap.size, G, _, by rw [hlen], hb, hh3, by rw [hlen]; exact hGn, hGm, ?_, ?_⟩⟩, ?_, Or.inr ⟨w.heap.size, rfl, Nat.le_refl _⟩⟩
  · rw [List.size_toArray, List.toList_toArray, overV_len (by omega), hov1]
  · rw [hlen, List.toList_toArray, List.toList_toArray, ← hn]
    exact two_cells l i vs hv2 (by omega) ROW.toList (by omega) hRt
  · exact ((o1.trans (o2.drew) (fun k hk => Or.inr (by simp at hk; omega))).trans o3 (fun k hk => Or.inr (by simp at hk; omega))).mono (fun k hk => by cases hk)
end Go.Proofs.YtkfelijpajdcoaaDoor
