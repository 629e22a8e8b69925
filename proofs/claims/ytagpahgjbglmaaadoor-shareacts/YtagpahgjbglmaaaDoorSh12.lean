/- Shares: slices.Insert of one open among others. -/
import Derived.Test.YtagpahgjbglmaaaDoorSh11
namespace Go.Proofs.YtagpahgjbglmaaaDoor
open Go Go.RowKit Go.Deep

theorem opSize : (Tryd.prog.info? 52).map (·.size) = some 5 := by
  obtain ⟨i0, h1, _, h2, _⟩ := opInfo'
  rw [h1]
  simp [h2]
/-- A copy within, or into, a row of opens. -/
theorem copy_at {w : World} {g o dLen dCap sg so sLen sCap m : Nat} {cur : Array Value} {cs : List Value} (hg : w.heap[g]? = some (.cells cur 52 (0, 0))) (hm : Nat.min sLen dLen = m) (hn : cs.length = m * 5)
    (hsrc : ∀ j v, cs[j]? = some v → w.cell? ((⟨sg, so, none⟩ : Addr).add j) = some v) (hfit : o + cs.length ≤ cur.size) (h1 : ∀ v ∈ cs, v.oneCell' = true) :
    ∃ w', (∀ ty, (Builtin.copy_ #[25, 25] ty #[.slice (some ⟨g, o, none⟩) dLen dCap, .slice (some ⟨sg, so, none⟩) sLen sCap]).run Tryd.prog w = .ok (goInt m) w') ∧ w'.heap[g]? = some (.cells (overV cur.toList o cs).toArray 52 (0, 0)) ∧ Only [g] w w' :=
  ⟨w.setRow g (overV cur.toList o cs).toArray, fun ty => run_copy_k (P := Tryd.prog) w 25 25 ty 52 5 g o dLen dCap ⟨sg, so, none⟩ sLen sCap cur 52 cs opsUnd opSize hg m hm hn hsrc hfit h1, setRow_heap w g cur _ 52 _ hg, only_row w g _⟩
theorem ins_cells (l : List Opn) (i : Nat) (o : Opn) (hi : i < l.length) (ROW : List Value) (hR : (l.length + 1) * 5 ≤ ROW.length) (hr : ROW.take (i * 5) = rowOf opC (l.take i)) :
    (overV (overV ROW (i * 5) (opC o)) ((i + 1) * 5) (rowOf opC (l.drop i))).take ((l.length + 1) * 5) = rowOf opC (insAt l i o) := by
  have hd : (rowOf opC (l.drop i)).length = (l.length - i) * 5 := by rw [rowOf_len opC_len, List.length_drop]
  have ho : (opC o).length = 5 := rfl
  have e1 : (overV ROW (i * 5) (opC o)).length = ROW.length := overV_len (by omega)
  have e2 : (i + 1) * 5 + (rowOf opC (l.drop i)).length = (l.length + 1) * 5 := by omega
  rw [← e2, overV_end (by omega)]
  have e3 : (i + 1) * 5 = i * 5 + (opC o).length := by omega
  rw [e3, overV_end (by omega), hr]
  simp [insAt, rowOf_append, rowOf]
theorem ins_cells2 (l : List Opn) (i : Nat) (o : Opn) (hi : i < l.length) (ROW : List Value) (hR : (l.length + 1) * 5 ≤ ROW.length) (hr : ROW.take (l.length * 5) = rowOf opC l) :
    (overV (overV ROW ((i + 1) * 5) (rowOf opC (l.drop i))) (i * 5) (opC o)).take ((l.length + 1) * 5) = rowOf opC (insAt l i o) := by
  have hd : (rowOf opC (l.drop i)).length = (l.length - i) * 5 := by rw [rowOf_len opC_len, List.length_drop]
  have ho : (opC o).length = 5 := rfl
  have e1 : (overV ROW ((i + 1) * 5) (rowOf opC (l.drop i))).length = ROW.length := overV_len (by omega)
  have hr2 : ROW.take (i * 5) = rowOf opC (l.take i) := by
    rw [rowOf_take opC_len, ← hr, List.take_take, Nat.min_eq_left (by omega)]
  unfold overV
  have a1 : (ROW.take ((i + 1) * 5) ++ rowOf opC (l.drop i) ++ ROW.drop ((i + 1) * 5 + (rowOf opC (l.drop i)).length)).take (i * 5) = rowOf opC (l.take i) := by
    rw [List.append_assoc, List.take_append_of_le_length (by rw [List.length_take]; omega), List.take_take, Nat.min_eq_left (by omega), hr2]
  have a2 : (ROW.take ((i + 1) * 5) ++ rowOf opC (l.drop i) ++ ROW.drop ((i + 1) * 5 + (rowOf opC (l.drop i)).length)).drop (i * 5 + (opC o).length) = rowOf opC (l.drop i) ++ ROW.drop ((i + 1) * 5 + (rowOf opC (l.drop i)).length) := by
    have hlt : (ROW.take ((i + 1) * 5)).length = i * 5 + (opC o).length := by rw [List.length_take]; omega
    rw [List.append_assoc, ← hlt, List.drop_left]
  rw [a1, a2]
  have hlen : (rowOf opC (l.take i) ++ opC o ++ rowOf opC (l.drop i)).length = (l.length + 1) * 5 := by
    simp only [List.length_append, rowOf_len opC_len, List.length_take, List.length_drop, opC_len]
    omega
  rw [← List.append_assoc, ← hlen, List.take_left]
  simp [insAt, rowOf_append, rowOf]
set_option maxRecDepth 100000 in
set_option maxHeartbeats 4000000 in
theorem insert_grow (w : World) (base vb g n i : Nat) (l : List Opn) (o : Opn) (h : Opns w base (.slice (some ⟨g, 0, none⟩) n n) l) (hn : l.length = n) (hl : n ≤ 1000) (hi : i < n) (ho : OneAt w vb o) (hb : base ≤ w.heap.size) :
    Calls Tryd.prog 29 #[.slice (some ⟨g, 0, none⟩) n n, .int .i64 i, .slice (some ⟨vb, 0, none⟩) 1 1] w fun e w' => ∃ v', e = .returned v' ∧ Inserted w w' base (.slice (some ⟨g, 0, none⟩) n n) v' (insAt l i o) := by
  obtain ⟨i0, hi0, hz0, hz1, hz2⟩ := opInfo'
  rcases h.open with ⟨h1, _⟩ | ⟨g', cap, cur, h1, hbg, hgl, hg, hnc, hcm, hcs, htk⟩
  · cases h1
  simp only [Value.slice.injEq, Option.some.injEq, Addr.mk.injEq, and_true] at h1
  obtain ⟨rfl, -, rfl⟩ := h1
  have hvl : vb < w.heap.size := (Array.getElem?_eq_some_iff.1 ho).1
  have hold : (Builtin.firstCells i0.size i (.slice (some ⟨g, 0, none⟩) i n)).run Tryd.prog w.drew = .ok (rowOf opC (l.take i)).toArray w.drew := by
    rw [hz1]
    refine run_firstCells_some w.drew 5 i ⟨g, 0, none⟩ i n _ (by rw [rowOf_len opC_len, List.length_take]; omega) (fun j v hj => ?_)
    rw [rowOf_take opC_len, ← htk, List.take_take, Nat.min_eq_left (by omega)] at hj
    exact part_of (w := w.drew) hg 0 (cs := cur.toList.take (i * 5)) (fun j v hv => by rw [Nat.zero_add]; rw [List.getElem?_take] at hv; split at hv; exact hv; cases hv) j v hj
  have hap := Lib.run_append_grow_zeros (P := Tryd.prog) w 25 3 25 52 i0 _ .i64 .i64 opsUnd Tryd.underlying3 hi0 hz0 (some ⟨g, 0, none⟩) i n _ hold (n + 1 - i) (by omega) (by omega) (by omega) (by omega) (by rw [hz2]; omega) (by rw [hz2, show i + (n + 1 - i) = n + 1 by omega]; exact growslice_fits (by omega) (by omega))
  rw [show i + (n + 1 - i) = n + 1 by omega] at hap
  have hGn := grownCap_ge w (n + 1) n 52
  have hGm := grownCap_le_maxLen w (n + 1) n 52 (by unfold maxLen; omega)
  generalize grownCap w (n + 1) n 52 = G at hap hGn hGm
  obtain ⟨ROW, hROW⟩ : ∃ ROW : Array Value, (rowOf opC (l.take i)).toArray ++ Builtin.zeroCells ((.agg #[.int .i64 0, .int .i64 0, .int .i64 0, .int .i64 0, .int .i64 0]) : Value).cells (n + 1 - i) ++ Builtin.zeroCells ((.agg #[.int .i64 0, .int .i64 0, .int .i64 0, .int .i64 0, .int .i64 0]) : Value).cells (G - (n + 1)) = ROW := ⟨_, rfl⟩
  rw [hROW] at hap
  have hzs : ((.agg #[.int .i64 0, .int .i64 0, .int .i64 0, .int .i64 0, .int .i64 0]) : Value).cells.size = 5 := rfl
  have hRs : ROW.size = G * 5 := by
    rw [← hROW]
    simp only [Array.size_append, size_zeroCells, hzs, List.size_toArray, rowOf_len opC_len, List.length_take]
    omega
  have hRt : ROW.toList.take (i * 5) = rowOf opC (l.take i) := by
    have hx : (rowOf opC (l.take i)).length = i * 5 := by rw [rowOf_len opC_len, List.length_take]; omega
    rw [← hROW]
    simp only [Array.toList_append, List.append_assoc]
    rw [← hx, List.take_left]
  clear hROW hold
  have hRl : ROW.toList.length = G * 5 := by rw [Array.length_toList, hRs]
  have hol : (opC o).length = 5 := rfl
  have hov1 : (overV ROW.toList (i * 5) (opC o)).length = G * 5 := by rw [overV_len (by omega), hRl]
  have hh1 : (w.drew.alloc (.cells ROW 52)).heap[w.heap.size]? = some (.cells ROW 52 (0, 0)) := heap_alloc_last w.drew (.cells ROW 52)
  have o1 : Only [] w (w.drew.alloc (.cells ROW 52)) := ((Only.refl [] w).drew).alloc _
  generalize w.drew.alloc (.cells ROW 52) = w1 at hap hh1 o1
  obtain ⟨w2, hc2, hh2, o2⟩ := copy_at (dLen := n + 1 - i) (dCap := G - i) (sLen := 1) (sCap := 1) (m := 1) (cs := opC o) (so := 0) (sg := vb) (o := i * 5) hh1 (by simp only [Nat.min_def]; split <;> omega) rfl (ho.only o1 (by simp)).cells (by rw [hRs, opC_len]; omega) (opC_one o)
  have hdl : (rowOf opC (l.drop i)).length = (n - i) * 5 := by rw [rowOf_len opC_len, List.length_drop, hn]
  have hg2 : w2.drew.heap[g]? = some (.cells cur 52 (0, 0)) := (o2.block g (Nat.lt_of_lt_of_le hgl o1.size) (by simp; omega)).trans ((o1.block g hgl (by simp)).trans hg)
  obtain ⟨w3, hc3, hh3, o3⟩ := copy_at (w := w2.drew) (g := w.heap.size) (dLen := n + 1 - (i + 1)) (dCap := G - (i + 1)) (sLen := n - i) (sCap := n - i) (m := n - i) (cs := rowOf opC (l.drop i)) (so := i * 5) (sg := g) (o := (i + 1) * 5) hh2 (by simp only [Nat.min_def]; split <;> omega) hdl
    (part_of hg2 (i * 5) (fun j v hv => by
      rw [rowOf_drop opC_len, ← htk, List.getElem?_drop, List.getElem?_take] at hv
      split at hv
      · exact hv
      · cases hv)) (by rw [List.size_toArray, hov1, hdl]; omega) (rowOf_one opC_one _)
  have fin : Inserted w w3 base (.slice (some ⟨g, 0, none⟩) n n) (.slice (some ⟨w.heap.size, 0, none⟩) (n + 1) G) (insAt l i o) := by
    refine ⟨⟨by rw [rowOf_len opC_len], Or.inr ⟨w.heap.size, G, _, by rw [insAt_len (by omega), hn], hb, hh3, by rw [insAt_len (by omega), hn]; exact hGn, hGm, ?_, ?_⟩⟩, ?_, Or.inr ⟨w.heap.size, rfl, Nat.le_refl _⟩⟩
    · rw [List.size_toArray, List.toList_toArray, overV_len (by omega), hov1]
    · rw [insAt_len (by omega), List.toList_toArray, List.toList_toArray]
      exact ins_cells l i o (by omega) ROW.toList (by omega) hRt
    · exact ((o1.trans (o2.drew) (fun k hk => Or.inr (by simp at hk; omega))).trans o3 (fun k hk => Or.inr (by simp at hk; omega))).mono (fun k hk => by cases hk)
  have HFIN : Hid (Inserted w w3 base (.slice (some ⟨g, 0, none⟩) n n) (.slice (some ⟨w.heap.size, 0, none⟩) (n + 1) G) (insAt l i o)) := fin
  have hG63 : (G : Int) ≤ 9223372036854775807 := by unfold maxLen at hGm; omega
  have hkk : (n : Int) + 1 - (i : Int) = ((n + 1 - i : Nat) : Int) := by omega
  have q1 : ¬ ((i : Int) = (n : Int)) := by omega
  have q2 : ¬ (G = i) := by omega
  have q3 : ¬ (G = i + 1) := by omega
  have q4 : ¬ (n = i) := by omega
  have q5 : (n : Int) < (n : Int) + 1 := by omega
  have q6 : (i : Int) ≤ n := by omega
  have q7 : IntKind.i64.wrap ((i : Int) + 1) = (i : Int) + 1 := by rw [IntKind.wrap_i64]; omega
  have q8 : ((i : Int) + 1).toNat = i + 1 := by omega
  have q10 : (0 : Int) ≤ (i : Int) + 1 := by omega
  have mixed : Tryd.prog.follows Departure.mixedOrders = true := by kernel_rfl
  clear fin hh1 hh2 hh3 o1 o2 o3 hg2 hdl hRs hRt hzs hgl hRl hol hov1 hg hcs htk h ho hbg hcm hGm hvl hi0 hz0 hz1 hz2
  go_enter Tryd.func29, Tryd.ntmps29
  go_wp2_with (first
    | (at_builtin; refine Lib.wpList_append_run _ rfl _ _ _ _ rfl _ _ rfl rfl _ _ (by first | exact hap | (rw [hkk]; exact hap)) ?_)
    | (at_builtin; refine wpList_copy_runI _ rfl _ _ 25 25 rfl _ _ rfl rfl (hc2 _) ?_))
  go_region_law_o (refine step_copy_runI rfl _ _ 25 25 rfl (.slice (some ⟨w.heap.size, (i + 1) * 5, none⟩) (n + 1 - (i + 1)) (G - (i + 1))) (.slice (some ⟨g, i * 5, none⟩) (n - i) (n - i)) (by simp [Act.eval, Act.put]) (by simp [Act.eval, Act.put]) (hc3 _) ?_)
  go_wp2
  go_ret
  exact ⟨.slice (some ⟨w.heap.size, 0, none⟩) (n + 1) G, rfl, HFIN.out⟩
set_option maxRecDepth 100000 in
set_option maxHeartbeats 4000000 in
theorem insert_shift (w : World) (base vb g n cap i : Nat) (l : List Opn) (o : Opn) (h : Opns w base (.slice (some ⟨g, 0, none⟩) n cap) l) (hn : l.length = n) (hl : n ≤ 1000) (hi : i < n) (hroom : n + 1 ≤ cap) (ho : OneAt w vb o) (hvb : vb ≠ g) :
    Calls Tryd.prog 29 #[.slice (some ⟨g, 0, none⟩) n cap, .int .i64 i, .slice (some ⟨vb, 0, none⟩) 1 1] w fun e w' => ∃ v', e = .returned v' ∧ Inserted w w' base (.slice (some ⟨g, 0, none⟩) n cap) v' (insAt l i o) := by
  obtain ⟨i0, hi0, hz0, hz1, hz2⟩ := opInfo'
  rcases h.open with ⟨h1, _⟩ | ⟨g', cap', cur, h1, hbg, hgl, hg, hnc, hcm, hcs, htk⟩
  · cases h1
  simp only [Value.slice.injEq, Option.some.injEq, Addr.mk.injEq, and_true] at h1
  obtain ⟨rfl, -, rfl⟩ := h1
  have hsz : ∀ w, (Go.sizeOf 52).run Tryd.prog w = .ok 5 w := fun w => by simp [sizeOf, typeInfo, hi0, hz1]
  have hov : ∀ lb cb, (callFunc 48 #[.slice (some ⟨vb, 0, none⟩) 1 1, .slice (some ⟨g, (i + 1) * 5, none⟩) lb cb]).run Tryd.prog w = .ok (.value (.bool false)) w := fun lb cb => by
    rw [run_callFunc_extern Tryd.func48 (by kernel_rfl) (by kernel_rfl) (by kernel_rfl) (e := Extern.SlicesOverlaps.overlaps #[25, 25] #[4]) (by kernel_rfl),
      Lib.run_overlaps_apart w 25 4 52 opsUnd 5 hsz ⟨vb, 0, none⟩ ⟨g, (i + 1) * 5, none⟩ 1 1 lb cb hvb 52 52 5 cur.size (by simp [World.shape?, show w.heap[vb]? = _ from ho, opC]) (by simp [World.shape?, hg]) (by omega) (frozen_of_row _ _ _ _ _ ho) (frozen_of_row _ _ _ _ _ ho)]
    rfl
  have hdl : (rowOf opC (l.drop i)).length = (n - i) * 5 := by rw [rowOf_len opC_len, List.length_drop, hn]
  have hcl : cur.toList.length = cap * 5 := by rw [Array.length_toList, hcs]
  have hol : (opC o).length = 5 := rfl
  obtain ⟨w2, hc2, hh2, o2⟩ := copy_at (w := w.drew) (g := g) (dLen := n + 1 - (i + 1)) (dCap := cap - (i + 1)) (sLen := n + 1 - i) (sCap := cap - i) (m := n - i) (cs := rowOf opC (l.drop i)) (so := i * 5) (sg := g) (o := (i + 1) * 5) hg (by simp only [Nat.min_def]; split <;> omega) hdl
    (part_of (w := w.drew) hg (i * 5) (fun j v hv => by
      rw [rowOf_drop opC_len, ← htk, List.getElem?_drop, List.getElem?_take] at hv
      split at hv
      · exact hv
      · cases hv)) (by omega) (rowOf_one opC_one _)
  have hov1 : (overV cur.toList ((i + 1) * 5) (rowOf opC (l.drop i))).length = cap * 5 := by rw [overV_len (by omega), hcl]
  have o02 : Only [g] w w2 := ((Only.refl [g] w).drew).trans o2 (fun _ hk => Or.inl hk)
  obtain ⟨w3, hc3, hh3, o3⟩ := copy_at (w := w2) (g := g) (dLen := n + 1 - i) (dCap := cap - i) (sLen := 1) (sCap := 1) (m := 1) (cs := opC o) (so := 0) (sg := vb) (o := i * 5) hh2 (by simp only [Nat.min_def]; split <;> omega) rfl (ho.only o02 (by simpa using hvb)).cells (by rw [List.size_toArray, hov1]; omega) (opC_one o)
  have fin : Inserted w w3 base (.slice (some ⟨g, 0, none⟩) n cap) (.slice (some ⟨g, 0, none⟩) (n + 1) cap) (insAt l i o) := by
    refine ⟨⟨by rw [rowOf_len opC_len], Or.inr ⟨g, cap, _, by rw [insAt_len (by omega), hn], hbg, hh3, by rw [insAt_len (by omega), hn]; exact hroom, hcm, ?_, ?_⟩⟩, ?_, Or.inl rfl⟩
    · rw [List.size_toArray, List.toList_toArray, overV_len (by omega), hov1]
    · rw [insAt_len (by omega), List.toList_toArray, List.toList_toArray]
      exact ins_cells2 l i o (by omega) cur.toList (by omega) htk
    · exact o02.trans o3 (fun k hk => Or.inl hk)
  have HFIN : Hid (Inserted w w3 base (.slice (some ⟨g, 0, none⟩) n cap) (.slice (some ⟨g, 0, none⟩) (n + 1) cap) (insAt l i o)) := fin
  have hG63 : (cap : Int) ≤ 9223372036854775807 := by unfold maxLen at hcm; omega
  have q1 : ¬ ((i : Int) = (n : Int)) := by omega
  have q2 : ¬ (cap = i) := by omega
  have q3 : ¬ (cap = i + 1) := by omega
  have q6 : (i : Int) ≤ n := by omega
  have q9 : (i : Int) ≤ (n : Int) + 1 := by omega
  have q7 : IntKind.i64.wrap ((i : Int) + 1) = (i : Int) + 1 := by rw [IntKind.wrap_i64]; omega
  have q8 : ((i : Int) + 1).toNat = i + 1 := by omega
  have q10 : (0 : Int) ≤ (i : Int) + 1 := by omega
  have mixed : Tryd.prog.follows Departure.mixedOrders = true := by kernel_rfl
  clear fin hh2 hh3 o02 o2 o3 hdl hcl hol hov1 hgl hg hcs htk h ho hbg hcm hi0 hz0 hz1 hz2 hsz
  go_enter Tryd.func29, Tryd.ntmps29
  go_wp2_with (simp only [hov])
  go_region_law_o (refine step_copy_runI rfl _ _ 25 25 rfl (.slice (some ⟨g, (i + 1) * 5, none⟩) (n + 1 - (i + 1)) (cap - (i + 1))) (.slice (some ⟨g, i * 5, none⟩) (n + 1 - i) (cap - i)) (by simp [Act.eval, Act.put]) (by simp [Act.eval, Act.put]) (hc2 _) ?_)
  go_wp2_with (at_builtin; refine wpList_copy_runI _ rfl _ _ 25 25 rfl _ _ rfl rfl (hc3 _) ?_)
  go_ret
  exact ⟨.slice (some ⟨g, 0, none⟩) (n + 1) cap, rfl, HFIN.out⟩
/-- slices.Insert of one open, wherever. -/
theorem insert_any (w : World) (base vb i : Nat) (v : Value) (l : List Opn) (o : Opn) (h : Opns w base v l) (hl : l.length ≤ 1000) (hi : i ≤ l.length) (ho : OneAt w vb o) (hb : base ≤ w.heap.size) (hvb : ∀ k, v.ownBlock = some k → vb ≠ k) :
    Calls Tryd.prog 29 #[v, .int .i64 i, .slice (some ⟨vb, 0, none⟩) 1 1] w fun e w' => ∃ v', e = .returned v' ∧ Inserted w w' base v v' (insAt l i o) := by
  by_cases he : i = l.length
  · subst he
    exact insert_end w base vb v l o h hl ho hb
  · rcases h.open with ⟨rfl, rfl⟩ | ⟨g, cap, cur, rfl, _, _, _, hnc, _⟩
    · simp at hi
      exact absurd hi he
    · by_cases hr : l.length + 1 ≤ cap
      · exact insert_shift w base vb g l.length cap i l o h rfl hl (by omega) hr ho (hvb g rfl)
      · obtain rfl : cap = l.length := by omega
        exact insert_grow w base vb g l.length i l o h rfl hl (by omega) ho hb
end Go.Proofs.YtagpahgjbglmaaaDoor
