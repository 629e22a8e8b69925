/- The tree: a node is added. -/
import Derived.Test.YtmfcfkomdflhlaaDoorP6
/- The tree: a node is added. -/
namespace Go.Proofs.YtmfcfkomdflhlaaDoor
open Go Go.RowKit Go.Deep Go.Maps

theorem foot_added_tree {w w' : World} {t most i b : Nat} {p p' : Row} {nd : Nat → Option Nod} {K : Int} {k : Nat} (hr : Roomed w w' t p p' i) (hb : w.heap.size ≤ b) (hk : InFoot t p' most (setN nd i (some (newNod b K))) k) : InFoot t p most nd k ∨ w.heap.size ≤ k := by
  rcases hk with h | h | ⟨j, n, hs, hm⟩
  · exact Or.inl (Or.inl h)
  · rcases hr.2.2 with h1 | ⟨q, h1, h2⟩
    · exact Or.inl (Or.inr (Or.inl (by rw [← h1]; exact h)))
    · rw [h1] at h
      cases h
      exact Or.inr h2
  · by_cases e : j = i
    · subst e
      rw [setN_same] at hs
      cases hs
      have : k = b := by simpa [newNod, Nod.foot, footD] using hm
      exact Or.inr (by omega)
    · rw [setN_other _ _ e] at hs
      exact Or.inl (Or.inr (Or.inr ⟨j, n, hs, hm⟩))
theorem roomed_a {w1 w2 : World} {t i n : Nat} {p p' : Row} (hr : Roomed w1 w2 t p p' i) (hn : n ≤ w1.heap.size) : ∀ k, p'.a = some k → p.a = some k ∨ n ≤ k := fun k hk => by
  rcases hr.2.2 with h | ⟨q, h, hq⟩
  · exact Or.inl (by rw [← h]; exact hk)
  · rw [h] at hk
    cases hk
    exact Or.inr (Nat.le_trans hn hq)
/-- A node more. -/
theorem TreeAt.added {w w2 : World} {tr i b : Nat} {T : Tr} {p' : Row} {K : Int} (h : TreeAt w tr T) (hi : i < 1000) (ht : TabAt w2 T.t p' T.most T.g (setN T.nd i (some (newNod b K)))) (hr : Roomed w w2 T.t T.p p' i) (hb : w.heap.size ≤ b) : TreeAt w2 tr { T with p := p', nd := setN T.nd i (some (newNod b K)) } :=
  h.table (p' := p') (g' := T.g) ht hr.2.1 (fun k hk => by
    rcases List.mem_cons.1 hk with e | e
    · exact Or.inl e
    · exact Or.inr (Or.inl (by simpa using e))) (fun k hk => foot_added_tree hr hb hk) ⟨by have := hr.1; have := h.small.N; show p'.N ≤ 1000; omega, h.small.g⟩ (by have := hr.1; omega) (fun _ => rfl) (fun _ => rfl)
theorem foot_tree_added {w1 w2 : World} {tr i b k : Nat} {T : Tr} {p' : Row} {K : Int} (hr : Roomed w1 w2 T.t T.p p' i) (hb : w1.heap.size ≤ b) (hk : FootT tr { T with p := p', nd := setN T.nd i (some (newNod b K)) } k) : FootT tr T k ∨ w1.heap.size ≤ k := by
  rcases hk with h | h | h | h | h
  · exact Or.inl (Or.inl h)
  · exact Or.inl (Or.inr (Or.inl h))
  · exact Or.inl (Or.inr (Or.inr (Or.inl h)))
  · exact Or.inl (Or.inr (Or.inr (Or.inr (Or.inl h))))
  · rcases foot_added_tree hr hb h with h1 | h1
    · exact Or.inl (Or.inr (Or.inr (Or.inr (Or.inr h1))))
    · exact Or.inr h1
set_option maxHeartbeats 1000000 in
theorem add_file (w : World) (tr : Nat) (T : Tr) (i : Nat) (h : TreeAt w tr T) (hi : i < 1000) (hc : countTo T.nd T.p.N < T.most) (hn : T.nd i = none) (hb : ∀ j, j < i → (T.nd j).isSome = true) :
    Calls Tryd.prog 24 #[.pointer (some ⟨tr, 0, none⟩), .int .i64 1] w fun e w' => e = .returned (.tuple #[.agg #[.int .i64 i, .int .i64 (T.g i : Nat)], .nilIface]) ∧ ∃ p' b, TreeAt w' tr { T with p := p', nd := setN T.nd i (some (newNod b 1)) } ∧ Only (T.t :: T.p.a.toList) w w' ∧ w.heap.size ≤ b ∧ p'.N = max T.p.N (i + 1) ∧ ∀ k, p'.a = some k → T.p.a = some k ∨ w.heap.size ≤ k := by
  have hO1 : Only [] w (w.alloc (.cells #[.int .i64 0, .int .i64 0] 76)) := (Only.refl [] w).alloc _
  have hT1 := h.only hO1
  have hadd := tadd_ok (w.alloc (.cells #[.int .i64 0, .int .i64 0] 76)) T.t T.p T.most i T.g T.nd 1 hT1.tab h.small.N (Or.inl rfl) hc hn hb
  have ct := h.c0
  have htl : tr < w.heap.size := lt_of_cell ct
  have H1 : Hid (TreeAt (w.alloc (.cells #[.int .i64 0, .int .i64 0] 76)) tr T) := hT1
  have HO1 : Hid (Only [] w (w.alloc (.cells #[.int .i64 0, .int .i64 0] 76))) := hO1
  have hpw : ∀ q, T.p.a = some q → q < w.heap.size := fun q hq => h.tab.plt hq
  have htw := h.tab.tlt
  have HNO : Hid (w.heap.size ∉ T.t :: T.p.a.toList) := show w.heap.size ∉ T.t :: T.p.a.toList from (fun hm => by rcases List.mem_cons.1 hm with e | e; omega; have := hpw w.heap.size (by simpa using e); omega)
  have H0 : Hid (TreeAt w tr T) := h
  clear h hT1 hO1 hn hb hc hpw
  go_enter Tryd.func24, Tryd.ntmps24
  go_wp2_with (go_at_call 38; go_must (refine hadd.mono ?_); rintro e w2 ⟨rfl, p', b, hT2, hr2, hb2⟩; have HT2 : Hid (TreeAt w2 tr { T with p := p', nd := setN T.nd i (some (newNod b 1)) }) := H1.out.added hi hT2 hr2 hb2; have HR2 : Hid (Roomed (w.alloc (.cells #[.int .i64 0, .int .i64 0] 76)) w2 T.t T.p p' i) := hr2; have HBB : Hid (((w.alloc (.cells #[.int .i64 0, .int .i64 0] 76))).heap.size ≤ b) := hb2; have HB2 : Hid (w.heap.size ≤ b) := (show w.heap.size ≤ b from Nat.le_trans HO1.out.size hb2); have hh := heap_alloc_last w (.cells #[.int .i64 0, .int .i64 0] 76); have r0 := (hr2.2.1.cell (p := ⟨w.heap.size, 0, none⟩) (by simp) HNO.out).trans (cell_of_row _ _ 0 _ _ _ hh); have r1 := (hr2.2.1.cell (p := ⟨w.heap.size, 1, none⟩) (by simp) HNO.out).trans (cell_of_row _ _ 1 _ _ _ hh); have f0 : ∀ o, w2.frozen? ⟨w.heap.size, o, none⟩ = false := (fun o => (hr2.2.1.frozen (p := ⟨w.heap.size, o, none⟩) (by simp) HNO.out).trans (frozen_of_row _ _ _ _ _ hh)); have hl0 := lt_of_cell r0; clear hT2 hr2 hb2 hadd hh)
  have hB : ¬ FootT tr { T with p := p', nd := setN T.nd i (some (newNod b 1)) } w.heap.size := fun hk => by
    rcases foot_tree_added HR2.out HBB.out hk with h1 | h1
    · have := H0.out.foot_lt _ h1
      omega
    · have : w.heap.size + 1 ≤ w.heap.size := by simpa using h1
      omega
  have oB : Only [w.heap.size] w2 ((w2.setCell ⟨w.heap.size, 0, none⟩ (.int .i64 i)).setCell ⟨w.heap.size, 1, none⟩ (.int .i64 (T.g i : Nat))) := ((Only.refl [w.heap.size] w2).setCell (Or.inl (by simp)) _).setCell (Or.inl (by simp)) _
  refine bodyPost_ret (v := .tuple #[.agg #[.int .i64 i, .int .i64 (T.g i : Nat)], .nilIface]) (by simp [results, Tryd.results24, go_sem, r0, r1, hl0]) rfl ⟨rfl, p', b, (HT2.out.kept oB (fun k hk hm => hB (by simp at hm; rw [← hm]; exact hk))).only ((Only.refl [] _).alloc _), ?_, HB2.out, HR2.out.1, roomed_a HR2.out HO1.out.size⟩
  exact (((HO1.out.mono (L' := T.t :: T.p.a.toList) (fun _ hk => by cases hk)).trans HR2.out.2.1 (fun _ hk => Or.inl hk)).trans oB (fun k hk => Or.inr (by simp at hk; omega))).alloc _
end Go.Proofs.YtmfcfkomdflhlaaDoor
/- The tree: a directory is added. -/
namespace Go.Proofs.YtmfcfkomdflhlaaDoor
open Go Go.RowKit Go.Deep Go.Maps

theorem foot_tree_dir {tr i b k B : Nat} {T : Tr} {p' : Row} (hk : FootT tr { T with p := p', nd := setN T.nd i (some { newNod b 2 with Z := 0, L := 2 }), ds := setN T.ds i (some ⟨B, []⟩) } k) : FootT tr { T with p := p', nd := setN T.nd i (some (newNod b 2)) } k ∨ k = B := by
  rcases hk with h | h | h | ⟨j, d, hd, rfl⟩ | h
  · exact Or.inl (Or.inl h)
  · exact Or.inl (Or.inr (Or.inl h))
  · exact Or.inl (Or.inr (Or.inr (Or.inl h)))
  · by_cases e : j = i
    · subst e
      have hd' : setN T.ds j (some (⟨B, []⟩ : DirM)) j = some d := hd
      rw [setN_same] at hd'
      cases hd'
      exact Or.inr rfl
    · have hd' : setN T.ds i (some (⟨B, []⟩ : DirM)) j = some d := hd
      rw [setN_other _ _ e] at hd'
      exact Or.inl (Or.inr (Or.inr (Or.inr (Or.inl ⟨j, d, hd', rfl⟩))))
  · refine Or.inl (Or.inr (Or.inr (Or.inr (Or.inr ?_))))
    rcases h with h | h | ⟨j, m, hj, hm⟩
    · exact Or.inl h
    · exact Or.inr (Or.inl h)
    · by_cases e : j = i
      · subst e
        have hj' : setN T.nd j (some ({ newNod b 2 with Z := 0, L := 2 } : Nod)) j = some m := hj
        rw [setN_same] at hj'
        cases hj'
        exact .node (setN_same _ _ _) hm
      · have hj' : setN T.nd i (some ({ newNod b 2 with Z := 0, L := 2 } : Nod)) j = some m := hj
        rw [setN_other _ _ e] at hj'
        exact .node ((setN_other _ _ e).trans hj') hm
set_option maxHeartbeats 1000000 in
theorem add_dir (w : World) (tr : Nat) (T : Tr) (i : Nat) (h : TreeAt w tr T) (hi : i < 1000) (hc : countTo T.nd T.p.N < T.most) (hn : T.nd i = none) (hd0 : T.ds i = none) (hb : ∀ j, j < i → (T.nd j).isSome = true) :
    Calls Tryd.prog 24 #[.pointer (some ⟨tr, 0, none⟩), .int .i64 2] w fun e w' => e = .returned (.tuple #[.agg #[.int .i64 i, .int .i64 (T.g i : Nat)], .nilIface]) ∧ ∃ p' b B, TreeAt w' tr { T with p := p', nd := setN T.nd i (some { newNod b 2 with Z := 0, L := 2 }), ds := setN T.ds i (some ⟨B, []⟩) } ∧ Only (T.db :: T.t :: T.p.a.toList) w w' ∧ w.heap.size ≤ b ∧ w.heap.size ≤ B ∧ p'.N = max T.p.N (i + 1) ∧ ∀ k, p'.a = some k → T.p.a = some k ∨ w.heap.size ≤ k := by
  have hO1 : Only [] w (w.alloc (.cells #[.int .i64 0, .int .i64 0] 76)) := (Only.refl [] w).alloc _
  have hT1 := h.only hO1
  have hadd := tadd_ok (w.alloc (.cells #[.int .i64 0, .int .i64 0] 76)) T.t T.p T.most i T.g T.nd 2 hT1.tab h.small.N (Or.inr rfl) hc hn hb
  have ct := h.c0
  have htl : tr < w.heap.size := lt_of_cell ct
  have H1 : Hid (TreeAt (w.alloc (.cells #[.int .i64 0, .int .i64 0] 76)) tr T) := hT1
  have HO1 : Hid (Only [] w (w.alloc (.cells #[.int .i64 0, .int .i64 0] 76))) := hO1
  have hpw : ∀ q, T.p.a = some q → q < w.heap.size := fun q hq => h.tab.plt hq
  have htw := h.tab.tlt
  have hdw : T.db < w.heap.size := h.foot_lt _ (Or.inr (Or.inl rfl))
  have HNO : Hid (w.heap.size ∉ T.t :: T.p.a.toList) := show w.heap.size ∉ T.t :: T.p.a.toList from (fun hm => by rcases List.mem_cons.1 hm with e | e; omega; have := hpw w.heap.size (by simpa using e); omega)
  have H0 : Hid (TreeAt w tr T) := h
  have HD0 : Hid (T.ds i = none) := hd0
  clear h hT1 hO1 hn hb hc hpw hd0
  go_enter Tryd.func24, Tryd.ntmps24
  go_wp2_with (first
    | (go_at_call 38; go_must (refine hadd.mono ?_); rintro e w2 ⟨rfl, p', b, hT2, hr2, hb2⟩; have HT2 : Hid (TreeAt w2 tr { T with p := p', nd := setN T.nd i (some (newNod b 2)) }) := H1.out.added hi hT2 hr2 hb2; have HR2 : Hid (Roomed (w.alloc (.cells #[.int .i64 0, .int .i64 0] 76)) w2 T.t T.p p' i) := hr2; have HBB : Hid (((w.alloc (.cells #[.int .i64 0, .int .i64 0] 76))).heap.size ≤ b) := hb2; have HBL : Hid (b < w2.heap.size) := (show b < w2.heap.size from lt_of_cell (hT2.node i (newNod b 2) (setN_same _ _ _)).c0); have hh := heap_alloc_last w (.cells #[.int .i64 0, .int .i64 0] 76); have r0 := (hr2.2.1.cell (p := ⟨w.heap.size, 0, none⟩) (by simp) HNO.out).trans (cell_of_row _ _ 0 _ _ _ hh); have r1 := (hr2.2.1.cell (p := ⟨w.heap.size, 1, none⟩) (by simp) HNO.out).trans (cell_of_row _ _ 1 _ _ _ hh); have f0 : ∀ o, w2.frozen? ⟨w.heap.size, o, none⟩ = false := (fun o => (hr2.2.1.frozen (p := ⟨w.heap.size, o, none⟩) (by simp) HNO.out).trans (frozen_of_row _ _ _ _ _ hh)); have hl0 := lt_of_cell r0; have hopen : Calls Tryd.prog 39 #[.pointer (some ⟨tr, 0, none⟩), .agg #[.int .i64 i, .int .i64 (T.g i : Nat)]] (w2.alloc (.cells #[.int .i64 i, .int .i64 (T.g i : Nat)] 76)) fun e w' => e = .returned (.tuple #[]) ∧ ∃ B, TreeAt w' tr { Tr.opened { T with p := p', nd := setN T.nd i (some (newNod b 2)) } i B with nd := setN (setN T.nd i (some (newNod b 2))) i (some { newNod b 2 with Z := 0, L := 2 }) } ∧ Only [b, T.db] (w2.alloc (.cells #[.int .i64 i, .int .i64 (T.g i : Nat)] 76)) w' ∧ (w2.alloc (.cells #[.int .i64 i, .int .i64 (T.g i : Nat)] 76)).heap.size ≤ B := open_ok (w2.alloc (.cells #[.int .i64 i, .int .i64 (T.g i : Nat)] 76)) tr { T with p := p', nd := setN T.nd i (some (newNod b 2)) } i (newNod b 2) (HT2.out.only ((Only.refl [] _).alloc _)) (setN_same _ _ _) rfl HD0.out; clear hT2 hr2 hb2 hadd hh)
    | (go_at_call 39; go_must (refine hopen.mono ?_); rintro e w4 ⟨rfl, B, hT4, ho4, hB4⟩; rw [setN_again] at hT4; have HT4 : Hid (TreeAt w4 tr { T with p := p', nd := setN T.nd i (some { newNod b 2 with Z := 0, L := 2 }), ds := setN T.ds i (some ⟨B, []⟩) }) := hT4; have HO4 : Hid (Only [b, T.db] (w2.alloc (.cells #[.int .i64 i, .int .i64 (T.g i : Nat)] 76)) w4) := ho4; have HB4 : Hid (w2.heap.size + 1 ≤ B) := (show w2.heap.size + 1 ≤ B from by simpa using hB4); have hbw : w.heap.size + 1 ≤ b := (by simpa using HBB.out); have nA : w.heap.size ∉ [b, T.db] := (fun hm => by simp at hm; omega); have nI : w2.heap.size ∉ [b, T.db] := (fun hm => by have := HBL.out; simp at hm; omega); have s0 := (ho4.cell (p := ⟨w.heap.size, 0, none⟩) (by simp; omega) nA).trans ((((Only.refl [] w2).alloc (.cells #[.int .i64 i, .int .i64 (T.g i : Nat)] 76)).cell (p := ⟨w.heap.size, 0, none⟩) hl0 (by simp)).trans r0); have s1 := (ho4.cell (p := ⟨w.heap.size, 1, none⟩) (by simp; omega) nA).trans ((((Only.refl [] w2).alloc (.cells #[.int .i64 i, .int .i64 (T.g i : Nat)] 76)).cell (p := ⟨w.heap.size, 1, none⟩) hl0 (by simp)).trans r1); have g0 : ∀ o, w4.frozen? ⟨w.heap.size, o, none⟩ = false := (fun o => (ho4.frozen (p := ⟨w.heap.size, o, none⟩) (by simp; omega) nA).trans ((((Only.refl [] w2).alloc (.cells #[.int .i64 i, .int .i64 (T.g i : Nat)] 76)).frozen (p := ⟨w.heap.size, o, none⟩) hl0 (by simp)).trans (f0 o))); have hk := heap_alloc_last w2 (.cells #[.int .i64 i, .int .i64 (T.g i : Nat)] 76); have t0 := (ho4.cell (p := ⟨w2.heap.size, 0, none⟩) (by simp) nI).trans (cell_of_row _ _ 0 _ _ _ hk); have t1 := (ho4.cell (p := ⟨w2.heap.size, 1, none⟩) (by simp) nI).trans (cell_of_row _ _ 1 _ _ _ hk); have hl4 := lt_of_cell s0; clear hT4 ho4 hB4 hk nA nI hopen r0 r1 f0)
    | go_in)
  have hB : ¬ FootT tr { T with p := p', nd := setN T.nd i (some { newNod b 2 with Z := 0, L := 2 }), ds := setN T.ds i (some ⟨B, []⟩) } w.heap.size := fun hk => by
    rcases foot_tree_dir hk with hk | hk
    · rcases foot_tree_added HR2.out HBB.out hk with h1 | h1
      · have := H0.out.foot_lt _ h1
        omega
      · have : w.heap.size + 1 ≤ w.heap.size := by simpa using h1
        omega
    · have := HB4.out
      omega
  have oB : Only [w.heap.size] w4 ((w4.setCell ⟨w.heap.size, 0, none⟩ (.int .i64 i)).setCell ⟨w.heap.size, 1, none⟩ (.int .i64 (T.g i : Nat))) := ((Only.refl [w.heap.size] w4).setCell (Or.inl (by simp)) _).setCell (Or.inl (by simp)) _
  have oA : Only (T.db :: T.t :: T.p.a.toList) w w4 := (((HO1.out.mono (L' := T.db :: T.t :: T.p.a.toList) (fun _ hk => by cases hk)).trans HR2.out.2.1 (fun _ hk => Or.inl (List.mem_cons_of_mem _ hk))).alloc _).trans HO4.out (fun k hk => by
    simp only [List.mem_cons, List.not_mem_nil, or_false] at hk
    rcases hk with rfl | rfl
    · exact Or.inr (by omega)
    · exact Or.inl (List.mem_cons_self ..))
  refine bodyPost_ret (v := .tuple #[.agg #[.int .i64 i, .int .i64 (T.g i : Nat)], .nilIface]) (by simp [results, Tryd.results24, go_sem, s0, s1]) rfl ⟨rfl, p', b, B, HT4.out.kept oB (fun k hk hm => hB (by simp at hm; rw [← hm]; exact hk)), oA.trans oB (fun k hk => Or.inr (by simp at hk; omega)), by omega, by have := HB4.out; omega, HR2.out.1, roomed_a HR2.out HO1.out.size⟩
end Go.Proofs.YtmfcfkomdflhlaaDoor
/- The tree: a new one. -/
namespace Go.Proofs.YtmfcfkomdflhlaaDoor
open Go Go.RowKit Go.Deep Go.Maps

/-- A tree over a table, of whose directories none is known. -/
def Tr.bare (t : Nat) (p : Row) (most : Nat) (g : Nat → Nat) (nd : Nat → Option Nod) (db pb : Nat) : Tr := ⟨t, p, most, g, nd, db, fun _ => none, pb, fun _ => 0⟩
theorem over_ok (w : World) (t : Nat) (p : Row) (most : Nat) (g : Nat → Nat) (nd : Nat → Option Nod) (h : TabAt w t p most g nd) (hN : p.N ≤ 1000) (hg : ∀ i, g i ≤ 5000000000000000000) :
    Calls Tryd.prog 23 #[.pointer (some ⟨t, 0, none⟩)] w fun e w' => ∃ tr db pb, e = .returned (.pointer (some ⟨tr, 0, none⟩)) ∧ TreeAt w' tr (Tr.bare t p most g nd db pb) ∧ Only [] w w' ∧ w.heap.size ≤ tr ∧ w.heap.size ≤ db ∧ w.heap.size ≤ pb := by
  have hm1 := run_makeMap (P := Tryd.prog) 123 w
  have hm2 := run_makeMap (P := Tryd.prog) 124 (w.alloc (.map #[] 0))
  have H : Hid (TabAt w t p most g nd) := h
  clear h
  go_enter Tryd.func23, Tryd.ntmps23
  go_wp2
  go_ret
  have ho : Only [] w (((w.alloc (.map #[] 0)).alloc (.map #[] 0)).alloc (.cells #[.pointer (some ⟨t, 0, none⟩), .map (some w.heap.size), .map (some (w.heap.size + 1))] 126)) := (((Only.refl [] w).alloc _).alloc _).alloc _
  refine ⟨w.heap.size + 1 + 1, w.heap.size, w.heap.size + 1, rfl, ?_, ho, by omega, by omega, by omega⟩
  have hh := heap_alloc_last ((w.alloc (.map #[] 0)).alloc (.map #[] 0)) (.cells #[.pointer (some ⟨t, 0, none⟩), .map (some w.heap.size), .map (some (w.heap.size + 1))] 126)
  simp only [World.size_alloc] at hh
  have hno : ∀ k, w.heap.size ≤ k → ¬ InFoot t p most nd k := fun k hk hf => by have := H.out.foot_lt k hf; omega
  have hd : (((w.alloc (.map #[] 0)).alloc (.map #[] 0)).alloc (.cells #[.pointer (some ⟨t, 0, none⟩), .map (some w.heap.size), .map (some (w.heap.size + 1))] 126)).ownsMap Tryd.prog 76 mapElem w.heap.size 0 (.map [] : DataW Unit) := ((World.ownsMap_made (H := Unit) w Tryd.prog 76 mapElem).alloc _).alloc _
  have hp : (((w.alloc (.map #[] 0)).alloc (.map #[] 0)).alloc (.cells #[.pointer (some ⟨t, 0, none⟩), .map (some w.heap.size), .map (some (w.heap.size + 1))] 126)).ownsMap Tryd.prog 76 (plainElem Tryd.prog 3) (w.heap.size + 1) 0 (.map [] : DataW Unit) := by
    have := World.ownsMap_made (H := Unit) (w.alloc (.map #[] 0)) Tryd.prog 76 (plainElem Tryd.prog 3)
    rw [World.size_alloc] at this
    exact this.alloc _
  refine ⟨cell_of_row _ _ 0 _ _ _ hh, cell_of_row _ _ 1 _ _ _ hh, cell_of_row _ _ 2 _ _ _ hh, H.out.kept ho (fun _ _ => by simp), ⟨_, 0, hd, by omega, Reads.empty.congr (fun k => ?_)⟩, (fun i d e => by cases e), ⟨_, 0, hp, by omega, Reads.empty.congr (fun k => ?_)⟩, (fun i j d d' e => by cases e), ⟨hN, hg⟩, hno (w.heap.size + 1 + 1) (by omega), hno w.heap.size (Nat.le_refl _), hno (w.heap.size + 1) (by omega), (fun i d e => by cases e), ?_, (fun i d e => by cases e), (fun i e => by cases e)⟩
  · show (if k.2 = g k.1 then (none : Option DirM).map (·.b) else none) = none
    split <;> rfl
  · simp [Tr.pinsF, Tr.bare]
  · show w.heap.size ≠ w.heap.size + 1
    omega
/-- The tree as it begins. -/
def Tr.fresh (t : Nat) (p : Row) (most b db B pb : Nat) : Tr := ⟨t, p, most, fun _ => 0, setN (fun _ => none) 0 (some { newNod b 2 with Z := 0, L := 2 }), db, setN (fun _ => none) 0 (some ⟨B, []⟩), pb, fun _ => 0⟩
set_option maxHeartbeats 1000000 in
theorem tree_new (w : World) (most : Nat) (h1 : 1 ≤ most) (h2 : most ≤ 300) :
    Calls Tryd.prog 13 #[.int .i64 most] w fun e w' => ∃ tr t p b db B pb, e = .returned (.tuple #[.pointer (some ⟨tr, 0, none⟩), .nilIface]) ∧ TreeAt w' tr (Tr.fresh t p most b db B pb) ∧ Only [] w w' ∧ p.N = 1 ∧ w.heap.size ≤ tr ∧ w.heap.size ≤ t ∧ w.heap.size ≤ b ∧ w.heap.size ≤ db ∧ w.heap.size ≤ B ∧ w.heap.size ≤ pb ∧ ∀ k, p.a = some k → w.heap.size ≤ k := by
  have hnew := tnew w most h1 h2
  go_enter Tryd.func13, Tryd.ntmps13
  go_wp2_with (first
    | (go_at_call 22; go_must (refine hnew.mono ?_); rintro e w1 ⟨t, rfl, hT1, ho1, ht⟩; have hov := over_ok w1 t noRow most (fun _ => 0) (fun _ => none) hT1 (by decide) (fun _ => by omega); have HO1 : Hid (Only [] w w1) := ho1; have HTT : Hid (w.heap.size ≤ t) := ht; clear hT1 ho1 hnew ht)
    | (go_at_call 23; go_must (refine hov.mono ?_); rintro e w2 ⟨tr, db, pb, rfl, hT2, ho2, htr, hdb, hpb⟩; have hadd := add_dir w2 tr (Tr.bare t noRow most (fun _ => 0) (fun _ => none) db pb) 0 hT2 (by decide) (show countTo (fun _ => none) 0 < most from h1) rfl rfl (fun j hj => by omega); have HO2 : Hid (Only [] w w2) := HO1.out.trans ho2 (fun _ hk => by cases hk); have HS : Hid (w.heap.size ≤ tr ∧ w.heap.size ≤ db ∧ w.heap.size ≤ pb) := (show w.heap.size ≤ tr ∧ w.heap.size ≤ db ∧ w.heap.size ≤ pb from by have := HO1.out.size; omega); clear hT2 ho2 hov htr hdb hpb)
    | (go_at_call 24; go_must (refine hadd.mono ?_); rintro e w3 ⟨rfl, p, b, B, hT3, ho3, hb3, hB3, hN3, hA3⟩; clear hadd)
    | go_in)
  have ho : Only [] w w3 := HO2.out.trans ho3 (fun k hk => Or.inr (by
    have h1 := HS.out
    have h2 := HTT.out
    rcases List.mem_cons.1 hk with e | e
    · rw [e]; exact h1.2.1
    · rcases List.mem_cons.1 e with e | e
      · rw [e]; exact h2
      · cases e))
  have hs2 := HO2.out.size
  refine bodyPost_ret (v := .tuple #[.pointer (some ⟨tr, 0, none⟩), .nilIface]) (by simp [results, Tryd.results13, go_sem]) rfl ?_
  exact ⟨tr, t, p, b, db, B, pb, rfl, TreeAt.only (T := Tr.fresh t p most b db B pb) hT3 ((Only.refl [] w3).alloc _), ho.alloc _, by rw [hN3]; rfl, HS.out.1, HTT.out, by omega, HS.out.2.1, by omega, HS.out.2.2, fun k hk => (hA3 k hk).elim (fun e => by cases e) (fun e => by omega)⟩
end Go.Proofs.YtmfcfkomdflhlaaDoor
