/- The tree: a directory is added. -/
import Derived.Test.YtnbanflnepbgnaaDoorU11
namespace Go.Proofs.YtnbanflnepbgnaaDoor
open Go Go.RowKit Go.Deep Go.Maps

theorem foot_tree_dir {tr i b k B : Nat} {T : Tr} {p' : Row} (hk : FootT tr { T with p := p', nd := setN T.nd i (some { newNod b 2 with Z := 0, L := 2 }), ds := setN T.ds i (some ⟨B, []⟩) } k) : FootT tr { T with p := p', nd := setN T.nd i (some (newNod b 2)) } k ∨ k = B := by
  rcases hk with h | h | h | ⟨j, d, hd, rfl⟩ | h
  · exact Or.inl (Or.inl h)
  · exact Or.inl (Or.inr (Or.inl h))
  · exact Or.inl (Or.inr (Or.inr (Or.inl h)))
  · by_cases e : j = i
    · subst e
      have hd' : setN T.ds j (some (⟨B, []⟩ : DirM)) j = some d := hd
      rw [setN_same] at hd'
      cases hd'
      exact Or.inr rfl
    · have hd' : setN T.ds i (some (⟨B, []⟩ : DirM)) j = some d := hd
      rw [setN_other _ _ e] at hd'
      exact Or.inl (Or.inr (Or.inr (Or.inr (Or.inl ⟨j, d, hd', rfl⟩))))
  · refine Or.inl (Or.inr (Or.inr (Or.inr (Or.inr ?_))))
    rcases h with h | h | ⟨j, m, hj, hm⟩
    · exact Or.inl h
    · exact Or.inr (Or.inl h)
    · by_cases e : j = i
      · subst e
        have hj' : setN T.nd j (some ({ newNod b 2 with Z := 0, L := 2 } : Nod)) j = some m := hj
        rw [setN_same] at hj'
        cases hj'
        exact .node (setN_same _ _ _) hm
      · have hj' : setN T.nd i (some ({ newNod b 2 with Z := 0, L := 2 } : Nod)) j = some m := hj
        rw [setN_other _ _ e] at hj'
        exact .node ((setN_other _ _ e).trans hj') hm
set_option maxHeartbeats 1000000 in
theorem add_dir (w : World) (tr : Nat) (T : Tr) (i : Nat) (h : TreeAt w tr T) (hi : i < 1000) (hc : countTo T.nd T.p.N < T.most) (hn : T.nd i = none) (hd0 : T.ds i = none) (hb : ∀ j, j < i → (T.nd j).isSome = true) :
    Calls Tryd.prog 15 #[.pointer (some ⟨tr, 0, none⟩), .int .i64 2] w fun e w' => e = .returned (.tuple #[.agg #[.int .i64 i, .int .i64 (T.g i : Nat)], .nilIface]) ∧ ∃ p' b B, TreeAt w' tr { T with p := p', nd := setN T.nd i (some { newNod b 2 with Z := 0, L := 2 }), ds := setN T.ds i (some ⟨B, []⟩) } ∧ Only (T.db :: T.t :: T.p.a.toList) w w' ∧ w.heap.size ≤ b ∧ w.heap.size ≤ B ∧ p'.N = max T.p.N (i + 1) ∧ ∀ k, p'.a = some k → T.p.a = some k ∨ w.heap.size ≤ k := by
  have hO1 : Only [] w (w.alloc (.cells #[.int .i64 0, .int .i64 0] 29)) := (Only.refl [] w).alloc _
  have hT1 := h.only hO1
  have hadd := tadd_ok (w.alloc (.cells #[.int .i64 0, .int .i64 0] 29)) T.t T.p T.most i T.g T.nd 2 hT1.tab h.small.N (Or.inr rfl) hc hn hb
  have ct := h.c0
  have htl : tr < w.heap.size := lt_of_cell ct
  have H1 : Hid (TreeAt (w.alloc (.cells #[.int .i64 0, .int .i64 0] 29)) tr T) := hT1
  have HO1 : Hid (Only [] w (w.alloc (.cells #[.int .i64 0, .int .i64 0] 29))) := hO1
  have hpw : ∀ q, T.p.a = some q → q < w.heap.size := fun q hq => h.tab.plt hq
  have htw := h.tab.tlt
  have hdw : T.db < w.heap.size := h.foot_lt _ (Or.inr (Or.inl rfl))
  have HNO : Hid (w.heap.size ∉ T.t :: T.p.a.toList) := show w.heap.size ∉ T.t :: T.p.a.toList from (fun hm => by rcases List.mem_cons.1 hm with e | e; omega; have := hpw w.heap.size (by simpa using e); omega)
  have H0 : Hid (TreeAt w tr T) := h
  have HD0 : Hid (T.ds i = none) := hd0
  clear h hT1 hO1 hn hb hc hpw hd0
  go_enter Tryd.func15, Tryd.ntmps15
  go_wp2_with (first
    | (go_at_call 26; go_must (refine hadd.mono ?_); rintro e w2 ⟨rfl, p', b, hT2, hr2, hb2⟩; have HT2 : Hid (TreeAt w2 tr { T with p := p', nd := setN T.nd i (some (newNod b 2)) }) := H1.out.added hi hT2 hr2 hb2; have HR2 : Hid (Roomed (w.alloc (.cells #[.int .i64 0, .int .i64 0] 29)) w2 T.t T.p p' i) := hr2; have HBB : Hid (((w.alloc (.cells #[.int .i64 0, .int .i64 0] 29))).heap.size ≤ b) := hb2; have HBL : Hid (b < w2.heap.size) := (show b < w2.heap.size from lt_of_cell (hT2.node i (newNod b 2) (setN_same _ _ _)).c0); have hh := heap_alloc_last w (.cells #[.int .i64 0, .int .i64 0] 29); have r0 := (hr2.2.1.cell (p := ⟨w.heap.size, 0, none⟩) (by simp) HNO.out).trans (cell_of_row _ _ 0 _ _ _ hh); have r1 := (hr2.2.1.cell (p := ⟨w.heap.size, 1, none⟩) (by simp) HNO.out).trans (cell_of_row _ _ 1 _ _ _ hh); have f0 : ∀ o, w2.frozen? ⟨w.heap.size, o, none⟩ = false := (fun o => (hr2.2.1.frozen (p := ⟨w.heap.size, o, none⟩) (by simp) HNO.out).trans (frozen_of_row _ _ _ _ _ hh)); have hl0 := lt_of_cell r0; have hopen : Calls Tryd.prog 27 #[.pointer (some ⟨tr, 0, none⟩), .agg #[.int .i64 i, .int .i64 (T.g i : Nat)]] (w2.alloc (.cells #[.int .i64 i, .int .i64 (T.g i : Nat)] 29)) fun e w' => e = .returned (.tuple #[]) ∧ ∃ B, TreeAt w' tr { Tr.opened { T with p := p', nd := setN T.nd i (some (newNod b 2)) } i B with nd := setN (setN T.nd i (some (newNod b 2))) i (some { newNod b 2 with Z := 0, L := 2 }) } ∧ Only [b, T.db] (w2.alloc (.cells #[.int .i64 i, .int .i64 (T.g i : Nat)] 29)) w' ∧ (w2.alloc (.cells #[.int .i64 i, .int .i64 (T.g i : Nat)] 29)).heap.size ≤ B := open_ok (w2.alloc (.cells #[.int .i64 i, .int .i64 (T.g i : Nat)] 29)) tr { T with p := p', nd := setN T.nd i (some (newNod b 2)) } i (newNod b 2) (HT2.out.only ((Only.refl [] _).alloc _)) (setN_same _ _ _) rfl HD0.out; clear hT2 hr2 hb2 hadd hh)
    | (go_at_call 27; go_must (refine hopen.mono ?_); rintro e w4 ⟨rfl, B, hT4, ho4, hB4⟩; rw [setN_again] at hT4; have HT4 : Hid (TreeAt w4 tr { T with p := p', nd := setN T.nd i (some { newNod b 2 with Z := 0, L := 2 }), ds := setN T.ds i (some ⟨B, []⟩) }) := hT4; have HO4 : Hid (Only [b, T.db] (w2.alloc (.cells #[.int .i64 i, .int .i64 (T.g i : Nat)] 29)) w4) := ho4; have HB4 : Hid (w2.heap.size + 1 ≤ B) := (show w2.heap.size + 1 ≤ B from by simpa using hB4); have hbw : w.heap.size + 1 ≤ b := (by simpa using HBB.out); have nA : w.heap.size ∉ [b, T.db] := (fun hm => by simp at hm; omega); have nI : w2.heap.size ∉ [b, T.db] := (fun hm => by have := HBL.out; simp at hm; omega); have s0 := (ho4.cell (p := ⟨w.heap.size, 0, none⟩) (by simp; omega) nA).trans ((((Only.refl [] w2).alloc (.cells #[.int .i64 i, .int .i64 (T.g i : Nat)] 29)).cell (p := ⟨w.heap.size, 0, none⟩) hl0 (by simp)).trans r0); have s1 := (ho4.cell (p := ⟨w.heap.size, 1, none⟩) (by simp; omega) nA).trans ((((Only.refl [] w2).alloc (.cells #[.int .i64 i, .int .i64 (T.g i : Nat)] 29)).cell (p := ⟨w.heap.size, 1, none⟩) hl0 (by simp)).trans r1); have g0 : ∀ o, w4.frozen? ⟨w.heap.size, o, none⟩ = false := (fun o => (ho4.frozen (p := ⟨w.heap.size, o, none⟩) (by simp; omega) nA).trans ((((Only.refl [] w2).alloc (.cells #[.int .i64 i, .int .i64 (T.g i : Nat)] 29)).frozen (p := ⟨w.heap.size, o, none⟩) hl0 (by simp)).trans (f0 o))); have hk := heap_alloc_last w2 (.cells #[.int .i64 i, .int .i64 (T.g i : Nat)] 29); have t0 := (ho4.cell (p := ⟨w2.heap.size, 0, none⟩) (by simp) nI).trans (cell_of_row _ _ 0 _ _ _ hk); have t1 := (ho4.cell (p := ⟨w2.heap.size, 1, none⟩) (by simp) nI).trans (cell_of_row _ _ 1 _ _ _ hk); have hl4 := lt_of_cell s0; clear hT4 ho4 hB4 hk nA nI hopen r0 r1 f0)
    | go_in)
  have hB : ¬ FootT tr { T with p := p', nd := setN T.nd i (some { newNod b 2 with Z := 0, L := 2 }), ds := setN T.ds i (some ⟨B, []⟩) } w.heap.size := fun hk => by
    rcases foot_tree_dir hk with hk | hk
    · rcases foot_tree_added HR2.out HBB.out hk with h1 | h1
      · have := H0.out.foot_lt _ h1
        omega
      · have : w.heap.size + 1 ≤ w.heap.size := by simpa using h1
        omega
    · have := HB4.out
      omega
  have oB : Only [w.heap.size] w4 ((w4.setCell ⟨w.heap.size, 0, none⟩ (.int .i64 i)).setCell ⟨w.heap.size, 1, none⟩ (.int .i64 (T.g i : Nat))) := ((Only.refl [w.heap.size] w4).setCell (Or.inl (by simp)) _).setCell (Or.inl (by simp)) _
  have oA : Only (T.db :: T.t :: T.p.a.toList) w w4 := (((HO1.out.mono (L' := T.db :: T.t :: T.p.a.toList) (fun _ hk => by cases hk)).trans HR2.out.2.1 (fun _ hk => Or.inl (List.mem_cons_of_mem _ hk))).alloc _).trans HO4.out (fun k hk => by
    simp only [List.mem_cons, List.not_mem_nil, or_false] at hk
    rcases hk with rfl | rfl
    · exact Or.inr (by omega)
    · exact Or.inl (List.mem_cons_self ..))
  refine bodyPost_ret (v := .tuple #[.agg #[.int .i64 i, .int .i64 (T.g i : Nat)], .nilIface]) (by simp [results, Tryd.results15, go_sem, s0, s1]) rfl ⟨rfl, p', b, B, HT4.out.kept oB (fun k hk hm => hB (by simp at hm; rw [← hm]; exact hk)), oA.trans oB (fun k hk => Or.inr (by simp at hk; omega)), by omega, by have := HB4.out; omega, HR2.out.1, roomed_a HR2.out HO1.out.size⟩
end Go.Proofs.YtnbanflnepbgnaaDoor
