/- The tree: a node is added. -/
import Derived.Test.YtnbanflnepbgnaaDoorU10
namespace Go.Proofs.YtnbanflnepbgnaaDoor
open Go Go.RowKit Go.Deep Go.Maps

theorem foot_added_tree {w w' : World} {t most i b : Nat} {p p' : Row} {nd : Nat → Option Nod} {K : Int} {k : Nat} (hr : Roomed w w' t p p' i) (hb : w.heap.size ≤ b) (hk : InFoot t p' most (setN nd i (some (newNod b K))) k) : InFoot t p most nd k ∨ w.heap.size ≤ k := by
  rcases hk with h | h | ⟨j, n, hs, hm⟩
  · exact Or.inl (Or.inl h)
  · rcases hr.2.2 with h1 | ⟨q, h1, h2⟩
    · exact Or.inl (Or.inr (Or.inl (by rw [← h1]; exact h)))
    · rw [h1] at h
      cases h
      exact Or.inr h2
  · by_cases e : j = i
    · subst e
      rw [setN_same] at hs
      cases hs
      have : k = b := by simpa [newNod, Nod.foot, footD] using hm
      exact Or.inr (by omega)
    · rw [setN_other _ _ e] at hs
      exact Or.inl (Or.inr (Or.inr ⟨j, n, hs, hm⟩))
theorem roomed_a {w1 w2 : World} {t i n : Nat} {p p' : Row} (hr : Roomed w1 w2 t p p' i) (hn : n ≤ w1.heap.size) : ∀ k, p'.a = some k → p.a = some k ∨ n ≤ k := fun k hk => by
  rcases hr.2.2 with h | ⟨q, h, hq⟩
  · exact Or.inl (by rw [← h]; exact hk)
  · rw [h] at hk
    cases hk
    exact Or.inr (Nat.le_trans hn hq)
/-- A node more. -/
theorem TreeAt.added {w w2 : World} {tr i b : Nat} {T : Tr} {p' : Row} {K : Int} (h : TreeAt w tr T) (hi : i < 1000) (ht : TabAt w2 T.t p' T.most T.g (setN T.nd i (some (newNod b K)))) (hr : Roomed w w2 T.t T.p p' i) (hb : w.heap.size ≤ b) : TreeAt w2 tr { T with p := p', nd := setN T.nd i (some (newNod b K)) } :=
  h.table (p' := p') (g' := T.g) ht hr.2.1 (fun k hk => by
    rcases List.mem_cons.1 hk with e | e
    · exact Or.inl e
    · exact Or.inr (Or.inl (by simpa using e))) (fun k hk => foot_added_tree hr hb hk) ⟨by have := hr.1; have := h.small.N; show p'.N ≤ 1000; omega, h.small.g⟩ (by have := hr.1; omega) (fun _ => rfl) (fun _ => rfl)
theorem foot_tree_added {w1 w2 : World} {tr i b k : Nat} {T : Tr} {p' : Row} {K : Int} (hr : Roomed w1 w2 T.t T.p p' i) (hb : w1.heap.size ≤ b) (hk : FootT tr { T with p := p', nd := setN T.nd i (some (newNod b K)) } k) : FootT tr T k ∨ w1.heap.size ≤ k := by
  rcases hk with h | h | h | h | h
  · exact Or.inl (Or.inl h)
  · exact Or.inl (Or.inr (Or.inl h))
  · exact Or.inl (Or.inr (Or.inr (Or.inl h)))
  · exact Or.inl (Or.inr (Or.inr (Or.inr (Or.inl h))))
  · rcases foot_added_tree hr hb h with h1 | h1
    · exact Or.inl (Or.inr (Or.inr (Or.inr (Or.inr h1))))
    · exact Or.inr h1
set_option maxHeartbeats 1000000 in
theorem add_file (w : World) (tr : Nat) (T : Tr) (i : Nat) (h : TreeAt w tr T) (hi : i < 1000) (hc : countTo T.nd T.p.N < T.most) (hn : T.nd i = none) (hb : ∀ j, j < i → (T.nd j).isSome = true) :
    Calls Tryd.prog 15 #[.pointer (some ⟨tr, 0, none⟩), .int .i64 1] w fun e w' => e = .returned (.tuple #[.agg #[.int .i64 i, .int .i64 (T.g i : Nat)], .nilIface]) ∧ ∃ p' b, TreeAt w' tr { T with p := p', nd := setN T.nd i (some (newNod b 1)) } ∧ Only (T.t :: T.p.a.toList) w w' ∧ w.heap.size ≤ b ∧ p'.N = max T.p.N (i + 1) ∧ ∀ k, p'.a = some k → T.p.a = some k ∨ w.heap.size ≤ k := by
  have hO1 : Only [] w (w.alloc (.cells #[.int .i64 0, .int .i64 0] 29)) := (Only.refl [] w).alloc _
  have hT1 := h.only hO1
  have hadd := tadd_ok (w.alloc (.cells #[.int .i64 0, .int .i64 0] 29)) T.t T.p T.most i T.g T.nd 1 hT1.tab h.small.N (Or.inl rfl) hc hn hb
  have ct := h.c0
  have htl : tr < w.heap.size := lt_of_cell ct
  have H1 : Hid (TreeAt (w.alloc (.cells #[.int .i64 0, .int .i64 0] 29)) tr T) := hT1
  have HO1 : Hid (Only [] w (w.alloc (.cells #[.int .i64 0, .int .i64 0] 29))) := hO1
  have hpw : ∀ q, T.p.a = some q → q < w.heap.size := fun q hq => h.tab.plt hq
  have htw := h.tab.tlt
  have HNO : Hid (w.heap.size ∉ T.t :: T.p.a.toList) := show w.heap.size ∉ T.t :: T.p.a.toList from (fun hm => by rcases List.mem_cons.1 hm with e | e; omega; have := hpw w.heap.size (by simpa using e); omega)
  have H0 : Hid (TreeAt w tr T) := h
  clear h hT1 hO1 hn hb hc hpw
  go_enter Tryd.func15, Tryd.ntmps15
  go_wp2_with (go_at_call 26; go_must (refine hadd.mono ?_); rintro e w2 ⟨rfl, p', b, hT2, hr2, hb2⟩; have HT2 : Hid (TreeAt w2 tr { T with p := p', nd := setN T.nd i (some (newNod b 1)) }) := H1.out.added hi hT2 hr2 hb2; have HR2 : Hid (Roomed (w.alloc (.cells #[.int .i64 0, .int .i64 0] 29)) w2 T.t T.p p' i) := hr2; have HBB : Hid (((w.alloc (.cells #[.int .i64 0, .int .i64 0] 29))).heap.size ≤ b) := hb2; have HB2 : Hid (w.heap.size ≤ b) := (show w.heap.size ≤ b from Nat.le_trans HO1.out.size hb2); have hh := heap_alloc_last w (.cells #[.int .i64 0, .int .i64 0] 29); have r0 := (hr2.2.1.cell (p := ⟨w.heap.size, 0, none⟩) (by simp) HNO.out).trans (cell_of_row _ _ 0 _ _ _ hh); have r1 := (hr2.2.1.cell (p := ⟨w.heap.size, 1, none⟩) (by simp) HNO.out).trans (cell_of_row _ _ 1 _ _ _ hh); have f0 : ∀ o, w2.frozen? ⟨w.heap.size, o, none⟩ = false := (fun o => (hr2.2.1.frozen (p := ⟨w.heap.size, o, none⟩) (by simp) HNO.out).trans (frozen_of_row _ _ _ _ _ hh)); have hl0 := lt_of_cell r0; clear hT2 hr2 hb2 hadd hh)
  have hB : ¬ FootT tr { T with p := p', nd := setN T.nd i (some (newNod b 1)) } w.heap.size := fun hk => by
    rcases foot_tree_added HR2.out HBB.out hk with h1 | h1
    · have := H0.out.foot_lt _ h1
      omega
    · have : w.heap.size + 1 ≤ w.heap.size := by simpa using h1
      omega
  have oB : Only [w.heap.size] w2 ((w2.setCell ⟨w.heap.size, 0, none⟩ (.int .i64 i)).setCell ⟨w.heap.size, 1, none⟩ (.int .i64 (T.g i : Nat))) := ((Only.refl [w.heap.size] w2).setCell (Or.inl (by simp)) _).setCell (Or.inl (by simp)) _
  refine bodyPost_ret (v := .tuple #[.agg #[.int .i64 i, .int .i64 (T.g i : Nat)], .nilIface]) (by simp [results, Tryd.results15, go_sem, r0, r1, hl0]) rfl ⟨rfl, p', b, (HT2.out.kept oB (fun k hk hm => hB (by simp at hm; rw [← hm]; exact hk))).only ((Only.refl [] _).alloc _), ?_, HB2.out, HR2.out.1, roomed_a HR2.out HO1.out.size⟩
  exact (((HO1.out.mono (L' := T.t :: T.p.a.toList) (fun _ hk => by cases hk)).trans HR2.out.2.1 (fun _ hk => Or.inl hk)).trans oB (fun k hk => Or.inr (by simp at hk; omega))).alloc _
end Go.Proofs.YtnbanflnepbgnaaDoor
