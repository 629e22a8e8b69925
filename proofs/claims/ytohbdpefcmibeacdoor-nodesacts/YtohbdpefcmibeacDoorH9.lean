/- Nodes: the law's closed fact: the first node; a table with what is gone beside it. -/
import Derived.Test.YtohbdpefcmibeacDoorH8
import Derived.Test.YtohbdpefcmibeacDoorE3
import Derived.Deep.AppendLies
namespace Go.Proofs.YtohbdpefcmibeacDoor
open Go Go.RowKit Go.Deep Go.Maps

theorem count_one {nd : Nat → Option Nod} {n : Nod} (h : nd 1 = none) : countTo (setN nd 0 (some n)) 2 = 1 := by
  rw [countTo_succ, countTo_succ, setN_same, setN_other _ _ (by omega), h]
  rfl
theorem count_none {nd : Nat → Option Nod} {most : Nat} (h : ∀ i, nd i = none) : countTo nd most = 0 := by
  unfold countTo
  rw [List.length_eq_zero_iff, List.filter_eq_nil_iff]
  intro i hi
  rw [h i]
  simp
theorem countTo_out {w : World} {t : Nat} {p : Row} {most : Nat} {g : Nat → Nat} {nd : Nat → Option Nod} (h : TabAt w t p most g nd) (m : Nat) : countTo nd (p.N + m) = countTo nd p.N := by
  induction m with
  | zero => rfl
  | succ m ih =>
    rw [← Nat.add_assoc, countTo_succ, ih, (h.out _ (by omega)).2]
    simp
theorem TabAt.count {w : World} {t : Nat} {p : Row} {most : Nat} {g : Nat → Nat} {nd : Nat → Option Nod} (h : TabAt w t p most g nd) {k : Nat} (hk : p.N ≤ k) : countTo nd p.N = countTo nd k := by
  rw [← countTo_out h (k - p.N), show p.N + (k - p.N) = k by omega]
set_option maxHeartbeats 1000000 in
theorem fresh_any (w : World) : Calls Tryd.prog 11 #[] w fun e w' => e = .returned (.bool true) ∧ Below w.heap.size w w' := by
  have hnew := tnew w 2 (by decide) (by decide)
  go_enter Tryd.func11, Tryd.ntmps11
  go_wp2_with (first
    | (go_at_call 12; go_must (refine hnew.mono ?_); rintro e w1 ⟨t, rfl, hT, ho1, ht⟩; have hadd := tadd_ok w1 t noRow 2 0 _ _ 1 hT (by decide) (Or.inl rfl) (by decide) rfl (fun j hj => by omega); have HO1 : Hid (Only [] w w1) := ho1; have HP : Hid (w.heap.size ≤ t) := ht; clear hT ho1 hnew)
    | (go_at_call 14; go_must (refine hadd.mono ?_); rintro e w2 ⟨rfl, p2, b, hT2, ⟨hN2, ho2, _⟩, hb⟩; have HB : Hid (Below w.heap.size w w2) := (HO1.out.to_below (Nat.le_refl _) (fun k hk => by cases hk)).trans (ho2.to_below HO1.out.size (fun k hk => by simp [noRow] at hk; subst hk; exact HP.out)); have hc := tcount _ t p2 2 _ _ (hT2.kept ((Only.refl [] w2).alloc (.cells #[.int .i64 0, .int .i64 0] 43)) (fun _ _ => by simp)) (by rw [hN2]; decide); rw [hT2.count (k := 2) (by rw [hN2]; decide), count_one rfl] at hc; clear hT2 ho2 hadd hN2)
    | (go_at_call 20; go_must (refine hc.mono ?_); rintro e w3 ⟨rfl, ho3⟩)
    | go_in)
  go_ret
  exact ⟨rfl, (HB.out.alloc HB.out.size _).trans (ho3.to_below (Nat.le_trans HB.out.size (by simp)) (fun k hk => by cases hk))⟩
def hCells (N : Int) (i : Nat) : List Value := [.int .i64 N, .int .i64 (i : Int)]
theorem hCells_len (N : Int) (i : Nat) : (hCells N i).length = 2 := rfl
/-- A table beside the handles that are gone: all of number 0. -/
structure Gn (W w : World) (t : Nat) (p : Row) (most : Nat) (g : Nat → Nat) (nd : Nat → Option Nod) (gv : Value) (c : Nat) : Prop where
  tab : TabAt w t p most g nd
  own : w.ownsRow W.heap.size 43 2 gv c (rowOf (hCells 0) (List.range c))
  dis : ∀ k, InFoot t p most nd k → gv.ownBlock ≠ some k
  new : ∀ k, InFoot t p most nd k → W.heap.size ≤ k
  below : Below W.heap.size W w
  nle : p.N ≤ 1000
section
variable {W w w' : World} {t most : Nat} {p p' : Row} {g : Nat → Nat} {nd : Nat → Option Nod} {gv : Value} {c : Nat}
theorem Gn.tabStepR {g' : Nat → Nat} {nd' : Nat → Option Nod} {L : List Nat} (h : Gn W w t p most g nd gv c) (ht : TabAt w' t p' most g' nd') (hN : p'.N ≤ 1000) (ho : Only L w w') (hL : ∀ k ∈ L, InFoot t p most nd k)
    (hf : ∀ k, InFoot t p' most nd' k → InFoot t p most nd k ∨ w.heap.size ≤ k) : Gn W w' t p' most g' nd' gv c := by
  refine ⟨ht, ho.owns h.own (fun k hk hm => h.dis k (hL k hm) hk), fun k hk => ?_, fun k hk => ?_, h.below.trans (ho.to_below h.below.size (fun k hk => h.new k (hL k hk))), hN⟩
  · rcases hf k hk with h1 | h1
    · exact h.dis k h1
    · intro e
      have := (h.own.lt k e).2
      omega
  · rcases hf k hk with h1 | h1
    · exact h.new k h1
    · exact Nat.le_trans h.below.size h1
theorem Gn.tabStep {g' : Nat → Nat} {nd' : Nat → Option Nod} {L : List Nat} (h : Gn W w t p most g nd gv c) (ht : TabAt w' t p most g' nd') (ho : Only L w w') (hL : ∀ k ∈ L, InFoot t p most nd k)
    (hf : ∀ k, InFoot t p most nd' k → InFoot t p most nd k ∨ w.heap.size ≤ k) : Gn W w' t p most g' nd' gv c := h.tabStepR ht h.nle ho hL hf
theorem Gn.only (h : Gn W w t p most g nd gv c) (ho : Only [] w w') : Gn W w' t p most g nd gv c :=
  h.tabStep (h.tab.kept ho (fun _ _ => by simp)) ho (fun _ hk => by cases hk) (fun k hk => Or.inl hk)
theorem Gn.more {gv' : Value} {c' : Nat} {L : List Nat} (h : Gn W w t p most g nd gv c) (hown : w'.ownsRow W.heap.size 43 2 gv' c' (rowOf (hCells 0) (List.range c'))) (ho : Only L w w') (hL : ∀ k ∈ L, gv.ownBlock = some k)
    (hf : ∀ k, gv'.ownBlock = some k → gv.ownBlock = some k ∨ w.heap.size ≤ k) : Gn W w' t p most g nd gv' c' := by
  refine ⟨h.tab.kept ho (fun k hk hm => h.dis k hk (hL k hm)), hown, fun k hk e => ?_, h.new, h.below.trans (ho.to_below h.below.size (fun k hk => (h.own.lt k (hL k hk)).1)), h.nle⟩
  rcases hf k e with h1 | h1
  · exact h.dis k hk h1
  · have := h.tab.foot_lt k hk; omega
/-- Nothing is there. -/
theorem stale_none (hn : ∀ i, nd i = none) (N G : Int) : Stale0 g nd N G := fun i n _ h => by
  rw [hn i] at h
  cases h
theorem gone_cell (h : Gn W w t p most g nd gv c) {k : Nat} (hk : k < c) : ∃ b cap, gv = .slice (some ⟨b, 0, none⟩) c cap ∧ w.cell? ⟨b, k * 2, none⟩ = some (.int .i64 0) ∧ w.cell? ⟨b, k * 2 + 1, none⟩ = some (.int .i64 (k : Int)) ∧ b < w.heap.size := by
  obtain ⟨b, cap, rfl, _, hb⟩ := h.own.form (by omega)
  have hr : (List.range c)[k]? = some k := by simp [hk]
  have h0 := rowOf_get (hCells_len 0) (List.range c) k 0 k (by omega) hr
  have h1 := rowOf_get (hCells_len 0) (List.range c) k 1 k (by omega) hr
  refine ⟨b, cap, rfl, ?_, ?_, hb⟩
  · rw [h.own.cellAt _ (by omega)]; exact h0
  · rw [h.own.cellAt _ (by omega)]; exact h1
theorem gone_shape (h : Gn W w t p most g nd gv c) : ∃ a cap, gv = .slice a c cap := by
  rcases h.own.2 with ⟨hv, h0⟩ | ⟨b, cap, _, hv, _⟩
  · exact ⟨none, 0, by rw [hv, h0]⟩
  · exact ⟨_, cap, hv⟩
end
end Go.Proofs.YtohbdpefcmibeacDoor
