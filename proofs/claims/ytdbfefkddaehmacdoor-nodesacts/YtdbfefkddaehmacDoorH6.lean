/- Nodes: a node is added. -/
import Derived.Test.YtdbfefkddaehmacDoorH5
namespace Go.Proofs.YtdbfefkddaehmacDoor
open Go Go.RowKit Go.Deep Go.Maps

theorem free_some {most : Nat} {nd : Nat → Option Nod} {r : Int} {i : Nat} (hi : i < most) (hn : nd i = none) (hb : ∀ j, j < i → (nd j).isSome = true) (hr : leastFree most nd r) : r = (i : Int) := by
  rcases hr with ⟨_, h1⟩ | ⟨j, rfl, hj, hjn, hjb⟩
  · have := h1 i hi
    rw [hn] at this
    cases this
  · rcases Nat.lt_trichotomy i j with h | h | h
    · have := hjb i h
      rw [hn] at this
      cases this
    · rw [h]
    · have := hb j h
      rw [hjn] at this
      cases this
/-- A new node. -/
def newNod (b : Nat) (K : Int) : Nod := ⟨b, K, 0, 0, 0, 0, 0, ⟨#[]⟩, [], none⟩
def nodeCells (K : Int) : Array Value := #[.int .i64 K, .int .i64 0, .int .i64 0, .int .i64 0, .int .i64 0, .int .i64 0, .int .i64 0, .map none]
theorem newNod_at (w : World) (K : Int) : NodAt (w.alloc (.cells (nodeCells K) 77)) (newNod w.heap.size K) := by
  have hh := heap_alloc_last w (.cells (nodeCells K) 77)
  refine ⟨cell_of_row _ _ 0 _ _ _ hh, cell_of_row _ _ 1 _ _ _ hh, cell_of_row _ _ 2 _ _ _ hh, cell_of_row _ _ 3 _ _ _ hh, cell_of_row _ _ 4 _ _ _ hh, cell_of_row _ _ 5 _ _ _ hh, cell_of_row _ _ 6 _ _ _ hh, cell_of_row _ _ 7 _ _ _ hh, fun k => ?_, _, Same.start, rfl⟩
  show World.frozen? _ ⟨w.heap.size, k, none⟩ = false
  unfold World.frozen?
  rw [hh]
  simp
/-- What lies behind an addition: the new node, the place's cell; the answer, in memory of the call's own. -/
theorem added {w w2 : World} {t p most i : Nat} {g : Nat → Nat} {nd : Nat → Option Nod} {K a b : Int} (h : TabAt w t p most g nd) (ho : Only [] w w2) (hi : i < most) (hB2 : w.heap.size < w2.heap.size) :
    TabAt ((((w2.setCell ⟨p, i * 2 + 1, none⟩ (.pointer (some ⟨w2.heap.size, 0, none⟩))).setCell ⟨w.heap.size, 0, none⟩ (.int .i64 a)).setCell ⟨w.heap.size, 1, none⟩ (.int .i64 b)).alloc (.cells (nodeCells K) 77)) t p most g (setN nd i (some (newNod w2.heap.size K))) ∧
    Only [p] w ((((w2.setCell ⟨p, i * 2 + 1, none⟩ (.pointer (some ⟨w2.heap.size, 0, none⟩))).setCell ⟨w.heap.size, 0, none⟩ (.int .i64 a)).setCell ⟨w.heap.size, 1, none⟩ (.int .i64 b)).alloc (.cells (nodeCells K) 77)) := by
  have hp := h.plt
  have hp2 : p < w2.heap.size := Nat.lt_of_lt_of_le hp ho.size
  have e : ((((w2.setCell ⟨p, i * 2 + 1, none⟩ (.pointer (some ⟨w2.heap.size, 0, none⟩))).setCell ⟨w.heap.size, 0, none⟩ (.int .i64 a)).setCell ⟨w.heap.size, 1, none⟩ (.int .i64 b)).alloc (.cells (nodeCells K) 77)) = ((((w2.alloc (.cells (nodeCells K) 77)).setCell ⟨p, i * 2 + 1, none⟩ (.pointer (some ⟨w2.heap.size, 0, none⟩))).setCell ⟨w.heap.size, 0, none⟩ (.int .i64 a)).setCell ⟨w.heap.size, 1, none⟩ (.int .i64 b)) := by
    rw [World.setCell_alloc_past (w := w2) _ p _ _ hp2, World.setCell_alloc_past (w := w2.setCell _ _) _ w.heap.size _ _ (by simpa using hB2), World.setCell_alloc_past (w := (w2.setCell _ _).setCell _ _) _ w.heap.size _ _ (by simpa using hB2)]
  rw [e]
  clear e
  have hal : Only [] w (w2.alloc (.cells (nodeCells K) 77)) := ho.alloc _
  have c1 := (h.kept hal (fun _ _ => by simp)).ptr i hi
  have c0 := (h.kept hal (fun _ _ => by simp)).gen i hi
  have cn := newNod_at w2 K
  generalize w2.alloc (.cells (nodeCells K) 77) = wa at hal c0 c1 cn ⊢
  have o3 : Only [p] w (((wa.setCell ⟨p, i * 2 + 1, none⟩ (.pointer (some ⟨w2.heap.size, 0, none⟩))).setCell ⟨w.heap.size, 0, none⟩ (.int .i64 a)).setCell ⟨w.heap.size, 1, none⟩ (.int .i64 b)) :=
    (((hal.mono (L' := [p]) (by simp)).setCell (Or.inl (by simp)) _).setCell (Or.inr (Nat.le_refl _)) _).setCell (Or.inr (Nat.le_refl _)) _
  have o4 : Only [p, w.heap.size] wa (((wa.setCell ⟨p, i * 2 + 1, none⟩ (.pointer (some ⟨w2.heap.size, 0, none⟩))).setCell ⟨w.heap.size, 0, none⟩ (.int .i64 a)).setCell ⟨w.heap.size, 1, none⟩ (.int .i64 b)) :=
    (((Only.refl [p, w.heap.size] wa).setCell (Or.inl (by simp)) _).setCell (Or.inl (by simp)) _).setCell (Or.inl (by simp)) _
  have hne : ∀ o k, (⟨p, o, none⟩ : Addr) ≠ ⟨w.heap.size, k, none⟩ := fun o k e => by
    have := congrArg Addr.block e
    simp at this
    omega
  have cells : ∀ o, (((wa.setCell ⟨p, i * 2 + 1, none⟩ (.pointer (some ⟨w2.heap.size, 0, none⟩))).setCell ⟨w.heap.size, 0, none⟩ (.int .i64 a)).setCell ⟨w.heap.size, 1, none⟩ (.int .i64 b)).cell? ⟨p, o, none⟩ = (wa.setCell ⟨p, i * 2 + 1, none⟩ (.pointer (some ⟨w2.heap.size, 0, none⟩))).cell? ⟨p, o, none⟩ := fun o => by
    rw [World.cell?_setCell_other _ _ _ _ (Ne.symm (hne _ _)), World.cell?_setCell_other _ _ _ _ (Ne.symm (hne _ _))]
  refine ⟨h.place (i := i) ⟨o3, fun o _ h2 => ?_, fun o => ?_⟩ (fun _ _ => rfl) (fun j hj => setN_other _ _ hj) ?_ ?_ ?_, o3⟩
  · rw [cells, World.cell?_setCell_other _ _ _ _ (by simp)]
    exact hal.cell (p := ⟨p, o, none⟩) hp (by simp)
  · rw [World.frozen?_setCell, World.frozen?_setCell, World.frozen?_setCell]
    exact hal.frozen (p := ⟨p, o, none⟩) hp (by simp)
  · rw [cells, World.cell?_setCell_other _ _ _ _ (by simp)]
    exact c0
  · rw [cells, World.cell?_setCell_same _ _ _ c1, setN_same]
    rfl
  · intro n hn
    rw [setN_same] at hn
    cases hn
    have hfoot : ∀ k, k ∈ (newNod w2.heap.size K).foot → k = w2.heap.size := fun k hk => by simpa [newNod, Nod.foot, footD] using hk
    refine ⟨cn.kept o4 (fun k hk hm => ?_), fun k hk => ?_⟩
    · have := hfoot k hk
      simp at hm
      omega
    · have := hfoot k hk
      omega
set_option maxHeartbeats 1000000 in
theorem tadd_ok (w : World) (t p most i : Nat) (g : Nat → Nat) (nd : Nat → Option Nod) (K : Int) (h : TabAt w t p most g nd) (hm : most ≤ 300) (hK : K = 1 ∨ K = 2) (hi : i < most) (hn : nd i = none) (hb : ∀ j, j < i → (nd j).isSome = true) :
    Calls Tryd.prog 14 #[.pointer (some ⟨t, 0, none⟩), .int .i64 K] w fun e w' => e = .returned (.tuple #[.agg #[.int .i64 i, .int .i64 (g i : Nat)], .nilIface]) ∧ ∃ b, TabAt w' t p most g (setN nd i (some (newNod b K))) ∧ Only [p] w w' ∧ w.heap.size ≤ b := by
  have ct := h.tab
  have htl : t < w.heap.size := lt_of_cell ct
  have hpl := h.plt
  have hpt := h.pt
  have hal : Only [] w (w.alloc (.cells #[.int .i64 0, .int .i64 0] 43)) := (Only.refl _ _).alloc _
  have hcall := indexFree _ t p most g nd (h.kept hal (fun _ _ => by simp)) hm
  have HB : Hid (∀ r, leastFree most nd r → r = (i : Int)) := fun r hr => free_some hi hn hb hr
  have H : Hid (TabAt w t p most g nd) := h
  have HA : Hid (Only [] w (w.alloc (.cells #[.int .i64 0, .int .i64 0] 43))) := hal
  clear h hn hb hal
  rcases hK with rfl | rfl
  all_goals go_enter Tryd.func14, Tryd.ntmps14
  all_goals go_wp2_with (go_at_call 27; go_must (refine hcall.mono ?_); rintro e w2 ⟨⟨r, rfl, hr⟩, ho2⟩; obtain rfl : r = (i : Int) := HB.out r hr; clear hr; have HO : Hid (Only [] w w2) := HA.out.trans ho2 (fun _ hk => by cases hk); obtain ⟨r0, r1, f0, hl0⟩ := own_pair ho2; have hT2 := H.out.kept HO.out (fun _ _ => by simp); have c0 := hT2.tab; have c1 := hT2.gen i hi; have c2 := hT2.ptr i hi; have fp := hT2.fz; have hl1 := lt_of_cell c0; have hl2 := hT2.plt; clear hT2)
  all_goals exact bodyPost_ret (v := .tuple #[.agg #[.int .i64 i, .int .i64 (g i : Nat)], .nilIface]) (by simp [results, Tryd.results14, go_sem, r0, r1, hl0]) rfl ⟨rfl, w2.heap.size, (added H.out HO.out hi hl0).1, (added H.out HO.out hi hl0).2, by omega⟩
end Go.Proofs.YtdbfefkddaehmacDoor
