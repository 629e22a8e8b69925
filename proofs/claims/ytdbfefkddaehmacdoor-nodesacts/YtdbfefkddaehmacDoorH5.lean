/- Nodes: New, Add. -/
import Derived.Test.YtdbfefkddaehmacDoorH4
import Derived.OwnWalk
namespace Go.Proofs.YtdbfefkddaehmacDoor
open Go Go.RowKit Go.Deep Go.Maps

theorem placeInfo : (Tryd.prog.info? 74).map (fun i => (i.zero, i.size, i.bytes)) = some (some (.agg #[.int .i64 0, .pointer none]), 2, 16) := by kernel_rfl
theorem placesUnd : Tryd.prog.underlying 66 = some (.slice 74) := by kernel_rfl
theorem made_places (n i : Nat) (hi : i < n) : (madeCells (Value.agg #[.int .i64 0, .pointer none]).cells (n * 2)).toList[i * 2]? = some (.int .i64 0) ∧ (madeCells (Value.agg #[.int .i64 0, .pointer none]).cells (n * 2)).toList[i * 2 + 1]? = some (.pointer none) := by
  have hc : (Value.agg #[.int .i64 0, .pointer none]).cells = #[.int .i64 0, .pointer none] := by kernel_rfl
  rw [hc]
  constructor
  · have h1 : i * 2 < n * 2 := by omega
    simp [madeCells, h1]
  · have h1 : i * 2 + 1 < n * 2 := by omega
    have h2 : (i * 2 + 1) % 2 = 1 := by omega
    simp [madeCells, h1, h2]
theorem tnew_bound (w : World) (most : Int) (E : Value) (hE : w.cell? ⟨0, 0, none⟩ = some E) (h : most < 1 ∨ 300 < most) :
    Calls Tryd.prog 12 #[.int .i64 most] w fun e w' => e = .returned (.tuple #[.pointer none, E]) ∧ Only [] w w' := by
  by_cases h1 : most < 1
  · have hd : decide (most < 1) = true := decide_eq_true h1
    go_enter Tryd.func12, Tryd.ntmps12
    go_wp2
    go_region
    go_wp2
    exact bodyPost_ret (v := .tuple #[.pointer none, E]) (by simp [results, Tryd.results12, go_sem]) rfl ⟨rfl, (Only.refl _ _).drew⟩
  · have hd : decide (most < 1) = false := decide_eq_false h1
    have hd2 : decide (300 < most) = true := decide_eq_true (by omega)
    go_enter Tryd.func12, Tryd.ntmps12
    go_wp2
    go_region
    go_wp2
    exact bodyPost_ret (v := .tuple #[.pointer none, E]) (by simp [results, Tryd.results12, go_sem]) rfl ⟨rfl, (Only.refl _ _).drew⟩
set_option maxHeartbeats 1000000 in
theorem tnew (w : World) (most : Nat) (h1 : 1 ≤ most) (h2 : most ≤ 300) :
    Calls Tryd.prog 12 #[.int .i64 most] w fun e w' => ∃ t p, e = .returned (.tuple #[.pointer (some ⟨t, 0, none⟩), .nilIface]) ∧ TabAt w' t p most (fun _ => 0) (fun _ => none) ∧ Only [] w w' ∧ w.heap.size ≤ t ∧ w.heap.size ≤ p := by
  obtain ⟨i0, hi0, hz⟩ := Option.map_eq_some_iff.1 placeInfo
  simp only [Prod.mk.injEq] at hz
  obtain ⟨hz0, hz1, hz2⟩ := hz
  have hd : decide ((most : Int) < 1) = false := decide_eq_false (by omega)
  have hd2 : decide (300 < (most : Int)) = false := decide_eq_false (by omega)
  go_enter Tryd.func12, Tryd.ntmps12
  go_wp2_with (refine wpList_make_full _ rfl _ _ 66 rfl w.heap.size 74 i0 _ 2 placesUnd hi0 hz0 hz1 .i64 .i64 most most most rfl rfl rfl rfl (by rw [hz2]; omega) (by unfold maxLen; omega) (Nat.le_refl _) ?_; intro w1 hown hgr; have HOWN : Hid (w1.ownsRow w.heap.size 74 2 (.slice (some ⟨w.heap.size, 0, none⟩) most most) most (madeCells (Value.agg #[.int .i64 0, .pointer none]).cells (most * 2)).toList) := hown; have HGR : Hid (w.grownBy w1 none) := hgr; clear hown hgr)
  have ho1 : Only [] w w1 := (Only.refl [] w).grown HGR.out (fun k hk => by cases hk)
  have hlt1 := (HOWN.out.lt w.heap.size rfl).2
  refine bodyPost_ret (v := .tuple #[.pointer (some ⟨w1.heap.size, 0, none⟩), .nilIface]) (by simp [results, Tryd.results12, go_sem]) rfl ⟨w1.heap.size, w.heap.size, rfl, ?_, ho1.alloc _, ho1.size, Nat.le_refl _⟩
  have hh := heap_alloc_last w1 (.cells #[.slice (some ⟨w.heap.size, 0, none⟩) most most] 68)
  have hal : Only [] w1 (w1.alloc (.cells #[.slice (some ⟨w.heap.size, 0, none⟩) most most] 68)) := (Only.refl _ _).alloc _
  refine ⟨cell_of_row _ _ 0 _ _ _ hh, fun i hi => ?_, fun i hi => ?_, fun o => ?_, by simp; omega, by omega, (fun i n hi hn => by cases hn), (fun i j n n' _ _ hn => by cases hn), (fun i n _ hn => by cases hn)⟩
  · rw [hal.cell (p := ⟨w.heap.size, i * 2, none⟩) hlt1 (by simp), HOWN.out.cellAt _ (by omega)]
    exact (made_places most i hi).1
  · rw [hal.cell (p := ⟨w.heap.size, i * 2 + 1, none⟩) hlt1 (by simp), HOWN.out.cellAt _ (by omega)]
    exact (made_places most i hi).2
  · rw [hal.frozen (p := ⟨w.heap.size, o, none⟩) hlt1 (by simp)]
    exact HOWN.out.frozenAt o
theorem tadd_shape (w : World) (t : Nat) (K : Int) (E : Value) (hE : w.cell? ⟨1, 0, none⟩ = some E) (hK : K ≠ 1 ∧ K ≠ 2) :
    Calls Tryd.prog 14 #[.pointer (some ⟨t, 0, none⟩), .int .i64 K] w fun e w' => e = .returned (.tuple #[.agg #[.int .i64 0, .int .i64 0], E]) ∧ Only [] w w' := by
  have hEl : 1 < w.heap.size := lt_of_cell hE
  have hd1 : (K != 1) = true := bne_iff_ne.2 hK.1
  have hd2 : (K != 2) = true := bne_iff_ne.2 hK.2
  clear hK
  go_enter Tryd.func14, Tryd.ntmps14
  go_wp2
  go_region
  go_wp2
  have c0 : (w.alloc (.cells #[.int .i64 0, .int .i64 0] 43)).cell? ⟨w.heap.size, 0, none⟩ = some (.int .i64 0) := cell_of_row _ _ 0 _ _ _ (heap_alloc_last w _)
  have c1 : (w.alloc (.cells #[.int .i64 0, .int .i64 0] 43)).cell? ⟨w.heap.size, 1, none⟩ = some (.int .i64 0) := cell_of_row _ _ 1 _ _ _ (heap_alloc_last w _)
  exact bodyPost_ret (v := .tuple #[.agg #[.int .i64 0, .int .i64 0], E]) (by simp [results, Tryd.results14, go_sem, c0, c1]) rfl ⟨rfl, ((Only.refl _ _).alloc _).drew⟩
theorem free_none {most : Nat} {nd : Nat → Option Nod} {r : Int} (hf : ∀ j, j < most → (nd j).isSome = true) (hr : leastFree most nd r) : r = -1 := by
  rcases hr with ⟨h1, _⟩ | ⟨i, _, hi, hn, _⟩
  · exact h1
  · have := hf i hi
    rw [hn] at this
    cases this
theorem own_pair {w w2 : World} {a b : Int} {ty : TypeId} (h : Only [] (w.alloc (.cells #[.int .i64 a, .int .i64 b] ty)) w2) :
    w2.cell? ⟨w.heap.size, 0, none⟩ = some (.int .i64 a) ∧ w2.cell? ⟨w.heap.size, 1, none⟩ = some (.int .i64 b) ∧ (∀ o, w2.frozen? ⟨w.heap.size, o, none⟩ = false) ∧ w.heap.size < w2.heap.size := by
  have hh := heap_alloc_last w (.cells #[.int .i64 a, .int .i64 b] ty)
  have hlt : w.heap.size < (w.alloc (.cells #[.int .i64 a, .int .i64 b] ty)).heap.size := by simp
  refine ⟨(h.cell (p := ⟨w.heap.size, 0, none⟩) hlt (by simp)).trans (cell_of_row _ _ 0 _ _ _ hh), (h.cell (p := ⟨w.heap.size, 1, none⟩) hlt (by simp)).trans (cell_of_row _ _ 1 _ _ _ hh), fun o => ?_, Nat.lt_of_lt_of_le hlt h.size⟩
  rw [h.frozen (p := ⟨w.heap.size, o, none⟩) hlt (by simp)]
  unfold World.frozen?
  rw [hh]
  simp
set_option maxHeartbeats 1000000 in
theorem tadd_full (w : World) (t p most : Nat) (g : Nat → Nat) (nd : Nat → Option Nod) (K : Int) (E : Value) (h : TabAt w t p most g nd) (hm : most ≤ 300) (hE : w.cell? ⟨2, 0, none⟩ = some E) (hK : K = 1 ∨ K = 2) (hf : ∀ j, j < most → (nd j).isSome = true) :
    Calls Tryd.prog 14 #[.pointer (some ⟨t, 0, none⟩), .int .i64 K] w fun e w' => e = .returned (.tuple #[.agg #[.int .i64 0, .int .i64 0], E]) ∧ Only [] w w' := by
  have ct := h.tab
  have htl : t < w.heap.size := lt_of_cell ct
  have hal : Only [] w (w.alloc (.cells #[.int .i64 0, .int .i64 0] 43)) := (Only.refl _ _).alloc _
  have hcall := indexFree _ t p most g nd (h.kept hal (fun _ _ => by simp)) hm
  have HE : Hid (w.cell? ⟨2, 0, none⟩ = some E) := hE
  have hEl : 2 < w.heap.size := lt_of_cell hE
  have HF : Hid (∀ j, j < most → (nd j).isSome = true) := hf
  have HA : Hid (Only [] w (w.alloc (.cells #[.int .i64 0, .int .i64 0] 43))) := hal
  clear h hE hf hal
  rcases hK with rfl | rfl
  all_goals go_enter Tryd.func14, Tryd.ntmps14
  all_goals go_wp2_with (go_at_call 27; go_must (refine hcall.mono ?_); rintro e w2 ⟨⟨r, rfl, hr⟩, ho2⟩; obtain rfl : r = -1 := free_none HF.out hr; clear hr; have HO : Hid (Only [] w w2) := HA.out.trans ho2 (fun _ hk => by cases hk); have cE : w2.cell? ⟨2, 0, none⟩ = some E := (HO.out.cell (p := ⟨2, 0, none⟩) hEl (by simp)).trans HE.out; obtain ⟨c0, c1, f0, hl0⟩ := own_pair ho2)
  all_goals go_region
  all_goals go_wp2
  all_goals exact bodyPost_ret (v := .tuple #[.agg #[.int .i64 0, .int .i64 0], E]) (by simp [results, Tryd.results14, go_sem, c0, c1]) rfl ⟨rfl, ((HO.out.setCell (Or.inr (Nat.le_refl _)) _).setCell (Or.inr (Nat.le_refl _)) _).drew⟩
end Go.Proofs.YtdbfefkddaehmacDoor
