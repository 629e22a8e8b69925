/- Nodes: New, Add. -/
import Derived.Test.YtnbanflnepbgnaaDoorH4
import Derived.OwnWalk
import Derived.Deep.RegionWith
namespace Go.Proofs.YtnbanflnepbgnaaDoor
open Go Go.RowKit Go.Deep Go.Maps

theorem placeInfo : (Tryd.prog.info? 84).map (fun i => (i.zero, i.size, i.bytes)) = some (some (.agg #[.int .i64 0, .pointer none]), 2, 16) := by kernel_rfl
theorem placesUnd : Tryd.prog.underlying 62 = some (.slice 84) := by kernel_rfl
theorem tnew_bound (w : World) (most : Int) (E : Value) (hE : w.cell? ⟨4, 0, none⟩ = some E) (h : most < 1 ∨ 300 < most) :
    Calls Tryd.prog 13 #[.int .i64 most] w fun e w' => e = .returned (.tuple #[.pointer none, E]) ∧ Only [] w w' := by
  by_cases h1 : most < 1
  · have hd : decide (most < 1) = true := decide_eq_true h1
    go_enter Tryd.func13, Tryd.ntmps13
    go_wp2
    go_region
    go_wp2
    exact bodyPost_ret (v := .tuple #[.pointer none, E]) (by simp [results, Tryd.results13, go_sem]) rfl ⟨rfl, (Only.refl _ _).drew⟩
  · have hd : decide (most < 1) = false := decide_eq_false h1
    have hd2 : decide (300 < most) = true := decide_eq_true (by omega)
    go_enter Tryd.func13, Tryd.ntmps13
    go_wp2
    go_region
    go_wp2
    exact bodyPost_ret (v := .tuple #[.pointer none, E]) (by simp [results, Tryd.results13, go_sem]) rfl ⟨rfl, (Only.refl _ _).drew⟩
/-- Where no number was given yet. -/
def noRow : Row := ⟨none, 0, 0⟩
theorem tnew (w : World) (most : Nat) (h1 : 1 ≤ most) (h2 : most ≤ 300) :
    Calls Tryd.prog 13 #[.int .i64 most] w fun e w' => ∃ t, e = .returned (.tuple #[.pointer (some ⟨t, 0, none⟩), .nilIface]) ∧ TabAt w' t noRow most (fun _ => 0) (fun _ => none) ∧ Only [] w w' ∧ w.heap.size ≤ t := by
  have hd : decide ((most : Int) < 1) = false := decide_eq_false (by omega)
  have hd2 : decide (300 < (most : Int)) = false := decide_eq_false (by omega)
  go_enter Tryd.func13, Tryd.ntmps13
  go_wp2
  refine bodyPost_ret (v := .tuple #[.pointer (some ⟨w.heap.size, 0, none⟩), .nilIface]) (by simp [results, Tryd.results13, go_sem]) rfl ⟨w.heap.size, rfl, ?_, (Only.refl _ _).alloc _, Nat.le_refl _⟩
  have hh := heap_alloc_last w (.cells #[.int .i64 (most : Nat), .slice none 0 0] 64)
  refine ⟨cell_of_row _ _ 0 _ _ _ hh, cell_of_row _ _ 1 _ _ _ hh, fun o => frozen_of_row _ _ _ _ _ hh, World.ownsRow_nil _ _ _ _, fun _ _ => ⟨rfl, rfl⟩, by simp [noRow], (fun i n hn => by cases hn), (fun i j n n' hn => by cases hn), (fun i n hn => by cases hn)⟩
theorem tadd_shape (w : World) (t : Nat) (K : Int) (E : Value) (hE : w.cell? ⟨0, 0, none⟩ = some E) (hK : K ≠ 1 ∧ K ≠ 2) :
    Calls Tryd.prog 26 #[.pointer (some ⟨t, 0, none⟩), .int .i64 K] w fun e w' => e = .returned (.tuple #[.agg #[.int .i64 0, .int .i64 0], E]) ∧ Only [] w w' := by
  have hEl : 0 < w.heap.size := lt_of_cell hE
  have hd1 : (K != 1) = true := bne_iff_ne.2 hK.1
  have hd2 : (K != 2) = true := bne_iff_ne.2 hK.2
  clear hK
  go_enter Tryd.func26, Tryd.ntmps26
  go_wp2
  go_region
  go_wp2
  have c0 : (w.alloc (.cells #[.int .i64 0, .int .i64 0] 29)).cell? ⟨w.heap.size, 0, none⟩ = some (.int .i64 0) := cell_of_row _ _ 0 _ _ _ (heap_alloc_last w _)
  have c1 : (w.alloc (.cells #[.int .i64 0, .int .i64 0] 29)).cell? ⟨w.heap.size, 1, none⟩ = some (.int .i64 0) := cell_of_row _ _ 1 _ _ _ (heap_alloc_last w _)
  exact bodyPost_ret (v := .tuple #[.agg #[.int .i64 0, .int .i64 0], E]) (by simp [results, Tryd.results26, go_sem, c0, c1]) rfl ⟨rfl, ((Only.refl _ _).alloc _).drew⟩
theorem own_pair {w w2 : World} {a b : Int} {ty : TypeId} (h : Only [] (w.alloc (.cells #[.int .i64 a, .int .i64 b] ty)) w2) :
    w2.cell? ⟨w.heap.size, 0, none⟩ = some (.int .i64 a) ∧ w2.cell? ⟨w.heap.size, 1, none⟩ = some (.int .i64 b) ∧ (∀ o, w2.frozen? ⟨w.heap.size, o, none⟩ = false) ∧ w.heap.size < w2.heap.size := by
  have hh := heap_alloc_last w (.cells #[.int .i64 a, .int .i64 b] ty)
  have hlt : w.heap.size < (w.alloc (.cells #[.int .i64 a, .int .i64 b] ty)).heap.size := by simp
  refine ⟨(h.cell (p := ⟨w.heap.size, 0, none⟩) hlt (by simp)).trans (cell_of_row _ _ 0 _ _ _ hh), (h.cell (p := ⟨w.heap.size, 1, none⟩) hlt (by simp)).trans (cell_of_row _ _ 1 _ _ _ hh), fun o => ?_, Nat.lt_of_lt_of_le hlt h.size⟩
  rw [h.frozen (p := ⟨w.heap.size, o, none⟩) hlt (by simp)]
  unfold World.frozen?
  rw [hh]
  simp
theorem Only.of_drew {L : List Nat} {w w' : World} (h : Only L w.drew w') : Only L w w' := ⟨h.os, h.tape, h.output, h.size, h.block⟩
end Go.Proofs.YtnbanflnepbgnaaDoor
