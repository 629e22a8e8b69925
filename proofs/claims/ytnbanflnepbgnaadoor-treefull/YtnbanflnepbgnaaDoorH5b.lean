/- Nodes: a table that is full. -/
import Derived.Test.YtnbanflnepbgnaaDoorH5
import Derived.Deep.RegionHeld3
namespace Go.Proofs.YtnbanflnepbgnaaDoor
open Go Go.RowKit Go.Deep Go.Maps

set_option maxHeartbeats 1000000 in
theorem tadd_full (w : World) (t : Nat) (p : Row) (most : Nat) (g : Nat → Nat) (nd : Nat → Option Nod) (K : Int) (E : Value) (h : TabAt w t p most g nd) (hm : p.N ≤ 1000) (hE : w.cell? ⟨3, 0, none⟩ = some E) (hK : K = 1 ∨ K = 2) (hf : most ≤ countTo nd p.N) :
    Calls Tryd.prog 26 #[.pointer (some ⟨t, 0, none⟩), .int .i64 K] w fun e w' => e = .returned (.tuple #[.agg #[.int .i64 0, .int .i64 0], E]) ∧ Only [] w w' := by
  have ct := h.most
  have htl : t < w.heap.size := lt_of_cell ct
  have hal : Only [] w (w.alloc (.cells #[.int .i64 0, .int .i64 0] 29)).drew := ((Only.refl _ _).alloc _).drew
  have hcall := tcount _ t p most g nd (h.kept hal (fun _ _ => by simp)) hm
  have HE : Hid (w.cell? ⟨3, 0, none⟩ = some E) := hE
  have hEl : 3 < w.heap.size := lt_of_cell hE
  have HA : Hid (Only [] w (w.alloc (.cells #[.int .i64 0, .int .i64 0] 29)).drew) := hal
  have hS0 := (hal.cell (p := ⟨t, 0, none⟩) htl (by simp)).trans ct
  have HCT : Hid (w.cell? ⟨t, 0, none⟩ = some (.int .i64 most)) := ct
  have hle := countTo_le nd p.N
  generalize countTo nd p.N = cn at hcall hf hle
  clear h hE hal ct
  rcases hK with rfl | rfl
  all_goals go_enter Tryd.func26, Tryd.ntmps26
  all_goals go_wp2
  all_goals go_region_held3 (fun W => W.cell? ⟨t, 0, none⟩ = some (.int .i64 most)) (first | exact hS0 | exact hS2)
    (first | (go_at_call 25; refine hcall.mono ?_; rintro e w2 ⟨rfl, ho2⟩; have HO : Hid (Only [] w w2) := HA.out.trans ho2 (fun _ hk => by cases hk); have cE : w2.cell? ⟨3, 0, none⟩ = some E := (HO.out.cell (p := ⟨3, 0, none⟩) hEl (by simp)).trans HE.out; have hS2 := (HO.out.cell (p := ⟨t, 0, none⟩) htl (by simp)).trans HCT.out; obtain ⟨c0, c1, f0, hl0⟩ := own_pair ho2.of_drew))
  all_goals go_wp2
  all_goals go_region
  all_goals go_wp2
  all_goals exact bodyPost_ret (v := .tuple #[.agg #[.int .i64 0, .int .i64 0], E]) (by simp [results, Tryd.results26, go_sem, c0, c1]) rfl ⟨rfl, ((HO.out.setCell (Or.inr (Nat.le_refl _)) _).setCell (Or.inr (Nat.le_refl _)) _).drew⟩
end Go.Proofs.YtnbanflnepbgnaaDoor
