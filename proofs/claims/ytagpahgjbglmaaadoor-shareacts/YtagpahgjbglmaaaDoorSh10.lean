/- Shares: where an owner's open of a node is. -/
import Derived.Test.YtagpahgjbglmaaaDoorSh9
namespace Go.Proofs.YtagpahgjbglmaaaDoor
open Go Go.RowKit Go.Deep

set_option maxHeartbeats 1000000 in
theorem search_none (w : World) (t : Opn) :
    Calls Tryd.prog 46 #[.slice none 0 0, opV t, .func (.func 47) #[] #[]] w fun e w' => e = .returned (.tuple #[.int .i64 0, .bool false]) ∧ Only [] w w' := by
  unfold opV
  go_enter Tryd.func46, Tryd.ntmps46
  go_wp2
  refine wp_loop_rounds 1 ?_
  rw [rounds_succ]
  go_wp2
  go_big_quiet (fail)
  go_wp2
  exact bodyPost_ret (v := .tuple #[.int .i64 0, .bool false]) (by simp [results, Tryd.results46, go_sem]) rfl ⟨rfl, ((Only.refl [] w).alloc _).drewsN _⟩
theorem search_any (w : World) (base : Nat) (v : Value) (l : List Opn) (t : Opn) (h : Opns w base v l) (hl : l.length ≤ 1000) (hs : SortedO l) :
    Calls Tryd.prog 46 #[v, opV t, .func (.func 47) #[] #[]] w fun e w' => ∃ (i : Nat) (f : Bool), e = .returned (.tuple #[.int .i64 i, .bool f]) ∧ SpotO l t i f ∧ Only [] w w' := by
  rcases h.open with ⟨rfl, rfl⟩ | ⟨g, cap, cur, rfl, _⟩
  · exact (search_none w t).mono fun e w' hh => ⟨0, false, hh.1, ⟨Nat.le_refl _, fun q x hq => by omega, fun q x _ hx => (by cases hx), ⟨fun h => (by cases h), fun ⟨x, hx, _⟩ => (by cases hx)⟩⟩, hh.2⟩
  · exact search_walk w base g cap l.length l t h rfl hl hs
set_option maxHeartbeats 1000000 in
theorem find_any (w : World) (base t : Nat) (v : Value) (l : List Opn) (N G O : Int) (h : ShAt w base t v l) (hl : l.length ≤ 1000) (hs : SortedO l) :
    Calls Tryd.prog 28 #[.pointer (some ⟨t, 0, none⟩), .agg #[.int .i64 N, .int .i64 G], .int .i64 O] w fun e w' => ∃ (i : Nat) (f : Bool), e = .returned (.tuple #[.int .i64 i, .bool f]) ∧ SpotO l ⟨N, G, O, 0, 0⟩ i f ∧ Only [] w w' := by
  have HC : Hid (∀ W, Only [] w W → Calls Tryd.prog 46 #[v, .agg #[.int .i64 N, .int .i64 G, .int .i64 O, .int .i64 0, .int .i64 0], .func (.func 47) #[] #[]] W fun e w' => ∃ (i : Nat) (f : Bool), e = .returned (.tuple #[.int .i64 i, .bool f]) ∧ SpotO l ⟨N, G, O, 0, 0⟩ i f ∧ Only [] W w') := fun W ho => search_any W base v l ⟨N, G, O, 0, 0⟩ (h.only ho).own hl hs
  have ct := h.c0
  have htl := lt_of_cell ct
  have HS0 : Hid ((w.alloc (.cells #[.int .i64 N, .int .i64 G] 33)).drew.cell? ⟨t, 0, none⟩ = some v ∧ (w.alloc (.cells #[.int .i64 N, .int .i64 G] 33)).drew.cell? ⟨w.heap.size, 0, none⟩ = some (.int .i64 N) ∧ (w.alloc (.cells #[.int .i64 N, .int .i64 G] 33)).drew.cell? ⟨w.heap.size, 1, none⟩ = some (.int .i64 G)) := by
    have hh := heap_alloc_last w (.cells #[.int .i64 N, .int .i64 G] 33)
    exact ⟨(((Only.refl [] w).alloc _).cell (p := ⟨t, 0, none⟩) htl (by simp)).trans ct, cell_of_row _ _ 0 _ _ _ hh, cell_of_row _ _ 1 _ _ _ hh⟩
  have HW : Hid (Only [] w (w.alloc (.cells #[.int .i64 N, .int .i64 G] 33)).drew) := ((Only.refl [] w).alloc _).drew
  clear h
  go_enter Tryd.func28, Tryd.ntmps28
  go_wp2
  go_region_held3 (fun W => W.cell? ⟨t, 0, none⟩ = some v ∧ W.cell? ⟨w.heap.size, 0, none⟩ = some (.int .i64 N) ∧ W.cell? ⟨w.heap.size, 1, none⟩ = some (.int .i64 G)) (with_reducible first | exact HS0.out | exact HS2.out)
    (first
      | (go_at_call 46; refine (HC.out _ HW.out).mono ?_; rintro e w2 ⟨i, f, rfl, hsp, ho2⟩; have HP : Hid (SpotO l ⟨N, G, O, 0, 0⟩ i f) := hsp; have HO2 : Hid (Only [] (w.alloc (.cells #[.int .i64 N, .int .i64 G] 33)).drew w2) := ho2; have HS2 : Hid (w2.cell? ⟨t, 0, none⟩ = some v ∧ w2.cell? ⟨w.heap.size, 0, none⟩ = some (.int .i64 N) ∧ w2.cell? ⟨w.heap.size, 1, none⟩ = some (.int .i64 G)) := ⟨(ho2.cell (p := ⟨t, 0, none⟩) (lt_of_cell HS0.out.1) (by simp)).trans HS0.out.1, (ho2.cell (p := ⟨w.heap.size, 0, none⟩) (lt_of_cell HS0.out.2.1) (by simp)).trans HS0.out.2.1, (ho2.cell (p := ⟨w.heap.size, 1, none⟩) (lt_of_cell HS0.out.2.2) (by simp)).trans HS0.out.2.2⟩; clear hsp ho2))
  go_wp2
  exact bodyPost_ret (v := .tuple #[.int .i64 i, .bool f]) (by simp [results, Tryd.results28, go_sem]) rfl ⟨i, f, rfl, HP.out, HW.out.trans HO2.out (fun _ hk => by cases hk)⟩
end Go.Proofs.YtagpahgjbglmaaaDoor
