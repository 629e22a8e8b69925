/- The tree: is a handle a directory's? -/
import Derived.Test.YtnbanflnepbgnaaDoorU9
namespace Go.Proofs.YtnbanflnepbgnaaDoor
open Go Go.RowKit Go.Deep Go.Maps

theorem keepZ_only {w W : World} {tr t B : Nat} {N G : Int} (h : w.cell? ⟨tr, 0, none⟩ = some (.pointer (some ⟨t, 0, none⟩)) ∧ w.cell? ⟨B, 0, none⟩ = some (.int .i64 N) ∧ w.cell? ⟨B, 1, none⟩ = some (.int .i64 G)) (ho : Only [] w W) : W.cell? ⟨tr, 0, none⟩ = some (.pointer (some ⟨t, 0, none⟩)) ∧ W.cell? ⟨B, 0, none⟩ = some (.int .i64 N) ∧ W.cell? ⟨B, 1, none⟩ = some (.int .i64 G) :=
  ⟨(ho.cell (p := ⟨tr, 0, none⟩) (lt_of_cell h.1) (by simp)).trans h.1, (ho.cell (p := ⟨B, 0, none⟩) (lt_of_cell h.2.1) (by simp)).trans h.2.1, (ho.cell (p := ⟨B, 1, none⟩) (lt_of_cell h.2.2) (by simp)).trans h.2.2⟩
theorem keepZ_alloc {W : World} {tr t B : Nat} {N G : Int} {o : Obj} (h : W.cell? ⟨tr, 0, none⟩ = some (.pointer (some ⟨t, 0, none⟩)) ∧ W.cell? ⟨B, 0, none⟩ = some (.int .i64 N) ∧ W.cell? ⟨B, 1, none⟩ = some (.int .i64 G)) : (W.alloc o).cell? ⟨tr, 0, none⟩ = some (.pointer (some ⟨t, 0, none⟩)) ∧ (W.alloc o).cell? ⟨B, 0, none⟩ = some (.int .i64 N) ∧ (W.alloc o).cell? ⟨B, 1, none⟩ = some (.int .i64 G) := keepZ_only h ((Only.refl [] W).alloc _)
theorem keepZ_set {W : World} {tr t B blk o : Nat} {N G : Int} {u : Value} (h : W.cell? ⟨tr, 0, none⟩ = some (.pointer (some ⟨t, 0, none⟩)) ∧ W.cell? ⟨B, 0, none⟩ = some (.int .i64 N) ∧ W.cell? ⟨B, 1, none⟩ = some (.int .i64 G)) (h1 : tr ≠ blk) (h2 : B ≠ blk) : (W.setCell ⟨blk, o, none⟩ u).cell? ⟨tr, 0, none⟩ = some (.pointer (some ⟨t, 0, none⟩)) ∧ (W.setCell ⟨blk, o, none⟩ u).cell? ⟨B, 0, none⟩ = some (.int .i64 N) ∧ (W.setCell ⟨blk, o, none⟩ u).cell? ⟨B, 1, none⟩ = some (.int .i64 G) := by
  have ho : Only [blk] W (W.setCell ⟨blk, o, none⟩ u) := (Only.refl [blk] W).setCell (Or.inl (by simp)) _
  exact ⟨(ho.cell (p := ⟨tr, 0, none⟩) (lt_of_cell h.1) (by simpa using h1)).trans h.1, (ho.cell (p := ⟨B, 0, none⟩) (lt_of_cell h.2.1) (by simpa using h2)).trans h.2.1, (ho.cell (p := ⟨B, 1, none⟩) (lt_of_cell h.2.2) (by simpa using h2)).trans h.2.2⟩
section
variable (w : World) (tr t : Nat) (N G K Z L C UN UG : Int)
set_option maxHeartbeats 1000000 in
theorem checkDir_yes (ct : w.cell? ⟨tr, 0, none⟩ = some (.pointer (some ⟨t, 0, none⟩)))
    (HC0 : ∀ w1, Only [] w w1 → Calls Tryd.prog 24 #[.pointer (some ⟨t, 0, none⟩), .agg #[.int .i64 N, .int .i64 G]] w1 fun e w' => e = .returned (.tuple #[.agg #[.int .i64 2, .int .i64 Z, .int .i64 L, .int .i64 C, .int .i64 UN, .int .i64 UG], .nilIface]) ∧ Only [] w1 w') :
    Calls Tryd.prog 17 #[.pointer (some ⟨tr, 0, none⟩), .agg #[.int .i64 N, .int .i64 G]] w fun e w' => e = .returned .nilIface ∧ Only [] w w' := by
    have htl : tr < w.heap.size := lt_of_cell ct
    have H1 : Hid ((w.alloc (.cells #[.int .i64 N, .int .i64 G] 29)).cell? ⟨tr, 0, none⟩ = some (.pointer (some ⟨t, 0, none⟩)) ∧ (w.alloc (.cells #[.int .i64 N, .int .i64 G] 29)).cell? ⟨w.heap.size, 0, none⟩ = some (.int .i64 N) ∧ (w.alloc (.cells #[.int .i64 N, .int .i64 G] 29)).cell? ⟨w.heap.size, 1, none⟩ = some (.int .i64 G)) := by
      have hh := heap_alloc_last w (.cells #[.int .i64 N, .int .i64 G] 29)
      exact ⟨(((Only.refl [] w).alloc _).cell (p := ⟨tr, 0, none⟩) (lt_of_cell ct) (by simp)).trans ct, cell_of_row _ _ 0 _ _ _ hh, cell_of_row _ _ 1 _ _ _ hh⟩
    have HW1 : Hid (Only [] (w.alloc (.cells #[.int .i64 N, .int .i64 G] 29)) (w.alloc (.cells #[.int .i64 N, .int .i64 G] 29)).drew) := (Only.refl [] _).drew
    have HW2 : Hid (Only [] (w.alloc (.cells #[.int .i64 N, .int .i64 G] 29)) ((w.alloc (.cells #[.int .i64 N, .int .i64 G] 29)).alloc (.cells #[.int .i64 0, .int .i64 0, .int .i64 0, .int .i64 0, .int .i64 0, .int .i64 0] 59)).drew) := ((Only.refl [] _).alloc _).drew
    have HV1 : Hid (Only [] w (w.alloc (.cells #[.int .i64 N, .int .i64 G] 29)).drew) := ((Only.refl [] _).alloc _).drew
    have HV2 : Hid (Only [] w ((w.alloc (.cells #[.int .i64 N, .int .i64 G] 29)).alloc (.cells #[.int .i64 0, .int .i64 0, .int .i64 0, .int .i64 0, .int .i64 0, .int .i64 0] 59)).drew) := (((Only.refl [] _).alloc _).alloc _).drew
    have K1 : Hid ((w.alloc (.cells #[.int .i64 N, .int .i64 G] 29)).drew.cell? ⟨tr, 0, none⟩ = some (.pointer (some ⟨t, 0, none⟩)) ∧ (w.alloc (.cells #[.int .i64 N, .int .i64 G] 29)).drew.cell? ⟨w.heap.size, 0, none⟩ = some (.int .i64 N) ∧ (w.alloc (.cells #[.int .i64 N, .int .i64 G] 29)).drew.cell? ⟨w.heap.size, 1, none⟩ = some (.int .i64 G)) := keepZ_only H1.out HW1.out
    have K2 : Hid (((w.alloc (.cells #[.int .i64 N, .int .i64 G] 29)).alloc (.cells #[.int .i64 0, .int .i64 0, .int .i64 0, .int .i64 0, .int .i64 0, .int .i64 0] 59)).drew.cell? ⟨tr, 0, none⟩ = some (.pointer (some ⟨t, 0, none⟩)) ∧ ((w.alloc (.cells #[.int .i64 N, .int .i64 G] 29)).alloc (.cells #[.int .i64 0, .int .i64 0, .int .i64 0, .int .i64 0, .int .i64 0, .int .i64 0] 59)).drew.cell? ⟨w.heap.size, 0, none⟩ = some (.int .i64 N) ∧ ((w.alloc (.cells #[.int .i64 N, .int .i64 G] 29)).alloc (.cells #[.int .i64 0, .int .i64 0, .int .i64 0, .int .i64 0, .int .i64 0, .int .i64 0] 59)).drew.cell? ⟨w.heap.size, 1, none⟩ = some (.int .i64 G)) := keepZ_only H1.out HW2.out
    have HN2 : Hid (tr ≠ w.heap.size + 1) := show tr ≠ w.heap.size + 1 from by omega
    have HB2 : Hid (w.heap.size ≠ w.heap.size + 1) := show w.heap.size ≠ w.heap.size + 1 from by omega
    have HC : Hid (∀ w1, Only [] w w1 → Calls Tryd.prog 24 #[.pointer (some ⟨t, 0, none⟩), .agg #[.int .i64 N, .int .i64 G]] w1 fun e w' => e = .returned (.tuple #[.agg #[.int .i64 2, .int .i64 Z, .int .i64 L, .int .i64 C, .int .i64 UN, .int .i64 UG], .nilIface]) ∧ Only [] w1 w') := HC0
    clear HC0
    go_enter Tryd.func17, Tryd.ntmps17
    go_wp2
    go_region_held3 (fun W => W.cell? ⟨tr, 0, none⟩ = some (.pointer (some ⟨t, 0, none⟩)) ∧ W.cell? ⟨w.heap.size, 0, none⟩ = some (.int .i64 N) ∧ W.cell? ⟨w.heap.size, 1, none⟩ = some (.int .i64 G))
      (with_reducible first
        | exact K1.out
        | exact K2.out
        | exact HS2.out
        | exact keepZ_alloc HS2.out
        | exact keepZ_set (keepZ_set (keepZ_set (keepZ_set (keepZ_set (keepZ_set (HS2.out) HN2.out HB2.out) HN2.out HB2.out) HN2.out HB2.out) HN2.out HB2.out) HN2.out HB2.out) HN2.out HB2.out)
      (first
        | (go_at_call 24; refine (HC.out _ HV1.out).mono ?_; rintro e w2 ⟨rfl, ho2⟩; have HO2 : Hid (Only [] (w.alloc (.cells #[.int .i64 N, .int .i64 G] 29)) w2) := HW1.out.trans ho2 (fun _ hk => by cases hk); have HS2 : Hid (w2.cell? ⟨tr, 0, none⟩ = some (.pointer (some ⟨t, 0, none⟩)) ∧ w2.cell? ⟨w.heap.size, 0, none⟩ = some (.int .i64 N) ∧ w2.cell? ⟨w.heap.size, 1, none⟩ = some (.int .i64 G)) := keepZ_only H1.out HO2.out; clear ho2)
        | (go_at_call 24; refine (HC.out _ HV2.out).mono ?_; rintro e w2 ⟨rfl, ho2⟩; have HO2 : Hid (Only [] (w.alloc (.cells #[.int .i64 N, .int .i64 G] 29)) w2) := HW2.out.trans ho2 (fun _ hk => by cases hk); have HS2 : Hid (w2.cell? ⟨tr, 0, none⟩ = some (.pointer (some ⟨t, 0, none⟩)) ∧ w2.cell? ⟨w.heap.size, 0, none⟩ = some (.int .i64 N) ∧ w2.cell? ⟨w.heap.size, 1, none⟩ = some (.int .i64 G)) := keepZ_only H1.out HO2.out; obtain ⟨q0, q1, q2, q3, q4, q5, f1, hl1⟩ := own_six_drew (B := w.heap.size + 1) ho2 (by simp); clear ho2))
    all_goals have HO : Hid (Only [] w w2) := ((Only.refl [] w).alloc _).trans HO2.out (fun _ hk => by cases hk)
    all_goals have hsz : w.heap.size + 1 ≤ w2.heap.size := by have := HO2.out.size; simpa using this
    all_goals go_wp2
    all_goals go_ret
    all_goals have hle : w.heap.size ≤ w.heap.size + 1 := Nat.le_succ _
    · exact ⟨rfl, HO.out.alloc _⟩
    · exact ⟨rfl, HO.out.six hle⟩

set_option maxHeartbeats 1000000 in
theorem checkDir_file (E : Value) (hE : w.cell? ⟨5, 0, none⟩ = some E) (ct : w.cell? ⟨tr, 0, none⟩ = some (.pointer (some ⟨t, 0, none⟩)))
    (HC0 : ∀ w1, Only [] w w1 → Calls Tryd.prog 24 #[.pointer (some ⟨t, 0, none⟩), .agg #[.int .i64 N, .int .i64 G]] w1 fun e w' => e = .returned (.tuple #[.agg #[.int .i64 1, .int .i64 Z, .int .i64 L, .int .i64 C, .int .i64 UN, .int .i64 UG], .nilIface]) ∧ Only [] w1 w') :
    Calls Tryd.prog 17 #[.pointer (some ⟨tr, 0, none⟩), .agg #[.int .i64 N, .int .i64 G]] w fun e w' => e = .returned E ∧ Only [] w w' := by
    have htl : tr < w.heap.size := lt_of_cell ct
    have hEl : 5 < w.heap.size := lt_of_cell hE
    have HE : Hid (w.cell? ⟨5, 0, none⟩ = some E) := hE
    clear hE
    have H1 : Hid ((w.alloc (.cells #[.int .i64 N, .int .i64 G] 29)).cell? ⟨tr, 0, none⟩ = some (.pointer (some ⟨t, 0, none⟩)) ∧ (w.alloc (.cells #[.int .i64 N, .int .i64 G] 29)).cell? ⟨w.heap.size, 0, none⟩ = some (.int .i64 N) ∧ (w.alloc (.cells #[.int .i64 N, .int .i64 G] 29)).cell? ⟨w.heap.size, 1, none⟩ = some (.int .i64 G)) := by
      have hh := heap_alloc_last w (.cells #[.int .i64 N, .int .i64 G] 29)
      exact ⟨(((Only.refl [] w).alloc _).cell (p := ⟨tr, 0, none⟩) (lt_of_cell ct) (by simp)).trans ct, cell_of_row _ _ 0 _ _ _ hh, cell_of_row _ _ 1 _ _ _ hh⟩
    have HW1 : Hid (Only [] (w.alloc (.cells #[.int .i64 N, .int .i64 G] 29)) (w.alloc (.cells #[.int .i64 N, .int .i64 G] 29)).drew) := (Only.refl [] _).drew
    have HW2 : Hid (Only [] (w.alloc (.cells #[.int .i64 N, .int .i64 G] 29)) ((w.alloc (.cells #[.int .i64 N, .int .i64 G] 29)).alloc (.cells #[.int .i64 0, .int .i64 0, .int .i64 0, .int .i64 0, .int .i64 0, .int .i64 0] 59)).drew) := ((Only.refl [] _).alloc _).drew
    have HV1 : Hid (Only [] w (w.alloc (.cells #[.int .i64 N, .int .i64 G] 29)).drew) := ((Only.refl [] _).alloc _).drew
    have HV2 : Hid (Only [] w ((w.alloc (.cells #[.int .i64 N, .int .i64 G] 29)).alloc (.cells #[.int .i64 0, .int .i64 0, .int .i64 0, .int .i64 0, .int .i64 0, .int .i64 0] 59)).drew) := (((Only.refl [] _).alloc _).alloc _).drew
    have K1 : Hid ((w.alloc (.cells #[.int .i64 N, .int .i64 G] 29)).drew.cell? ⟨tr, 0, none⟩ = some (.pointer (some ⟨t, 0, none⟩)) ∧ (w.alloc (.cells #[.int .i64 N, .int .i64 G] 29)).drew.cell? ⟨w.heap.size, 0, none⟩ = some (.int .i64 N) ∧ (w.alloc (.cells #[.int .i64 N, .int .i64 G] 29)).drew.cell? ⟨w.heap.size, 1, none⟩ = some (.int .i64 G)) := keepZ_only H1.out HW1.out
    have K2 : Hid (((w.alloc (.cells #[.int .i64 N, .int .i64 G] 29)).alloc (.cells #[.int .i64 0, .int .i64 0, .int .i64 0, .int .i64 0, .int .i64 0, .int .i64 0] 59)).drew.cell? ⟨tr, 0, none⟩ = some (.pointer (some ⟨t, 0, none⟩)) ∧ ((w.alloc (.cells #[.int .i64 N, .int .i64 G] 29)).alloc (.cells #[.int .i64 0, .int .i64 0, .int .i64 0, .int .i64 0, .int .i64 0, .int .i64 0] 59)).drew.cell? ⟨w.heap.size, 0, none⟩ = some (.int .i64 N) ∧ ((w.alloc (.cells #[.int .i64 N, .int .i64 G] 29)).alloc (.cells #[.int .i64 0, .int .i64 0, .int .i64 0, .int .i64 0, .int .i64 0, .int .i64 0] 59)).drew.cell? ⟨w.heap.size, 1, none⟩ = some (.int .i64 G)) := keepZ_only H1.out HW2.out
    have HN2 : Hid (tr ≠ w.heap.size + 1) := show tr ≠ w.heap.size + 1 from by omega
    have HB2 : Hid (w.heap.size ≠ w.heap.size + 1) := show w.heap.size ≠ w.heap.size + 1 from by omega
    have HC : Hid (∀ w1, Only [] w w1 → Calls Tryd.prog 24 #[.pointer (some ⟨t, 0, none⟩), .agg #[.int .i64 N, .int .i64 G]] w1 fun e w' => e = .returned (.tuple #[.agg #[.int .i64 1, .int .i64 Z, .int .i64 L, .int .i64 C, .int .i64 UN, .int .i64 UG], .nilIface]) ∧ Only [] w1 w') := HC0
    clear HC0
    go_enter Tryd.func17, Tryd.ntmps17
    go_wp2
    go_region_held3 (fun W => W.cell? ⟨tr, 0, none⟩ = some (.pointer (some ⟨t, 0, none⟩)) ∧ W.cell? ⟨w.heap.size, 0, none⟩ = some (.int .i64 N) ∧ W.cell? ⟨w.heap.size, 1, none⟩ = some (.int .i64 G))
      (with_reducible first
        | exact K1.out
        | exact K2.out
        | exact HS2.out
        | exact keepZ_alloc HS2.out
        | exact keepZ_set (keepZ_set (keepZ_set (keepZ_set (keepZ_set (keepZ_set (HS2.out) HN2.out HB2.out) HN2.out HB2.out) HN2.out HB2.out) HN2.out HB2.out) HN2.out HB2.out) HN2.out HB2.out)
      (first
        | (go_at_call 24; refine (HC.out _ HV1.out).mono ?_; rintro e w2 ⟨rfl, ho2⟩; have HO2 : Hid (Only [] (w.alloc (.cells #[.int .i64 N, .int .i64 G] 29)) w2) := HW1.out.trans ho2 (fun _ hk => by cases hk); have HS2 : Hid (w2.cell? ⟨tr, 0, none⟩ = some (.pointer (some ⟨t, 0, none⟩)) ∧ w2.cell? ⟨w.heap.size, 0, none⟩ = some (.int .i64 N) ∧ w2.cell? ⟨w.heap.size, 1, none⟩ = some (.int .i64 G)) := keepZ_only H1.out HO2.out; clear ho2)
        | (go_at_call 24; refine (HC.out _ HV2.out).mono ?_; rintro e w2 ⟨rfl, ho2⟩; have HO2 : Hid (Only [] (w.alloc (.cells #[.int .i64 N, .int .i64 G] 29)) w2) := HW2.out.trans ho2 (fun _ hk => by cases hk); have HS2 : Hid (w2.cell? ⟨tr, 0, none⟩ = some (.pointer (some ⟨t, 0, none⟩)) ∧ w2.cell? ⟨w.heap.size, 0, none⟩ = some (.int .i64 N) ∧ w2.cell? ⟨w.heap.size, 1, none⟩ = some (.int .i64 G)) := keepZ_only H1.out HO2.out; obtain ⟨q0, q1, q2, q3, q4, q5, f1, hl1⟩ := own_six_drew (B := w.heap.size + 1) ho2 (by simp); clear ho2))
    all_goals have HO : Hid (Only [] w w2) := ((Only.refl [] w).alloc _).trans HO2.out (fun _ hk => by cases hk)
    all_goals have hsz : w.heap.size + 1 ≤ w2.heap.size := by have := HO2.out.size; simpa using this
    all_goals have cE : w2.cell? ⟨5, 0, none⟩ = some E := (HO.out.cell (p := ⟨5, 0, none⟩) hEl (by simp)).trans HE.out
    all_goals have hel : 5 < w2.heap.size := lt_of_cell cE
    all_goals go_wp2
    all_goals go_ret
    all_goals have hle : w.heap.size ≤ w.heap.size + 1 := Nat.le_succ _
    · exact ⟨rfl, HO.out.alloc _⟩
    · exact ⟨rfl, HO.out.six hle⟩

set_option maxHeartbeats 1000000 in
theorem checkDir_stale (ad : Addr) (ct : w.cell? ⟨tr, 0, none⟩ = some (.pointer (some ⟨t, 0, none⟩)))
    (HC0 : ∀ w1, Only [] w w1 → Calls Tryd.prog 24 #[.pointer (some ⟨t, 0, none⟩), .agg #[.int .i64 N, .int .i64 G]] w1 fun e w' => e = .returned (.tuple #[.agg #[.int .i64 K, .int .i64 Z, .int .i64 L, .int .i64 C, .int .i64 UN, .int .i64 UG], .iface 123 (.pointer (some ad))]) ∧ Only [] w1 w') :
    Calls Tryd.prog 17 #[.pointer (some ⟨tr, 0, none⟩), .agg #[.int .i64 N, .int .i64 G]] w fun e w' => e = .returned (.iface 123 (.pointer (some ad))) ∧ Only [] w w' := by
    have htl : tr < w.heap.size := lt_of_cell ct
    have H1 : Hid ((w.alloc (.cells #[.int .i64 N, .int .i64 G] 29)).cell? ⟨tr, 0, none⟩ = some (.pointer (some ⟨t, 0, none⟩)) ∧ (w.alloc (.cells #[.int .i64 N, .int .i64 G] 29)).cell? ⟨w.heap.size, 0, none⟩ = some (.int .i64 N) ∧ (w.alloc (.cells #[.int .i64 N, .int .i64 G] 29)).cell? ⟨w.heap.size, 1, none⟩ = some (.int .i64 G)) := by
      have hh := heap_alloc_last w (.cells #[.int .i64 N, .int .i64 G] 29)
      exact ⟨(((Only.refl [] w).alloc _).cell (p := ⟨tr, 0, none⟩) (lt_of_cell ct) (by simp)).trans ct, cell_of_row _ _ 0 _ _ _ hh, cell_of_row _ _ 1 _ _ _ hh⟩
    have HW1 : Hid (Only [] (w.alloc (.cells #[.int .i64 N, .int .i64 G] 29)) (w.alloc (.cells #[.int .i64 N, .int .i64 G] 29)).drew) := (Only.refl [] _).drew
    have HW2 : Hid (Only [] (w.alloc (.cells #[.int .i64 N, .int .i64 G] 29)) ((w.alloc (.cells #[.int .i64 N, .int .i64 G] 29)).alloc (.cells #[.int .i64 0, .int .i64 0, .int .i64 0, .int .i64 0, .int .i64 0, .int .i64 0] 59)).drew) := ((Only.refl [] _).alloc _).drew
    have HV1 : Hid (Only [] w (w.alloc (.cells #[.int .i64 N, .int .i64 G] 29)).drew) := ((Only.refl [] _).alloc _).drew
    have HV2 : Hid (Only [] w ((w.alloc (.cells #[.int .i64 N, .int .i64 G] 29)).alloc (.cells #[.int .i64 0, .int .i64 0, .int .i64 0, .int .i64 0, .int .i64 0, .int .i64 0] 59)).drew) := (((Only.refl [] _).alloc _).alloc _).drew
    have K1 : Hid ((w.alloc (.cells #[.int .i64 N, .int .i64 G] 29)).drew.cell? ⟨tr, 0, none⟩ = some (.pointer (some ⟨t, 0, none⟩)) ∧ (w.alloc (.cells #[.int .i64 N, .int .i64 G] 29)).drew.cell? ⟨w.heap.size, 0, none⟩ = some (.int .i64 N) ∧ (w.alloc (.cells #[.int .i64 N, .int .i64 G] 29)).drew.cell? ⟨w.heap.size, 1, none⟩ = some (.int .i64 G)) := keepZ_only H1.out HW1.out
    have K2 : Hid (((w.alloc (.cells #[.int .i64 N, .int .i64 G] 29)).alloc (.cells #[.int .i64 0, .int .i64 0, .int .i64 0, .int .i64 0, .int .i64 0, .int .i64 0] 59)).drew.cell? ⟨tr, 0, none⟩ = some (.pointer (some ⟨t, 0, none⟩)) ∧ ((w.alloc (.cells #[.int .i64 N, .int .i64 G] 29)).alloc (.cells #[.int .i64 0, .int .i64 0, .int .i64 0, .int .i64 0, .int .i64 0, .int .i64 0] 59)).drew.cell? ⟨w.heap.size, 0, none⟩ = some (.int .i64 N) ∧ ((w.alloc (.cells #[.int .i64 N, .int .i64 G] 29)).alloc (.cells #[.int .i64 0, .int .i64 0, .int .i64 0, .int .i64 0, .int .i64 0, .int .i64 0] 59)).drew.cell? ⟨w.heap.size, 1, none⟩ = some (.int .i64 G)) := keepZ_only H1.out HW2.out
    have HN2 : Hid (tr ≠ w.heap.size + 1) := show tr ≠ w.heap.size + 1 from by omega
    have HB2 : Hid (w.heap.size ≠ w.heap.size + 1) := show w.heap.size ≠ w.heap.size + 1 from by omega
    have HC : Hid (∀ w1, Only [] w w1 → Calls Tryd.prog 24 #[.pointer (some ⟨t, 0, none⟩), .agg #[.int .i64 N, .int .i64 G]] w1 fun e w' => e = .returned (.tuple #[.agg #[.int .i64 K, .int .i64 Z, .int .i64 L, .int .i64 C, .int .i64 UN, .int .i64 UG], .iface 123 (.pointer (some ad))]) ∧ Only [] w1 w') := HC0
    clear HC0
    go_enter Tryd.func17, Tryd.ntmps17
    go_wp2
    go_region_held3 (fun W => W.cell? ⟨tr, 0, none⟩ = some (.pointer (some ⟨t, 0, none⟩)) ∧ W.cell? ⟨w.heap.size, 0, none⟩ = some (.int .i64 N) ∧ W.cell? ⟨w.heap.size, 1, none⟩ = some (.int .i64 G))
      (with_reducible first
        | exact K1.out
        | exact K2.out
        | exact HS2.out
        | exact keepZ_alloc HS2.out
        | exact keepZ_set (keepZ_set (keepZ_set (keepZ_set (keepZ_set (keepZ_set (HS2.out) HN2.out HB2.out) HN2.out HB2.out) HN2.out HB2.out) HN2.out HB2.out) HN2.out HB2.out) HN2.out HB2.out)
      (first
        | (go_at_call 24; refine (HC.out _ HV1.out).mono ?_; rintro e w2 ⟨rfl, ho2⟩; have HO2 : Hid (Only [] (w.alloc (.cells #[.int .i64 N, .int .i64 G] 29)) w2) := HW1.out.trans ho2 (fun _ hk => by cases hk); have HS2 : Hid (w2.cell? ⟨tr, 0, none⟩ = some (.pointer (some ⟨t, 0, none⟩)) ∧ w2.cell? ⟨w.heap.size, 0, none⟩ = some (.int .i64 N) ∧ w2.cell? ⟨w.heap.size, 1, none⟩ = some (.int .i64 G)) := keepZ_only H1.out HO2.out; clear ho2)
        | (go_at_call 24; refine (HC.out _ HV2.out).mono ?_; rintro e w2 ⟨rfl, ho2⟩; have HO2 : Hid (Only [] (w.alloc (.cells #[.int .i64 N, .int .i64 G] 29)) w2) := HW2.out.trans ho2 (fun _ hk => by cases hk); have HS2 : Hid (w2.cell? ⟨tr, 0, none⟩ = some (.pointer (some ⟨t, 0, none⟩)) ∧ w2.cell? ⟨w.heap.size, 0, none⟩ = some (.int .i64 N) ∧ w2.cell? ⟨w.heap.size, 1, none⟩ = some (.int .i64 G)) := keepZ_only H1.out HO2.out; obtain ⟨q0, q1, q2, q3, q4, q5, f1, hl1⟩ := own_six_drew (B := w.heap.size + 1) ho2 (by simp); clear ho2))
    all_goals have HO : Hid (Only [] w w2) := ((Only.refl [] w).alloc _).trans HO2.out (fun _ hk => by cases hk)
    all_goals have hsz : w.heap.size + 1 ≤ w2.heap.size := by have := HO2.out.size; simpa using this
    all_goals go_wp2
    all_goals go_ret
    all_goals have hle : w.heap.size ≤ w.heap.size + 1 := Nat.le_succ _
    · exact ⟨rfl, HO.out.alloc _⟩
    · exact ⟨rfl, HO.out.six hle⟩

end
end Go.Proofs.YtnbanflnepbgnaaDoor
