/- Locks: ranges: two joined; what is left of one. -/
import Derived.Test.YtfnniphemlnanaaDoorLk2
namespace Go.Proofs.YtfnniphemlnanaaDoor
open Go Go.RowKit Go.Deep

theorem Four.only {w W : World} {B C0 : Nat} {A S C T : Int} (h : w.cell? ⟨B, 0, none⟩ = some (.int .i64 A) ∧ w.cell? ⟨B, 1, none⟩ = some (.int .i64 S) ∧ w.cell? ⟨C0, 0, none⟩ = some (.int .i64 C) ∧ w.cell? ⟨C0, 1, none⟩ = some (.int .i64 T)) (ho : Only [] w W) : W.cell? ⟨B, 0, none⟩ = some (.int .i64 A) ∧ W.cell? ⟨B, 1, none⟩ = some (.int .i64 S) ∧ W.cell? ⟨C0, 0, none⟩ = some (.int .i64 C) ∧ W.cell? ⟨C0, 1, none⟩ = some (.int .i64 T) :=
  ⟨(ho.cell (p := ⟨B, 0, none⟩) (lt_of_cell h.1) (by simp)).trans h.1, (ho.cell (p := ⟨B, 1, none⟩) (lt_of_cell h.2.1) (by simp)).trans h.2.1, (ho.cell (p := ⟨C0, 0, none⟩) (lt_of_cell h.2.2.1) (by simp)).trans h.2.2.1, (ho.cell (p := ⟨C0, 1, none⟩) (lt_of_cell h.2.2.2) (by simp)).trans h.2.2.2⟩
theorem Four.set2 {w : World} {B C0 D : Nat} {A S C T : Int} {u v : Value} (h : w.cell? ⟨B, 0, none⟩ = some (.int .i64 A) ∧ w.cell? ⟨B, 1, none⟩ = some (.int .i64 S) ∧ w.cell? ⟨C0, 0, none⟩ = some (.int .i64 C) ∧ w.cell? ⟨C0, 1, none⟩ = some (.int .i64 T)) (h1 : B ≠ D) (h2 : C0 ≠ D) : ((w.setCell ⟨D, 0, none⟩ u).setCell ⟨D, 1, none⟩ v).cell? ⟨B, 0, none⟩ = some (.int .i64 A) ∧ ((w.setCell ⟨D, 0, none⟩ u).setCell ⟨D, 1, none⟩ v).cell? ⟨B, 1, none⟩ = some (.int .i64 S) ∧ ((w.setCell ⟨D, 0, none⟩ u).setCell ⟨D, 1, none⟩ v).cell? ⟨C0, 0, none⟩ = some (.int .i64 C) ∧ ((w.setCell ⟨D, 0, none⟩ u).setCell ⟨D, 1, none⟩ v).cell? ⟨C0, 1, none⟩ = some (.int .i64 T) := by
  have ho : Only [D] w ((w.setCell ⟨D, 0, none⟩ u).setCell ⟨D, 1, none⟩ v) := ((Only.refl [D] w).setCell (Or.inl (List.mem_singleton.2 rfl)) u).setCell (Or.inl (List.mem_singleton.2 rfl)) v
  exact ⟨(ho.cell (p := ⟨B, 0, none⟩) (lt_of_cell h.1) (by simpa using h1)).trans h.1, (ho.cell (p := ⟨B, 1, none⟩) (lt_of_cell h.2.1) (by simpa using h1)).trans h.2.1, (ho.cell (p := ⟨C0, 0, none⟩) (lt_of_cell h.2.2.1) (by simpa using h2)).trans h.2.2.1, (ho.cell (p := ⟨C0, 1, none⟩) (lt_of_cell h.2.2.2) (by simpa using h2)).trans h.2.2.2⟩
theorem four_new (w : World) (A S C T : Int) (ty ty' : TypeId) : ((w.alloc (.cells #[.int .i64 A, .int .i64 S] ty)).alloc (.cells #[.int .i64 C, .int .i64 T] ty')).cell? ⟨w.heap.size, 0, none⟩ = some (.int .i64 A) ∧ ((w.alloc (.cells #[.int .i64 A, .int .i64 S] ty)).alloc (.cells #[.int .i64 C, .int .i64 T] ty')).cell? ⟨w.heap.size, 1, none⟩ = some (.int .i64 S) ∧ ((w.alloc (.cells #[.int .i64 A, .int .i64 S] ty)).alloc (.cells #[.int .i64 C, .int .i64 T] ty')).cell? ⟨w.heap.size + 1, 0, none⟩ = some (.int .i64 C) ∧ ((w.alloc (.cells #[.int .i64 A, .int .i64 S] ty)).alloc (.cells #[.int .i64 C, .int .i64 T] ty')).cell? ⟨w.heap.size + 1, 1, none⟩ = some (.int .i64 T) := by
  have h1 := heap_alloc_last w (.cells #[.int .i64 A, .int .i64 S] ty)
  have h2 := heap_alloc_last (w.alloc (.cells #[.int .i64 A, .int .i64 S] ty)) (.cells #[.int .i64 C, .int .i64 T] ty')
  rw [World.size_alloc] at h2
  have o2 : Only [] (w.alloc (.cells #[.int .i64 A, .int .i64 S] ty)) ((w.alloc (.cells #[.int .i64 A, .int .i64 S] ty)).alloc (.cells #[.int .i64 C, .int .i64 T] ty')) := (Only.refl _ _).alloc _
  exact ⟨(o2.cell (p := ⟨w.heap.size, 0, none⟩) (by simp) (by simp)).trans (cell_of_row _ _ 0 _ _ _ h1), (o2.cell (p := ⟨w.heap.size, 1, none⟩) (by simp) (by simp)).trans (cell_of_row _ _ 1 _ _ _ h1), cell_of_row _ _ 0 _ _ _ h2, cell_of_row _ _ 1 _ _ _ h2⟩
theorem two_own {w W : World} {B : Nat} {a b : Value} {ty : TypeId} (ho : Only [] (w.alloc (.cells #[a, b] ty)) W) (hB : w.heap.size = B) : W.cell? ⟨B, 0, none⟩ = some a ∧ W.cell? ⟨B, 1, none⟩ = some b ∧ W.frozen? ⟨B, 0, none⟩ = false ∧ W.frozen? ⟨B, 1, none⟩ = false := by
  subst hB
  have hh := heap_alloc_last w (.cells #[a, b] ty)
  have hlt : w.heap.size < (w.alloc (.cells #[a, b] ty)).heap.size := by simp
  refine ⟨(ho.cell (p := ⟨w.heap.size, 0, none⟩) hlt (by simp)).trans (cell_of_row _ _ 0 _ _ _ hh), (ho.cell (p := ⟨w.heap.size, 1, none⟩) hlt (by simp)).trans (cell_of_row _ _ 1 _ _ _ hh), ?_, ?_⟩
  · rw [ho.frozen (p := ⟨w.heap.size, 0, none⟩) hlt (by simp)]
    unfold World.frozen?
    rw [hh]
    simp
  · rw [ho.frozen (p := ⟨w.heap.size, 1, none⟩) hlt (by simp)]
    unfold World.frozen?
    rw [hh]
    simp
theorem two_own_drew {w W : World} {B : Nat} {a b : Value} {ty : TypeId} (ho : Only [] (w.alloc (.cells #[a, b] ty)).drew W) (hB : w.heap.size = B) : W.cell? ⟨B, 0, none⟩ = some a ∧ W.cell? ⟨B, 1, none⟩ = some b ∧ W.frozen? ⟨B, 0, none⟩ = false ∧ W.frozen? ⟨B, 1, none⟩ = false :=
  two_own (only_nil ((Only.refl [] _).drew) ho) hB
set_option maxRecDepth 100000 in
set_option maxHeartbeats 2000000 in
theorem join_any (A S C T : Int) (w : World) (h1 : OkR A S) (h2 : OkR C T) : Calls Tryd.prog 40 #[.agg #[.int .i64 A, .int .i64 S], .agg #[.int .i64 C, .int .i64 T]] w fun e w' => e = .returned (.agg #[.int .i64 (min A C), .int .i64 (sizR (min A C) (max (endR A S) (endR C T)))]) ∧ Only [] w w' := by
  have HE : Hid (∀ a s W, OkR a s → Calls Tryd.prog 58 #[.agg #[.int .i64 a, .int .i64 s]] W fun e w' => e = .returned (.int .i64 (endR a s)) ∧ Only [] W w') := fun a s W h => end_any a s W h
  have HB : Hid (∀ m e W, m = min A C → e = max (endR A S) (endR C T) → Calls Tryd.prog 57 #[.int .i64 m, .int .i64 e] W fun r w' => r = .returned (.agg #[.int .i64 m, .int .i64 (sizR m e)]) ∧ Only [] W w') := fun m e W hm he => between_any _ _ W (by have := h1.a0; have := h2.a0; omega) (by have := h1.fwd; have := h2.fwd; omega) (by have := h1.fwd; have := h2.fwd; omega)
  have H1 : Hid (OkR A S) := h1
  have H2 : Hid (OkR C T) := h2
  clear h1 h2
  have HO : Hid (Only [] w ((((w.alloc (.cells #[.int .i64 A, .int .i64 S] 35)).alloc (.cells #[.int .i64 C, .int .i64 T] 35)).alloc (.cells #[.int .i64 0, .int .i64 0] 35)).drew)) := ((((Only.refl [] w).alloc _).alloc _).alloc _).drew
  have HS0 : Hid ((((w.alloc (.cells #[.int .i64 A, .int .i64 S] 35)).alloc (.cells #[.int .i64 C, .int .i64 T] 35)).alloc (.cells #[.int .i64 0, .int .i64 0] 35)).drew.cell? ⟨w.heap.size, 0, none⟩ = some (.int .i64 A) ∧ (((w.alloc (.cells #[.int .i64 A, .int .i64 S] 35)).alloc (.cells #[.int .i64 C, .int .i64 T] 35)).alloc (.cells #[.int .i64 0, .int .i64 0] 35)).drew.cell? ⟨w.heap.size, 1, none⟩ = some (.int .i64 S) ∧ (((w.alloc (.cells #[.int .i64 A, .int .i64 S] 35)).alloc (.cells #[.int .i64 C, .int .i64 T] 35)).alloc (.cells #[.int .i64 0, .int .i64 0] 35)).drew.cell? ⟨w.heap.size + 1, 0, none⟩ = some (.int .i64 C) ∧ (((w.alloc (.cells #[.int .i64 A, .int .i64 S] 35)).alloc (.cells #[.int .i64 C, .int .i64 T] 35)).alloc (.cells #[.int .i64 0, .int .i64 0] 35)).drew.cell? ⟨w.heap.size + 1, 1, none⟩ = some (.int .i64 T)) := Four.only (four_new w A S C T 35 35) ((Only.refl [] _).alloc _).drew
  generalize endR = f at HE HB ⊢
  generalize sizR = gz at HB ⊢
  have hif1 : (if C < A then C else A) = min A C := by split <;> omega
  have hif2 : (if f A S < f C T then f C T else f A S) = max (f A S) (f C T) := by split <;> omega
  generalize min A C = m at HB hif1 ⊢
  generalize max (f A S) (f C T) = x at HB hif2 ⊢
  have HB2 : Hid (∀ W, Calls Tryd.prog 57 #[.int .i64 m, .int .i64 x] W fun r w' => r = .returned (.agg #[.int .i64 m, .int .i64 (gz m x)]) ∧ Only [] W w') := fun W => HB.out _ _ W rfl rfl
  clear HB
  go_enter Tryd.func40, Tryd.ntmps40
  go_wp2
  go_region_held3 (fun W => W.cell? ⟨w.heap.size, 0, none⟩ = some (.int .i64 A) ∧ W.cell? ⟨w.heap.size, 1, none⟩ = some (.int .i64 S) ∧ W.cell? ⟨w.heap.size + 1, 0, none⟩ = some (.int .i64 C) ∧ W.cell? ⟨w.heap.size + 1, 1, none⟩ = some (.int .i64 T)) (with_reducible first | exact HS2.out | exact HS0.out | exact Four.set2 HS2.out (by omega) (by omega))
    (first
      | (go_at_call 58; refine (HE.out _ _ _ (by first | exact H1.out | exact H2.out)).mono ?_; rintro e w2 ⟨rfl, ho2⟩; first | (have HS2 : Hid (w2.cell? ⟨w.heap.size, 0, none⟩ = some (.int .i64 A) ∧ w2.cell? ⟨w.heap.size, 1, none⟩ = some (.int .i64 S) ∧ w2.cell? ⟨w.heap.size + 1, 0, none⟩ = some (.int .i64 C) ∧ w2.cell? ⟨w.heap.size + 1, 1, none⟩ = some (.int .i64 T)) := Four.only HS2.out ho2; have HO2 : Hid (Only [] w w2) := only_nil HO2.out ho2; have HD2 : Hid (Only [] ((((w.alloc (.cells #[.int .i64 A, .int .i64 S] 35)).alloc (.cells #[.int .i64 C, .int .i64 T] 35)).alloc (.cells #[.int .i64 0, .int .i64 0] 35)).drew) w2) := only_nil HD2.out ho2) | (have HS2 : Hid (w2.cell? ⟨w.heap.size, 0, none⟩ = some (.int .i64 A) ∧ w2.cell? ⟨w.heap.size, 1, none⟩ = some (.int .i64 S) ∧ w2.cell? ⟨w.heap.size + 1, 0, none⟩ = some (.int .i64 C) ∧ w2.cell? ⟨w.heap.size + 1, 1, none⟩ = some (.int .i64 T)) := Four.only HS0.out ho2; have HO2 : Hid (Only [] w w2) := only_nil HO.out ho2; have HD2 : Hid (Only [] ((((w.alloc (.cells #[.int .i64 A, .int .i64 S] 35)).alloc (.cells #[.int .i64 C, .int .i64 T] 35)).alloc (.cells #[.int .i64 0, .int .i64 0] 35)).drew) w2) := ho2); clear ho2)
      | (go_at_call 57; refine (HB2.out _).mono ?_; rintro e w2 ⟨rfl, ho2⟩; have HS2 : Hid (w2.cell? ⟨w.heap.size, 0, none⟩ = some (.int .i64 A) ∧ w2.cell? ⟨w.heap.size, 1, none⟩ = some (.int .i64 S) ∧ w2.cell? ⟨w.heap.size + 1, 0, none⟩ = some (.int .i64 C) ∧ w2.cell? ⟨w.heap.size + 1, 1, none⟩ = some (.int .i64 T)) := Four.only HS2.out ho2; have HO2 : Hid (Only [] w w2) := only_nil HO2.out ho2; have HD2 : Hid (Only [] ((((w.alloc (.cells #[.int .i64 A, .int .i64 S] 35)).alloc (.cells #[.int .i64 C, .int .i64 T] 35)).alloc (.cells #[.int .i64 0, .int .i64 0] 35)).drew) w2) := only_nil HD2.out ho2; obtain ⟨k0, k1, k2, k3⟩ := two_own_drew (B := w.heap.size + 1 + 1) HD2.out (by simp); clear ho2))
  all_goals (go_wp2; refine bodyPost_ret (v := .agg #[.int .i64 m, .int .i64 (gz m x)]) (by simp [results, Tryd.results40, go_sem, k0, k1]) rfl ⟨rfl, (HO2.out.setCell (Or.inr (show w.heap.size ≤ w.heap.size + 1 + 1 by omega)) _).setCell (Or.inr (show w.heap.size ≤ w.heap.size + 1 + 1 by omega)) _⟩)
end Go.Proofs.YtfnniphemlnanaaDoor
