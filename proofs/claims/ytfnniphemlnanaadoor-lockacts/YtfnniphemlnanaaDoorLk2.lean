/- Locks: ranges: where they end, what they have in common, what is left of one. -/
import Derived.Test.YtfnniphemlnanaaDoorLk1
import Derived.Test.YtfnniphemlnanaaDoorSl1
import Derived.Test.YtfnniphemlnanaaDoorProg
import Derived.WalkKit
import Derived.ProofKit
import Derived.Deep.RegionHeld3
import Derived.BigQuiet
import Derived.Deep.QuietTactic
import Derived.Deep.WholeRow
import Derived.Shelf.SlSortCmp.QuietGrown
namespace Go.Proofs.YtfnniphemlnanaaDoor
open Go Go.RowKit Go.Deep

theorem Only.drewsN {L : List Nat} {a w : World} (h : Only L a w) (n : Nat) : Only L a (w.drewN n) := ⟨h.os, h.tape, h.output, h.size, h.block⟩
theorem only_grow {L : List Nat} {a w : World} (h : Only L a w) (os : Array Obj) : Only L a (Sort.grow w os) :=
  ⟨h.os, h.tape, h.output, by rw [Sort.size_grow]; have := h.size; omega, fun k hk hn => (Sort.heap_grow_old w os (Nat.lt_of_lt_of_le hk h.size)).trans (h.block k hk hn)⟩
theorem only_nil {L : List Nat} {a b c : World} (h : Only L a b) (k : Only [] b c) : Only L a c := h.trans k (fun _ hk => by cases hk)
def rngB (A S : Int) : Bool := decide (0 ≤ A) && decide (A ≤ 1099511627776) && decide (0 ≤ S) && decide (S ≤ 1099511627776)
set_option maxHeartbeats 1000000 in
theorem isRange_any (A S : Int) (w : World) : Calls Tryd.prog 27 #[.agg #[.int .i64 A, .int .i64 S]] w fun e w' => e = .returned (.bool (rngB A S)) ∧ Only [] w w' := by
  unfold rngB
  by_cases h1 : 0 ≤ A
  · have d1 : decide (0 ≤ A) = true := decide_eq_true h1
    by_cases h2 : A ≤ 1099511627776
    · have d2 : decide (A ≤ 1099511627776) = true := decide_eq_true h2
      by_cases h3 : 0 ≤ S
      · have d3 : decide (0 ≤ S) = true := decide_eq_true h3
        go_enter Tryd.func27, Tryd.ntmps27
        go_wp2
        go_ret
        exact ⟨by simp [*], (Only.refl _ _).alloc _⟩
      · have d3 : decide (0 ≤ S) = false := decide_eq_false h3
        go_enter Tryd.func27, Tryd.ntmps27
        go_wp2
        go_ret
        exact ⟨by simp [*], (Only.refl _ _).alloc _⟩
    · have d2 : decide (A ≤ 1099511627776) = false := decide_eq_false h2
      go_enter Tryd.func27, Tryd.ntmps27
      go_wp2
      go_ret
      exact ⟨by simp [*], (Only.refl _ _).alloc _⟩
  · have d1 : decide (0 ≤ A) = false := decide_eq_false h1
    go_enter Tryd.func27, Tryd.ntmps27
    go_wp2
    go_ret
    exact ⟨by simp [*], (Only.refl _ _).alloc _⟩
theorem rngB_ok {A S : Int} (h : rngB A S = true) : OkR A S := by
  unfold rngB at h
  simp only [Bool.and_eq_true, decide_eq_true_eq] at h
  exact ⟨h.1.1.1, by omega, h.1.2, by omega⟩
theorem end_is (A S : Int) (w : World) (h : OkR A S) : Calls Tryd.prog 58 #[.agg #[.int .i64 A, .int .i64 S]] w fun e w' => e = .returned (.int .i64 (endR A S)) ∧ w' = w.alloc (.cells #[.int .i64 A, .int .i64 S] 35) := by
  have ha := h.a0; have hb := h.s0; have hc := h.s1
  unfold endR
  by_cases h1 : S = 0
  · rw [if_pos h1]
    subst h1
    go_enter Tryd.func58, Tryd.ntmps58
    go_wp2
    go_ret
    exact ⟨rfl, rfl⟩
  · rw [if_neg h1]
    have d1 : (S == 0) = false := beq_eq_false_iff_ne.2 h1
    go_enter Tryd.func58, Tryd.ntmps58
    go_wp2
    go_ret
    exact ⟨by go_num, rfl⟩
theorem end_grown (A S : Int) (w : World) (h : OkR A S) : Calls Tryd.prog 58 #[.agg #[.int .i64 A, .int .i64 S]] w fun e w' => e = .returned (.int .i64 (endR A S)) ∧ ∃ q os', w' = Sort.grow (w.drewN q) os' :=
  (end_is A S w h).mono fun _ _ hh => ⟨hh.1, 0, #[.cells #[.int .i64 A, .int .i64 S] 35], by rw [hh.2, Sort.alloc_eq_grow]; rfl⟩
theorem end_any (A S : Int) (w : World) (h : OkR A S) : Calls Tryd.prog 58 #[.agg #[.int .i64 A, .int .i64 S]] w fun e w' => e = .returned (.int .i64 (endR A S)) ∧ Only [] w w' :=
  (end_is A S w h).mono fun _ _ hh => ⟨hh.1, by rw [hh.2]; exact (Only.refl [] w).alloc _⟩
theorem between_any (a e : Int) (w : World) (h0 : 0 ≤ a) (h1 : a ≤ e) (h2 : e ≤ farE) : Calls Tryd.prog 57 #[.int .i64 a, .int .i64 e] w fun r w' => r = .returned (.agg #[.int .i64 a, .int .i64 (sizR a e)]) ∧ Only [] w w' := by
  unfold sizR
  have hF : farE = 9223372036854775807 := rfl
  rw [hF] at h2
  by_cases h3 : e = farE
  · rw [if_pos h3]
    have h3' : e = 9223372036854775807 := h3
    subst h3'
    clear h3
    go_enter Tryd.func57, Tryd.ntmps57
    go_wp2
    refine bodyPost_ret (v := .agg #[.int .i64 a, .int .i64 0]) (by simp [results, Tryd.results57, go_sem]) rfl ⟨rfl, (Only.refl _ _).alloc _⟩
  · rw [if_neg h3]
    have d1 : (e == 9223372036854775807) = false := beq_eq_false_iff_ne.2 h3
    have d2 : IntKind.i64.wrap (e - a) = e - a := by simp [IntKind.wrap, IntKind.bits, IntKind.signed]; omega
    clear h3
    go_enter Tryd.func57, Tryd.ntmps57
    go_wp2
    refine bodyPost_ret (v := .agg #[.int .i64 a, .int .i64 (e - a)]) (by simp [results, Tryd.results57, go_sem]) rfl ⟨rfl, (Only.refl _ _).alloc _⟩
set_option maxRecDepth 100000 in
set_option maxHeartbeats 2000000 in
theorem meet_any (A S C T : Int) (w : World) (h1 : OkR A S) (h2 : OkR C T) : Calls Tryd.prog 44 #[.agg #[.int .i64 A, .int .i64 S], .agg #[.int .i64 C, .int .i64 T]] w fun e w' => e = .returned (.bool (meetB A S C T)) ∧ Only [] w w' := by
  unfold meetB
  have HE : Hid (∀ a s W, OkR a s → Calls Tryd.prog 58 #[.agg #[.int .i64 a, .int .i64 s]] W fun e w' => e = .returned (.int .i64 (endR a s)) ∧ ∃ q os', w' = Sort.grow (W.drewN q) os') := fun a s W h => end_grown a s W h
  have H1 : Hid (OkR A S) := h1
  have H2 : Hid (OkR C T) := h2
  clear h1 h2
  have mixed : Tryd.prog.follows Departure.mixedOrders = true := by kernel_rfl
  have HO : Hid (Only [] w ((w.alloc (.cells #[.int .i64 A, .int .i64 S] 35)).alloc (.cells #[.int .i64 C, .int .i64 T] 35))) := ((Only.refl [] w).alloc _).alloc _
  by_cases hd : A < endR C T
  · have dd : decide (A < endR C T) = true := decide_eq_true hd
    go_enter Tryd.func44, Tryd.ntmps44
    go_wp2
    have h1 := heap_alloc_last w (.cells #[.int .i64 A, .int .i64 S] 35)
    have h2 := heap_alloc_last (w.alloc (.cells #[.int .i64 A, .int .i64 S] 35)) (.cells #[.int .i64 C, .int .i64 T] 35)
    rw [World.size_alloc] at h2
    have o2 : Only [] (w.alloc (.cells #[.int .i64 A, .int .i64 S] 35)) ((w.alloc (.cells #[.int .i64 A, .int .i64 S] 35)).alloc (.cells #[.int .i64 C, .int .i64 T] 35)) := (Only.refl _ _).alloc _
    have x0 := (o2.cell (p := ⟨w.heap.size, 0, none⟩) (by simp) (by simp)).trans (cell_of_row _ _ 0 _ _ _ h1)
    have x1 := (o2.cell (p := ⟨w.heap.size, 1, none⟩) (by simp) (by simp)).trans (cell_of_row _ _ 1 _ _ _ h1)
    have y0 := cell_of_row _ _ 0 _ _ _ h2
    have y1 := cell_of_row _ _ 1 _ _ _ h2
    clear h1 h2 o2
    generalize hB : w.heap.size = B at x0 x1 y0 y1 ⊢
    generalize (w.alloc (.cells #[.int .i64 A, .int .i64 S] 35)).alloc (.cells #[.int .i64 C, .int .i64 T] 35) = W at HO x0 x1 y0 y1 ⊢
    clear hB
    have z0 := fun n os => cell_grown (w := W) (lt_of_cell x0) x0 n os
    have z1 := fun n os => cell_grown (w := W) (lt_of_cell x1) x1 n os
    have z2 := fun n os => cell_grown (w := W) (lt_of_cell y0) y0 n os
    have z3 := fun n os => cell_grown (w := W) (lt_of_cell y1) y1 n os
    refine wp_region_quiet_grown (by assumption) (by kernel_rfl) ?_
    repeat (first | go_big_quiet_skip | quiet_step (first | (go_at_call 58; refine Calls.grown_of (HE.out _ _ _ (by first | exact H1.out | exact H2.out)))))
    refine wpQuiet_nil ?_
    intro _ hw'
    obtain ⟨⟨nq, osq⟩, hw2⟩ := hw'
    subst hw2
    have HO4 : Hid (Only [] w (Sort.grow (W.drewN nq) osq)) := only_grow (HO.out.drewsN nq) osq
    clear z0 z1 z2 z3 x0 x1 y0 y1
    generalize Sort.grow (W.drewN nq) osq = wg at HO4 ⊢
    go_wp2
    go_ret
    exact ⟨by simp [*], HO4.out⟩
  · have dd : decide (A < endR C T) = false := decide_eq_false hd
    go_enter Tryd.func44, Tryd.ntmps44
    go_wp2
    have h1 := heap_alloc_last w (.cells #[.int .i64 A, .int .i64 S] 35)
    have h2 := heap_alloc_last (w.alloc (.cells #[.int .i64 A, .int .i64 S] 35)) (.cells #[.int .i64 C, .int .i64 T] 35)
    rw [World.size_alloc] at h2
    have o2 : Only [] (w.alloc (.cells #[.int .i64 A, .int .i64 S] 35)) ((w.alloc (.cells #[.int .i64 A, .int .i64 S] 35)).alloc (.cells #[.int .i64 C, .int .i64 T] 35)) := (Only.refl _ _).alloc _
    have x0 := (o2.cell (p := ⟨w.heap.size, 0, none⟩) (by simp) (by simp)).trans (cell_of_row _ _ 0 _ _ _ h1)
    have x1 := (o2.cell (p := ⟨w.heap.size, 1, none⟩) (by simp) (by simp)).trans (cell_of_row _ _ 1 _ _ _ h1)
    have y0 := cell_of_row _ _ 0 _ _ _ h2
    have y1 := cell_of_row _ _ 1 _ _ _ h2
    clear h1 h2 o2
    generalize hB : w.heap.size = B at x0 x1 y0 y1 ⊢
    generalize (w.alloc (.cells #[.int .i64 A, .int .i64 S] 35)).alloc (.cells #[.int .i64 C, .int .i64 T] 35) = W at HO x0 x1 y0 y1 ⊢
    clear hB
    have z0 := fun n os => cell_grown (w := W) (lt_of_cell x0) x0 n os
    have z1 := fun n os => cell_grown (w := W) (lt_of_cell x1) x1 n os
    have z2 := fun n os => cell_grown (w := W) (lt_of_cell y0) y0 n os
    have z3 := fun n os => cell_grown (w := W) (lt_of_cell y1) y1 n os
    refine wp_region_quiet_grown (by assumption) (by kernel_rfl) ?_
    repeat (first | go_big_quiet_skip | quiet_step (first | (go_at_call 58; refine Calls.grown_of (HE.out _ _ _ (by first | exact H1.out | exact H2.out)))))
    refine wpQuiet_nil ?_
    intro _ hw'
    obtain ⟨⟨nq, osq⟩, hw2⟩ := hw'
    subst hw2
    have HO4 : Hid (Only [] w (Sort.grow (W.drewN nq) osq)) := only_grow (HO.out.drewsN nq) osq
    clear z0 z1 z2 z3 x0 x1 y0 y1
    generalize Sort.grow (W.drewN nq) osq = wg at HO4 ⊢
    go_wp2
    go_ret
    exact ⟨by simp [*], HO4.out⟩
set_option maxRecDepth 100000 in
set_option maxHeartbeats 2000000 in
theorem touch_any (A S C T : Int) (w : World) (h1 : OkR A S) (h2 : OkR C T) : Calls Tryd.prog 56 #[.agg #[.int .i64 A, .int .i64 S], .agg #[.int .i64 C, .int .i64 T]] w fun e w' => e = .returned (.bool (touchB A S C T)) ∧ Only [] w w' := by
  unfold touchB
  have HE : Hid (∀ a s W, OkR a s → Calls Tryd.prog 58 #[.agg #[.int .i64 a, .int .i64 s]] W fun e w' => e = .returned (.int .i64 (endR a s)) ∧ ∃ q os', w' = Sort.grow (W.drewN q) os') := fun a s W h => end_grown a s W h
  have H1 : Hid (OkR A S) := h1
  have H2 : Hid (OkR C T) := h2
  clear h1 h2
  have mixed : Tryd.prog.follows Departure.mixedOrders = true := by kernel_rfl
  have HO : Hid (Only [] w ((w.alloc (.cells #[.int .i64 A, .int .i64 S] 35)).alloc (.cells #[.int .i64 C, .int .i64 T] 35))) := ((Only.refl [] w).alloc _).alloc _
  by_cases hd : A ≤ endR C T
  · have dd : decide (A ≤ endR C T) = true := decide_eq_true hd
    go_enter Tryd.func56, Tryd.ntmps56
    go_wp2
    have h1 := heap_alloc_last w (.cells #[.int .i64 A, .int .i64 S] 35)
    have h2 := heap_alloc_last (w.alloc (.cells #[.int .i64 A, .int .i64 S] 35)) (.cells #[.int .i64 C, .int .i64 T] 35)
    rw [World.size_alloc] at h2
    have o2 : Only [] (w.alloc (.cells #[.int .i64 A, .int .i64 S] 35)) ((w.alloc (.cells #[.int .i64 A, .int .i64 S] 35)).alloc (.cells #[.int .i64 C, .int .i64 T] 35)) := (Only.refl _ _).alloc _
    have x0 := (o2.cell (p := ⟨w.heap.size, 0, none⟩) (by simp) (by simp)).trans (cell_of_row _ _ 0 _ _ _ h1)
    have x1 := (o2.cell (p := ⟨w.heap.size, 1, none⟩) (by simp) (by simp)).trans (cell_of_row _ _ 1 _ _ _ h1)
    have y0 := cell_of_row _ _ 0 _ _ _ h2
    have y1 := cell_of_row _ _ 1 _ _ _ h2
    clear h1 h2 o2
    generalize hB : w.heap.size = B at x0 x1 y0 y1 ⊢
    generalize (w.alloc (.cells #[.int .i64 A, .int .i64 S] 35)).alloc (.cells #[.int .i64 C, .int .i64 T] 35) = W at HO x0 x1 y0 y1 ⊢
    clear hB
    have z0 := fun n os => cell_grown (w := W) (lt_of_cell x0) x0 n os
    have z1 := fun n os => cell_grown (w := W) (lt_of_cell x1) x1 n os
    have z2 := fun n os => cell_grown (w := W) (lt_of_cell y0) y0 n os
    have z3 := fun n os => cell_grown (w := W) (lt_of_cell y1) y1 n os
    refine wp_region_quiet_grown (by assumption) (by kernel_rfl) ?_
    repeat (first | go_big_quiet_skip | quiet_step (first | (go_at_call 58; refine Calls.grown_of (HE.out _ _ _ (by first | exact H1.out | exact H2.out)))))
    refine wpQuiet_nil ?_
    intro _ hw'
    obtain ⟨⟨nq, osq⟩, hw2⟩ := hw'
    subst hw2
    have HO4 : Hid (Only [] w (Sort.grow (W.drewN nq) osq)) := only_grow (HO.out.drewsN nq) osq
    clear z0 z1 z2 z3 x0 x1 y0 y1
    generalize Sort.grow (W.drewN nq) osq = wg at HO4 ⊢
    go_wp2
    go_ret
    exact ⟨by simp [*], HO4.out⟩
  · have dd : decide (A ≤ endR C T) = false := decide_eq_false hd
    go_enter Tryd.func56, Tryd.ntmps56
    go_wp2
    have h1 := heap_alloc_last w (.cells #[.int .i64 A, .int .i64 S] 35)
    have h2 := heap_alloc_last (w.alloc (.cells #[.int .i64 A, .int .i64 S] 35)) (.cells #[.int .i64 C, .int .i64 T] 35)
    rw [World.size_alloc] at h2
    have o2 : Only [] (w.alloc (.cells #[.int .i64 A, .int .i64 S] 35)) ((w.alloc (.cells #[.int .i64 A, .int .i64 S] 35)).alloc (.cells #[.int .i64 C, .int .i64 T] 35)) := (Only.refl _ _).alloc _
    have x0 := (o2.cell (p := ⟨w.heap.size, 0, none⟩) (by simp) (by simp)).trans (cell_of_row _ _ 0 _ _ _ h1)
    have x1 := (o2.cell (p := ⟨w.heap.size, 1, none⟩) (by simp) (by simp)).trans (cell_of_row _ _ 1 _ _ _ h1)
    have y0 := cell_of_row _ _ 0 _ _ _ h2
    have y1 := cell_of_row _ _ 1 _ _ _ h2
    clear h1 h2 o2
    generalize hB : w.heap.size = B at x0 x1 y0 y1 ⊢
    generalize (w.alloc (.cells #[.int .i64 A, .int .i64 S] 35)).alloc (.cells #[.int .i64 C, .int .i64 T] 35) = W at HO x0 x1 y0 y1 ⊢
    clear hB
    have z0 := fun n os => cell_grown (w := W) (lt_of_cell x0) x0 n os
    have z1 := fun n os => cell_grown (w := W) (lt_of_cell x1) x1 n os
    have z2 := fun n os => cell_grown (w := W) (lt_of_cell y0) y0 n os
    have z3 := fun n os => cell_grown (w := W) (lt_of_cell y1) y1 n os
    refine wp_region_quiet_grown (by assumption) (by kernel_rfl) ?_
    repeat (first | go_big_quiet_skip | quiet_step (first | (go_at_call 58; refine Calls.grown_of (HE.out _ _ _ (by first | exact H1.out | exact H2.out)))))
    refine wpQuiet_nil ?_
    intro _ hw'
    obtain ⟨⟨nq, osq⟩, hw2⟩ := hw'
    subst hw2
    have HO4 : Hid (Only [] w (Sort.grow (W.drewN nq) osq)) := only_grow (HO.out.drewsN nq) osq
    clear z0 z1 z2 z3 x0 x1 y0 y1
    generalize Sort.grow (W.drewN nq) osq = wg at HO4 ⊢
    go_wp2
    go_ret
    exact ⟨by simp [*], HO4.out⟩
end Go.Proofs.YtfnniphemlnanaaDoor
