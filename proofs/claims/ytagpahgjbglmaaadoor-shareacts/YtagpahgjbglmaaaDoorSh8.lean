/- Shares: is there an open that a test takes; opens in their order. -/
import Derived.Test.YtagpahgjbglmaaaDoorSh7
import Derived.Test.YtagpahgjbglmaaaDoorSh2
namespace Go.Proofs.YtagpahgjbglmaaaDoor
open Go Go.RowKit Go.Deep

theorem any_first {p : Opn → Bool} {l : List Opn} {r : Int} (h : firstI p l r) : decide (0 ≤ r) = l.any p := by
  rcases h with ⟨rfl, h⟩ | ⟨i, rfl, x, hx, hp, _⟩
  · rw [List.any_eq_false.2 (fun x hx => by rw [h x hx]; simp)]
    rfl
  · rw [List.any_eq_true.2 ⟨x, List.mem_of_getElem? hx, hp⟩]
    exact decide_eq_true (by omega)
theorem contains_denying (w : World) (base : Nat) (b1 b2 : Value) (p : Opn → Bool) (v : Value) (l : List Opn) (h : Opns w base v l) (hl : l.length ≤ 1000) (hok : ∀ x ∈ l, OkO x) (ht : TestOf w 50 #[b1, b2] p) :
    Calls Tryd.prog 26 #[v, .func (.func 50) #[] #[b1, b2]] w fun e w' => e = .returned (.bool (l.any p)) ∧ Only [] w w' := by
  have hi := index_denying w base b1 b2 p v l h hl hok ht
  clear h hl hok ht
  go_enter Tryd.func26, Tryd.ntmps26
  go_wp2_with (go_at_call 43; refine hi.mono ?_; rintro e w2 ⟨r, rfl, hr, ho2⟩; have HR : Hid (firstI p l r) := hr; have HO : Hid (Only [] w w2) := ho2; clear hr ho2 hi)
  go_ret
  exact ⟨by rw [← any_first HR.out]; rfl, HO.out⟩
theorem contains_against (w : World) (base : Nat) (b1 b2 b3 : Value) (p : Opn → Bool) (v : Value) (l : List Opn) (h : Opns w base v l) (hl : l.length ≤ 1000) (hok : ∀ x ∈ l, OkO x) (ht : TestOf w 45 #[b1, b2, b3] p) :
    Calls Tryd.prog 26 #[v, .func (.func 45) #[] #[b1, b2, b3]] w fun e w' => e = .returned (.bool (l.any p)) ∧ Only [] w w' := by
  have hi := index_against w base b1 b2 b3 p v l h hl hok ht
  clear h hl hok ht
  go_enter Tryd.func26, Tryd.ntmps26
  go_wp2_with (go_at_call 43; refine hi.mono ?_; rintro e w2 ⟨r, rfl, hr, ho2⟩; have HR : Hid (firstI p l r) := hr; have HO : Hid (Only [] w w2) := ho2; clear hr ho2 hi)
  go_ret
  exact ⟨by rw [← any_first HR.out]; rfl, HO.out⟩
/-! ### the order -/
def cmpI (a b : Int) : Int := if a < b then -1 else if b < a then 1 else 0
def orI (a b c : Int) : Int := if a ≠ 0 then a else if b ≠ 0 then b else c
theorem compare_any (a b : Int) (w : World) : Calls Tryd.prog 57 #[.int .i64 a, .int .i64 b] w fun e w' => e = .returned (.int .i64 (cmpI a b)) ∧ w = w' := by
  unfold cmpI
  by_cases h1 : a < b
  · rw [if_pos h1]
    have hd : decide (a < b) = true := decide_eq_true h1
    go_enter Tryd.func57, Tryd.ntmps57
    go_wp2_with go_in
    go_ret
    exact ⟨rfl, rfl⟩
  · rw [if_neg h1]
    have hd : decide (a < b) = false := decide_eq_false h1
    by_cases h2 : b < a
    · rw [if_pos h2]
      have hd2 : decide (b < a) = true := decide_eq_true h2
      go_enter Tryd.func57, Tryd.ntmps57
      go_wp2_with go_in
      go_ret
      exact ⟨rfl, rfl⟩
    · rw [if_neg h2]
      have hd2 : decide (b < a) = false := decide_eq_false h2
      go_enter Tryd.func57, Tryd.ntmps57
      go_wp2_with go_in
      go_ret
      exact ⟨rfl, rfl⟩
set_option maxHeartbeats 1000000 in
theorem or_any (W : World) (B : Nat) (a b c : Int) (c0 : W.cell? ⟨B, 0, none⟩ = some (.int .i64 a)) (c1 : W.cell? ⟨B, 1, none⟩ = some (.int .i64 b)) (c2 : W.cell? ⟨B, 2, none⟩ = some (.int .i64 c)) : Calls Tryd.prog 56 #[.slice (some ⟨B, 0, none⟩) 3 3] W fun e w' => e = .returned (.int .i64 (orI a b c)) ∧ W = w' := by
  unfold orI
  by_cases ha : a = 0
  · subst ha
    rw [if_neg (by simp)]
    by_cases hb : b = 0
    · subst hb
      rw [if_neg (by simp)]
      by_cases hc : c = 0
      · subst hc
        go_enter Tryd.func56, Tryd.ntmps56
        go_wp2
        refine wp_loop_rounds 4 ?_
        rw [rounds_succ]
        go_wp2
        rw [rounds_succ]
        go_wp2
        rw [rounds_succ]
        go_wp2
        rw [rounds_succ]
        go_wp2
        go_ret
        exact ⟨rfl, rfl⟩
      · go_enter Tryd.func56, Tryd.ntmps56
        go_wp2
        refine wp_loop_rounds 3 ?_
        rw [rounds_succ]
        go_wp2
        rw [rounds_succ]
        go_wp2
        rw [rounds_succ]
        go_wp2
        go_ret
        exact ⟨rfl, rfl⟩
    · rw [if_pos hb]
      go_enter Tryd.func56, Tryd.ntmps56
      go_wp2
      refine wp_loop_rounds 2 ?_
      rw [rounds_succ]
      go_wp2
      rw [rounds_succ]
      go_wp2
      go_ret
      exact ⟨rfl, rfl⟩
  · rw [if_pos ha]
    go_enter Tryd.func56, Tryd.ntmps56
    go_wp2
    refine wp_loop_rounds 1 ?_
    rw [rounds_succ]
    go_wp2
    go_ret
    exact ⟨rfl, rfl⟩
theorem SixO.only {w W : World} {B C : Nat} {x y : Opn} (h : w.cell? ⟨B, 0, none⟩ = some (.int .i64 x.N) ∧ w.cell? ⟨B, 1, none⟩ = some (.int .i64 x.G) ∧ w.cell? ⟨B, 2, none⟩ = some (.int .i64 x.O) ∧ w.cell? ⟨C, 0, none⟩ = some (.int .i64 y.N) ∧ w.cell? ⟨C, 1, none⟩ = some (.int .i64 y.G) ∧ w.cell? ⟨C, 2, none⟩ = some (.int .i64 y.O)) (ho : Only [] w W) : W.cell? ⟨B, 0, none⟩ = some (.int .i64 x.N) ∧ W.cell? ⟨B, 1, none⟩ = some (.int .i64 x.G) ∧ W.cell? ⟨B, 2, none⟩ = some (.int .i64 x.O) ∧ W.cell? ⟨C, 0, none⟩ = some (.int .i64 y.N) ∧ W.cell? ⟨C, 1, none⟩ = some (.int .i64 y.G) ∧ W.cell? ⟨C, 2, none⟩ = some (.int .i64 y.O) :=
  ⟨(ho.cell (p := ⟨B, 0, none⟩) (lt_of_cell h.1) (by simp)).trans h.1, (ho.cell (p := ⟨B, 1, none⟩) (lt_of_cell h.2.1) (by simp)).trans h.2.1, (ho.cell (p := ⟨B, 2, none⟩) (lt_of_cell h.2.2.1) (by simp)).trans h.2.2.1,
    (ho.cell (p := ⟨C, 0, none⟩) (lt_of_cell h.2.2.2.1) (by simp)).trans h.2.2.2.1, (ho.cell (p := ⟨C, 1, none⟩) (lt_of_cell h.2.2.2.2.1) (by simp)).trans h.2.2.2.2.1, (ho.cell (p := ⟨C, 2, none⟩) (lt_of_cell h.2.2.2.2.2) (by simp)).trans h.2.2.2.2.2⟩
def ordI (x y : Opn) : Int := orI (cmpI x.N y.N) (cmpI x.G y.G) (cmpI x.O y.O)
set_option maxHeartbeats 4000000 in
set_option maxRecDepth 100000 in
theorem inOrder_any (w : World) (x y : Opn) : Calls Tryd.prog 47 #[opV x, opV y] w fun e w' => e = .returned (.int .i64 (ordI x y)) ∧ Only [] w w' := by
  unfold opV ordI
  have h1 := heap_alloc_last w (.cells #[.int .i64 x.N, .int .i64 x.G, .int .i64 x.O, .int .i64 x.A, .int .i64 x.D] 52)
  have h2 := heap_alloc_last (w.alloc (.cells #[.int .i64 x.N, .int .i64 x.G, .int .i64 x.O, .int .i64 x.A, .int .i64 x.D] 52)) (.cells #[.int .i64 y.N, .int .i64 y.G, .int .i64 y.O, .int .i64 y.A, .int .i64 y.D] 52)
  rw [World.size_alloc] at h2
  have o2 : Only [] (w.alloc (.cells #[.int .i64 x.N, .int .i64 x.G, .int .i64 x.O, .int .i64 x.A, .int .i64 x.D] 52)) ((w.alloc (.cells #[.int .i64 x.N, .int .i64 x.G, .int .i64 x.O, .int .i64 x.A, .int .i64 x.D] 52)).alloc (.cells #[.int .i64 y.N, .int .i64 y.G, .int .i64 y.O, .int .i64 y.A, .int .i64 y.D] 52)) := (Only.refl _ _).alloc _
  have HS0 : Hid (((w.alloc (.cells #[.int .i64 x.N, .int .i64 x.G, .int .i64 x.O, .int .i64 x.A, .int .i64 x.D] 52)).alloc (.cells #[.int .i64 y.N, .int .i64 y.G, .int .i64 y.O, .int .i64 y.A, .int .i64 y.D] 52)).drew.cell? ⟨w.heap.size, 0, none⟩ = some (.int .i64 x.N) ∧ ((w.alloc (.cells #[.int .i64 x.N, .int .i64 x.G, .int .i64 x.O, .int .i64 x.A, .int .i64 x.D] 52)).alloc (.cells #[.int .i64 y.N, .int .i64 y.G, .int .i64 y.O, .int .i64 y.A, .int .i64 y.D] 52)).drew.cell? ⟨w.heap.size, 1, none⟩ = some (.int .i64 x.G) ∧ ((w.alloc (.cells #[.int .i64 x.N, .int .i64 x.G, .int .i64 x.O, .int .i64 x.A, .int .i64 x.D] 52)).alloc (.cells #[.int .i64 y.N, .int .i64 y.G, .int .i64 y.O, .int .i64 y.A, .int .i64 y.D] 52)).drew.cell? ⟨w.heap.size, 2, none⟩ = some (.int .i64 x.O) ∧ ((w.alloc (.cells #[.int .i64 x.N, .int .i64 x.G, .int .i64 x.O, .int .i64 x.A, .int .i64 x.D] 52)).alloc (.cells #[.int .i64 y.N, .int .i64 y.G, .int .i64 y.O, .int .i64 y.A, .int .i64 y.D] 52)).drew.cell? ⟨w.heap.size + 1, 0, none⟩ = some (.int .i64 y.N) ∧ ((w.alloc (.cells #[.int .i64 x.N, .int .i64 x.G, .int .i64 x.O, .int .i64 x.A, .int .i64 x.D] 52)).alloc (.cells #[.int .i64 y.N, .int .i64 y.G, .int .i64 y.O, .int .i64 y.A, .int .i64 y.D] 52)).drew.cell? ⟨w.heap.size + 1, 1, none⟩ = some (.int .i64 y.G) ∧ ((w.alloc (.cells #[.int .i64 x.N, .int .i64 x.G, .int .i64 x.O, .int .i64 x.A, .int .i64 x.D] 52)).alloc (.cells #[.int .i64 y.N, .int .i64 y.G, .int .i64 y.O, .int .i64 y.A, .int .i64 y.D] 52)).drew.cell? ⟨w.heap.size + 1, 2, none⟩ = some (.int .i64 y.O)) := ⟨(o2.cell (p := ⟨w.heap.size, 0, none⟩) (by simp) (by simp)).trans (cell_of_row _ _ 0 _ _ _ h1), (o2.cell (p := ⟨w.heap.size, 1, none⟩) (by simp) (by simp)).trans (cell_of_row _ _ 1 _ _ _ h1), (o2.cell (p := ⟨w.heap.size, 2, none⟩) (by simp) (by simp)).trans (cell_of_row _ _ 2 _ _ _ h1), cell_of_row _ _ 0 _ _ _ h2, cell_of_row _ _ 1 _ _ _ h2, cell_of_row _ _ 2 _ _ _ h2⟩
  have HO : Hid (Only [] w ((w.alloc (.cells #[.int .i64 x.N, .int .i64 x.G, .int .i64 x.O, .int .i64 x.A, .int .i64 x.D] 52)).alloc (.cells #[.int .i64 y.N, .int .i64 y.G, .int .i64 y.O, .int .i64 y.A, .int .i64 y.D] 52)).drew) := (((Only.refl [] w).alloc _).alloc _).drew
  have HSz : Hid ((((w.alloc (.cells #[.int .i64 x.N, .int .i64 x.G, .int .i64 x.O, .int .i64 x.A, .int .i64 x.D] 52)).alloc (.cells #[.int .i64 y.N, .int .i64 y.G, .int .i64 y.O, .int .i64 y.A, .int .i64 y.D] 52)).alloc (.cells #[.int .i64 (cmpI x.N y.N), .int .i64 (cmpI x.G y.G), .int .i64 (cmpI x.O y.O)] 3)).drew.cell? ⟨w.heap.size, 0, none⟩ = some (.int .i64 x.N) ∧ (((w.alloc (.cells #[.int .i64 x.N, .int .i64 x.G, .int .i64 x.O, .int .i64 x.A, .int .i64 x.D] 52)).alloc (.cells #[.int .i64 y.N, .int .i64 y.G, .int .i64 y.O, .int .i64 y.A, .int .i64 y.D] 52)).alloc (.cells #[.int .i64 (cmpI x.N y.N), .int .i64 (cmpI x.G y.G), .int .i64 (cmpI x.O y.O)] 3)).drew.cell? ⟨w.heap.size, 1, none⟩ = some (.int .i64 x.G) ∧ (((w.alloc (.cells #[.int .i64 x.N, .int .i64 x.G, .int .i64 x.O, .int .i64 x.A, .int .i64 x.D] 52)).alloc (.cells #[.int .i64 y.N, .int .i64 y.G, .int .i64 y.O, .int .i64 y.A, .int .i64 y.D] 52)).alloc (.cells #[.int .i64 (cmpI x.N y.N), .int .i64 (cmpI x.G y.G), .int .i64 (cmpI x.O y.O)] 3)).drew.cell? ⟨w.heap.size, 2, none⟩ = some (.int .i64 x.O) ∧ (((w.alloc (.cells #[.int .i64 x.N, .int .i64 x.G, .int .i64 x.O, .int .i64 x.A, .int .i64 x.D] 52)).alloc (.cells #[.int .i64 y.N, .int .i64 y.G, .int .i64 y.O, .int .i64 y.A, .int .i64 y.D] 52)).alloc (.cells #[.int .i64 (cmpI x.N y.N), .int .i64 (cmpI x.G y.G), .int .i64 (cmpI x.O y.O)] 3)).drew.cell? ⟨w.heap.size + 1, 0, none⟩ = some (.int .i64 y.N) ∧ (((w.alloc (.cells #[.int .i64 x.N, .int .i64 x.G, .int .i64 x.O, .int .i64 x.A, .int .i64 x.D] 52)).alloc (.cells #[.int .i64 y.N, .int .i64 y.G, .int .i64 y.O, .int .i64 y.A, .int .i64 y.D] 52)).alloc (.cells #[.int .i64 (cmpI x.N y.N), .int .i64 (cmpI x.G y.G), .int .i64 (cmpI x.O y.O)] 3)).drew.cell? ⟨w.heap.size + 1, 1, none⟩ = some (.int .i64 y.G) ∧ (((w.alloc (.cells #[.int .i64 x.N, .int .i64 x.G, .int .i64 x.O, .int .i64 x.A, .int .i64 x.D] 52)).alloc (.cells #[.int .i64 y.N, .int .i64 y.G, .int .i64 y.O, .int .i64 y.A, .int .i64 y.D] 52)).alloc (.cells #[.int .i64 (cmpI x.N y.N), .int .i64 (cmpI x.G y.G), .int .i64 (cmpI x.O y.O)] 3)).drew.cell? ⟨w.heap.size + 1, 2, none⟩ = some (.int .i64 y.O)) := SixO.only HS0.out ((Only.refl [] _).alloc (.cells #[.int .i64 (cmpI x.N y.N), .int .i64 (cmpI x.G y.G), .int .i64 (cmpI x.O y.O)] 3))
  clear h1 h2 o2
  have HC : Hid (∀ a b w, _) := fun a b w => compare_any a b w
  have hz := heap_alloc_last ((w.alloc (.cells #[.int .i64 x.N, .int .i64 x.G, .int .i64 x.O, .int .i64 x.A, .int .i64 x.D] 52)).alloc (.cells #[.int .i64 y.N, .int .i64 y.G, .int .i64 y.O, .int .i64 y.A, .int .i64 y.D] 52)) (.cells #[.int .i64 (cmpI x.N y.N), .int .i64 (cmpI x.G y.G), .int .i64 (cmpI x.O y.O)] 3)
  simp only [World.size_alloc] at hz
  have HR : Hid (Calls Tryd.prog 56 #[.slice (some ⟨w.heap.size + 1 + 1, 0, none⟩) 3 3] (((w.alloc (.cells #[.int .i64 x.N, .int .i64 x.G, .int .i64 x.O, .int .i64 x.A, .int .i64 x.D] 52)).alloc (.cells #[.int .i64 y.N, .int .i64 y.G, .int .i64 y.O, .int .i64 y.A, .int .i64 y.D] 52)).alloc (.cells #[.int .i64 (cmpI x.N y.N), .int .i64 (cmpI x.G y.G), .int .i64 (cmpI x.O y.O)] 3)).drew fun e w' => e = .returned (.int .i64 (orI (cmpI x.N y.N) (cmpI x.G y.G) (cmpI x.O y.O))) ∧ (((w.alloc (.cells #[.int .i64 x.N, .int .i64 x.G, .int .i64 x.O, .int .i64 x.A, .int .i64 x.D] 52)).alloc (.cells #[.int .i64 y.N, .int .i64 y.G, .int .i64 y.O, .int .i64 y.A, .int .i64 y.D] 52)).alloc (.cells #[.int .i64 (cmpI x.N y.N), .int .i64 (cmpI x.G y.G), .int .i64 (cmpI x.O y.O)] 3)).drew = w') := or_any (((w.alloc (.cells #[.int .i64 x.N, .int .i64 x.G, .int .i64 x.O, .int .i64 x.A, .int .i64 x.D] 52)).alloc (.cells #[.int .i64 y.N, .int .i64 y.G, .int .i64 y.O, .int .i64 y.A, .int .i64 y.D] 52)).alloc (.cells #[.int .i64 (cmpI x.N y.N), .int .i64 (cmpI x.G y.G), .int .i64 (cmpI x.O y.O)] 3)).drew (w.heap.size + 1 + 1) _ _ _ (cell_of_row _ _ 0 _ _ _ hz) (cell_of_row _ _ 1 _ _ _ hz) (cell_of_row _ _ 2 _ _ _ hz)
  clear hz
  go_enter Tryd.func47, Tryd.ntmps47
  go_wp2
  go_region_held3 (fun W => W.cell? ⟨w.heap.size, 0, none⟩ = some (.int .i64 x.N) ∧ W.cell? ⟨w.heap.size, 1, none⟩ = some (.int .i64 x.G) ∧ W.cell? ⟨w.heap.size, 2, none⟩ = some (.int .i64 x.O) ∧ W.cell? ⟨w.heap.size + 1, 0, none⟩ = some (.int .i64 y.N) ∧ W.cell? ⟨w.heap.size + 1, 1, none⟩ = some (.int .i64 y.G) ∧ W.cell? ⟨w.heap.size + 1, 2, none⟩ = some (.int .i64 y.O))
    (with_reducible first | exact HS0.out | exact HSz.out)
    (first
      | (go_at_call 57; refine (HC.out _ _ _).mono ?_; rintro e w2 ⟨rfl, rfl⟩)
      | (go_at_call 56; refine HR.out.mono ?_; rintro e w2 ⟨rfl, rfl⟩))
  all_goals go_wp2
  all_goals go_ret
  all_goals exact ⟨rfl, HO.out.alloc _⟩
end Go.Proofs.YtagpahgjbglmaaaDoor
