/- Locks: their order. -/
import Derived.Test.YtfnniphemlnanaaDoorLk9
namespace Go.Proofs.YtfnniphemlnanaaDoor
open Go Go.RowKit Go.Deep

def cmpI (a b : Int) : Int := if a < b then -1 else if b < a then 1 else 0
def orI (a b c d : Int) : Int := if a ≠ 0 then a else if b ≠ 0 then b else if c ≠ 0 then c else d
theorem compare_any (a b : Int) (w : World) : Calls Tryd.prog 54 #[.int .i64 a, .int .i64 b] w fun e w' => e = .returned (.int .i64 (cmpI a b)) ∧ w = w' := by
  unfold cmpI
  by_cases h1 : a < b
  · rw [if_pos h1]
    have hd : decide (a < b) = true := decide_eq_true h1
    go_enter Tryd.func54, Tryd.ntmps54
    go_wp2_with go_in
    go_ret
    exact ⟨rfl, rfl⟩
  · rw [if_neg h1]
    have hd : decide (a < b) = false := decide_eq_false h1
    by_cases h2 : b < a
    · rw [if_pos h2]
      have hd2 : decide (b < a) = true := decide_eq_true h2
      go_enter Tryd.func54, Tryd.ntmps54
      go_wp2_with go_in
      go_ret
      exact ⟨rfl, rfl⟩
    · rw [if_neg h2]
      have hd2 : decide (b < a) = false := decide_eq_false h2
      go_enter Tryd.func54, Tryd.ntmps54
      go_wp2_with go_in
      go_ret
      exact ⟨rfl, rfl⟩
set_option maxHeartbeats 1000000 in
theorem or_any (W : World) (B : Nat) (a b c d : Int) (c0 : W.cell? ⟨B, 0, none⟩ = some (.int .i64 a)) (c1 : W.cell? ⟨B, 1, none⟩ = some (.int .i64 b)) (c2 : W.cell? ⟨B, 2, none⟩ = some (.int .i64 c)) (c3 : W.cell? ⟨B, 3, none⟩ = some (.int .i64 d)) : Calls Tryd.prog 53 #[.slice (some ⟨B, 0, none⟩) 4 4] W fun e w' => e = .returned (.int .i64 (orI a b c d)) ∧ W = w' := by
  unfold orI
  by_cases ha : a = 0
  · subst ha
    rw [if_neg (by simp)]
    by_cases hb : b = 0
    · subst hb
      rw [if_neg (by simp)]
      by_cases hc : c = 0
      · subst hc
        rw [if_neg (by simp)]
        by_cases hd : d = 0
        · subst hd
          go_enter Tryd.func53, Tryd.ntmps53
          go_wp2
          refine wp_loop_rounds 5 ?_
          rw [rounds_succ]
          go_wp2
          rw [rounds_succ]
          go_wp2
          rw [rounds_succ]
          go_wp2
          rw [rounds_succ]
          go_wp2
          rw [rounds_succ]
          go_wp2
          go_ret
          exact ⟨rfl, rfl⟩
        · go_enter Tryd.func53, Tryd.ntmps53
          go_wp2
          refine wp_loop_rounds 4 ?_
          rw [rounds_succ]
          go_wp2
          rw [rounds_succ]
          go_wp2
          rw [rounds_succ]
          go_wp2
          rw [rounds_succ]
          go_wp2
          go_ret
          exact ⟨rfl, rfl⟩
      · rw [if_pos hc]
        go_enter Tryd.func53, Tryd.ntmps53
        go_wp2
        refine wp_loop_rounds 3 ?_
        rw [rounds_succ]
        go_wp2
        rw [rounds_succ]
        go_wp2
        rw [rounds_succ]
        go_wp2
        go_ret
        exact ⟨rfl, rfl⟩
    · rw [if_pos hb]
      go_enter Tryd.func53, Tryd.ntmps53
      go_wp2
      refine wp_loop_rounds 2 ?_
      rw [rounds_succ]
      go_wp2
      rw [rounds_succ]
      go_wp2
      go_ret
      exact ⟨rfl, rfl⟩
  · rw [if_pos ha]
    go_enter Tryd.func53, Tryd.ntmps53
    go_wp2
    refine wp_loop_rounds 1 ?_
    rw [rounds_succ]
    go_wp2
    go_ret
    exact ⟨rfl, rfl⟩
def ordI (x y : Lk) : Int := orI (cmpI x.N y.N) (cmpI x.G y.G) (cmpI x.A y.A) (cmpI x.O y.O)
theorem EightO.only {w W : World} {B C : Nat} {x y : Lk} (h : w.cell? ⟨B, 0, none⟩ = some (.int .i64 x.N) ∧ w.cell? ⟨B, 1, none⟩ = some (.int .i64 x.G) ∧ w.cell? ⟨B, 2, none⟩ = some (.int .i64 x.O) ∧ w.cell? ⟨B, 3, none⟩ = some (.int .i64 x.A) ∧ w.cell? ⟨C, 0, none⟩ = some (.int .i64 y.N) ∧ w.cell? ⟨C, 1, none⟩ = some (.int .i64 y.G) ∧ w.cell? ⟨C, 2, none⟩ = some (.int .i64 y.O) ∧ w.cell? ⟨C, 3, none⟩ = some (.int .i64 y.A)) (ho : Only [] w W) : W.cell? ⟨B, 0, none⟩ = some (.int .i64 x.N) ∧ W.cell? ⟨B, 1, none⟩ = some (.int .i64 x.G) ∧ W.cell? ⟨B, 2, none⟩ = some (.int .i64 x.O) ∧ W.cell? ⟨B, 3, none⟩ = some (.int .i64 x.A) ∧ W.cell? ⟨C, 0, none⟩ = some (.int .i64 y.N) ∧ W.cell? ⟨C, 1, none⟩ = some (.int .i64 y.G) ∧ W.cell? ⟨C, 2, none⟩ = some (.int .i64 y.O) ∧ W.cell? ⟨C, 3, none⟩ = some (.int .i64 y.A) := by
  have k : ∀ (b o : Nat) (u : Value), w.cell? ⟨b, o, none⟩ = some u → W.cell? ⟨b, o, none⟩ = some u := fun b o u hc => (ho.cell (p := ⟨b, o, none⟩) (lt_of_cell hc) (by simp)).trans hc
  exact ⟨k _ _ _ h.1, k _ _ _ h.2.1, k _ _ _ h.2.2.1, k _ _ _ h.2.2.2.1, k _ _ _ h.2.2.2.2.1, k _ _ _ h.2.2.2.2.2.1, k _ _ _ h.2.2.2.2.2.2.1, k _ _ _ h.2.2.2.2.2.2.2⟩
set_option maxHeartbeats 4000000 in
set_option maxRecDepth 100000 in
theorem inOrder_any (w : World) (x y : Lk) : Calls Tryd.prog 38 #[lkV x, lkV y] w fun e w' => e = .returned (.int .i64 (ordI x y)) ∧ ∃ q os', w' = Sort.grow (w.drewN q) os' := by
  unfold lkV ordI
  have HS : Hid (((w.alloc (.cells #[.int .i64 x.N, .int .i64 x.G, .int .i64 x.O, .int .i64 x.A, .int .i64 x.S, .bool x.W] 39)).alloc (.cells #[.int .i64 y.N, .int .i64 y.G, .int .i64 y.O, .int .i64 y.A, .int .i64 y.S, .bool y.W] 39)).cell? ⟨w.heap.size, 0, none⟩ = some (.int .i64 x.N) ∧ ((w.alloc (.cells #[.int .i64 x.N, .int .i64 x.G, .int .i64 x.O, .int .i64 x.A, .int .i64 x.S, .bool x.W] 39)).alloc (.cells #[.int .i64 y.N, .int .i64 y.G, .int .i64 y.O, .int .i64 y.A, .int .i64 y.S, .bool y.W] 39)).cell? ⟨w.heap.size, 1, none⟩ = some (.int .i64 x.G) ∧ ((w.alloc (.cells #[.int .i64 x.N, .int .i64 x.G, .int .i64 x.O, .int .i64 x.A, .int .i64 x.S, .bool x.W] 39)).alloc (.cells #[.int .i64 y.N, .int .i64 y.G, .int .i64 y.O, .int .i64 y.A, .int .i64 y.S, .bool y.W] 39)).cell? ⟨w.heap.size, 2, none⟩ = some (.int .i64 x.O) ∧ ((w.alloc (.cells #[.int .i64 x.N, .int .i64 x.G, .int .i64 x.O, .int .i64 x.A, .int .i64 x.S, .bool x.W] 39)).alloc (.cells #[.int .i64 y.N, .int .i64 y.G, .int .i64 y.O, .int .i64 y.A, .int .i64 y.S, .bool y.W] 39)).cell? ⟨w.heap.size, 3, none⟩ = some (.int .i64 x.A) ∧ ((w.alloc (.cells #[.int .i64 x.N, .int .i64 x.G, .int .i64 x.O, .int .i64 x.A, .int .i64 x.S, .bool x.W] 39)).alloc (.cells #[.int .i64 y.N, .int .i64 y.G, .int .i64 y.O, .int .i64 y.A, .int .i64 y.S, .bool y.W] 39)).cell? ⟨w.heap.size + 1, 0, none⟩ = some (.int .i64 y.N) ∧ ((w.alloc (.cells #[.int .i64 x.N, .int .i64 x.G, .int .i64 x.O, .int .i64 x.A, .int .i64 x.S, .bool x.W] 39)).alloc (.cells #[.int .i64 y.N, .int .i64 y.G, .int .i64 y.O, .int .i64 y.A, .int .i64 y.S, .bool y.W] 39)).cell? ⟨w.heap.size + 1, 1, none⟩ = some (.int .i64 y.G) ∧ ((w.alloc (.cells #[.int .i64 x.N, .int .i64 x.G, .int .i64 x.O, .int .i64 x.A, .int .i64 x.S, .bool x.W] 39)).alloc (.cells #[.int .i64 y.N, .int .i64 y.G, .int .i64 y.O, .int .i64 y.A, .int .i64 y.S, .bool y.W] 39)).cell? ⟨w.heap.size + 1, 2, none⟩ = some (.int .i64 y.O) ∧ ((w.alloc (.cells #[.int .i64 x.N, .int .i64 x.G, .int .i64 x.O, .int .i64 x.A, .int .i64 x.S, .bool x.W] 39)).alloc (.cells #[.int .i64 y.N, .int .i64 y.G, .int .i64 y.O, .int .i64 y.A, .int .i64 y.S, .bool y.W] 39)).cell? ⟨w.heap.size + 1, 3, none⟩ = some (.int .i64 y.A)) := by
    have a := (LkIn.new w x 39).only ((Only.refl [] _).alloc (.cells #[.int .i64 y.N, .int .i64 y.G, .int .i64 y.O, .int .i64 y.A, .int .i64 y.S, .bool y.W] 39)) (by simp)
    have b := LkIn.new (w.alloc (.cells #[.int .i64 x.N, .int .i64 x.G, .int .i64 x.O, .int .i64 x.A, .int .i64 x.S, .bool x.W] 39)) y 39
    rw [World.size_alloc] at b
    exact ⟨a.1, a.2.1, a.2.2.1, a.2.2.2.1, b.1, b.2.1, b.2.2.1, b.2.2.2.1⟩
  have HS0 : Hid (((w.alloc (.cells #[.int .i64 x.N, .int .i64 x.G, .int .i64 x.O, .int .i64 x.A, .int .i64 x.S, .bool x.W] 39)).alloc (.cells #[.int .i64 y.N, .int .i64 y.G, .int .i64 y.O, .int .i64 y.A, .int .i64 y.S, .bool y.W] 39)).drew.cell? ⟨w.heap.size, 0, none⟩ = some (.int .i64 x.N) ∧ ((w.alloc (.cells #[.int .i64 x.N, .int .i64 x.G, .int .i64 x.O, .int .i64 x.A, .int .i64 x.S, .bool x.W] 39)).alloc (.cells #[.int .i64 y.N, .int .i64 y.G, .int .i64 y.O, .int .i64 y.A, .int .i64 y.S, .bool y.W] 39)).drew.cell? ⟨w.heap.size, 1, none⟩ = some (.int .i64 x.G) ∧ ((w.alloc (.cells #[.int .i64 x.N, .int .i64 x.G, .int .i64 x.O, .int .i64 x.A, .int .i64 x.S, .bool x.W] 39)).alloc (.cells #[.int .i64 y.N, .int .i64 y.G, .int .i64 y.O, .int .i64 y.A, .int .i64 y.S, .bool y.W] 39)).drew.cell? ⟨w.heap.size, 2, none⟩ = some (.int .i64 x.O) ∧ ((w.alloc (.cells #[.int .i64 x.N, .int .i64 x.G, .int .i64 x.O, .int .i64 x.A, .int .i64 x.S, .bool x.W] 39)).alloc (.cells #[.int .i64 y.N, .int .i64 y.G, .int .i64 y.O, .int .i64 y.A, .int .i64 y.S, .bool y.W] 39)).drew.cell? ⟨w.heap.size, 3, none⟩ = some (.int .i64 x.A) ∧ ((w.alloc (.cells #[.int .i64 x.N, .int .i64 x.G, .int .i64 x.O, .int .i64 x.A, .int .i64 x.S, .bool x.W] 39)).alloc (.cells #[.int .i64 y.N, .int .i64 y.G, .int .i64 y.O, .int .i64 y.A, .int .i64 y.S, .bool y.W] 39)).drew.cell? ⟨w.heap.size + 1, 0, none⟩ = some (.int .i64 y.N) ∧ ((w.alloc (.cells #[.int .i64 x.N, .int .i64 x.G, .int .i64 x.O, .int .i64 x.A, .int .i64 x.S, .bool x.W] 39)).alloc (.cells #[.int .i64 y.N, .int .i64 y.G, .int .i64 y.O, .int .i64 y.A, .int .i64 y.S, .bool y.W] 39)).drew.cell? ⟨w.heap.size + 1, 1, none⟩ = some (.int .i64 y.G) ∧ ((w.alloc (.cells #[.int .i64 x.N, .int .i64 x.G, .int .i64 x.O, .int .i64 x.A, .int .i64 x.S, .bool x.W] 39)).alloc (.cells #[.int .i64 y.N, .int .i64 y.G, .int .i64 y.O, .int .i64 y.A, .int .i64 y.S, .bool y.W] 39)).drew.cell? ⟨w.heap.size + 1, 2, none⟩ = some (.int .i64 y.O) ∧ ((w.alloc (.cells #[.int .i64 x.N, .int .i64 x.G, .int .i64 x.O, .int .i64 x.A, .int .i64 x.S, .bool x.W] 39)).alloc (.cells #[.int .i64 y.N, .int .i64 y.G, .int .i64 y.O, .int .i64 y.A, .int .i64 y.S, .bool y.W] 39)).drew.cell? ⟨w.heap.size + 1, 3, none⟩ = some (.int .i64 y.A)) := EightO.only HS.out (Only.refl [] _).drew
  have HSz : Hid ((((w.alloc (.cells #[.int .i64 x.N, .int .i64 x.G, .int .i64 x.O, .int .i64 x.A, .int .i64 x.S, .bool x.W] 39)).alloc (.cells #[.int .i64 y.N, .int .i64 y.G, .int .i64 y.O, .int .i64 y.A, .int .i64 y.S, .bool y.W] 39)).alloc (.cells #[.int .i64 (cmpI x.N y.N), .int .i64 (cmpI x.G y.G), .int .i64 (cmpI x.A y.A), .int .i64 (cmpI x.O y.O)] 3)).drew.cell? ⟨w.heap.size, 0, none⟩ = some (.int .i64 x.N) ∧ (((w.alloc (.cells #[.int .i64 x.N, .int .i64 x.G, .int .i64 x.O, .int .i64 x.A, .int .i64 x.S, .bool x.W] 39)).alloc (.cells #[.int .i64 y.N, .int .i64 y.G, .int .i64 y.O, .int .i64 y.A, .int .i64 y.S, .bool y.W] 39)).alloc (.cells #[.int .i64 (cmpI x.N y.N), .int .i64 (cmpI x.G y.G), .int .i64 (cmpI x.A y.A), .int .i64 (cmpI x.O y.O)] 3)).drew.cell? ⟨w.heap.size, 1, none⟩ = some (.int .i64 x.G) ∧ (((w.alloc (.cells #[.int .i64 x.N, .int .i64 x.G, .int .i64 x.O, .int .i64 x.A, .int .i64 x.S, .bool x.W] 39)).alloc (.cells #[.int .i64 y.N, .int .i64 y.G, .int .i64 y.O, .int .i64 y.A, .int .i64 y.S, .bool y.W] 39)).alloc (.cells #[.int .i64 (cmpI x.N y.N), .int .i64 (cmpI x.G y.G), .int .i64 (cmpI x.A y.A), .int .i64 (cmpI x.O y.O)] 3)).drew.cell? ⟨w.heap.size, 2, none⟩ = some (.int .i64 x.O) ∧ (((w.alloc (.cells #[.int .i64 x.N, .int .i64 x.G, .int .i64 x.O, .int .i64 x.A, .int .i64 x.S, .bool x.W] 39)).alloc (.cells #[.int .i64 y.N, .int .i64 y.G, .int .i64 y.O, .int .i64 y.A, .int .i64 y.S, .bool y.W] 39)).alloc (.cells #[.int .i64 (cmpI x.N y.N), .int .i64 (cmpI x.G y.G), .int .i64 (cmpI x.A y.A), .int .i64 (cmpI x.O y.O)] 3)).drew.cell? ⟨w.heap.size, 3, none⟩ = some (.int .i64 x.A) ∧ (((w.alloc (.cells #[.int .i64 x.N, .int .i64 x.G, .int .i64 x.O, .int .i64 x.A, .int .i64 x.S, .bool x.W] 39)).alloc (.cells #[.int .i64 y.N, .int .i64 y.G, .int .i64 y.O, .int .i64 y.A, .int .i64 y.S, .bool y.W] 39)).alloc (.cells #[.int .i64 (cmpI x.N y.N), .int .i64 (cmpI x.G y.G), .int .i64 (cmpI x.A y.A), .int .i64 (cmpI x.O y.O)] 3)).drew.cell? ⟨w.heap.size + 1, 0, none⟩ = some (.int .i64 y.N) ∧ (((w.alloc (.cells #[.int .i64 x.N, .int .i64 x.G, .int .i64 x.O, .int .i64 x.A, .int .i64 x.S, .bool x.W] 39)).alloc (.cells #[.int .i64 y.N, .int .i64 y.G, .int .i64 y.O, .int .i64 y.A, .int .i64 y.S, .bool y.W] 39)).alloc (.cells #[.int .i64 (cmpI x.N y.N), .int .i64 (cmpI x.G y.G), .int .i64 (cmpI x.A y.A), .int .i64 (cmpI x.O y.O)] 3)).drew.cell? ⟨w.heap.size + 1, 1, none⟩ = some (.int .i64 y.G) ∧ (((w.alloc (.cells #[.int .i64 x.N, .int .i64 x.G, .int .i64 x.O, .int .i64 x.A, .int .i64 x.S, .bool x.W] 39)).alloc (.cells #[.int .i64 y.N, .int .i64 y.G, .int .i64 y.O, .int .i64 y.A, .int .i64 y.S, .bool y.W] 39)).alloc (.cells #[.int .i64 (cmpI x.N y.N), .int .i64 (cmpI x.G y.G), .int .i64 (cmpI x.A y.A), .int .i64 (cmpI x.O y.O)] 3)).drew.cell? ⟨w.heap.size + 1, 2, none⟩ = some (.int .i64 y.O) ∧ (((w.alloc (.cells #[.int .i64 x.N, .int .i64 x.G, .int .i64 x.O, .int .i64 x.A, .int .i64 x.S, .bool x.W] 39)).alloc (.cells #[.int .i64 y.N, .int .i64 y.G, .int .i64 y.O, .int .i64 y.A, .int .i64 y.S, .bool y.W] 39)).alloc (.cells #[.int .i64 (cmpI x.N y.N), .int .i64 (cmpI x.G y.G), .int .i64 (cmpI x.A y.A), .int .i64 (cmpI x.O y.O)] 3)).drew.cell? ⟨w.heap.size + 1, 3, none⟩ = some (.int .i64 y.A)) := EightO.only HS.out ((Only.refl [] _).alloc _).drew
  have HC : Hid (∀ a b W, Calls Tryd.prog 54 #[.int .i64 a, .int .i64 b] W fun e w' => e = .returned (.int .i64 (cmpI a b)) ∧ W = w') := fun a b W => compare_any a b W
  have hz := heap_alloc_last ((w.alloc (.cells #[.int .i64 x.N, .int .i64 x.G, .int .i64 x.O, .int .i64 x.A, .int .i64 x.S, .bool x.W] 39)).alloc (.cells #[.int .i64 y.N, .int .i64 y.G, .int .i64 y.O, .int .i64 y.A, .int .i64 y.S, .bool y.W] 39)) (.cells #[.int .i64 (cmpI x.N y.N), .int .i64 (cmpI x.G y.G), .int .i64 (cmpI x.A y.A), .int .i64 (cmpI x.O y.O)] 3)
  simp only [World.size_alloc] at hz
  have HR : Hid (Calls Tryd.prog 53 #[.slice (some ⟨w.heap.size + 1 + 1, 0, none⟩) 4 4] (((w.alloc (.cells #[.int .i64 x.N, .int .i64 x.G, .int .i64 x.O, .int .i64 x.A, .int .i64 x.S, .bool x.W] 39)).alloc (.cells #[.int .i64 y.N, .int .i64 y.G, .int .i64 y.O, .int .i64 y.A, .int .i64 y.S, .bool y.W] 39)).alloc (.cells #[.int .i64 (cmpI x.N y.N), .int .i64 (cmpI x.G y.G), .int .i64 (cmpI x.A y.A), .int .i64 (cmpI x.O y.O)] 3)).drew fun e w' => e = .returned (.int .i64 (orI (cmpI x.N y.N) (cmpI x.G y.G) (cmpI x.A y.A) (cmpI x.O y.O))) ∧ (((w.alloc (.cells #[.int .i64 x.N, .int .i64 x.G, .int .i64 x.O, .int .i64 x.A, .int .i64 x.S, .bool x.W] 39)).alloc (.cells #[.int .i64 y.N, .int .i64 y.G, .int .i64 y.O, .int .i64 y.A, .int .i64 y.S, .bool y.W] 39)).alloc (.cells #[.int .i64 (cmpI x.N y.N), .int .i64 (cmpI x.G y.G), .int .i64 (cmpI x.A y.A), .int .i64 (cmpI x.O y.O)] 3)).drew = w') := or_any (((w.alloc (.cells #[.int .i64 x.N, .int .i64 x.G, .int .i64 x.O, .int .i64 x.A, .int .i64 x.S, .bool x.W] 39)).alloc (.cells #[.int .i64 y.N, .int .i64 y.G, .int .i64 y.O, .int .i64 y.A, .int .i64 y.S, .bool y.W] 39)).alloc (.cells #[.int .i64 (cmpI x.N y.N), .int .i64 (cmpI x.G y.G), .int .i64 (cmpI x.A y.A), .int .i64 (cmpI x.O y.O)] 3)).drew _ _ _ _ _ (cell_of_row _ _ 0 _ _ _ hz) (cell_of_row _ _ 1 _ _ _ hz) (cell_of_row _ _ 2 _ _ _ hz) (cell_of_row _ _ 3 _ _ _ hz)
  clear hz
  have HG : Hid (∃ q os', (((w.alloc (.cells #[.int .i64 x.N, .int .i64 x.G, .int .i64 x.O, .int .i64 x.A, .int .i64 x.S, .bool x.W] 39)).alloc (.cells #[.int .i64 y.N, .int .i64 y.G, .int .i64 y.O, .int .i64 y.A, .int .i64 y.S, .bool y.W] 39)).alloc (.cells #[.int .i64 (cmpI x.N y.N), .int .i64 (cmpI x.G y.G), .int .i64 (cmpI x.A y.A), .int .i64 (cmpI x.O y.O)] 3)).drew = Sort.grow (w.drewN q) os') := ⟨1, #[.cells #[.int .i64 x.N, .int .i64 x.G, .int .i64 x.O, .int .i64 x.A, .int .i64 x.S, .bool x.W] 39] ++ #[.cells #[.int .i64 y.N, .int .i64 y.G, .int .i64 y.O, .int .i64 y.A, .int .i64 y.S, .bool y.W] 39] ++ #[.cells #[.int .i64 (cmpI x.N y.N), .int .i64 (cmpI x.G y.G), .int .i64 (cmpI x.A y.A), .int .i64 (cmpI x.O y.O)] 3], by rw [Sort.alloc_eq_grow, Sort.alloc_eq_grow, Sort.alloc_eq_grow, Sort.grow_grow, Sort.grow_grow]; rfl⟩
  go_enter Tryd.func38, Tryd.ntmps38
  go_wp2
  go_region_held3 (fun W => W.cell? ⟨w.heap.size, 0, none⟩ = some (.int .i64 x.N) ∧ W.cell? ⟨w.heap.size, 1, none⟩ = some (.int .i64 x.G) ∧ W.cell? ⟨w.heap.size, 2, none⟩ = some (.int .i64 x.O) ∧ W.cell? ⟨w.heap.size, 3, none⟩ = some (.int .i64 x.A) ∧ W.cell? ⟨w.heap.size + 1, 0, none⟩ = some (.int .i64 y.N) ∧ W.cell? ⟨w.heap.size + 1, 1, none⟩ = some (.int .i64 y.G) ∧ W.cell? ⟨w.heap.size + 1, 2, none⟩ = some (.int .i64 y.O) ∧ W.cell? ⟨w.heap.size + 1, 3, none⟩ = some (.int .i64 y.A))
    (with_reducible first | exact HS0.out | exact HSz.out)
    (first
      | (go_at_call 54; refine (HC.out _ _ _).mono ?_; rintro e w2 ⟨rfl, rfl⟩)
      | (go_at_call 53; refine HR.out.mono ?_; rintro e w2 ⟨rfl, rfl⟩))
  all_goals go_wp2
  all_goals go_ret
  all_goals exact ⟨rfl, HG.out⟩
end Go.Proofs.YtfnniphemlnanaaDoor
