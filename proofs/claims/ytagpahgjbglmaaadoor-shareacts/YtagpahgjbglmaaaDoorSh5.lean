/- Shares: tests as closures: by, denying, having. -/
import Derived.Test.YtagpahgjbglmaaaDoorSh1
import Derived.Laws.EntriesVeiled
namespace Go.Proofs.YtagpahgjbglmaaaDoor
open Go Go.RowKit Go.Deep

def denyB (N G a : Int) (x : Opn) : Bool := decide (x.N = N ∧ x.G = G) && meetB x.D a
def haveB (N G d : Int) (x : Opn) : Bool := decide (x.N = N ∧ x.G = G) && meetB x.A d
def byB (o : Int) (x : Opn) : Bool := decide (x.O = o)
def agB (N G o a d : Int) (x : Opn) : Bool := !byB o x && (denyB N G a x || haveB N G d x)
theorem by_test (w : World) (o : Int) : Calls Tryd.prog 39 #[.int .i64 o] w fun e w' => ∃ b : Nat, e = .returned (.func (.func 52) #[] #[.pointer (some ⟨b, 0, none⟩)]) ∧ TestOf w' 52 #[.pointer (some ⟨b, 0, none⟩)] (byB o) ∧ Only [] w w' := by
  go_enter Tryd.func39, Tryd.ntmps39
  go_wp2
  go_ret
  have hh := heap_alloc_last w (.cells #[.int .i64 o] 3)
  exact ⟨w.heap.size, rfl, by1_any _ _ o (cell_of_row _ _ 0 _ _ _ hh), (Only.refl _ _).alloc _⟩
set_option maxHeartbeats 1000000 in
theorem denying1_any (w : World) (b c : Nat) (N G a : Int) (hb : w.cell? ⟨b, 0, none⟩ = some (.int .i64 N)) (hb2 : w.cell? ⟨b, 1, none⟩ = some (.int .i64 G)) (hc : w.cell? ⟨c, 0, none⟩ = some (.int .i64 a)) (ha : 0 ≤ a ∧ a ≤ 3) : TestOf w 50 #[.pointer (some ⟨b, 0, none⟩), .pointer (some ⟨c, 0, none⟩)] (denyB N G a) := by
  intro W x ho hx
  have c0 := (ho.cell (p := ⟨b, 0, none⟩) (lt_of_cell hb) (by simp)).trans hb
  have c1 := (ho.cell (p := ⟨b, 1, none⟩) (lt_of_cell hb2) (by simp)).trans hb2
  have c2 := (ho.cell (p := ⟨c, 0, none⟩) (lt_of_cell hc) (by simp)).trans hc
  have hbl := lt_of_cell c0
  have hcl := lt_of_cell c2
  have HS : Hid (∀ W, _) := fun W => hasSome_any x.D a W hx.2.2 ha
  unfold opV denyB
  clear hb hb2 hc ho hx
  obtain ⟨N', G', O, A, D⟩ := x
  show Calls Tryd.prog 50 #[.agg #[.int .i64 N', .int .i64 G', .int .i64 O, .int .i64 A, .int .i64 D], .pointer (some ⟨b, 0, none⟩), .pointer (some ⟨c, 0, none⟩)] W fun e w' => e = .returned (.bool (decide (N' = N ∧ G' = G) && meetB D a)) ∧ Only [] W w'
  have HS' : Hid (∀ W, Calls Tryd.prog 51 #[.int .i64 D, .int .i64 a] W fun e w' => e = .returned (.bool (meetB D a)) ∧ W = w') := HS.out
  clear HS
  generalize meetB D a = y at HS' ⊢
  by_cases h : N' = N ∧ G' = G
  · obtain ⟨rfl, rfl⟩ := h
    go_enter Tryd.func50, Tryd.ntmps50
    go_wp2_with (go_at_call 51; refine (HS'.out _).mono ?_; rintro e w2 ⟨rfl, rfl⟩)
    go_ret
    exact ⟨by simp, (Only.refl _ _).alloc _⟩
  · go_enter Tryd.func50, Tryd.ntmps50
    go_wp2_with (go_at_call 51; refine (HS'.out _).mono ?_; rintro e w2 ⟨rfl, rfl⟩)
    all_goals go_ret
    all_goals exact ⟨by simp, (Only.refl _ _).alloc _⟩
set_option maxHeartbeats 1000000 in
theorem having1_any (w : World) (b c : Nat) (N G a : Int) (hb : w.cell? ⟨b, 0, none⟩ = some (.int .i64 N)) (hb2 : w.cell? ⟨b, 1, none⟩ = some (.int .i64 G)) (hc : w.cell? ⟨c, 0, none⟩ = some (.int .i64 a)) (ha : 0 ≤ a ∧ a ≤ 3) : TestOf w 55 #[.pointer (some ⟨b, 0, none⟩), .pointer (some ⟨c, 0, none⟩)] (haveB N G a) := by
  intro W x ho hx
  have c0 := (ho.cell (p := ⟨b, 0, none⟩) (lt_of_cell hb) (by simp)).trans hb
  have c1 := (ho.cell (p := ⟨b, 1, none⟩) (lt_of_cell hb2) (by simp)).trans hb2
  have c2 := (ho.cell (p := ⟨c, 0, none⟩) (lt_of_cell hc) (by simp)).trans hc
  have hbl := lt_of_cell c0
  have hcl := lt_of_cell c2
  have HS : Hid (∀ W, _) := fun W => hasSome_any x.A a W ⟨by have := hx.1; omega, hx.2.1⟩ ha
  unfold opV haveB
  clear hb hb2 hc ho hx
  obtain ⟨N', G', O, A, D⟩ := x
  show Calls Tryd.prog 55 #[.agg #[.int .i64 N', .int .i64 G', .int .i64 O, .int .i64 A, .int .i64 D], .pointer (some ⟨b, 0, none⟩), .pointer (some ⟨c, 0, none⟩)] W fun e w' => e = .returned (.bool (decide (N' = N ∧ G' = G) && meetB A a)) ∧ Only [] W w'
  have HS' : Hid (∀ W, Calls Tryd.prog 51 #[.int .i64 A, .int .i64 a] W fun e w' => e = .returned (.bool (meetB A a)) ∧ W = w') := HS.out
  clear HS
  generalize meetB A a = y at HS' ⊢
  by_cases h : N' = N ∧ G' = G
  · obtain ⟨rfl, rfl⟩ := h
    go_enter Tryd.func55, Tryd.ntmps55
    go_wp2_with (go_at_call 51; refine (HS'.out _).mono ?_; rintro e w2 ⟨rfl, rfl⟩)
    go_ret
    exact ⟨by simp, (Only.refl _ _).alloc _⟩
  · go_enter Tryd.func55, Tryd.ntmps55
    go_wp2_with (go_at_call 51; refine (HS'.out _).mono ?_; rintro e w2 ⟨rfl, rfl⟩)
    all_goals go_ret
    all_goals exact ⟨by simp, (Only.refl _ _).alloc _⟩
theorem denying_test (w : World) (N G a : Int) (ha : 0 ≤ a ∧ a ≤ 3) : Calls Tryd.prog 37 #[.agg #[.int .i64 N, .int .i64 G], .int .i64 a] w fun e w' => ∃ b c : Nat, e = .returned (.func (.func 50) #[] #[.pointer (some ⟨b, 0, none⟩), .pointer (some ⟨c, 0, none⟩)]) ∧ TestOf w' 50 #[.pointer (some ⟨b, 0, none⟩), .pointer (some ⟨c, 0, none⟩)] (denyB N G a) ∧ Only [] w w' := by
  go_enter Tryd.func37, Tryd.ntmps37
  go_wp2
  go_ret
  have h1 := heap_alloc_last w (.cells #[.int .i64 N, .int .i64 G] 33)
  have h2 := heap_alloc_last (w.alloc (.cells #[.int .i64 N, .int .i64 G] 33)) (.cells #[.int .i64 a] 3)
  have o2 : Only [] (w.alloc (.cells #[.int .i64 N, .int .i64 G] 33)) ((w.alloc (.cells #[.int .i64 N, .int .i64 G] 33)).alloc (.cells #[.int .i64 a] 3)) := (Only.refl _ _).alloc _
  rw [World.size_alloc] at h2
  exact ⟨w.heap.size, w.heap.size + 1, rfl, denying1_any _ _ _ N G a ((o2.cell (p := ⟨w.heap.size, 0, none⟩) (by simp) (by simp)).trans (cell_of_row _ _ 0 _ _ _ h1)) ((o2.cell (p := ⟨w.heap.size, 1, none⟩) (by simp) (by simp)).trans (cell_of_row _ _ 1 _ _ _ h1)) (cell_of_row _ _ 0 _ _ _ h2) ha, ((Only.refl _ _).alloc _).alloc _⟩
theorem having_test (w : World) (N G a : Int) (ha : 0 ≤ a ∧ a ≤ 3) : Calls Tryd.prog 44 #[.agg #[.int .i64 N, .int .i64 G], .int .i64 a] w fun e w' => ∃ b c : Nat, e = .returned (.func (.func 55) #[] #[.pointer (some ⟨b, 0, none⟩), .pointer (some ⟨c, 0, none⟩)]) ∧ TestOf w' 55 #[.pointer (some ⟨b, 0, none⟩), .pointer (some ⟨c, 0, none⟩)] (haveB N G a) ∧ Only [] w w' := by
  go_enter Tryd.func44, Tryd.ntmps44
  go_wp2
  go_ret
  have h1 := heap_alloc_last w (.cells #[.int .i64 N, .int .i64 G] 33)
  have h2 := heap_alloc_last (w.alloc (.cells #[.int .i64 N, .int .i64 G] 33)) (.cells #[.int .i64 a] 3)
  have o2 : Only [] (w.alloc (.cells #[.int .i64 N, .int .i64 G] 33)) ((w.alloc (.cells #[.int .i64 N, .int .i64 G] 33)).alloc (.cells #[.int .i64 a] 3)) := (Only.refl _ _).alloc _
  rw [World.size_alloc] at h2
  exact ⟨w.heap.size, w.heap.size + 1, rfl, having1_any _ _ _ N G a ((o2.cell (p := ⟨w.heap.size, 0, none⟩) (by simp) (by simp)).trans (cell_of_row _ _ 0 _ _ _ h1)) ((o2.cell (p := ⟨w.heap.size, 1, none⟩) (by simp) (by simp)).trans (cell_of_row _ _ 1 _ _ _ h1)) (cell_of_row _ _ 0 _ _ _ h2) ha, ((Only.refl _ _).alloc _).alloc _⟩
theorem denying_made (w : World) (N G a : Int) : Calls Tryd.prog 37 #[.agg #[.int .i64 N, .int .i64 G], .int .i64 a] w fun e w' => ∃ b c : Nat, e = .returned (.func (.func 50) #[] #[.pointer (some ⟨b, 0, none⟩), .pointer (some ⟨c, 0, none⟩)]) ∧ w'.cell? ⟨b, 0, none⟩ = some (.int .i64 N) ∧ w'.cell? ⟨b, 1, none⟩ = some (.int .i64 G) ∧ w'.cell? ⟨c, 0, none⟩ = some (.int .i64 a) ∧ Only [] w w' ∧ w.heap.size ≤ b ∧ w.heap.size ≤ c := by
  go_enter Tryd.func37, Tryd.ntmps37
  go_wp2
  go_ret
  have h1 := heap_alloc_last w (.cells #[.int .i64 N, .int .i64 G] 33)
  have h2 := heap_alloc_last (w.alloc (.cells #[.int .i64 N, .int .i64 G] 33)) (.cells #[.int .i64 a] 3)
  have o2 : Only [] (w.alloc (.cells #[.int .i64 N, .int .i64 G] 33)) ((w.alloc (.cells #[.int .i64 N, .int .i64 G] 33)).alloc (.cells #[.int .i64 a] 3)) := (Only.refl _ _).alloc _
  rw [World.size_alloc] at h2
  exact ⟨w.heap.size, w.heap.size + 1, rfl, ((o2.cell (p := ⟨w.heap.size, 0, none⟩) (by simp) (by simp)).trans (cell_of_row _ _ 0 _ _ _ h1)), ((o2.cell (p := ⟨w.heap.size, 1, none⟩) (by simp) (by simp)).trans (cell_of_row _ _ 1 _ _ _ h1)), (cell_of_row _ _ 0 _ _ _ h2), ((Only.refl _ _).alloc _).alloc _, Nat.le_refl _, Nat.le_succ _⟩
theorem having_made (w : World) (N G a : Int) : Calls Tryd.prog 44 #[.agg #[.int .i64 N, .int .i64 G], .int .i64 a] w fun e w' => ∃ b c : Nat, e = .returned (.func (.func 55) #[] #[.pointer (some ⟨b, 0, none⟩), .pointer (some ⟨c, 0, none⟩)]) ∧ w'.cell? ⟨b, 0, none⟩ = some (.int .i64 N) ∧ w'.cell? ⟨b, 1, none⟩ = some (.int .i64 G) ∧ w'.cell? ⟨c, 0, none⟩ = some (.int .i64 a) ∧ Only [] w w' ∧ w.heap.size ≤ b ∧ w.heap.size ≤ c := by
  go_enter Tryd.func44, Tryd.ntmps44
  go_wp2
  go_ret
  have h1 := heap_alloc_last w (.cells #[.int .i64 N, .int .i64 G] 33)
  have h2 := heap_alloc_last (w.alloc (.cells #[.int .i64 N, .int .i64 G] 33)) (.cells #[.int .i64 a] 3)
  have o2 : Only [] (w.alloc (.cells #[.int .i64 N, .int .i64 G] 33)) ((w.alloc (.cells #[.int .i64 N, .int .i64 G] 33)).alloc (.cells #[.int .i64 a] 3)) := (Only.refl _ _).alloc _
  rw [World.size_alloc] at h2
  exact ⟨w.heap.size, w.heap.size + 1, rfl, ((o2.cell (p := ⟨w.heap.size, 0, none⟩) (by simp) (by simp)).trans (cell_of_row _ _ 0 _ _ _ h1)), ((o2.cell (p := ⟨w.heap.size, 1, none⟩) (by simp) (by simp)).trans (cell_of_row _ _ 1 _ _ _ h1)), (cell_of_row _ _ 0 _ _ _ h2), ((Only.refl _ _).alloc _).alloc _, Nat.le_refl _, Nat.le_succ _⟩
theorem by_made (w : World) (o : Int) : Calls Tryd.prog 39 #[.int .i64 o] w fun e w' => ∃ b : Nat, e = .returned (.func (.func 52) #[] #[.pointer (some ⟨b, 0, none⟩)]) ∧ w'.cell? ⟨b, 0, none⟩ = some (.int .i64 o) ∧ Only [] w w' ∧ w.heap.size ≤ b := by
  go_enter Tryd.func39, Tryd.ntmps39
  go_wp2
  go_ret
  have hh := heap_alloc_last w (.cells #[.int .i64 o] 3)
  exact ⟨w.heap.size, rfl, cell_of_row _ _ 0 _ _ _ hh, (Only.refl _ _).alloc _, Nat.le_refl _⟩
end Go.Proofs.YtagpahgjbglmaaaDoor
