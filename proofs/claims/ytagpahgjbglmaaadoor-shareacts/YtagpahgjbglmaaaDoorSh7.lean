/- Shares: the test for opens that are against one. -/
import Derived.Test.YtagpahgjbglmaaaDoorSh6
namespace Go.Proofs.YtagpahgjbglmaaaDoor
open Go Go.RowKit Go.Deep

theorem FourO.only {w W : World} {B : Nat} {N G ac dn : Int} {L : List Nat} (h : w.cell? ⟨B, 0, none⟩ = some (.int .i64 N) ∧ w.cell? ⟨B, 1, none⟩ = some (.int .i64 G) ∧ w.cell? ⟨B, 3, none⟩ = some (.int .i64 ac) ∧ w.cell? ⟨B, 4, none⟩ = some (.int .i64 dn)) (ho : Only L w W) (h1 : B ∉ L) : W.cell? ⟨B, 0, none⟩ = some (.int .i64 N) ∧ W.cell? ⟨B, 1, none⟩ = some (.int .i64 G) ∧ W.cell? ⟨B, 3, none⟩ = some (.int .i64 ac) ∧ W.cell? ⟨B, 4, none⟩ = some (.int .i64 dn) :=
  ⟨(ho.cell (p := ⟨B, 0, none⟩) (lt_of_cell h.1) h1).trans h.1, (ho.cell (p := ⟨B, 1, none⟩) (lt_of_cell h.2.1) h1).trans h.2.1, (ho.cell (p := ⟨B, 3, none⟩) (lt_of_cell h.2.2.1) h1).trans h.2.2.1, (ho.cell (p := ⟨B, 4, none⟩) (lt_of_cell h.2.2.2) h1).trans h.2.2.2⟩
theorem FourO.alloc {w : World} {B : Nat} {N G ac dn : Int} {x : Obj} (h : w.cell? ⟨B, 0, none⟩ = some (.int .i64 N) ∧ w.cell? ⟨B, 1, none⟩ = some (.int .i64 G) ∧ w.cell? ⟨B, 3, none⟩ = some (.int .i64 ac) ∧ w.cell? ⟨B, 4, none⟩ = some (.int .i64 dn)) : (w.alloc x).cell? ⟨B, 0, none⟩ = some (.int .i64 N) ∧ (w.alloc x).cell? ⟨B, 1, none⟩ = some (.int .i64 G) ∧ (w.alloc x).cell? ⟨B, 3, none⟩ = some (.int .i64 ac) ∧ (w.alloc x).cell? ⟨B, 4, none⟩ = some (.int .i64 dn) := FourO.only h ((Only.refl [] w).alloc _) (by simp)
theorem FourO.set {w : World} {B blk : Nat} {N G ac dn : Int} {u : Value} (h : w.cell? ⟨B, 0, none⟩ = some (.int .i64 N) ∧ w.cell? ⟨B, 1, none⟩ = some (.int .i64 G) ∧ w.cell? ⟨B, 3, none⟩ = some (.int .i64 ac) ∧ w.cell? ⟨B, 4, none⟩ = some (.int .i64 dn)) (hn : B ≠ blk) : (w.setCell ⟨blk, 0, none⟩ u).cell? ⟨B, 0, none⟩ = some (.int .i64 N) ∧ (w.setCell ⟨blk, 0, none⟩ u).cell? ⟨B, 1, none⟩ = some (.int .i64 G) ∧ (w.setCell ⟨blk, 0, none⟩ u).cell? ⟨B, 3, none⟩ = some (.int .i64 ac) ∧ (w.setCell ⟨blk, 0, none⟩ u).cell? ⟨B, 4, none⟩ = some (.int .i64 dn) := FourO.only h ((Only.refl [blk] w).setCell (Or.inl (by simp)) _) (by simpa using hn)
theorem Only.of_drew' {L : List Nat} {w w' : World} (h : Only L w.drew w') : Only L w w' := ⟨h.os, h.tape, h.output, h.size, h.block⟩
theorem one_cell {W w4 : World} {B : Nat} {ty : TypeId} (h : Only [] (W.alloc (.cells #[.nilFunc] ty)) w4) (hB : W.heap.size = B) : w4.cell? ⟨B, 0, none⟩ = some .nilFunc ∧ w4.frozen? ⟨B, 0, none⟩ = false ∧ B < w4.heap.size := by
  subst hB
  have hh := heap_alloc_last W (.cells #[.nilFunc] ty)
  have hl : W.heap.size < (W.alloc (.cells #[.nilFunc] ty)).heap.size := by simp
  exact ⟨(h.cell (p := ⟨W.heap.size, 0, none⟩) hl (by simp)).trans (cell_of_row _ _ 0 _ _ _ hh), (h.frozen (p := ⟨W.heap.size, 0, none⟩) hl (by simp)).trans (frozen_of_row _ _ _ _ _ hh), Nat.lt_of_lt_of_le hl h.size⟩
theorem two_cells {W w4 : World} {B C : Nat} {ty : TypeId} (h : Only [] ((W.alloc (.cells #[.nilFunc] ty)).alloc (.cells #[.nilFunc] ty)) w4) (hB : W.heap.size = B) (hC : W.heap.size + 1 = C) : (w4.cell? ⟨B, 0, none⟩ = some .nilFunc ∧ w4.frozen? ⟨B, 0, none⟩ = false ∧ B < w4.heap.size) ∧ w4.cell? ⟨C, 0, none⟩ = some .nilFunc ∧ w4.frozen? ⟨C, 0, none⟩ = false ∧ C < w4.heap.size :=
  ⟨one_cell (((Only.refl [] _).alloc _).trans h (fun _ hk => by cases hk)) hB, one_cell h (by simpa using hC)⟩
theorem carry_cell {W w4 : World} {B : Nat} (h : Only [] W w4) (q : W.cell? ⟨B, 0, none⟩ = some .nilFunc ∧ W.frozen? ⟨B, 0, none⟩ = false ∧ B < W.heap.size) : w4.cell? ⟨B, 0, none⟩ = some .nilFunc ∧ w4.frozen? ⟨B, 0, none⟩ = false ∧ B < w4.heap.size :=
  ⟨(h.cell (p := ⟨B, 0, none⟩) q.2.2 (by simp)).trans q.1, (h.frozen (p := ⟨B, 0, none⟩) q.2.2 (by simp)).trans q.2.1, Nat.lt_of_lt_of_le q.2.2 h.size⟩
/-- What lies behind the two calls. -/
structure AgIn (w w4 : World) (A b1 b c b' c' : Nat) (N G o ac dn : Int) : Prop where
  only : Only [] w w4
  a : w4.cell? ⟨A, 0, none⟩ = some (.func (.func 52) #[] #[.pointer (some ⟨b1, 0, none⟩)])
  k1 : w4.cell? ⟨b1, 0, none⟩ = some (.int .i64 o)
  x1 : w4.cell? ⟨b, 0, none⟩ = some (.int .i64 N)
  x2 : w4.cell? ⟨b, 1, none⟩ = some (.int .i64 G)
  x3 : w4.cell? ⟨c, 0, none⟩ = some (.int .i64 ac)
  y1 : w4.cell? ⟨b', 0, none⟩ = some (.int .i64 N)
  y2 : w4.cell? ⟨b', 1, none⟩ = some (.int .i64 G)
  y3 : w4.cell? ⟨c', 0, none⟩ = some (.int .i64 dn)
theorem ag_fin {w w4 wf : World} {A b1 b c b' c' P Q : Nat} {N G o ac dn : Int} (ha : 0 ≤ ac ∧ ac ≤ 3) (hd : 0 ≤ dn ∧ dn ≤ 3) (h : AgIn w w4 A b1 b c b' c' N G o ac dn) (ho : Only [P, Q] w4 wf) (hP : wf.cell? ⟨P, 0, none⟩ = some (.func (.func 50) #[] #[.pointer (some ⟨b, 0, none⟩), .pointer (some ⟨c, 0, none⟩)])) (hQ : wf.cell? ⟨Q, 0, none⟩ = some (.func (.func 55) #[] #[.pointer (some ⟨b', 0, none⟩), .pointer (some ⟨c', 0, none⟩)]))
    (p : P ≠ A ∧ P ≠ b1 ∧ P ≠ b ∧ P ≠ c ∧ P ≠ b' ∧ P ≠ c') (q : Q ≠ A ∧ Q ≠ b1 ∧ Q ≠ b ∧ Q ≠ c ∧ Q ≠ b' ∧ Q ≠ c') (hp : w.heap.size ≤ P) (hq : w.heap.size ≤ Q) :
    TestOf wf 45 #[.pointer (some ⟨A, 0, none⟩), .pointer (some ⟨P, 0, none⟩), .pointer (some ⟨Q, 0, none⟩)] (agB N G o ac dn) ∧ Only [] w wf := by
  obtain ⟨p1, p2, p3, p4, p5, p6⟩ := p
  obtain ⟨q1, q2, q3, q4, q5, q6⟩ := q
  have n : ∀ k, P ≠ k → Q ≠ k → k ∉ [P, Q] := fun k h1 h2 hm => by
    simp at hm
    rcases hm with e | e
    · exact h1 e.symm
    · exact h2 e.symm
  refine ⟨against1_any wf A P Q b1 b c b' c' N G o ac dn ((ho.cell (p := ⟨A, 0, none⟩) (lt_of_cell h.a) (n _ p1 q1)).trans h.a) hP hQ (by1_any wf b1 o ((ho.cell (p := ⟨b1, 0, none⟩) (lt_of_cell h.k1) (n _ p2 q2)).trans h.k1)) ?_ ?_, (h.only.mono (L' := [P, Q]) (fun _ hk => by cases hk)).trans ho (fun _ hk => Or.inl hk) |>.mono (fun k hk => Or.inr (by simp at hk; rcases hk with e | e <;> omega))⟩
  · exact denying1_any wf b c N G ac ((ho.cell (p := ⟨b, 0, none⟩) (lt_of_cell h.x1) (n _ p3 q3)).trans h.x1) ((ho.cell (p := ⟨b, 1, none⟩) (lt_of_cell h.x2) (n _ p3 q3)).trans h.x2) ((ho.cell (p := ⟨c, 0, none⟩) (lt_of_cell h.x3) (n _ p4 q4)).trans h.x3) ha
  · exact having1_any wf b' c' N G dn ((ho.cell (p := ⟨b', 0, none⟩) (lt_of_cell h.y1) (n _ p5 q5)).trans h.y1) ((ho.cell (p := ⟨b', 1, none⟩) (lt_of_cell h.y2) (n _ p5 q5)).trans h.y2) ((ho.cell (p := ⟨c', 0, none⟩) (lt_of_cell h.y3) (n _ p6 q6)).trans h.y3) hd
theorem two_new {w4 : World} {X Y : Value} : Only [w4.heap.size, w4.heap.size + 1] w4 ((w4.alloc (.cells #[X] 56)).alloc (.cells #[Y] 56)) ∧ ((w4.alloc (.cells #[X] 56)).alloc (.cells #[Y] 56)).cell? ⟨w4.heap.size, 0, none⟩ = some X ∧ ((w4.alloc (.cells #[X] 56)).alloc (.cells #[Y] 56)).cell? ⟨w4.heap.size + 1, 0, none⟩ = some Y := by
  have h1 := heap_alloc_last w4 (.cells #[X] 56)
  have h2 := heap_alloc_last (w4.alloc (.cells #[X] 56)) (.cells #[Y] 56)
  rw [World.size_alloc] at h2
  have o2 : Only [] (w4.alloc (.cells #[X] 56)) ((w4.alloc (.cells #[X] 56)).alloc (.cells #[Y] 56)) := (Only.refl _ _).alloc _
  exact ⟨((Only.refl _ _).alloc _).alloc _, (o2.cell (p := ⟨w4.heap.size, 0, none⟩) (by simp) (by simp)).trans (cell_of_row _ _ 0 _ _ _ h1), cell_of_row _ _ 0 _ _ _ h2⟩
theorem one_new {w4 : World} {P : Nat} {X Y u : Value} (hu : w4.cell? ⟨P, 0, none⟩ = some u) : Only [P, w4.heap.size] w4 ((w4.setCell ⟨P, 0, none⟩ X).alloc (.cells #[Y] 56)) ∧ ((w4.setCell ⟨P, 0, none⟩ X).alloc (.cells #[Y] 56)).cell? ⟨P, 0, none⟩ = some X ∧ ((w4.setCell ⟨P, 0, none⟩ X).alloc (.cells #[Y] 56)).cell? ⟨w4.heap.size, 0, none⟩ = some Y := by
  have h2 := heap_alloc_last (w4.setCell ⟨P, 0, none⟩ X) (.cells #[Y] 56)
  have hs : (w4.setCell ⟨P, 0, none⟩ X).heap.size = w4.heap.size := by simp
  rw [hs] at h2
  have o2 : Only [] (w4.setCell ⟨P, 0, none⟩ X) ((w4.setCell ⟨P, 0, none⟩ X).alloc (.cells #[Y] 56)) := (Only.refl _ _).alloc _
  exact ⟨((Only.refl _ _).setCell (Or.inl (by simp)) _).alloc _, (o2.cell (p := ⟨P, 0, none⟩) (by rw [hs]; exact lt_of_cell hu) (by simp)).trans (World.cell?_setCell_same _ _ _ hu), cell_of_row _ _ 0 _ _ _ h2⟩
theorem none_new {w4 : World} {P Q : Nat} {X Y u v : Value} (hu : w4.cell? ⟨P, 0, none⟩ = some u) (hv : w4.cell? ⟨Q, 0, none⟩ = some v) (hn : P ≠ Q) : Only [P, Q] w4 ((w4.setCell ⟨P, 0, none⟩ X).setCell ⟨Q, 0, none⟩ Y) ∧ ((w4.setCell ⟨P, 0, none⟩ X).setCell ⟨Q, 0, none⟩ Y).cell? ⟨P, 0, none⟩ = some X ∧ ((w4.setCell ⟨P, 0, none⟩ X).setCell ⟨Q, 0, none⟩ Y).cell? ⟨Q, 0, none⟩ = some Y := by
  refine ⟨((Only.refl _ _).setCell (Or.inl (by simp)) _).setCell (Or.inl (by simp)) _, ?_, ?_⟩
  · rw [World.cell?_setCell_far _ _ _ _ (show Q ≠ P from fun e => hn e.symm)]
    exact World.cell?_setCell_same _ _ _ hu
  · refine World.cell?_setCell_same _ _ _ (u := v) ?_
    rw [World.cell?_setCell_far _ _ _ _ (show P ≠ Q from hn)]
    exact hv
theorem Only.swap {w w' : World} {P Q : Nat} (h : Only [P, Q] w w') : Only [Q, P] w w' := h.mono (fun k hk => Or.inl (by simp at hk ⊢; rcases hk with e | e <;> simp [e]))
set_option maxHeartbeats 4000000 in
set_option maxRecDepth 100000 in
theorem against_test (w : World) (N G o ac dn : Int) (ha : 0 ≤ ac ∧ ac ≤ 3) (hd : 0 ≤ dn ∧ dn ≤ 3) : Calls Tryd.prog 27 #[.agg #[.int .i64 N, .int .i64 G, .int .i64 o, .int .i64 ac, .int .i64 dn]] w fun e w' => ∃ a b c : Nat, e = .returned (.func (.func 45) #[] #[.pointer (some ⟨a, 0, none⟩), .pointer (some ⟨b, 0, none⟩), .pointer (some ⟨c, 0, none⟩)]) ∧ TestOf w' 45 #[.pointer (some ⟨a, 0, none⟩), .pointer (some ⟨b, 0, none⟩), .pointer (some ⟨c, 0, none⟩)] (agB N G o ac dn) ∧ Only [] w w' := by
  have hby := by_made (w.alloc (.cells #[.int .i64 N, .int .i64 G, .int .i64 o, .int .i64 ac, .int .i64 dn] 52)) o
  have HD : Hid (∀ W, _) := fun W => denying_made W N G ac
  have HH : Hid (∀ W, _) := fun W => having_made W N G dn
  have h0 := heap_alloc_last w (.cells #[.int .i64 N, .int .i64 G, .int .i64 o, .int .i64 ac, .int .i64 dn] 52)
  go_enter Tryd.func27, Tryd.ntmps27
  go_wp2_with (go_at_call 39; refine hby.mono ?_; rintro e w2 ⟨b1, rfl, ht2, ho2, hl2⟩; have HO2 : Hid (Only [] (w.alloc (.cells #[.int .i64 N, .int .i64 G, .int .i64 o, .int .i64 ac, .int .i64 dn] 52)) w2) := ho2; have HT2 : Hid (w2.cell? ⟨b1, 0, none⟩ = some (.int .i64 o)) := ht2; clear hby ht2 ho2)
  have hB : w.heap.size < w2.heap.size := by have := HO2.out.size; simp at this; omega
  have HS0 : Hid ((w2.alloc (.cells #[.func (.func 52) #[] #[.pointer (some ⟨b1, 0, none⟩)]] 56)).drew.cell? ⟨w.heap.size, 0, none⟩ = some (.int .i64 N) ∧ (w2.alloc (.cells #[.func (.func 52) #[] #[.pointer (some ⟨b1, 0, none⟩)]] 56)).drew.cell? ⟨w.heap.size, 1, none⟩ = some (.int .i64 G) ∧ (w2.alloc (.cells #[.func (.func 52) #[] #[.pointer (some ⟨b1, 0, none⟩)]] 56)).drew.cell? ⟨w.heap.size, 3, none⟩ = some (.int .i64 ac) ∧ (w2.alloc (.cells #[.func (.func 52) #[] #[.pointer (some ⟨b1, 0, none⟩)]] 56)).drew.cell? ⟨w.heap.size, 4, none⟩ = some (.int .i64 dn)) := FourO.only ⟨cell_of_row _ _ 0 _ _ _ h0, cell_of_row _ _ 1 _ _ _ h0, cell_of_row _ _ 3 _ _ _ h0, cell_of_row _ _ 4 _ _ _ h0⟩ ((HO2.out.alloc _).drew) (by simp)
  have HSa : Hid (((w2.alloc (.cells #[.func (.func 52) #[] #[.pointer (some ⟨b1, 0, none⟩)]] 56)).alloc (.cells #[.nilFunc] 56)).drew.cell? ⟨w.heap.size, 0, none⟩ = some (.int .i64 N) ∧ ((w2.alloc (.cells #[.func (.func 52) #[] #[.pointer (some ⟨b1, 0, none⟩)]] 56)).alloc (.cells #[.nilFunc] 56)).drew.cell? ⟨w.heap.size, 1, none⟩ = some (.int .i64 G) ∧ ((w2.alloc (.cells #[.func (.func 52) #[] #[.pointer (some ⟨b1, 0, none⟩)]] 56)).alloc (.cells #[.nilFunc] 56)).drew.cell? ⟨w.heap.size, 3, none⟩ = some (.int .i64 ac) ∧ ((w2.alloc (.cells #[.func (.func 52) #[] #[.pointer (some ⟨b1, 0, none⟩)]] 56)).alloc (.cells #[.nilFunc] 56)).drew.cell? ⟨w.heap.size, 4, none⟩ = some (.int .i64 dn)) := FourO.only ⟨cell_of_row _ _ 0 _ _ _ h0, cell_of_row _ _ 1 _ _ _ h0, cell_of_row _ _ 3 _ _ _ h0, cell_of_row _ _ 4 _ _ _ h0⟩ (((HO2.out.alloc _).alloc _).drew) (by simp)
  have HSb : Hid ((((w2.alloc (.cells #[.func (.func 52) #[] #[.pointer (some ⟨b1, 0, none⟩)]] 56)).alloc (.cells #[.nilFunc] 56)).alloc (.cells #[.nilFunc] 56)).drew.cell? ⟨w.heap.size, 0, none⟩ = some (.int .i64 N) ∧ (((w2.alloc (.cells #[.func (.func 52) #[] #[.pointer (some ⟨b1, 0, none⟩)]] 56)).alloc (.cells #[.nilFunc] 56)).alloc (.cells #[.nilFunc] 56)).drew.cell? ⟨w.heap.size, 1, none⟩ = some (.int .i64 G) ∧ (((w2.alloc (.cells #[.func (.func 52) #[] #[.pointer (some ⟨b1, 0, none⟩)]] 56)).alloc (.cells #[.nilFunc] 56)).alloc (.cells #[.nilFunc] 56)).drew.cell? ⟨w.heap.size, 3, none⟩ = some (.int .i64 ac) ∧ (((w2.alloc (.cells #[.func (.func 52) #[] #[.pointer (some ⟨b1, 0, none⟩)]] 56)).alloc (.cells #[.nilFunc] 56)).alloc (.cells #[.nilFunc] 56)).drew.cell? ⟨w.heap.size, 4, none⟩ = some (.int .i64 dn)) := FourO.only ⟨cell_of_row _ _ 0 _ _ _ h0, cell_of_row _ _ 1 _ _ _ h0, cell_of_row _ _ 3 _ _ _ h0, cell_of_row _ _ 4 _ _ _ h0⟩ ((((HO2.out.alloc _).alloc _).alloc _).drew) (by simp)
  clear h0
  go_region_held3 (fun W => W.cell? ⟨w.heap.size, 0, none⟩ = some (.int .i64 N) ∧ W.cell? ⟨w.heap.size, 1, none⟩ = some (.int .i64 G) ∧ W.cell? ⟨w.heap.size, 3, none⟩ = some (.int .i64 ac) ∧ W.cell? ⟨w.heap.size, 4, none⟩ = some (.int .i64 dn))
    (with_reducible first
      | exact HS0.out
      | exact HSa.out
      | exact HSb.out
      | exact HS4.out
      | exact FourO.alloc (HS4.out)
      | exact FourO.alloc (FourO.alloc (HS4.out))
      | exact FourO.set (HS4.out) (by omega)
      | exact FourO.alloc (FourO.set (HS4.out) (by omega))
      | exact FourO.alloc (FourO.alloc (FourO.set (HS4.out) (by omega)))
      | exact FourO.set (FourO.set (HS4.out) (by omega)) (by omega)
      | exact FourO.alloc (FourO.set (FourO.set (HS4.out) (by omega)) (by omega))
      | exact FourO.alloc (FourO.alloc (FourO.set (FourO.set (HS4.out) (by omega)) (by omega)))
      | exact HS3.out
      | exact FourO.alloc (HS3.out)
      | exact FourO.alloc (FourO.alloc (HS3.out))
      | exact FourO.set (HS3.out) (by omega)
      | exact FourO.alloc (FourO.set (HS3.out) (by omega))
      | exact FourO.alloc (FourO.alloc (FourO.set (HS3.out) (by omega)))
      | exact FourO.set (FourO.set (HS3.out) (by omega)) (by omega)
      | exact FourO.alloc (FourO.set (FourO.set (HS3.out) (by omega)) (by omega))
      | exact FourO.alloc (FourO.alloc (FourO.set (FourO.set (HS3.out) (by omega)) (by omega))))
    (first
      | (go_at_call 37; refine (HD.out _).mono ?_; rintro e w3 ⟨b, c, rfl, x1, x2, x3, ho3, hl3, hm3⟩; have hz3 : w2.heap.size + 1 ≤ w3.heap.size := (by have := ho3.size; simp at this; omega); have HS3 : Hid (w3.cell? ⟨w.heap.size, 0, none⟩ = some (.int .i64 N) ∧ w3.cell? ⟨w.heap.size, 1, none⟩ = some (.int .i64 G) ∧ w3.cell? ⟨w.heap.size, 3, none⟩ = some (.int .i64 ac) ∧ w3.cell? ⟨w.heap.size, 4, none⟩ = some (.int .i64 dn)) := by (first | exact FourO.only HS0.out ho3 (by simp) | exact FourO.only HSa.out ho3 (by simp) | exact FourO.only HSb.out ho3 (by simp))
         (first
           | (have q := two_cells (B := w2.heap.size + 1) (C := w2.heap.size + 2) ho3.of_drew' (by simp) (by simp); obtain ⟨p1, p2⟩ := q; have P1 : Hid (_ ∧ _ ∧ _) := p1; have P2 : Hid (_ ∧ _ ∧ _) := p2; obtain ⟨q1, q2, q3⟩ := p1; obtain ⟨q4, q5, q6⟩ := p2)
           | (have q := one_cell (B := w2.heap.size + 1) ho3.of_drew' (by simp); have P1 : Hid (_ ∧ _ ∧ _) := q; obtain ⟨q1, q2, q3⟩ := q)
           | skip))
      | (go_at_call 44; refine (HH.out _).mono ?_; rintro e w4 ⟨b', c', rfl, y1, y2, y3, ho4, hl4, hm4⟩; have HS4 : Hid (w4.cell? ⟨w.heap.size, 0, none⟩ = some (.int .i64 N) ∧ w4.cell? ⟨w.heap.size, 1, none⟩ = some (.int .i64 G) ∧ w4.cell? ⟨w.heap.size, 3, none⟩ = some (.int .i64 ac) ∧ w4.cell? ⟨w.heap.size, 4, none⟩ = some (.int .i64 dn)) := by (first | exact FourO.only HS3.out ho4 (by simp) | exact FourO.only (FourO.alloc HS3.out) ho4 (by simp) | exact FourO.only (FourO.alloc (FourO.alloc HS3.out)) ho4 (by simp))
         have HO34 : Hid (Only [] w3 w4) := by (first | exact ho4 | exact ((Only.refl [] _).alloc _).trans ho4 (fun _ hk => by cases hk) | exact (((Only.refl [] _).alloc _).alloc _).trans ho4 (fun _ hk => by cases hk))
         (first
           | (have r := two_cells (B := w3.heap.size) (C := w3.heap.size + 1) ho4 rfl rfl; obtain ⟨⟨r1, r2, r3⟩, r4, r5, r6⟩ := r)
           | (have r := one_cell (B := w3.heap.size) ho4 rfl; obtain ⟨r1, r2, r3⟩ := r)
           | skip)
         (first
           | (have s2 := carry_cell HO34.out P2.out; have s1 := carry_cell HO34.out P1.out; obtain ⟨s11, s12, s13⟩ := s1; obtain ⟨s21, s22, s23⟩ := s2)
           | (have s1 := carry_cell HO34.out P1.out; obtain ⟨s11, s12, s13⟩ := s1)
           | skip)))
  all_goals
    have i1 : b < w3.heap.size := lt_of_cell x1
    have i3 : c < w3.heap.size := lt_of_cell x3
    have j1 : b' < w4.heap.size := lt_of_cell y1
    have j3 : c' < w4.heap.size := lt_of_cell y3
    have z3 := HO34.out.size
    have kb : b1 < w2.heap.size := lt_of_cell HT2.out
    have HI : Hid (AgIn w w4 w2.heap.size b1 b c b' c' N G o ac dn) := by
      have o23 : Only [] (w2.alloc (.cells #[(.func (.func 52) #[] #[.pointer (some ⟨b1, 0, none⟩)])] 56)) w3 := by (first | exact ho3.of_drew' | exact (((Only.refl [] _).alloc _)).trans ho3.of_drew' (fun _ hk => by cases hk) | exact (((Only.refl [] _).alloc _).alloc _).trans ho3.of_drew' (fun _ hk => by cases hk))
      have o24 := o23.trans HO34.out (fun _ hk => by cases hk)
      have hh := heap_alloc_last w2 (.cells #[(.func (.func 52) #[] #[.pointer (some ⟨b1, 0, none⟩)])] 56)
      have hl : w2.heap.size < (w2.alloc (.cells #[(.func (.func 52) #[] #[.pointer (some ⟨b1, 0, none⟩)])] 56)).heap.size := by simp
      have ow : Only [] w w4 := (((Only.refl [] w).alloc (.cells #[.int .i64 N, .int .i64 G, .int .i64 o, .int .i64 ac, .int .i64 dn] 52)).trans HO2.out (fun _ hk => by cases hk)).trans (((Only.refl [] w2).alloc _).trans o24 (fun _ hk => by cases hk)) (fun _ hk => by cases hk)
      exact ⟨ow, (o24.cell (p := ⟨w2.heap.size, 0, none⟩) hl (by simp)).trans (cell_of_row _ _ 0 _ _ _ hh), (o24.cell (p := ⟨b1, 0, none⟩) (by simp; omega) (by simp)).trans ((((Only.refl [] w2).alloc _).cell (p := ⟨b1, 0, none⟩) kb (by simp)).trans HT2.out), (HO34.out.cell (p := ⟨b, 0, none⟩) i1 (by simp)).trans x1, (HO34.out.cell (p := ⟨b, 1, none⟩) i1 (by simp)).trans x2, (HO34.out.cell (p := ⟨c, 0, none⟩) i3 (by simp)).trans x3, y1, y2, y3⟩
    clear HO34 HO2 HT2 HS0 HSa HSb HS3 HS4 ho3 ho4 x1 x2 x3 y1 y2 y3
    simp only [World.size_alloc, World.size_drew] at hl2 hl3 hm3
    try simp only [World.size_alloc] at hl4 hm4
    go_wp2
    go_ret
    first
      | (have k := two_new (w4 := w4) (X := (.func (.func 50) #[] #[.pointer (some ⟨b, 0, none⟩), .pointer (some ⟨c, 0, none⟩)])) (Y := (.func (.func 55) #[] #[.pointer (some ⟨b', 0, none⟩), .pointer (some ⟨c', 0, none⟩)])); exact ⟨w2.heap.size, w4.heap.size, w4.heap.size + 1, rfl, ag_fin ha hd HI.out k.1 k.2.1 k.2.2 (by omega) (by omega) (by omega) (by omega)⟩)
      | (have k := two_new (w4 := w4) (X := (.func (.func 55) #[] #[.pointer (some ⟨b', 0, none⟩), .pointer (some ⟨c', 0, none⟩)])) (Y := (.func (.func 50) #[] #[.pointer (some ⟨b, 0, none⟩), .pointer (some ⟨c, 0, none⟩)])); exact ⟨w2.heap.size, w4.heap.size + 1, w4.heap.size, rfl, ag_fin ha hd HI.out k.1.swap k.2.2 k.2.1 (by omega) (by omega) (by omega) (by omega)⟩)
      | (have k := one_new (w4 := w4) (P := w3.heap.size) (X := (.func (.func 50) #[] #[.pointer (some ⟨b, 0, none⟩), .pointer (some ⟨c, 0, none⟩)])) (Y := (.func (.func 55) #[] #[.pointer (some ⟨b', 0, none⟩), .pointer (some ⟨c', 0, none⟩)])) r1; exact ⟨w2.heap.size, w3.heap.size, w4.heap.size, rfl, ag_fin ha hd HI.out k.1 k.2.1 k.2.2 (by omega) (by omega) (by omega) (by omega)⟩)
      | (have k := one_new (w4 := w4) (P := w3.heap.size) (X := (.func (.func 55) #[] #[.pointer (some ⟨b', 0, none⟩), .pointer (some ⟨c', 0, none⟩)])) (Y := (.func (.func 50) #[] #[.pointer (some ⟨b, 0, none⟩), .pointer (some ⟨c, 0, none⟩)])) r1; exact ⟨w2.heap.size, w4.heap.size, w3.heap.size, rfl, ag_fin ha hd HI.out k.1.swap k.2.2 k.2.1 (by omega) (by omega) (by omega) (by omega)⟩)
      | (have k := one_new (w4 := w4) (P := w2.heap.size + 1) (X := (.func (.func 50) #[] #[.pointer (some ⟨b, 0, none⟩), .pointer (some ⟨c, 0, none⟩)])) (Y := (.func (.func 55) #[] #[.pointer (some ⟨b', 0, none⟩), .pointer (some ⟨c', 0, none⟩)])) s11; exact ⟨w2.heap.size, w2.heap.size + 1, w4.heap.size, rfl, ag_fin ha hd HI.out k.1 k.2.1 k.2.2 (by omega) (by omega) (by omega) (by omega)⟩)
      | (have k := one_new (w4 := w4) (P := w2.heap.size + 1) (X := (.func (.func 55) #[] #[.pointer (some ⟨b', 0, none⟩), .pointer (some ⟨c', 0, none⟩)])) (Y := (.func (.func 50) #[] #[.pointer (some ⟨b, 0, none⟩), .pointer (some ⟨c, 0, none⟩)])) s11; exact ⟨w2.heap.size, w4.heap.size, w2.heap.size + 1, rfl, ag_fin ha hd HI.out k.1.swap k.2.2 k.2.1 (by omega) (by omega) (by omega) (by omega)⟩)
      | (have k := none_new (w4 := w4) (P := w3.heap.size) (Q := w3.heap.size + 1) (X := (.func (.func 50) #[] #[.pointer (some ⟨b, 0, none⟩), .pointer (some ⟨c, 0, none⟩)])) (Y := (.func (.func 55) #[] #[.pointer (some ⟨b', 0, none⟩), .pointer (some ⟨c', 0, none⟩)])) r1 r4 (by omega); exact ⟨w2.heap.size, w3.heap.size, w3.heap.size + 1, rfl, ag_fin ha hd HI.out k.1 k.2.1 k.2.2 (by omega) (by omega) (by omega) (by omega)⟩)
      | (have k := none_new (w4 := w4) (P := w3.heap.size + 1) (Q := w3.heap.size) (X := (.func (.func 50) #[] #[.pointer (some ⟨b, 0, none⟩), .pointer (some ⟨c, 0, none⟩)])) (Y := (.func (.func 55) #[] #[.pointer (some ⟨b', 0, none⟩), .pointer (some ⟨c', 0, none⟩)])) r4 r1 (by omega); exact ⟨w2.heap.size, w3.heap.size + 1, w3.heap.size, rfl, ag_fin ha hd HI.out k.1 k.2.1 k.2.2 (by omega) (by omega) (by omega) (by omega)⟩)
      | (have k := none_new (w4 := w4) (P := w2.heap.size + 1) (Q := w3.heap.size) (X := (.func (.func 50) #[] #[.pointer (some ⟨b, 0, none⟩), .pointer (some ⟨c, 0, none⟩)])) (Y := (.func (.func 55) #[] #[.pointer (some ⟨b', 0, none⟩), .pointer (some ⟨c', 0, none⟩)])) s11 r1 (by omega); exact ⟨w2.heap.size, w2.heap.size + 1, w3.heap.size, rfl, ag_fin ha hd HI.out k.1 k.2.1 k.2.2 (by omega) (by omega) (by omega) (by omega)⟩)
      | (have k := none_new (w4 := w4) (P := w3.heap.size) (Q := w2.heap.size + 1) (X := (.func (.func 50) #[] #[.pointer (some ⟨b, 0, none⟩), .pointer (some ⟨c, 0, none⟩)])) (Y := (.func (.func 55) #[] #[.pointer (some ⟨b', 0, none⟩), .pointer (some ⟨c', 0, none⟩)])) r1 s11 (by omega); exact ⟨w2.heap.size, w3.heap.size, w2.heap.size + 1, rfl, ag_fin ha hd HI.out k.1 k.2.1 k.2.2 (by omega) (by omega) (by omega) (by omega)⟩)
      | (have k := none_new (w4 := w4) (P := w2.heap.size + 1) (Q := w2.heap.size + 1 + 1) (X := (.func (.func 50) #[] #[.pointer (some ⟨b, 0, none⟩), .pointer (some ⟨c, 0, none⟩)])) (Y := (.func (.func 55) #[] #[.pointer (some ⟨b', 0, none⟩), .pointer (some ⟨c', 0, none⟩)])) s11 s21 (by omega); exact ⟨w2.heap.size, w2.heap.size + 1, w2.heap.size + 1 + 1, rfl, ag_fin ha hd HI.out k.1 k.2.1 k.2.2 (by omega) (by omega) (by omega) (by omega)⟩)
      | (have k := none_new (w4 := w4) (P := w2.heap.size + 1 + 1) (Q := w2.heap.size + 1) (X := (.func (.func 50) #[] #[.pointer (some ⟨b, 0, none⟩), .pointer (some ⟨c, 0, none⟩)])) (Y := (.func (.func 55) #[] #[.pointer (some ⟨b', 0, none⟩), .pointer (some ⟨c', 0, none⟩)])) s21 s11 (by omega); exact ⟨w2.heap.size, w2.heap.size + 1 + 1, w2.heap.size + 1, rfl, ag_fin ha hd HI.out k.1 k.2.1 k.2.2 (by omega) (by omega) (by omega) (by omega)⟩)
end Go.Proofs.YtagpahgjbglmaaaDoor
