/- Shares: the document's opens: rows, numbers, finding. -/
import Derived.Test.YtagpahgjbglmaaaDoorSh22
namespace Go.Proofs.YtagpahgjbglmaaaDoor
open Go Go.RowKit Go.Deep

theorem roInfo : (Tryd.prog.info? 61).map (fun i => (i.zero, i.size, i.bytes)) = some (some (.agg #[.int .i64 0, .int .i64 0, .int .i64 0, .int .i64 0, .int .i64 0]), 5, 40) := by kernel_rfl
theorem roInfo' : ∃ i0, Tryd.prog.info? 61 = some i0 ∧ i0.zero = some (.agg #[.int .i64 0, .int .i64 0, .int .i64 0, .int .i64 0, .int .i64 0]) ∧ i0.size = 5 ∧ i0.bytes = 40 := by
  obtain ⟨i0, hi0, hz⟩ := Option.map_eq_some_iff.1 roInfo
  simp only [Prod.mk.injEq] at hz
  exact ⟨i0, hi0, hz⟩
theorem rosUnd : Tryd.prog.underlying 29 = some (.slice 61) := by kernel_rfl
/-- The document's opens in memory: a slice of one's own. -/
def Rns (w : World) (base : Nat) (v : Value) (l : List Opn) : Prop := w.ownsRow base 61 5 v l.length (rowOf opC l)
theorem Rns.only {w w' : World} {base : Nat} {v : Value} {l : List Opn} {L : List Nat} (h : Rns w base v l) (ho : Only L w w') (hn : ∀ k, v.ownBlock = some k → k ∉ L) : Rns w' base v l := ho.owns h hn
theorem Rns.nil (w : World) (base : Nat) : Rns w base (.slice none 0 0) [] := World.ownsRow_nil _ _ _ _
theorem Rns.open {w : World} {base : Nat} {v : Value} {l : List Opn} (h : Rns w base v l) : (v = .slice none 0 0 ∧ l = []) ∨ ∃ g cap cur, v = .slice (some ⟨g, 0, none⟩) l.length cap ∧ base ≤ g ∧ g < w.heap.size ∧ w.heap[g]? = some (.cells cur 61 (0, 0)) ∧ l.length ≤ cap ∧ cap ≤ maxLen ∧ cur.size = cap * 5 ∧ cur.toList.take (l.length * 5) = rowOf opC l := by
  rcases h.2 with ⟨h1, h2⟩ | ⟨g, cap, cur, h1, h2, h3, h4⟩
  · exact Or.inl ⟨h1, List.length_eq_zero_iff.1 h2⟩
  · exact Or.inr ⟨g, cap, cur, h1, h2, (Array.getElem?_eq_some_iff.1 h3).1, h3, h4⟩
theorem Rns.form {w : World} {base : Nat} {v : Value} {l : List Opn} (h : Rns w base v l) : ∃ ad cap, v = .slice ad l.length cap ∧ (l ≠ [] → ∃ g, ad = some ⟨g, 0, none⟩) ∧ l.length ≤ cap ∧ cap ≤ maxLen := by
  rcases h.open with ⟨rfl, rfl⟩ | ⟨g, cap, cur, rfl, _, _, _, h1, h2, _⟩
  · exact ⟨none, 0, rfl, fun h => absurd rfl h, Nat.le_refl _, Nat.zero_le _⟩
  · exact ⟨_, cap, rfl, fun _ => ⟨g, rfl⟩, h1, h2⟩
theorem rn_cells {w : World} {base g cap n m : Nat} {l : List Opn} {x : Opn} (h : Rns w base (.slice (some ⟨g, 0, none⟩) n cap) l) (hn : l.length = n) (hx : l[m]? = some x) : w.cell? ⟨g, m * 5, none⟩ = some (.int .i64 x.N) ∧ w.cell? ⟨g, m * 5 + 1, none⟩ = some (.int .i64 x.G) ∧ w.cell? ⟨g, m * 5 + 2, none⟩ = some (.int .i64 x.O) ∧ w.cell? ⟨g, m * 5 + 3, none⟩ = some (.int .i64 x.A) ∧ w.cell? ⟨g, m * 5 + 4, none⟩ = some (.int .i64 x.D) := by
  subst hn
  have hlt : m < l.length := (List.getElem?_eq_some_iff.1 hx).1
  have key : ∀ j, j < 5 → w.cell? ⟨g, m * 5 + j, none⟩ = (opC x)[j]? := fun j hj => by
    rw [World.ownsRow.cellAt h _ (by omega)]
    exact rowOf_get opC_len l m j x hj hx
  exact ⟨key 0 (by decide), key 1 (by decide), key 2 (by decide), key 3 (by decide), key 4 (by decide)⟩
theorem rn_frozen {w : World} {base g cap n : Nat} {l : List Opn} (h : Rns w base (.slice (some ⟨g, 0, none⟩) n cap) l) (hn : l.length = n) (o : Nat) : w.frozen? ⟨g, o, none⟩ = false := by
  subst hn
  exact World.ownsRow.frozenAt h o
/-- One cell of one open is set. -/
theorem Rns.set1 {w : World} {base g cap n k j : Nat} {l : List Opn} {y z : Opn} {u : Value} (h : Rns w base (.slice (some ⟨g, 0, none⟩) n cap) l) (hn : l.length = n) (hy : l[k]? = some y) (hj : j < 5) (hz : opC z = (opC y).set j u) : Rns (w.setCell ⟨g, k * 5 + j, none⟩ u) base (.slice (some ⟨g, 0, none⟩) n cap) (l.set k z) := by
  subst hn
  have e := rowOf_set opC_len l k j y z u hj hy hz
  have h3 := (World.ownsRow.stored h (k * 5 + j) u).1
  rw [e] at h3
  unfold Rns
  rw [List.length_set]
  exact h3
/-- The document's table. -/
structure RsAt (w : World) (base t : Nat) (v : Value) (l : List Opn) : Prop where
  c0 : w.cell? ⟨t, 0, none⟩ = some v
  fr : w.frozen? ⟨t, 0, none⟩ = false
  own : Rns w base v l
  ne : ∀ k, v.ownBlock = some k → k ≠ t
theorem RsAt.only {w w' : World} {base t : Nat} {v : Value} {l : List Opn} (h : RsAt w base t v l) (ho : Only [] w w') : RsAt w' base t v l :=
  ⟨(ho.cell (p := ⟨t, 0, none⟩) (lt_of_cell h.c0) (by simp)).trans h.c0, (ho.frozen (p := ⟨t, 0, none⟩) (lt_of_cell h.c0) (by simp)).trans h.fr, h.own.only ho (fun _ _ => by simp), h.ne⟩

theorem rmeets_any (a b : Int) (w : World) (ha : 0 ≤ a ∧ a ≤ 3) (hb : 0 ≤ b ∧ b ≤ 3) : Calls Tryd.prog 31 #[.int .i64 a, .int .i64 b] w fun e w' => e = .returned (.bool (meetB a b)) ∧ w = w' := by
  rcases upto3 ha.1 ha.2 with rfl | rfl | rfl | rfl <;> rcases upto3 hb.1 hb.2 with rfl | rfl | rfl | rfl
  all_goals
    go_enter Tryd.func31, Tryd.ntmps31
    go_wp2
    go_ret
    exact ⟨rfl, rfl⟩
theorem rwithin_any (a b : Int) (w : World) (ha : 0 ≤ a ∧ a ≤ 3) (hb : 0 ≤ b ∧ b ≤ 3) : Calls Tryd.prog 35 #[.int .i64 a, .int .i64 b] w fun e w' => e = .returned (.bool (withB a b)) ∧ w = w' := by
  rcases upto3 ha.1 ha.2 with rfl | rfl | rfl | rfl <;> rcases upto3 hb.1 hb.2 with rfl | rfl | rfl | rfl
  all_goals
    go_enter Tryd.func35, Tryd.ntmps35
    go_wp2
    go_ret
    exact ⟨rfl, rfl⟩
theorem rsum_any (a b : Int) (w : World) (ha : 0 ≤ a ∧ a ≤ 3) (hb : 0 ≤ b ∧ b ≤ 3) : Calls Tryd.prog 33 #[.int .i64 a, .int .i64 b] w fun e w' => e = .returned (.int .i64 (sumB a b)) ∧ w = w' := by
  rcases upto3 ha.1 ha.2 with rfl | rfl | rfl | rfl <;> rcases upto3 hb.1 hb.2 with rfl | rfl | rfl | rfl
  all_goals
    go_enter Tryd.func33, Tryd.ntmps33
    go_wp2
    go_ret
    exact ⟨rfl, rfl⟩
theorem rbound_any (a d : Int) (w : World) : Calls Tryd.prog 30 #[.int .i64 a, .int .i64 d] w fun e w' => e = .returned (.bool (!(accB a && denB d))) ∧ w = w' := by
  unfold accB denB
  by_cases h1 : a < 1
  · have d1 : decide (a < 1) = true := decide_eq_true h1
    go_enter Tryd.func30, Tryd.ntmps30
    go_wp2
    go_ret
    exact ⟨by simp <;> omega, rfl⟩
  · have d1 : decide (a < 1) = false := decide_eq_false h1
    by_cases h2 : 3 < a
    · have d2 : decide (3 < a) = true := decide_eq_true h2
      go_enter Tryd.func30, Tryd.ntmps30
      go_wp2
      go_ret
      exact ⟨by simp <;> omega, rfl⟩
    · have d2 : decide (3 < a) = false := decide_eq_false h2
      by_cases h3 : d < 0
      · have d3 : decide (d < 0) = true := decide_eq_true h3
        go_enter Tryd.func30, Tryd.ntmps30
        go_wp2
        go_ret
        exact ⟨by simp <;> omega, rfl⟩
      · have d3 : decide (d < 0) = false := decide_eq_false h3
        by_cases h4 : 3 < d
        · have d4 : decide (3 < d) = true := decide_eq_true h4
          go_enter Tryd.func30, Tryd.ntmps30
          go_wp2
          go_ret
          exact ⟨by simp <;> omega, rfl⟩
        · have d4 : decide (3 < d) = false := decide_eq_false h4
          go_enter Tryd.func30, Tryd.ntmps30
          go_wp2
          go_ret
          exact ⟨by simp <;> omega, rfl⟩
end Go.Proofs.YtagpahgjbglmaaaDoor
