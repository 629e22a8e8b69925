/- Shares: where an open is, or would be. -/
import Derived.Test.YtagpahgjbglmaaaDoorSh8
namespace Go.Proofs.YtagpahgjbglmaaaDoor
open Go Go.RowKit Go.Deep

/-- Ahead of another one, by node and owner. -/
def ltO (x y : Opn) : Prop := x.N < y.N ∨ x.N = y.N ∧ (x.G < y.G ∨ x.G = y.G ∧ x.O < y.O)
def sameO (x y : Opn) : Prop := x.N = y.N ∧ x.G = y.G ∧ x.O = y.O
theorem ordI_lt (x y : Opn) : ordI x y < 0 ↔ ltO x y := by
  unfold ordI orI cmpI ltO
  split <;> split <;> (try split) <;> (try split) <;> (try split) <;> (try split) <;> (try split) <;> simp_all <;> omega
theorem ordI_eq (x y : Opn) : ordI x y = 0 ↔ sameO x y := by
  unfold ordI orI cmpI sameO
  split <;> split <;> (try split) <;> (try split) <;> (try split) <;> (try split) <;> (try split) <;> simp_all <;> omega
/-- They rise. -/
def SortedO (l : List Opn) : Prop := l.Pairwise ltO
theorem ltO_trans {x y z : Opn} (h : ltO x y) (k : ltO y z) : ltO x z := by unfold ltO at *; omega
theorem ltO_irrefl (x : Opn) : ¬ ltO x x := by unfold ltO; omega
theorem SortedO.get {l : List Opn} (h : SortedO l) {i j : Nat} {x y : Opn} (hij : i < j) (hi : l[i]? = some x) (hj : l[j]? = some y) : ltO x y := by
  obtain ⟨h1, rfl⟩ := List.getElem?_eq_some_iff.1 hi
  obtain ⟨h2, rfl⟩ := List.getElem?_eq_some_iff.1 hj
  exact (List.pairwise_iff_getElem.1 h) i j h1 h2 hij
/-- Where an open is, or would be. -/
structure SpotO (l : List Opn) (t : Opn) (i : Nat) (f : Bool) : Prop where
  le : i ≤ l.length
  low : ∀ q x, q < i → l[q]? = some x → ltO x t
  high : ∀ q x, i ≤ q → l[q]? = some x → ¬ ltO x t
  found : f = true ↔ ∃ x, l[i]? = some x ∧ sameO x t
theorem TenO.only {w W : World} {g B m : Nat} {x t : Opn} (h : w.cell? ⟨g, m * 5, none⟩ = some (.int .i64 x.N) ∧ w.cell? ⟨g, m * 5 + 1, none⟩ = some (.int .i64 x.G) ∧ w.cell? ⟨g, m * 5 + 2, none⟩ = some (.int .i64 x.O) ∧ w.cell? ⟨g, m * 5 + 3, none⟩ = some (.int .i64 x.A) ∧ w.cell? ⟨g, m * 5 + 4, none⟩ = some (.int .i64 x.D) ∧ w.cell? ⟨B, 0, none⟩ = some (.int .i64 t.N) ∧ w.cell? ⟨B, 1, none⟩ = some (.int .i64 t.G) ∧ w.cell? ⟨B, 2, none⟩ = some (.int .i64 t.O) ∧ w.cell? ⟨B, 3, none⟩ = some (.int .i64 t.A) ∧ w.cell? ⟨B, 4, none⟩ = some (.int .i64 t.D)) (ho : Only [] w W) : W.cell? ⟨g, m * 5, none⟩ = some (.int .i64 x.N) ∧ W.cell? ⟨g, m * 5 + 1, none⟩ = some (.int .i64 x.G) ∧ W.cell? ⟨g, m * 5 + 2, none⟩ = some (.int .i64 x.O) ∧ W.cell? ⟨g, m * 5 + 3, none⟩ = some (.int .i64 x.A) ∧ W.cell? ⟨g, m * 5 + 4, none⟩ = some (.int .i64 x.D) ∧ W.cell? ⟨B, 0, none⟩ = some (.int .i64 t.N) ∧ W.cell? ⟨B, 1, none⟩ = some (.int .i64 t.G) ∧ W.cell? ⟨B, 2, none⟩ = some (.int .i64 t.O) ∧ W.cell? ⟨B, 3, none⟩ = some (.int .i64 t.A) ∧ W.cell? ⟨B, 4, none⟩ = some (.int .i64 t.D) :=
  ⟨(ho.cell (p := ⟨g, m * 5, none⟩) (lt_of_cell h.1) (by simp)).trans h.1, (ho.cell (p := ⟨g, m * 5 + 1, none⟩) (lt_of_cell h.2.1) (by simp)).trans h.2.1, (ho.cell (p := ⟨g, m * 5 + 2, none⟩) (lt_of_cell h.2.2.1) (by simp)).trans h.2.2.1, (ho.cell (p := ⟨g, m * 5 + 3, none⟩) (lt_of_cell h.2.2.2.1) (by simp)).trans h.2.2.2.1, (ho.cell (p := ⟨g, m * 5 + 4, none⟩) (lt_of_cell h.2.2.2.2.1) (by simp)).trans h.2.2.2.2.1, (ho.cell (p := ⟨B, 0, none⟩) (lt_of_cell h.2.2.2.2.2.1) (by simp)).trans h.2.2.2.2.2.1, (ho.cell (p := ⟨B, 1, none⟩) (lt_of_cell h.2.2.2.2.2.2.1) (by simp)).trans h.2.2.2.2.2.2.1, (ho.cell (p := ⟨B, 2, none⟩) (lt_of_cell h.2.2.2.2.2.2.2.1) (by simp)).trans h.2.2.2.2.2.2.2.1, (ho.cell (p := ⟨B, 3, none⟩) (lt_of_cell h.2.2.2.2.2.2.2.2.1) (by simp)).trans h.2.2.2.2.2.2.2.2.1, (ho.cell (p := ⟨B, 4, none⟩) (lt_of_cell h.2.2.2.2.2.2.2.2.2) (by simp)).trans h.2.2.2.2.2.2.2.2.2⟩
theorem opn_cells {w : World} {base g cap n m : Nat} {l : List Opn} {x : Opn} (h : Opns w base (.slice (some ⟨g, 0, none⟩) n cap) l) (hn : l.length = n) (hx : l[m]? = some x) : w.cell? ⟨g, m * 5, none⟩ = some (.int .i64 x.N) ∧ w.cell? ⟨g, m * 5 + 1, none⟩ = some (.int .i64 x.G) ∧ w.cell? ⟨g, m * 5 + 2, none⟩ = some (.int .i64 x.O) ∧ w.cell? ⟨g, m * 5 + 3, none⟩ = some (.int .i64 x.A) ∧ w.cell? ⟨g, m * 5 + 4, none⟩ = some (.int .i64 x.D) := by
  subst hn
  obtain ⟨a, b, c, d, e, _⟩ := h.cells hx
  exact ⟨a, b, c, d, e⟩
set_option maxHeartbeats 4000000 in
set_option maxRecDepth 100000 in
theorem search_walk (w : World) (base g cap n : Nat) (l : List Opn) (t : Opn) (h : Opns w base (.slice (some ⟨g, 0, none⟩) n cap) l) (hn : l.length = n) (hl : n ≤ 1000) (hs : SortedO l) :
    Calls Tryd.prog 46 #[.slice (some ⟨g, 0, none⟩) n cap, opV t, .func (.func 47) #[] #[]] w fun e w' => ∃ (i : Nat) (f : Bool), e = .returned (.tuple #[.int .i64 i, .bool f]) ∧ SpotO l t i f ∧ Only [] w w' := by
  have H : Hid (Opns w base (.slice (some ⟨g, 0, none⟩) n cap) l) := h
  have HN : Hid (l.length = n) := hn
  have HS : Hid (SortedO l) := hs
  have HC : Hid (∀ W x, Calls Tryd.prog 47 #[.agg #[.int .i64 x.N, .int .i64 x.G, .int .i64 x.O, .int .i64 x.A, .int .i64 x.D], .agg #[.int .i64 t.N, .int .i64 t.G, .int .i64 t.O, .int .i64 t.A, .int .i64 t.D]] W fun e w' => e = .returned (.int .i64 (ordI x t)) ∧ Only [] W w') := fun W x => inOrder_any W x t
  have h1 := heap_alloc_last w (.cells #[.int .i64 t.N, .int .i64 t.G, .int .i64 t.O, .int .i64 t.A, .int .i64 t.D] 52)
  have HT : Hid (∀ W, Only [] (w.alloc (.cells #[.int .i64 t.N, .int .i64 t.G, .int .i64 t.O, .int .i64 t.A, .int .i64 t.D] 52)) W → W.cell? ⟨w.heap.size, 0, none⟩ = some (.int .i64 t.N) ∧ W.cell? ⟨w.heap.size, 1, none⟩ = some (.int .i64 t.G) ∧ W.cell? ⟨w.heap.size, 2, none⟩ = some (.int .i64 t.O) ∧ W.cell? ⟨w.heap.size, 3, none⟩ = some (.int .i64 t.A) ∧ W.cell? ⟨w.heap.size, 4, none⟩ = some (.int .i64 t.D)) := fun W ho => by
    have hl : w.heap.size < (w.alloc (.cells #[.int .i64 t.N, .int .i64 t.G, .int .i64 t.O, .int .i64 t.A, .int .i64 t.D] 52)).heap.size := by simp
    exact ⟨(ho.cell (p := ⟨w.heap.size, 0, none⟩) hl (by simp)).trans (cell_of_row _ _ 0 _ _ _ h1), (ho.cell (p := ⟨w.heap.size, 1, none⟩) hl (by simp)).trans (cell_of_row _ _ 1 _ _ _ h1), (ho.cell (p := ⟨w.heap.size, 2, none⟩) hl (by simp)).trans (cell_of_row _ _ 2 _ _ _ h1), (ho.cell (p := ⟨w.heap.size, 3, none⟩) hl (by simp)).trans (cell_of_row _ _ 3 _ _ _ h1), (ho.cell (p := ⟨w.heap.size, 4, none⟩) hl (by simp)).trans (cell_of_row _ _ 4 _ _ _ h1)⟩
  have HW : Hid (Only [] w (w.alloc (.cells #[.int .i64 t.N, .int .i64 t.G, .int .i64 t.O, .int .i64 t.A, .int .i64 t.D] 52))) := (Only.refl [] w).alloc _
  clear h hn hs h1
  unfold opV
  go_enter Tryd.func46, Tryd.ntmps46
  go_wp2
  have HB : Hid (∀ W, Only [] (w.alloc (.cells #[.int .i64 t.N, .int .i64 t.G, .int .i64 t.O, .int .i64 t.A, .int .i64 t.D] 52)) W → Opns W base (.slice (some ⟨g, 0, none⟩) n cap) l) := fun W ho => H.out.only (HW.out.trans ho (fun _ hk => by cases hk)) (fun _ _ => by simp)
  generalize w.alloc (.cells #[.int .i64 t.N, .int .i64 t.G, .int .i64 t.O, .int .i64 t.A, .int .i64 t.D] 52) = w1 at HT HW HB ⊢
  generalize w.heap.size = B at HT ⊢
  go_loopw [9, 10] (fun a b wr => ∃ i j : Nat, a = .int .i64 i ∧ b = .int .i64 j ∧ i ≤ j ∧ j ≤ n ∧ (∀ q x, q < i → l[q]? = some x → ltO x t) ∧ (∀ q x, j ≤ q → l[q]? = some x → ¬ ltO x t) ∧ Only [] w1 wr) (fun a b _ => (intOf b).toNat - (intOf a).toNat)
  case atStart => exact ⟨0, n, rfl, rfl, Nat.zero_le _, Nat.le_refl _, (fun q x hq => by omega), (fun q x hq hx => by have := (List.getElem?_eq_some_iff.1 hx).1; rw [HN.out] at this; omega), Only.refl _ _⟩
  case round =>
    obtain ⟨i, j, rfl, rfl, hij, hj, hlow, hhigh, ho⟩ := hrel
    have HLO : Hid (∀ q x, q < i → l[q]? = some x → ltO x t) := hlow
    have HHI : Hid (∀ q x, j ≤ q → l[q]? = some x → ¬ ltO x t) := hhigh
    have HO : Hid (Only [] w1 wr) := ho
    clear hlow hhigh ho
    by_cases hlt : i < j
    · obtain ⟨m, hm, h1, h2⟩ : ∃ m : Nat, ((i : Int) + (j : Int)) / 2 = (m : Int) ∧ i ≤ m ∧ m < j := ⟨(i + j) / 2, by omega, by omega, by omega⟩
      obtain ⟨x, hx⟩ : ∃ x, l[m]? = some x := ⟨_, List.getElem?_eq_getElem (by rw [HN.out]; omega)⟩
      have HX : Hid (l[m]? = some x) := hx
      have HS0 : Hid (wr.drew.cell? ⟨g, m * 5, none⟩ = some (.int .i64 x.N) ∧ wr.drew.cell? ⟨g, m * 5 + 1, none⟩ = some (.int .i64 x.G) ∧ wr.drew.cell? ⟨g, m * 5 + 2, none⟩ = some (.int .i64 x.O) ∧ wr.drew.cell? ⟨g, m * 5 + 3, none⟩ = some (.int .i64 x.A) ∧ wr.drew.cell? ⟨g, m * 5 + 4, none⟩ = some (.int .i64 x.D) ∧ wr.drew.cell? ⟨B, 0, none⟩ = some (.int .i64 t.N) ∧ wr.drew.cell? ⟨B, 1, none⟩ = some (.int .i64 t.G) ∧ wr.drew.cell? ⟨B, 2, none⟩ = some (.int .i64 t.O) ∧ wr.drew.cell? ⟨B, 3, none⟩ = some (.int .i64 t.A) ∧ wr.drew.cell? ⟨B, 4, none⟩ = some (.int .i64 t.D)) := by
        obtain ⟨a0, a1, a2, a3, a4⟩ := opn_cells (HB.out wr.drew HO.out.drew) HN.out hx
        obtain ⟨e0, e1, e2, e3, e4⟩ := HT.out wr.drew HO.out.drew
        exact ⟨a0, a1, a2, a3, a4, e0, e1, e2, e3, e4⟩
      have hcmp := HC.out wr.drew x
      have hmn : m < n := by omega
      have hm0 : (m : Int) < n := by omega
      clear hx
      obtain ⟨c, hc⟩ : ∃ c, ordI x t = c := ⟨_, rfl⟩
      have HCC : Hid (ordI x t = c) := hc
      rw [hc] at hcmp
      clear hc
      by_cases hneg : c < 0
      · have hd : decide (c < 0) = true := decide_eq_true hneg
        go_wp2
        go_region_held3 (fun W => W.cell? ⟨g, m * 5, none⟩ = some (.int .i64 x.N) ∧ W.cell? ⟨g, m * 5 + 1, none⟩ = some (.int .i64 x.G) ∧ W.cell? ⟨g, m * 5 + 2, none⟩ = some (.int .i64 x.O) ∧ W.cell? ⟨g, m * 5 + 3, none⟩ = some (.int .i64 x.A) ∧ W.cell? ⟨g, m * 5 + 4, none⟩ = some (.int .i64 x.D) ∧ W.cell? ⟨B, 0, none⟩ = some (.int .i64 t.N) ∧ W.cell? ⟨B, 1, none⟩ = some (.int .i64 t.G) ∧ W.cell? ⟨B, 2, none⟩ = some (.int .i64 t.O) ∧ W.cell? ⟨B, 3, none⟩ = some (.int .i64 t.A) ∧ W.cell? ⟨B, 4, none⟩ = some (.int .i64 t.D)) (with_reducible first | exact HS0.out | exact HS2.out)
          (first
            | (go_at_call 47; refine hcmp.mono ?_; rintro e w2 ⟨rfl, ho2⟩; have HO2 : Hid (Only [] wr.drew w2) := ho2; have HS2 : Hid (w2.cell? ⟨g, m * 5, none⟩ = some (.int .i64 x.N) ∧ w2.cell? ⟨g, m * 5 + 1, none⟩ = some (.int .i64 x.G) ∧ w2.cell? ⟨g, m * 5 + 2, none⟩ = some (.int .i64 x.O) ∧ w2.cell? ⟨g, m * 5 + 3, none⟩ = some (.int .i64 x.A) ∧ w2.cell? ⟨g, m * 5 + 4, none⟩ = some (.int .i64 x.D) ∧ w2.cell? ⟨B, 0, none⟩ = some (.int .i64 t.N) ∧ w2.cell? ⟨B, 1, none⟩ = some (.int .i64 t.G) ∧ w2.cell? ⟨B, 2, none⟩ = some (.int .i64 t.O) ∧ w2.cell? ⟨B, 3, none⟩ = some (.int .i64 t.A) ∧ w2.cell? ⟨B, 4, none⟩ = some (.int .i64 t.D)) := TenO.only HS0.out ho2; clear ho2 hcmp))
        go_wp2
        go_roundw
        case rel => exact ⟨m + 1, j, by go_num, rfl, by omega, hj, (fun q y hq hy => by
            rcases Nat.lt_or_ge q m with h3 | h3
            · exact ltO_trans (HS.out.get h3 hy HX.out) ((ordI_lt _ _).1 (by rw [HCC.out]; exact hneg))
            · obtain rfl : q = m := by omega
              rw [HX.out] at hy
              cases hy
              exact (ordI_lt _ _).1 (by rw [HCC.out]; exact hneg)), HHI.out, HO.out.drew.trans HO2.out (fun _ hk => by cases hk)⟩
        case measure => simp [intOf]; omega
      · have hd : decide (c < 0) = false := decide_eq_false hneg
        go_wp2
        go_region_held3 (fun W => W.cell? ⟨g, m * 5, none⟩ = some (.int .i64 x.N) ∧ W.cell? ⟨g, m * 5 + 1, none⟩ = some (.int .i64 x.G) ∧ W.cell? ⟨g, m * 5 + 2, none⟩ = some (.int .i64 x.O) ∧ W.cell? ⟨g, m * 5 + 3, none⟩ = some (.int .i64 x.A) ∧ W.cell? ⟨g, m * 5 + 4, none⟩ = some (.int .i64 x.D) ∧ W.cell? ⟨B, 0, none⟩ = some (.int .i64 t.N) ∧ W.cell? ⟨B, 1, none⟩ = some (.int .i64 t.G) ∧ W.cell? ⟨B, 2, none⟩ = some (.int .i64 t.O) ∧ W.cell? ⟨B, 3, none⟩ = some (.int .i64 t.A) ∧ W.cell? ⟨B, 4, none⟩ = some (.int .i64 t.D)) (with_reducible first | exact HS0.out | exact HS2.out)
          (first
            | (go_at_call 47; refine hcmp.mono ?_; rintro e w2 ⟨rfl, ho2⟩; have HO2 : Hid (Only [] wr.drew w2) := ho2; have HS2 : Hid (w2.cell? ⟨g, m * 5, none⟩ = some (.int .i64 x.N) ∧ w2.cell? ⟨g, m * 5 + 1, none⟩ = some (.int .i64 x.G) ∧ w2.cell? ⟨g, m * 5 + 2, none⟩ = some (.int .i64 x.O) ∧ w2.cell? ⟨g, m * 5 + 3, none⟩ = some (.int .i64 x.A) ∧ w2.cell? ⟨g, m * 5 + 4, none⟩ = some (.int .i64 x.D) ∧ w2.cell? ⟨B, 0, none⟩ = some (.int .i64 t.N) ∧ w2.cell? ⟨B, 1, none⟩ = some (.int .i64 t.G) ∧ w2.cell? ⟨B, 2, none⟩ = some (.int .i64 t.O) ∧ w2.cell? ⟨B, 3, none⟩ = some (.int .i64 t.A) ∧ w2.cell? ⟨B, 4, none⟩ = some (.int .i64 t.D)) := TenO.only HS0.out ho2; clear ho2 hcmp))
        go_wp2
        go_roundw
        case rel => exact ⟨i, m, rfl, by go_num, h1, by omega, HLO.out, (fun q y hq hy hlt2 => by
            have hnx : ¬ ltO x t := fun h => by have h3 := (ordI_lt x t).2 h; rw [HCC.out] at h3; omega
            rcases Nat.lt_or_ge m q with h3 | h3
            · exact hnx (ltO_trans (HS.out.get h3 HX.out hy) hlt2)
            · obtain rfl : q = m := by omega
              rw [HX.out] at hy
              cases hy
              exact hnx hlt2), HO.out.drew.trans HO2.out (fun _ hk => by cases hk)⟩
        case measure => simp [intOf]; omega
    · obtain rfl : i = j := by omega
      have hle : i ≤ l.length := by rw [HN.out]; omega
      by_cases hin : i < n
      · obtain ⟨x, hx⟩ : ∃ x, l[i]? = some x := ⟨_, List.getElem?_eq_getElem (by rw [HN.out]; omega)⟩
        have HX : Hid (l[i]? = some x) := hx
        have HS0 : Hid (wr.drew.cell? ⟨g, i * 5, none⟩ = some (.int .i64 x.N) ∧ wr.drew.cell? ⟨g, i * 5 + 1, none⟩ = some (.int .i64 x.G) ∧ wr.drew.cell? ⟨g, i * 5 + 2, none⟩ = some (.int .i64 x.O) ∧ wr.drew.cell? ⟨g, i * 5 + 3, none⟩ = some (.int .i64 x.A) ∧ wr.drew.cell? ⟨g, i * 5 + 4, none⟩ = some (.int .i64 x.D) ∧ wr.drew.cell? ⟨B, 0, none⟩ = some (.int .i64 t.N) ∧ wr.drew.cell? ⟨B, 1, none⟩ = some (.int .i64 t.G) ∧ wr.drew.cell? ⟨B, 2, none⟩ = some (.int .i64 t.O) ∧ wr.drew.cell? ⟨B, 3, none⟩ = some (.int .i64 t.A) ∧ wr.drew.cell? ⟨B, 4, none⟩ = some (.int .i64 t.D)) := by
          obtain ⟨a0, a1, a2, a3, a4⟩ := opn_cells (HB.out wr.drew HO.out.drew) HN.out hx
          obtain ⟨e0, e1, e2, e3, e4⟩ := HT.out wr.drew HO.out.drew
          exact ⟨a0, a1, a2, a3, a4, e0, e1, e2, e3, e4⟩
        have hcmp := HC.out wr.drew x
        have hm0 : (i : Int) < n := by omega
        have hdn : decide ((i : Int) < (n : Int)) = true := decide_eq_true hm0
        clear hx
        obtain ⟨c, hc⟩ : ∃ c, ordI x t = c := ⟨_, rfl⟩
        have HCC : Hid (ordI x t = c) := hc
        rw [hc] at hcmp
        clear hc
        go_wp2
        go_region_held3 (fun W => W.cell? ⟨g, i * 5, none⟩ = some (.int .i64 x.N) ∧ W.cell? ⟨g, i * 5 + 1, none⟩ = some (.int .i64 x.G) ∧ W.cell? ⟨g, i * 5 + 2, none⟩ = some (.int .i64 x.O) ∧ W.cell? ⟨g, i * 5 + 3, none⟩ = some (.int .i64 x.A) ∧ W.cell? ⟨g, i * 5 + 4, none⟩ = some (.int .i64 x.D) ∧ W.cell? ⟨B, 0, none⟩ = some (.int .i64 t.N) ∧ W.cell? ⟨B, 1, none⟩ = some (.int .i64 t.G) ∧ W.cell? ⟨B, 2, none⟩ = some (.int .i64 t.O) ∧ W.cell? ⟨B, 3, none⟩ = some (.int .i64 t.A) ∧ W.cell? ⟨B, 4, none⟩ = some (.int .i64 t.D)) (with_reducible first | exact HS0.out | exact HS2.out)
          (first
            | (go_at_call 47; refine hcmp.mono ?_; rintro e w2 ⟨rfl, ho2⟩; have HO2 : Hid (Only [] wr.drew w2) := ho2; have HS2 : Hid (w2.cell? ⟨g, i * 5, none⟩ = some (.int .i64 x.N) ∧ w2.cell? ⟨g, i * 5 + 1, none⟩ = some (.int .i64 x.G) ∧ w2.cell? ⟨g, i * 5 + 2, none⟩ = some (.int .i64 x.O) ∧ w2.cell? ⟨g, i * 5 + 3, none⟩ = some (.int .i64 x.A) ∧ w2.cell? ⟨g, i * 5 + 4, none⟩ = some (.int .i64 x.D) ∧ w2.cell? ⟨B, 0, none⟩ = some (.int .i64 t.N) ∧ w2.cell? ⟨B, 1, none⟩ = some (.int .i64 t.G) ∧ w2.cell? ⟨B, 2, none⟩ = some (.int .i64 t.O) ∧ w2.cell? ⟨B, 3, none⟩ = some (.int .i64 t.A) ∧ w2.cell? ⟨B, 4, none⟩ = some (.int .i64 t.D)) := TenO.only HS0.out ho2; clear ho2 hcmp))
        go_wp2
        refine bodyPost_ret (v := .tuple #[.int .i64 i, .bool (c == 0)]) (by simp [results, Tryd.results46, go_sem]) rfl ⟨i, (c == 0), rfl, ⟨hle, HLO.out, HHI.out, ?_⟩, HW.out.trans (HO.out.drew.trans HO2.out (fun _ hk => by cases hk)) (fun _ hk => by cases hk)⟩
        rw [beq_iff_eq, ← HCC.out, ordI_eq]
        exact ⟨fun h => ⟨x, HX.out, h⟩, fun ⟨y, hy, h⟩ => by rw [HX.out] at hy; cases hy; exact h⟩
      · have hdn : decide ((i : Int) < (n : Int)) = false := decide_eq_false (by omega)
        go_wp2
        go_big_quiet (fail)
        go_wp2
        refine bodyPost_ret (v := .tuple #[.int .i64 i, .bool false]) (by simp [results, Tryd.results46, go_sem]) rfl ⟨i, false, rfl, ⟨hle, HLO.out, HHI.out, ?_⟩, HW.out.trans (HO.out.drewsN _) (fun _ hk => by cases hk)⟩
        constructor
        · intro h; cases h
        · rintro ⟨x, hx, _⟩
          have := (List.getElem?_eq_some_iff.1 hx).1
          rw [HN.out] at this
          omega
end Go.Proofs.YtagpahgjbglmaaaDoor
