/- Clients, the document's side: its table in memory; at, Renew, Name. -/
import Derived.Test.YtaipigiinljpkaaGreatDoorLd1
import Derived.Test.YtaipigiinljpkaaGreatDoorH1
import Derived.Test.YtaipigiinljpkaaGreatDoorLs10
namespace Go.Proofs.YtaipigiinljpkaaGreatDoor
open Go Go.RowKit Go.Deep

def rcC (x : Rc) : List Value := [.int .i64 (x.I : Nat), .int .i64 (x.S : Nat), .string (bs x.s), .bool x.c]
theorem rcC_len (x : Rc) : (rcC x).length = 4 := rfl
theorem rcC_one (x : Rc) : ∀ v ∈ rcC x, v.oneCell' = true := by
  intro v hv
  simp only [rcC, List.mem_cons, List.not_mem_nil, or_false] at hv
  rcases hv with rfl | rfl | rfl | rfl <;> rfl
theorem infoRc : (Tryz.prog.info? 67).map (fun i => (i.zero, i.size, i.bytes)) = some (some (.agg #[.int .i64 0, .int .i64 0, .string ⟨#[]⟩, .bool false]), 4, 40) := by kernel_rfl
theorem infoRc' : ∃ i, Tryz.prog.info? 67 = some i ∧ i.zero = some (.agg #[.int .i64 0, .int .i64 0, .string ⟨#[]⟩, .bool false]) ∧ i.size = 4 ∧ i.bytes = 40 := by
  obtain ⟨i, hi, hz⟩ := Option.map_eq_some_iff.1 infoRc
  simp only [Prod.mk.injEq] at hz
  exact ⟨i, hi, hz⟩
theorem undRcs : Tryz.prog.underlying 27 = some (.slice 67) := by kernel_rfl
/-- The document's clients in a row of one's own. -/
def Rcs (w : World) (base : Nat) (v : Value) (L : List Rc) : Prop := w.ownsRow base 67 4 v L.length (rowOf rcC L)
theorem Rcs.only {w w' : World} {base : Nat} {v : Value} {L : List Rc} {K : List Nat} (h : Rcs w base v L) (ho : Only K w w') (hn : ∀ k, v.ownBlock = some k → k ∉ K) : Rcs w' base v L := ho.owns h hn
theorem Rcs.nil (w : World) (base : Nat) : Rcs w base (.slice none 0 0) [] := World.ownsRow_nil _ _ _ _
theorem Rcs.low {w : World} {base b2 : Nat} {v : Value} {L : List Rc} (h : Rcs w base v L) (hb : b2 ≤ base) : Rcs w b2 v L := ⟨h.1, by
  rcases h.2 with e | ⟨g, cp, cur, h1, h2, h3⟩
  · exact Or.inl e
  · exact Or.inr ⟨g, cp, cur, h1, Nat.le_trans hb h2, h3⟩⟩
/-- Where a client lies. -/
def RcIn (w : World) (g j : Nat) (x : Rc) : Prop := w.cell? ⟨g, j * 4, none⟩ = some (.int .i64 (x.I : Nat)) ∧ w.cell? ⟨g, j * 4 + 1, none⟩ = some (.int .i64 (x.S : Nat)) ∧ w.cell? ⟨g, j * 4 + 2, none⟩ = some (.string (bs x.s)) ∧ w.cell? ⟨g, j * 4 + 3, none⟩ = some (.bool x.c)
theorem RcIn.only {w w' : World} {g j : Nat} {x : Rc} {K : List Nat} (h : RcIn w g j x) (ho : Only K w w') (hn : g ∉ K) : RcIn w' g j x :=
  ⟨(ho.cell (p := ⟨g, j * 4, none⟩) (lt_of_cell h.1) hn).trans h.1, (ho.cell (p := ⟨g, j * 4 + 1, none⟩) (lt_of_cell h.2.1) hn).trans h.2.1, (ho.cell (p := ⟨g, j * 4 + 2, none⟩) (lt_of_cell h.2.2.1) hn).trans h.2.2.1, (ho.cell (p := ⟨g, j * 4 + 3, none⟩) (lt_of_cell h.2.2.2) hn).trans h.2.2.2⟩
theorem Rcs.form {w : World} {base : Nat} {v : Value} {L : List Rc} (h : Rcs w base v L) : ∃ ad cap, v = .slice ad L.length cap ∧ ∀ j x, L[j]? = some x → ∃ g, ad = some ⟨g, 0, none⟩ ∧ base ≤ g ∧ g < w.heap.size ∧ RcIn w g j x := by
  rcases h.2 with ⟨rfl, hz⟩ | ⟨g, cap, cur, rfl, h1, h2, h3⟩
  · refine ⟨none, 0, by rw [hz], fun j s hs => ?_⟩
    have := List.eq_nil_of_length_eq_zero hz
    subst this
    simp at hs
  · refine ⟨_, _, rfl, fun j x hx => ⟨g, rfl, h1, (Array.getElem?_eq_some_iff.1 h2).1, ?_⟩⟩
    have hlt : j < L.length := (List.getElem?_eq_some_iff.1 hx).1
    have key : ∀ i, i < 4 → w.cell? ⟨g, j * 4 + i, none⟩ = (rcC x)[i]? := fun i hi => by
      rw [World.ownsRow.cellAt h _ (by omega)]
      exact rowOf_get rcC_len L j i x hi hx
    exact ⟨key 0 (by decide), key 1 (by decide), key 2 (by decide), key 3 (by decide)⟩
theorem Rcs.snoc {w : World} {base n : Nat} {v : Value} {L : List Rc} {x : Rc} (hn : L.length = n) (h : w.ownsRow base 67 4 v (n + 1) (rowOf rcC L ++ rcC x)) : Rcs w base v (L ++ [x]) := by
  unfold Rcs
  rw [rowOf_append, List.length_append, List.length_singleton, hn, show rowOf rcC [x] = rcC x by simp [rowOf]]
  exact h
theorem Rcs.own {w : World} {base n : Nat} {v : Value} {L : List Rc} (hn : L.length = n) (h : Rcs w base v L) : w.ownsRow base 67 4 v n (rowOf rcC L) := by
  unfold Rcs at h
  rw [hn] at h
  exact h
theorem rc_news {w : World} (x : Rc) (ty : TypeId) : ∀ (r : Nat) (q : Value), (rcC x)[r]? = some q → (w.alloc (.cells #[.int .i64 (x.I : Nat), .int .i64 (x.S : Nat), .string (bs x.s), .bool x.c] ty)).cell? ((⟨w.heap.size, 0, none⟩ : Addr).add r) = some q := World.news_of_block (w := w.alloc (.cells #[.int .i64 (x.I : Nat), .int .i64 (x.S : Nat), .string (bs x.s), .bool x.c] ty)) (heap_alloc_last w _)
/-- The document's table. -/
structure RlsAt (w : World) (base m : Nat) (v : Value) (last now : Nat) (L : List Rc) : Prop where
  tab : w.heap[m]? = some (.cells #[v, .int .i64 (last : Nat), .int .i64 (now : Nat)] 29 (0, 0))
  own : Rcs w base v L
section
variable {w w' : World} {base m last now : Nat} {v : Value} {L : List Rc}
theorem RlsAt.lt (h : RlsAt w base m v last now L) : m < w.heap.size := (Array.getElem?_eq_some_iff.1 h.tab).1
theorem RlsAt.c0 (h : RlsAt w base m v last now L) : w.cell? ⟨m, 0, none⟩ = some v := cell_of_row _ _ 0 _ _ _ h.tab
theorem RlsAt.c1 (h : RlsAt w base m v last now L) : w.cell? ⟨m, 1, none⟩ = some (.int .i64 (last : Nat)) := cell_of_row _ _ 1 _ _ _ h.tab
theorem RlsAt.c2 (h : RlsAt w base m v last now L) : w.cell? ⟨m, 2, none⟩ = some (.int .i64 (now : Nat)) := cell_of_row _ _ 2 _ _ _ h.tab
theorem RlsAt.fr (h : RlsAt w base m v last now L) (j : Nat) : w.frozen? ⟨m, j, none⟩ = false := frozen_of_row _ _ _ _ _ h.tab
theorem RlsAt.ne (h : RlsAt w base m v last now L) {k : Nat} (hk : v.ownBlock = some k) : k ≠ m := fun e => by
  obtain ⟨_, _, cur, hc⟩ := own_block h.own hk
  rw [e, h.tab] at hc
  simp at hc
theorem RlsAt.kept {K : List Nat} (h : RlsAt w base m v last now L) (ho : Only K w w') (h1 : m ∉ K) (h2 : ∀ k, v.ownBlock = some k → k ∉ K) : RlsAt w' base m v last now L := ⟨(ho.block m h.lt h1).trans h.tab, h.own.only ho h2⟩
theorem RlsAt.only (h : RlsAt w base m v last now L) (ho : Only [] w w') : RlsAt w' base m v last now L := h.kept ho (by simp) (fun _ _ => by simp)
end
/-! ### at -/
def AtR (w w' : World) (L : List Rc) (id : Int) (e : Ending) : Prop :=
  ((∃ (k : Nat) (x : Rc), L[k]? = some x ∧ (x.I : Int) = id ∧ x.c = true ∧ e = .returned (.int .i64 (k : Nat))) ∨ ((∀ x ∈ L, ¬ ((x.I : Int) = id ∧ x.c = true)) ∧ e = .returned (.int .i64 (-1)))) ∧ w = w'
set_option maxRecDepth 100000 in
set_option maxHeartbeats 4000000 in
theorem rat_any (w : World) (base m : Nat) (v : Value) (last now : Nat) (L : List Rc) (id : Int) (h : RlsAt w base m v last now L) (hl : L.length ≤ 100) :
    Calls Tryz.prog 26 #[.pointer (some ⟨m, 0, none⟩), .int .i64 id] w fun e w' => AtR w w' L id e := by
  have c0 := h.c0
  obtain ⟨ad, cap, rfl, hf⟩ := h.own.form
  have HF : Hid (∀ j x, L[j]? = some x → ∃ g, ad = some ⟨g, 0, none⟩ ∧ base ≤ g ∧ g < w.heap.size ∧ RcIn w g j x) := hf
  obtain ⟨n, hn⟩ : ∃ n, L.length = n := ⟨_, rfl⟩
  have HN : Hid (L.length = n) := hn
  rw [hn] at c0 hl
  clear hf hn h
  go_enter Tryz.func26, Tryz.ntmps26
  go_wp2
  go_loop [5] (fun i => ∃ j : Nat, i = .int .i64 (j : Nat) ∧ j ≤ n ∧ ∀ x ∈ L.take j, ¬ ((x.I : Int) = id ∧ x.c = true)) (fun i => n - (intOf i).toNat)
  case atStart => exact ⟨0, rfl, Nat.zero_le _, fun x hx => by simp at hx⟩
  case round =>
    obtain ⟨j, rfl, hj, hno⟩ := hrel
    have HNO : Hid (∀ x ∈ L.take j, ¬ ((x.I : Int) = id ∧ x.c = true)) := hno
    clear hno
    by_cases hlt : j < n
    · obtain ⟨x, hx⟩ : ∃ x, L[j]? = some x := ⟨L[j]'(by have := HN.out; omega), List.getElem?_eq_getElem _⟩
      obtain ⟨g, rfl, _, _, q0, _, _, q3⟩ := HF.out j x hx
      have HX : Hid (L[j]? = some x) := hx
      have HST : Hid (¬ ((x.I : Int) = id ∧ x.c = true) → ∀ y ∈ L.take (j + 1), ¬ ((y.I : Int) = id ∧ y.c = true)) := fun hne y hy => by
        rw [List.take_add_one, HX.out] at hy
        rcases List.mem_append.1 hy with e | e
        · exact HNO.out y e
        · simp at e
          rw [e]
          exact hne
      clear hx
      by_cases hi : (x.I : Int) = id
      · cases hc : x.c with
        | true =>
          rw [hc] at q3
          have HC : Hid (x.c = true) := hc
          clear hc
          subst hi
          go_wp2
          go_ret
          exact ⟨Or.inl ⟨j, x, HX.out, rfl, HC.out, rfl⟩, rfl⟩
        | false =>
          rw [hc] at q3
          have HC : Hid (x.c = false) := hc
          clear hc
          subst hi
          go_wp2
          go_round
          case rel => exact ⟨j + 1, by go_num, by omega, HST.out (fun h => by rw [HC.out] at h; cases h.2)⟩
          case measure => simp [intOf]; omega
      · have hb : ((x.I : Int) == id) = false := by simpa using hi
        go_wp2
        go_round
        case rel => exact ⟨j + 1, by go_num, by omega, HST.out (fun h => hi h.1)⟩
        case measure => simp [intOf]; omega
    · obtain rfl : j = n := by omega
      have HD : Hid (∀ x ∈ L, ¬ ((x.I : Int) = id ∧ x.c = true)) := by
        have := HNO.out
        rw [← HN.out, List.take_length] at this
        exact this
      go_wp2
      go_ret
      exact ⟨Or.inr ⟨HD.out, rfl⟩, rfl⟩
end Go.Proofs.YtaipigiinljpkaaGreatDoor
