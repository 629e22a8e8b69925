/- Nodes: a table in memory, and what the law keeps beside it. -/
import Derived.Test.YtdbfefkddaehmacDoorY1
import Derived.Test.YtdbfefkddaehmacDoorH1
import Derived.Laws.OwnMore
namespace Go.Proofs.YtdbfefkddaehmacDoor
open Go Go.RowKit Go.Deep Go.Maps

/-- A node in memory. -/
structure NodAt (w : World) (n : Nod) : Prop where
  c0 : w.cell? ⟨n.b, 0, none⟩ = some (.int .i64 n.K)
  c1 : w.cell? ⟨n.b, 1, none⟩ = some (.int .i64 n.Z)
  c2 : w.cell? ⟨n.b, 2, none⟩ = some (.int .i64 n.L)
  c3 : w.cell? ⟨n.b, 3, none⟩ = some (.int .i64 n.C)
  c4 : w.cell? ⟨n.b, 4, none⟩ = some (.int .i64 n.UN)
  c5 : w.cell? ⟨n.b, 5, none⟩ = some (.int .i64 n.UG)
  d : DataO w n.b 6 n.S n.H n.m
def Nod.foot (n : Nod) : List Nat := footD n.b n.m
theorem Nod.b_foot (n : Nod) : n.b ∈ n.foot := List.mem_cons_self ..
theorem NodAt.foot_lt {w : World} {n : Nod} (h : NodAt w n) : ∀ k ∈ n.foot, k < w.heap.size := h.d.foot_lt
theorem NodAt.kept {w w' : World} {n : Nod} {L : List Nat} (h : NodAt w n) (ho : Only L w w') (hd : ∀ k ∈ n.foot, k ∉ L) : NodAt w' n := by
  have hb : n.b < w.heap.size := lt_of_cell h.c0
  have hn : n.b ∉ L := hd _ n.b_foot
  exact ⟨(ho.cell (p := ⟨n.b, 0, none⟩) hb hn).trans h.c0, (ho.cell (p := ⟨n.b, 1, none⟩) hb hn).trans h.c1, (ho.cell (p := ⟨n.b, 2, none⟩) hb hn).trans h.c2, (ho.cell (p := ⟨n.b, 3, none⟩) hb hn).trans h.c3,
    (ho.cell (p := ⟨n.b, 4, none⟩) hb hn).trans h.c4, (ho.cell (p := ⟨n.b, 5, none⟩) hb hn).trans h.c5, h.d.kept ho hd⟩
/-- A table in memory: g: how often each number was given; nd: the nodes that are there. -/
structure TabAt (w : World) (t p most : Nat) (g : Nat → Nat) (nd : Nat → Option Nod) : Prop where
  tab : w.cell? ⟨t, 0, none⟩ = some (.slice (some ⟨p, 0, none⟩) most most)
  gen : ∀ i, i < most → w.cell? ⟨p, i * 2, none⟩ = some (.int .i64 (g i : Nat))
  ptr : ∀ i, i < most → w.cell? ⟨p, i * 2 + 1, none⟩ = some (.pointer ((nd i).map (fun n => ⟨n.b, 0, none⟩)))
  fz : ∀ o, w.frozen? ⟨p, o, none⟩ = false
  plt : p < w.heap.size
  pt : p ≠ t
  node : ∀ i n, i < most → nd i = some n → NodAt w n
  apart : ∀ i j n n', i < most → j < most → nd i = some n → nd j = some n' → i ≠ j → ∀ k ∈ n.foot, k ∉ n'.foot
  own : ∀ i n, i < most → nd i = some n → t ∉ n.foot ∧ p ∉ n.foot
def InFoot (t p most : Nat) (nd : Nat → Option Nod) (k : Nat) : Prop := k = t ∨ k = p ∨ ∃ i n, i < most ∧ nd i = some n ∧ k ∈ n.foot
section
variable {w w' : World} {t p most : Nat} {g : Nat → Nat} {nd : Nat → Option Nod}
theorem InFoot.node {i : Nat} {n : Nod} (hi : i < most) (h : nd i = some n) {k : Nat} (hk : k ∈ n.foot) : InFoot t p most nd k := Or.inr (Or.inr ⟨i, n, hi, h, hk⟩)
theorem TabAt.foot_lt (h : TabAt w t p most g nd) : ∀ k, InFoot t p most nd k → k < w.heap.size := by
  rintro k (rfl | rfl | ⟨i, n, hi, hn, hk⟩)
  · exact lt_of_cell h.tab
  · exact h.plt
  · exact (h.node i n hi hn).foot_lt k hk
theorem TabAt.kept {L : List Nat} (h : TabAt w t p most g nd) (ho : Only L w w') (hd : ∀ k, InFoot t p most nd k → k ∉ L) : TabAt w' t p most g nd := by
  have ht : t < w.heap.size := lt_of_cell h.tab
  have htl : t ∉ L := hd t (Or.inl rfl)
  have hpl : p ∉ L := hd p (Or.inr (Or.inl rfl))
  exact ⟨(ho.cell (p := ⟨t, 0, none⟩) ht htl).trans h.tab, fun i hi => (ho.cell (p := ⟨p, i * 2, none⟩) h.plt hpl).trans (h.gen i hi), fun i hi => (ho.cell (p := ⟨p, i * 2 + 1, none⟩) h.plt hpl).trans (h.ptr i hi),
    fun o => (ho.frozen (p := ⟨p, o, none⟩) h.plt hpl).trans (h.fz o), Nat.lt_of_lt_of_le h.plt ho.size, h.pt, fun i n hi hn => (h.node i n hi hn).kept ho (fun k hk => hd k (.node hi hn hk)), h.apart, h.own⟩
/-- What lies in the row of places is as it was, but for the cells of one number. -/
structure PlaceTurned (w w' : World) (p i : Nat) : Prop where
  only : Only [p] w w'
  rest : ∀ o, o ≠ i * 2 → o ≠ i * 2 + 1 → w'.cell? ⟨p, o, none⟩ = w.cell? ⟨p, o, none⟩
  fz : ∀ o, w'.frozen? ⟨p, o, none⟩ = w.frozen? ⟨p, o, none⟩
theorem TabAt.place {g' : Nat → Nat} {nd' : Nat → Option Nod} {i : Nat} (h : TabAt w t p most g nd) (hp : PlaceTurned w w' p i) (hg : ∀ j, j ≠ i → g' j = g j) (hn : ∀ j, j ≠ i → nd' j = nd j)
    (c0 : w'.cell? ⟨p, i * 2, none⟩ = some (.int .i64 (g' i : Nat))) (c1 : w'.cell? ⟨p, i * 2 + 1, none⟩ = some (.pointer ((nd' i).map (fun n => ⟨n.b, 0, none⟩))))
    (hnew : ∀ n, nd' i = some n → NodAt w' n ∧ ∀ k ∈ n.foot, w.heap.size ≤ k) : TabAt w' t p most g' nd' := by
  have ht : t < w.heap.size := lt_of_cell h.tab
  have old : ∀ j n, j < most → j ≠ i → nd' j = some n → nd j = some n := fun j n hj hne e => by rw [hn j hne] at e; exact e
  have hlt : ∀ j n, j < most → j ≠ i → nd' j = some n → ∀ k ∈ n.foot, k < w.heap.size := fun j n hj hne e => (h.node j n hj (old j n hj hne e)).foot_lt
  refine ⟨(hp.only.cell (p := ⟨t, 0, none⟩) ht (by simpa using h.pt.symm)).trans h.tab, fun j hj => ?_, fun j hj => ?_, fun o => (hp.fz o).trans (h.fz o), Nat.lt_of_lt_of_le h.plt hp.only.size, h.pt, fun j n hj e => ?_, fun j j' n n' hj hj' e e' hne => ?_, fun j n hj e => ?_⟩
  · by_cases hji : j = i
    · subst hji; exact c0
    · rw [hp.rest _ (by omega) (by omega), h.gen j hj, hg j hji]
  · by_cases hji : j = i
    · subst hji; exact c1
    · rw [hp.rest _ (by omega) (by omega), h.ptr j hj, hn j hji]
  · by_cases hji : j = i
    · subst hji; exact (hnew n e).1
    · exact (h.node j n hj (old j n hj hji e)).kept hp.only (fun k hk hm => by simp at hm; subst hm; exact (h.own j n hj (old j n hj hji e)).2 hk)
  · by_cases hji : j = i
    · subst hji
      intro k hk hk'
      have h1 := (hnew n e).2 k hk
      have h2 := hlt j' n' hj' (Ne.symm hne) e' k hk'
      omega
    · by_cases hji' : j' = i
      · subst hji'
        intro k hk hk'
        have h1 := (hnew n' e').2 k hk'
        have h2 := hlt j n hj hji e k hk
        omega
      · exact h.apart j j' n n' hj hj' (old j n hj hji e) (old j' n' hj' hji' e') hne
  · by_cases hji : j = i
    · subst hji
      have h1 := (hnew n e).2
      exact ⟨fun hk => by have := h1 t hk; omega, fun hk => by have := h1 p hk; have := h.plt; omega⟩
    · exact h.own j n hj (old j n hj hji e)
/-- A node is another one now; it lies where it lay, or in new memory. -/
theorem TabAt.turn {i : Nat} {n n' : Nod} (h : TabAt w t p most g nd) (hi : i < most) (hnd : nd i = some n) (hb : n'.b = n.b) (hn : NodAt w' n') (ho : Only n.foot w w') (hsub : ∀ k ∈ n'.foot, k ∈ n.foot ∨ w.heap.size ≤ k) : TabAt w' t p most g (setN nd i (some n')) := by
  have ht : t < w.heap.size := lt_of_cell h.tab
  obtain ⟨ot, op⟩ := h.own i n hi hnd
  have old : ∀ j m, j ≠ i → setN nd i (some n') j = some m → nd j = some m := fun j m hne e => by rw [setN_other _ _ hne] at e; exact e
  refine ⟨(ho.cell (p := ⟨t, 0, none⟩) ht ot).trans h.tab, fun j hj => (ho.cell (p := ⟨p, j * 2, none⟩) h.plt op).trans (h.gen j hj), fun j hj => (ho.cell (p := ⟨p, j * 2 + 1, none⟩) h.plt op).trans ?_, fun o => (ho.frozen (p := ⟨p, o, none⟩) h.plt op).trans (h.fz o), Nat.lt_of_lt_of_le h.plt ho.size, h.pt, fun j m hj e => ?_, fun j j' m m' hj hj' e e' hne => ?_, fun j m hj e => ?_⟩
  · rw [h.ptr j hj]
    by_cases hji : j = i
    · subst hji; rw [setN_same, hnd]; simp [hb]
    · rw [setN_other _ _ hji]
  · by_cases hji : j = i
    · subst hji; rw [setN_same] at e; cases e; exact hn
    · exact (h.node j m hj (old j m hji e)).kept ho (fun k hk => h.apart j i m n hj hi (old j m hji e) hnd hji k hk)
  · by_cases hji : j = i
    · subst hji
      rw [setN_same] at e; cases e
      intro k hk hk'
      rcases hsub k hk with h1 | h1
      · exact h.apart j j' n m' hj hj' hnd (old j' m' (Ne.symm hne) e') hne k h1 hk'
      · have := (h.node j' m' hj' (old j' m' (Ne.symm hne) e')).foot_lt k hk'
        omega
    · by_cases hji' : j' = i
      · subst hji'
        rw [setN_same] at e'; cases e'
        intro k hk hk'
        rcases hsub k hk' with h1 | h1
        · exact h.apart j j' m n hj hj' (old j m hji e) hnd hne k hk h1
        · have := (h.node j m hj (old j m hji e)).foot_lt k hk
          omega
      · exact h.apart j j' m m' hj hj' (old j m hji e) (old j' m' hji' e') hne
  · by_cases hji : j = i
    · subst hji
      rw [setN_same] at e; cases e
      refine ⟨fun hk => ?_, fun hk => ?_⟩
      · rcases hsub t hk with h1 | h1
        · exact ot h1
        · omega
      · rcases hsub p hk with h1 | h1
        · exact op h1
        · have := h.plt; omega
    · exact h.own j m hj (old j m hji e)
end

/-! ### what the law keeps beside it -/
structure Laid5 (W w : World) (base t p most : Nat) (g : Nat → Nat) (nd : Nat → Option Nod) (T : Nat) (tm : Nat → Nat) (hv : Value) (l : List Spot) : Prop where
  tab : TabAt w t p most g nd
  times : ∀ i, i < most → w.cell? ⟨T, i, none⟩ = some (.int .i64 (tm i : Nat))
  tfz : ∀ o, w.frozen? ⟨T, o, none⟩ = false
  tlt : T < w.heap.size
  here : w.ownsRow base 49 9 hv l.length (rowOf Spot.cells l)
  disT : ∀ k, InFoot t p most nd k → k ≠ T
  disH : ∀ k, InFoot t p most nd k → hv.ownBlock ≠ some k
  TH : hv.ownBlock ≠ some T
  newF : ∀ k, InFoot t p most nd k → W.heap.size ≤ k
  newT : W.heap.size ≤ T
  newH : ∀ k, hv.ownBlock = some k → W.heap.size ≤ k
  below : Below W.heap.size W w
  base_le : base ≤ w.heap.size
section
variable {W w w' : World} {base t p most T : Nat} {g tm : Nat → Nat} {nd : Nat → Option Nod} {hv : Value} {l : List Spot}
theorem Laid5.tabStep {g' : Nat → Nat} {nd' : Nat → Option Nod} {L : List Nat} (h : Laid5 W w base t p most g nd T tm hv l) (ht : TabAt w' t p most g' nd') (ho : Only L w w') (hL : ∀ k ∈ L, InFoot t p most nd k)
    (hf : ∀ k, InFoot t p most nd' k → InFoot t p most nd k ∨ w.heap.size ≤ k) : Laid5 W w' base t p most g' nd' T tm hv l := by
  have hT : T ∉ L := fun hk => h.disT T (hL T hk) rfl
  refine ⟨ht, fun i hi => (ho.cell (p := ⟨T, i, none⟩) h.tlt hT).trans (h.times i hi), fun o => (ho.frozen (p := ⟨T, o, none⟩) h.tlt hT).trans (h.tfz o), Nat.lt_of_lt_of_le h.tlt ho.size, ho.owns h.here (fun k hk hm => h.disH k (hL k hm) hk),
    fun k hk => ?_, fun k hk => ?_, h.TH, fun k hk => ?_, h.newT, h.newH, h.below.trans (ho.to_below h.below.size (fun k hk => h.newF k (hL k hk))), Nat.le_trans h.base_le ho.size⟩
  · rcases hf k hk with h1 | h1
    · exact h.disT k h1
    · have := h.tlt; omega
  · rcases hf k hk with h1 | h1
    · exact h.disH k h1
    · intro e
      have := (h.here.lt k e).2
      omega
  · rcases hf k hk with h1 | h1
    · exact h.newF k h1
    · exact Nat.le_trans h.below.size h1
theorem Laid5.only (h : Laid5 W w base t p most g nd T tm hv l) (ho : Only [] w w') : Laid5 W w' base t p most g nd T tm hv l :=
  h.tabStep (h.tab.kept ho (fun _ _ => by simp)) ho (fun _ hk => by cases hk) (fun k hk => Or.inl hk)
theorem Laid5.hereStep {hv' : Value} {l' : List Spot} {L : List Nat} (h : Laid5 W w base t p most g nd T tm hv l) (hown : w'.ownsRow base 49 9 hv' l'.length (rowOf Spot.cells l')) (ho : Only L w w') (hL : ∀ k ∈ L, hv.ownBlock = some k)
    (hf : ∀ k, hv'.ownBlock = some k → hv.ownBlock = some k ∨ w.heap.size ≤ k) : Laid5 W w' base t p most g nd T tm hv' l' := by
  have hT : T ∉ L := fun hk => h.TH (hL T hk)
  refine ⟨h.tab.kept ho (fun k hk hm => h.disH k hk (hL k hm)), fun i hi => (ho.cell (p := ⟨T, i, none⟩) h.tlt hT).trans (h.times i hi), fun o => (ho.frozen (p := ⟨T, o, none⟩) h.tlt hT).trans (h.tfz o), Nat.lt_of_lt_of_le h.tlt ho.size, hown,
    h.disT, fun k hk e => ?_, fun e => ?_, h.newF, h.newT, fun k hk => ?_, h.below.trans (ho.to_below h.below.size (fun k hk => h.newH k (hL k hk))), Nat.le_trans h.base_le ho.size⟩
  · rcases hf k e with h1 | h1
    · exact h.disH k hk h1
    · have := h.tab.foot_lt k hk; omega
  · rcases hf T e with h1 | h1
    · exact h.TH h1
    · have := h.tlt; omega
  · rcases hf k hk with h1 | h1
    · exact h.newH k h1
    · exact Nat.le_trans h.below.size h1
theorem Laid5.timesStep {i : Nat} (h : Laid5 W w base t p most g nd T tm hv l) (hi : i < most) (z : Int) (hz : z = ((tm i + 1 : Nat) : Int)) : Laid5 W (w.setCell ⟨T, i, none⟩ (.int .i64 z)) base t p most g nd T (setN tm i (tm i + 1)) hv l := by
  subst hz
  have ho : Only [T] w (w.setCell ⟨T, i, none⟩ (.int .i64 ((tm i + 1 : Nat) : Int))) := (Only.refl [T] w).setCell (Or.inl (by simp)) _
  refine ⟨h.tab.kept ho (fun k hk hm => by simp at hm; exact h.disT k hk hm), fun j hj => ?_, fun o => by rw [World.frozen?_setCell]; exact h.tfz o, Nat.lt_of_lt_of_le h.tlt ho.size, ho.owns h.here (fun k hk hm => by simp at hm; subst hm; exact h.TH hk),
    h.disT, h.disH, h.TH, h.newF, h.newT, h.newH, h.below.trans (ho.to_below h.below.size (fun k hk => by simp at hk; subst hk; exact h.newT)), Nat.le_trans h.base_le ho.size⟩
  by_cases e : j = i
  · subst e
    rw [World.cell?_setCell_same _ _ _ (h.times j hj), setN_same]
  · rw [World.cell?_setCell_other _ _ _ _ (by simp), setN_other _ _ e]
    exact h.times j hj
/-- A field of a spot is written. -/
theorem Laid5.put {b cap k j : Nat} {s s' : Spot} {v : Value} (h : Laid5 W w base t p most g nd T tm (.slice (some ⟨b, 0, none⟩) l.length cap) l) (hk : l[k]? = some s) (hj : j < 9) (hs : s'.cells = s.cells.set j v) :
    Laid5 W (w.setCell ⟨b, k * 9 + j, none⟩ v) base t p most g nd T tm (.slice (some ⟨b, 0, none⟩) l.length cap) (l.set k s') := by
  have ho : Only [b] w (w.setCell ⟨b, k * 9 + j, none⟩ v) := (Only.refl [b] w).setCell (Or.inl (by simp)) _
  refine h.hereStep ?_ ho (fun i hi => by simp at hi; subst hi; rfl) (fun i hi => Or.inl hi)
  have := (h.here.stored (k * 9 + j) v).1
  rw [rowOf_set Spot.cells_len l k j s s' v hj hk hs] at this
  rw [List.length_set]
  exact this
end
end Go.Proofs.YtdbfefkddaehmacDoor
