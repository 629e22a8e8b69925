/- NodesActs: a round's memory: the table, what the law keeps, the act at hand; what a write leaves; is a number used? -/
import Derived.Test.YtohbdpefcmibeacDoorH11
namespace Go.Proofs.YtohbdpefcmibeacDoor
open Go Go.RowKit Go.Deep Go.Maps

/-- The act at hand, in memory of the law's own. -/
structure XAt (w : World) (bx : Nat) (x : NActM) : Prop where
  c0 : w.cell? ⟨bx, 0, none⟩ = some (.string x.K)
  c1 : w.cell? ⟨bx, 1, none⟩ = some (.int .i64 x.N)
  c2 : w.cell? ⟨bx, 2, none⟩ = some (.int .i64 x.G)
  c3 : w.cell? ⟨bx, 3, none⟩ = some (.int .i64 x.X)
  c4 : w.cell? ⟨bx, 4, none⟩ = some (.int .i64 x.Y)
theorem XAt.kept {w w' : World} {bx : Nat} {x : NActM} {L : List Nat} (h : XAt w bx x) (ho : Only L w w') (hn : bx ∉ L) : XAt w' bx x := by
  have hb : bx < w.heap.size := lt_of_cell h.c0
  exact ⟨(ho.cell (p := ⟨bx, 0, none⟩) hb hn).trans h.c0, (ho.cell (p := ⟨bx, 1, none⟩) hb hn).trans h.c1, (ho.cell (p := ⟨bx, 2, none⟩) hb hn).trans h.c2, (ho.cell (p := ⟨bx, 3, none⟩) hb hn).trans h.c3, (ho.cell (p := ⟨bx, 4, none⟩) hb hn).trans h.c4⟩
structure Rnd (W w : World) (base t : Nat) (p : Row) (most : Nat) (g : Nat → Nat) (nd : Nat → Option Nod) (T : Nat) (tm : Nat → Nat) (hv : Value) (l : List Spot) (bx : Nat) (x : NActM) : Prop where
  l5 : Laid5 W w base t p most g nd T tm hv l
  x : XAt w bx x
  xF : ∀ k, InFoot t p most nd k → k ≠ bx
  xT : T ≠ bx
  xH : hv.ownBlock ≠ some bx
section
variable {W w w' : World} {base t most T bx : Nat} {p p' : Row} {g tm : Nat → Nat} {nd : Nat → Option Nod} {hv : Value} {l : List Spot} {x : NActM}
theorem Rnd.xlt (h : Rnd W w base t p most g nd T tm hv l bx x) : bx < w.heap.size := lt_of_cell h.x.c0
theorem Rnd.tabStepR {g' : Nat → Nat} {nd' : Nat → Option Nod} {L : List Nat} (h : Rnd W w base t p most g nd T tm hv l bx x) (ht : TabAt w' t p' most g' nd') (hN : p'.N ≤ most) (ho : Only L w w') (hL : ∀ k ∈ L, InFoot t p most nd k)
    (hf : ∀ k, InFoot t p' most nd' k → InFoot t p most nd k ∨ w.heap.size ≤ k) : Rnd W w' base t p' most g' nd' T tm hv l bx x := by
  refine ⟨h.l5.tabStepR ht hN ho hL hf, h.x.kept ho (fun hk => h.xF bx (hL bx hk) rfl), fun k hk => ?_, h.xT, h.xH⟩
  rcases hf k hk with h1 | h1
  · exact h.xF k h1
  · have := h.xlt; omega
theorem Rnd.tabStep {g' : Nat → Nat} {nd' : Nat → Option Nod} {L : List Nat} (h : Rnd W w base t p most g nd T tm hv l bx x) (ht : TabAt w' t p most g' nd') (ho : Only L w w') (hL : ∀ k ∈ L, InFoot t p most nd k)
    (hf : ∀ k, InFoot t p most nd' k → InFoot t p most nd k ∨ w.heap.size ≤ k) : Rnd W w' base t p most g' nd' T tm hv l bx x := h.tabStepR ht h.l5.nle ho hL hf
theorem Rnd.only (h : Rnd W w base t p most g nd T tm hv l bx x) (ho : Only [] w w') : Rnd W w' base t p most g nd T tm hv l bx x :=
  ⟨h.l5.only ho, h.x.kept ho (by simp), h.xF, h.xT, h.xH⟩
theorem Rnd.hereStep {hv' : Value} {l' : List Spot} {L : List Nat} (h : Rnd W w base t p most g nd T tm hv l bx x) (hown : w'.ownsRow base 49 9 hv' l'.length (rowOf Spot.cells l')) (ho : Only L w w') (hL : ∀ k ∈ L, hv.ownBlock = some k)
    (hf : ∀ k, hv'.ownBlock = some k → hv.ownBlock = some k ∨ w.heap.size ≤ k) : Rnd W w' base t p most g nd T tm hv' l' bx x := by
  refine ⟨h.l5.hereStep hown ho hL hf, h.x.kept ho (fun hk => h.xH (hL bx hk)), h.xF, h.xT, fun e => ?_⟩
  rcases hf bx e with h1 | h1
  · exact h.xH h1
  · have := h.xlt; omega
theorem Rnd.timesStep {i : Nat} (h : Rnd W w base t p most g nd T tm hv l bx x) (hi : i < most) (z : Int) (hz : z = ((tm i + 1 : Nat) : Int)) : Rnd W (w.setCell ⟨T, i, none⟩ (.int .i64 z)) base t p most g nd T (setN tm i (tm i + 1)) hv l bx x :=
  ⟨h.l5.timesStep hi z hz, h.x.kept ((Only.refl [T] w).setCell (Or.inl (by simp)) _) (by simpa using h.xT.symm), h.xF, h.xT, h.xH⟩
theorem Rnd.put {b cap k j : Nat} {s s' : Spot} {v : Value} (h : Rnd W w base t p most g nd T tm (.slice (some ⟨b, 0, none⟩) l.length cap) l bx x) (hk : l[k]? = some s) (hj : j < 9) (hs : s'.cells = s.cells.set j v) :
    Rnd W (w.setCell ⟨b, k * 9 + j, none⟩ v) base t p most g nd T tm (.slice (some ⟨b, 0, none⟩) l.length cap) (l.set k s') bx x :=
  ⟨h.l5.put hk hj hs, h.x.kept ((Only.refl [b] w).setCell (Or.inl (by simp)) _) (fun hm => h.xH (by simp at hm; subst hm; rfl)), h.xF, h.xT, h.xH⟩
theorem here_shape (h : Laid5 W w base t p most g nd T tm hv l) : ∃ a cap, hv = .slice a l.length cap := by
  rcases h.here.2 with ⟨hv, h0⟩ | ⟨b, cap, _, hv, _⟩
  · exact ⟨none, 0, by rw [hv, h0]⟩
  · exact ⟨_, cap, hv⟩
/-- What stands in a spot's cells. -/
theorem spot_cells (h : w.ownsRow base 49 9 hv l.length (rowOf Spot.cells l)) {k : Nat} {s : Spot} (hk : l[k]? = some s) :
    ∃ b cap, hv = .slice (some ⟨b, 0, none⟩) l.length cap ∧ (∀ j, j < 9 → w.cell? ⟨b, k * 9 + j, none⟩ = s.cells[j]?) ∧ (∀ o, w.frozen? ⟨b, o, none⟩ = false) ∧ b < w.heap.size := by
  have hkl : k < l.length := (List.getElem?_eq_some_iff.1 hk).1
  obtain ⟨b, cap, rfl, _, hb⟩ := h.form (by omega)
  refine ⟨b, cap, rfl, fun j hj => ?_, fun o => h.frozenAt o, hb⟩
  rw [h.cellAt _ (by omega)]
  exact rowOf_get Spot.cells_len l k j s hj hk
end
/-- Is a number used? -/
def usedB (l : List Spot) (z : Int) : Bool := l.any (fun s => decide (s.N = z))
theorem usedB_true {l : List Spot} {z : Int} : usedB l z = true ↔ ∃ s, s ∈ l ∧ s.N = z := by
  unfold usedB
  rw [List.any_eq_true]
  simp
set_option maxHeartbeats 1000000 in
theorem used_any (w : World) (base : Nat) (a : Option Addr) (cap : Nat) (l : List Spot) (z : Int) (hl : l.length ≤ 100) (h : w.ownsRow base 49 9 (.slice a l.length cap) l.length (rowOf Spot.cells l)) :
    Calls Tryd.prog 15 #[.slice a l.length cap, .int .i64 z] w fun e w' => e = .returned (.bool (usedB l z)) ∧ w = w' := by
  have H : Hid (w.ownsRow base 49 9 (.slice a l.length cap) l.length (rowOf Spot.cells l)) := h
  clear h
  go_enter Tryd.func15, Tryd.ntmps15
  go_wp2
  go_loopw [5] (fun i wr => ∃ j : Nat, i = .int .i64 j ∧ j ≤ l.length ∧ (∀ q s, q < j → l[q]? = some s → s.N ≠ z) ∧ w = wr) (fun i _ => l.length - (intOf i).toNat)
  case atStart => exact ⟨0, rfl, Nat.zero_le _, (fun q s hq => by omega), rfl⟩
  case round =>
    obtain ⟨j, rfl, hj, hno, rfl⟩ := hrel
    have HN : Hid (∀ q s, q < j → l[q]? = some s → s.N ≠ z) := hno
    clear hno
    by_cases hlt : j < l.length
    · obtain ⟨s, hs⟩ : ∃ s, l[j]? = some s := ⟨_, List.getElem?_eq_getElem hlt⟩
      obtain ⟨b, cap', e, hc, _, _⟩ := spot_cells H.out hs
      simp only [Value.slice.injEq, true_and] at e
      obtain ⟨rfl, rfl⟩ := e
      have c0 : w.cell? ⟨b, j * 9, none⟩ = some (.int .i64 s.N) := hc 0 (by decide)
      have HS : Hid (l[j]? = some s) := hs
      clear hc hs
      by_cases hN : s.N = z
      · subst hN
        go_wp2
        go_ret
        exact ⟨by rw [usedB_true.2 ⟨s, List.mem_of_getElem? HS.out, rfl⟩]; rfl, rfl⟩
      · go_wp2
        go_roundw
        case rel => exact ⟨j + 1, by go_num, by omega, (fun q s' hq hs' => by
                      rcases Nat.lt_or_ge q j with h1 | h1
                      · exact HN.out q s' h1 hs'
                      · obtain rfl : q = j := by omega
                        have h2 := HS.out.symm.trans hs'
                        cases h2
                        exact hN), trivial⟩
        case measure => simp [intOf]; omega
    · obtain rfl : j = l.length := by omega
      have hf : Hid (usedB l z = false) := show usedB l z = false from by
        rw [Bool.eq_false_iff]
        intro ht
        obtain ⟨s, hs, e⟩ := usedB_true.1 ht
        obtain ⟨q, hq⟩ := List.mem_iff_getElem?.1 hs
        exact HN.out q s (List.getElem?_eq_some_iff.1 hq).1 hq e
      go_wp2
      go_ret
      exact ⟨by rw [hf.out]; rfl, rfl⟩
/-- Bytes are written into a file of the table's. -/
theorem twrite (w : World) (t : Nat) (p : Row) (most i : Nat) (g : Nat → Nat) (nd : Nat → Option Nod) (n : Nod) (a : Nat) (s : ByteArray) (h : TabAt w t p most g nd) (hn : nd i = some n) (hs : 1 ≤ s.size) (ha : a + s.size ≤ 4096) :
    Calls Tryd.prog 7 #[.pointer (some ⟨n.b, 6, none⟩), .int .i64 a, .string s] w fun e w' => e = .returned .nilIface ∧ ∃ H' m', TabAt w' t p most g (setN nd i (some { n with S := writeS n.S a s, H := H', m := m' })) ∧ Only n.foot w w' ∧ ∀ k, k ∈ footD n.b m' → k ∈ n.foot ∨ w.heap.size ≤ k := by
  have hN := h.node i n hn
  refine (dwriteO w n.b 6 n.S s n.H n.m a hN.d hs ha).mono ?_
  rintro e w' ⟨he, m', hd, ho, hf, hr⟩
  have hsub : ∀ k, k ∈ footD n.b m' → k ∈ n.foot ∨ w.heap.size ≤ k := fun k hk => by
    rcases List.mem_cons.1 hk with rfl | hk
    · exact Or.inl n.b_foot
    · exact hf k (by simpa using hk)
  refine ⟨he, _, m', h.turn hn rfl ⟨?_, ?_, ?_, ?_, ?_, ?_, hd⟩ ho hsub, ho, hsub⟩
  · exact (hr 0 (by omega) (by omega)).trans hN.c0
  · exact (hr 1 (by omega) (by omega)).trans hN.c1
  · exact (hr 2 (by omega) (by omega)).trans hN.c2
  · exact (hr 3 (by omega) (by omega)).trans hN.c3
  · exact (hr 4 (by omega) (by omega)).trans hN.c4
  · exact (hr 5 (by omega) (by omega)).trans hN.c5
/-- The feet of a table, behind each turn. -/
theorem foot_set {t most i : Nat} {p : Row} {nd : Nat → Option Nod} {n' : Nod} {B k : Nat} (hn : ∀ j, j ∈ n'.foot → InFoot t p most nd j ∨ B ≤ j) (hk : InFoot t p most (setN nd i (some n')) k) : InFoot t p most nd k ∨ B ≤ k := by
  rcases hk with h | h | ⟨j, n, hs, hm⟩
  · exact Or.inl (Or.inl h)
  · exact Or.inl (Or.inr (Or.inl h))
  · by_cases e : j = i
    · subst e
      rw [setN_same] at hs
      cases hs
      exact hn k hm
    · rw [setN_other _ _ e] at hs
      exact Or.inl (Or.inr (Or.inr ⟨j, n, hs, hm⟩))
/-- .. and behind an addition. -/
theorem foot_roomed {w w' : World} {t most i b : Nat} {p p' : Row} {nd : Nat → Option Nod} {K : Int} {k : Nat} (hr : Roomed w w' t p p' i) (hb : w.heap.size ≤ b) (hk : InFoot t p' most (setN nd i (some (newNod b K))) k) : InFoot t p most nd k ∨ w.heap.size ≤ k := by
  rcases hk with h | h | ⟨j, n, hs, hm⟩
  · exact Or.inl (Or.inl h)
  · rcases hr.2.2 with h1 | ⟨q, h1, h2⟩
    · exact Or.inl (Or.inr (Or.inl (by rw [← h1]; exact h)))
    · rw [h1] at h
      cases h
      exact Or.inr h2
  · by_cases e : j = i
    · subst e
      rw [setN_same] at hs
      cases hs
      have : k = b := by simpa [newNod, Nod.foot, footD] using hm
      exact Or.inr (by omega)
    · rw [setN_other _ _ e] at hs
      exact Or.inl (Or.inr (Or.inr ⟨j, n, hs, hm⟩))
end Go.Proofs.YtohbdpefcmibeacDoor
