/- A net: the program's functions but Send: replace, Take, Drop, Twice, For, List. -/
import Derived.Test.YtkfelijpajdcoaaDoorNe7
import Derived.Test.YtkfelijpajdcoaaDoorNe2
import Derived.Test.YtkfelijpajdcoaaDoorE3
namespace Go.Proofs.YtkfelijpajdcoaaDoor
open Go Go.RowKit Go.Deep

def sErr (A : Nat → Addr) (k : Nat) : Value := .iface 121 (.pointer (some (A k)))
def errN (A : Nat → Addr) (c : Nat) : Value := if c = 0 then .nilIface else sErr A (c - 1)
/-- Replacing, none or two for one. -/
theorem take_drop0 {l : List Msg} {i : Nat} (hn : l.length = i + 1) : l.take i ++ l.drop (i + 1) = l.take i := by rw [List.drop_of_length_le (by omega), List.append_nil]
theorem replace_none_any (w : World) (base g n cap i c : Nat) (sa : Option Addr) (l : List Msg) (h : Msgs w base (.slice (some ⟨g, 0, none⟩) n cap) l) (hn : l.length = n) (hl : n ≤ 1000) (hi : i < n) :
    Calls Tryd.prog 30 #[.slice (some ⟨g, 0, none⟩) n cap, .int .i64 i, .int .i64 ((i : Int) + 1), .slice sa 0 c] w fun e w' => ∃ v', e = .returned v' ∧ Placed w w' base g v' (l.take i ++ l.drop (i + 1)) := by
  by_cases he : n = i + 1
  · subst he
    refine (replace_last0 w base g cap i c sa l h hn (by omega)).mono ?_
    rintro e w' ⟨h1, h2⟩
    rw [take_drop0 hn]
    exact ⟨_, h1, h2⟩
  · exact (replace_shrink w base g n cap i c sa l h hn hl (by omega)).mono fun e w' h => ⟨_, h⟩
theorem replace_two_any (w : World) (base b2 g vb n cap i c : Nat) (l vs : List Msg) (h : Msgs w base (.slice (some ⟨g, 0, none⟩) n cap) l) (hn : l.length = n) (hl : n ≤ 1000) (hi : i < n) (hv : Msgs w b2 (.slice (some ⟨vb, 0, none⟩) 2 c) vs) (hv2 : vs.length = 2) (hvb : vb ≠ g) (hb : base ≤ w.heap.size) :
    Calls Tryd.prog 30 #[.slice (some ⟨g, 0, none⟩) n cap, .int .i64 i, .int .i64 ((i : Int) + 1), .slice (some ⟨vb, 0, none⟩) 2 c] w fun e w' => ∃ v', e = .returned v' ∧ Placed w w' base g v' (l.take i ++ vs ++ l.drop (i + 1)) := by
  by_cases he : n = i + 1
  · subst he
    refine (replace_last2 w base b2 g vb cap i c l vs h hn (by omega) hv hv2 hb).mono ?_
    rintro e w' ⟨v', h1, h2⟩
    rw [List.drop_of_length_le (by omega), List.append_nil]
    exact ⟨_, h1, h2⟩
  · obtain ⟨cur, -, -, -, hnc, -, -, -⟩ := row_open h hn
    by_cases hr : n + 1 ≤ cap
    · exact replace_shift w base b2 g vb n cap c i l vs h hn hl (by omega) hr hv hv2 hvb
    · obtain rfl : n = cap := by omega
      exact replace_grow w base b2 g vb n c i l vs h hn hl (by omega) hv hv2 hb
/-! ### the closures -/
theorem Msgs.empty {ty : TypeId} {w : World} {b : Nat} {v : Value} (h : RowM ty w b v []) : ∃ sa c, v = .slice sa 0 c := by
  rcases RowM.open h with ⟨h1, _⟩ | ⟨g, cap, cur, h1, _⟩
  · exact ⟨_, _, h1⟩
  · exact ⟨_, _, h1⟩
theorem set3 {w : World} {b : Nat} {x y z a0 a1 a2 : Value} {t : TypeId} (h : w.heap[b]? = some (.cells #[x, y, z] t (0, 0))) : (((w.setCell ⟨b, 0, none⟩ a0).setCell ⟨b, 1, none⟩ a1).setCell ⟨b, 2, none⟩ a2).heap[b]? = some (.cells #[a0, a1, a2] t (0, 0)) ∧ Only [b] w (((w.setCell ⟨b, 0, none⟩ a0).setCell ⟨b, 1, none⟩ a1).setCell ⟨b, 2, none⟩ a2) := by
  have h0 := heap_setCell_same w b 0 _ _ a0 h
  have h1 := heap_setCell_same _ b 1 _ _ a1 h0
  have h2 := heap_setCell_same _ b 2 _ _ a2 h1
  exact ⟨h2, (((Only.refl [b] w).setCell (Or.inl (by simp)) _).setCell (Or.inl (by simp)) _).setCell (Or.inl (by simp)) _⟩
/-- A message in a box of its own. -/
abbrev MBox (ty : TypeId) (w : World) (b : Nat) (x : Msg) : Prop := w.heap[b]? = some (.cells #[.string x.F, .string x.T, .string x.X] ty (0, 0))
theorem MBox.cells {ty : TypeId} {w : World} {b : Nat} {x : Msg} (h : MBox ty w b x) : w.cell? ⟨b, 0, none⟩ = some (.string x.F) ∧ w.cell? ⟨b, 1, none⟩ = some (.string x.T) ∧ w.cell? ⟨b, 2, none⟩ = some (.string x.X) :=
  ⟨cell_of_row _ _ 0 _ _ _ h, cell_of_row _ _ 1 _ _ _ h, cell_of_row _ _ 2 _ _ _ h⟩
theorem MBox.kept {ty : TypeId} {w w' : World} {b : Nat} {x : Msg} {L : List Nat} (h : MBox ty w b x) (ho : Only L w w') (hn : b ∉ L) : MBox ty w' b x := (ho.block b (Array.getElem?_eq_some_iff.1 h).1 hn).trans h
set_option maxHeartbeats 1000000 in
theorem take1_any (w : World) (tb : Nat) (x : Msg) (hb : ∃ y, MBox 40 w tb y) : Calls Tryd.prog 22 #[.agg #[.string x.F, .string x.T, .string x.X], .pointer (some ⟨tb, 0, none⟩)] w fun e w' => e = .returned (.slice none 0 0) ∧ MBox 40 w' tb x ∧ Only [tb] w w' := by
  obtain ⟨y, hy⟩ := hb
  have htl := (Array.getElem?_eq_some_iff.1 hy).1
  obtain ⟨h3, o3⟩ := set3 (a0 := .string x.F) (a1 := .string x.T) (a2 := .string x.X) hy
  have HF : Hid (MBox 40 ((((w.setCell ⟨tb, 0, none⟩ (.string x.F)).setCell ⟨tb, 1, none⟩ (.string x.T)).setCell ⟨tb, 2, none⟩ (.string x.X)).alloc (.cells #[.string x.F, .string x.T, .string x.X] 40)) tb x ∧ Only [tb] w ((((w.setCell ⟨tb, 0, none⟩ (.string x.F)).setCell ⟨tb, 1, none⟩ (.string x.T)).setCell ⟨tb, 2, none⟩ (.string x.X)).alloc (.cells #[.string x.F, .string x.T, .string x.X] 40))) := ⟨MBox.kept (x := x) h3 ((Only.refl [] _).alloc _) (by simp), o3.alloc _⟩
  obtain ⟨c0, c1, c2⟩ := MBox.cells hy
  have f0 := frozen_of_row w tb 0 _ _ hy
  have f1 := frozen_of_row w tb 1 _ _ hy
  have f2 := frozen_of_row w tb 2 _ _ hy
  clear hy h3 o3
  go_enter Tryd.func22, Tryd.ntmps22
  go_wp2
  go_ret
  exact ⟨rfl, HF.out⟩
theorem ms_one (w : World) (x : Msg) : Msgs (w.alloc (.cells #[.string x.F, .string x.T, .string x.X] 40)) w.heap.size (.slice (some ⟨w.heap.size, 0, none⟩) 1 1) [x] := ms_new w (rowOf msC [x]) [x] rfl (by simp)
set_option maxHeartbeats 1000000 in
theorem times1_none (w : World) (cb : Nat) (x : Msg) (hc : w.cell? ⟨cb, 0, none⟩ = some (.int .i64 0)) : Calls Tryd.prog 31 #[.agg #[.string x.F, .string x.T, .string x.X], .pointer (some ⟨cb, 0, none⟩)] w fun e w' => ∃ sa c, e = .returned (.slice sa 0 c) ∧ Only [] w w' := by
  have hcl := lt_of_cell hc
  have hr := repeat_none ((w.alloc (.cells #[.string x.F, .string x.T, .string x.X] 40)).alloc (.cells #[.string x.F, .string x.T, .string x.X] 40)) (w.heap.size + 1) 1
  have HO : Hid (Only [] w ((w.alloc (.cells #[.string x.F, .string x.T, .string x.X] 40)).alloc (.cells #[.string x.F, .string x.T, .string x.X] 40))) := ((Only.refl [] w).alloc _).alloc _
  go_enter Tryd.func31, Tryd.ntmps31
  go_wp2_with (go_at_call 32; refine hr.mono ?_; rintro e w2 ⟨v2, rfl, hm, ho⟩; obtain ⟨sa, c, rfl⟩ := Msgs.empty hm; have HF : Hid (Only [] w w2) := HO.out.trans ho (fun _ hk => by cases hk); clear hm ho hr)
  go_ret
  exact ⟨sa, c, rfl, HF.out⟩
set_option maxHeartbeats 1000000 in
theorem times1_two (w : World) (cb : Nat) (x : Msg) (hc : w.cell? ⟨cb, 0, none⟩ = some (.int .i64 2)) : Calls Tryd.prog 31 #[.agg #[.string x.F, .string x.T, .string x.X], .pointer (some ⟨cb, 0, none⟩)] w fun e w' => ∃ vg, e = .returned (.slice (some ⟨vg, 0, none⟩) 2 2) ∧ w.heap.size ≤ vg ∧ Msgs w' w.heap.size (.slice (some ⟨vg, 0, none⟩) 2 2) [x, x] ∧ Only [] w w' := by
  have hcl := lt_of_cell hc
  have hm1 := ms_one (w.alloc (.cells #[.string x.F, .string x.T, .string x.X] 40)) x
  rw [World.size_alloc] at hm1
  have hr := repeat_two ((w.alloc (.cells #[.string x.F, .string x.T, .string x.X] 40)).alloc (.cells #[.string x.F, .string x.T, .string x.X] 40)) (w.heap.size + 1) (w.heap.size + 1) 1 x hm1
  have HO : Hid (Only [] w ((w.alloc (.cells #[.string x.F, .string x.T, .string x.X] 40)).alloc (.cells #[.string x.F, .string x.T, .string x.X] 40))) := ((Only.refl [] w).alloc _).alloc _
  clear hm1
  go_enter Tryd.func31, Tryd.ntmps31
  go_wp2_with (go_at_call 32; refine hr.mono ?_; rintro e w2 ⟨vg, rfl, hvg, hm, ho⟩; have HF : Hid (w.heap.size ≤ vg ∧ Msgs w2 w.heap.size (.slice (some ⟨vg, 0, none⟩) 2 2) [x, x] ∧ Only [] w w2) := ⟨by have := HO.out.size; omega, ⟨hm.1, by
      rcases hm.2 with h | ⟨g, cap, cur, h1, h2, h3⟩
      · exact Or.inl h
      · exact Or.inr ⟨g, cap, cur, h1, by have := HO.out.size; omega, h3⟩⟩, HO.out.trans ho (fun _ hk => by cases hk)⟩; clear hm ho hr hvg)
  go_ret
  exact ⟨vg, rfl, HF.out⟩
/-! ### replace -/
section
variable {w w' : World} {base t : Nat} {v v' : Value} {l l' : List Msg}
theorem PNet.stored {g : Nat} (h : PNet w base t v l) (ho : Only [] w w') {w2 : World} (hp : Placed w' w2 base g v' l') (hg : v.ownBlock = some g) : w2.cell? ⟨t, 0, none⟩ = some v ∧ w2.frozen? ⟨t, 0, none⟩ = false ∧ t < w2.heap.size ∧ PNet (w2.setCell ⟨t, 0, none⟩ v') base t v' l' ∧ Only [t, g] w (w2.setCell ⟨t, 0, none⟩ v') := by
  have htl := (Array.getElem?_eq_some_iff.1 h.blk).1
  have hne : t ≠ g := fun e => h.ne g hg e.symm
  have hb' : w2.heap[t]? = some (.cells #[v] 27 (0, 0)) := (hp.2.1.block t (Nat.lt_of_lt_of_le htl ho.size) (by simpa using hne)).trans ((ho.block t htl (by simp)).trans h.blk)
  have hv't : ∀ k, v'.ownBlock = some k → k ≠ t := fun k hk e => by
    rcases hp.2.2 with h1 | ⟨k', h1, h2⟩
    · rw [h1] at hk
      cases hk
      exact hne e.symm
    · rw [h1] at hk
      cases hk
      have := ho.size
      omega
  have hos : Only [t] w2 (w2.setCell ⟨t, 0, none⟩ v') := (Only.refl [t] w2).setCell (Or.inl (by simp)) _
  refine ⟨cell_of_row _ _ 0 _ _ _ hb', frozen_of_row _ _ _ _ _ hb', (Array.getElem?_eq_some_iff.1 hb').1, ⟨heap_setCell_same w2 t 0 _ _ _ hb', RowM.only hp.1 hos (fun k hk => by simpa using hv't k hk), hv't⟩, ?_⟩
  exact ((ho.mono (L' := [t, g]) (fun _ hk => by cases hk)).trans hp.2.1 (fun k hk => Or.inl (by simp at hk; simp [hk]))).trans hos (fun k hk => Or.inl (by simp at hk; simp [hk]))
end
/-- How a change of a net ends. -/
def NetR (A : Nat → Addr) (w w' : World) (base t : Nat) (v : Value) (c : Nat) (l' : List Msg) (e : Ending) : Prop := e = .returned (errN A c) ∧ ∃ v', PNet w' base t v' l' ∧ Only (t :: v.ownBlock.toList) w w'
theorem at_none {w : World} {base t : Nat} {v : Value} {l : List Msg} (h : PNet w base t v l) : ∃ ad cap, v = .slice ad l.length cap := by
  rcases RowM.open h.own with ⟨h1, h2⟩ | ⟨g, cap, cur, h1, _⟩
  · exact ⟨none, 0, by rw [h1, h2]; rfl⟩
  · exact ⟨_, _, h1⟩
set_option maxHeartbeats 1000000 in
theorem replace_none (A : Nat → Addr) (w : World) (base t : Nat) (v f : Value) (l : List Msg) (i : Int) (hE : Errs w A) (h : PNet w base t v l) (hi : i < 0 ∨ l.length ≤ i) : Calls Tryd.prog 21 #[.pointer (some ⟨t, 0, none⟩), .int .i64 i, f] w fun e w' => e = .returned (sErr A 4) ∧ Only [] w w' := by
  have c5 : w.cell? ⟨5, 0, none⟩ = some (.iface 121 (.pointer (some (A 4)))) := hE.cell 4 (by decide)
  obtain ⟨ad, cap, rfl⟩ := at_none h
  have c0 := h.c0
  have htl := lt_of_cell c0
  unfold sErr
  generalize l.length = n at *
  clear h hE
  by_cases h0 : i < 0
  · have d0 : decide (i < 0) = true := decide_eq_true h0
    clear hi
    go_enter Tryd.func21, Tryd.ntmps21
    go_wp2
    go_ret
    exact ⟨rfl, Only.refl _ _⟩
  · have d0 : decide (i < 0) = false := decide_eq_false h0
    have d1 : decide ((n : Int) ≤ i) = true := decide_eq_true (by omega)
    clear hi
    go_enter Tryd.func21, Tryd.ntmps21
    go_wp2
    go_ret
    exact ⟨rfl, Only.refl _ _⟩
end Go.Proofs.YtkfelijpajdcoaaDoor
