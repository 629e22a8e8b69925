/- Nodes: Set, Touch, Free. -/
import Derived.Test.YtnbanflnepbgnaaDoorH7
namespace Go.Proofs.YtnbanflnepbgnaaDoor
open Go Go.RowKit Go.Deep Go.Maps

theorem DataO.put {w : World} {g o k : Nat} {S : ByteArray} {H : List Bool} {m : Option Nat} (h : DataO w g o S H m) (h0 : k ≠ o) (h1 : k ≠ o + 1) (v : Value) : DataO (w.setCell ⟨g, k, none⟩ v) g o S H m := by
  obtain ⟨f, hs, hm⟩ := h.holds
  refine ⟨?_, ?_, fun j => ?_, f, hs, ?_⟩
  · rw [World.cell?_setCell_other _ _ _ _ (by simp)]; exact h.size
  · rw [World.cell?_setCell_other _ _ _ _ (by simp)]; exact h.map
  · rw [World.frozen?_setCell]; exact h.fz j
  · cases m with
    | none => exact hm
    | some b =>
      obtain ⟨D, d1, d2⟩ := hm
      exact ⟨D, d1.setCell (own_ne d1 h.size) _, d2⟩
theorem NodAt.putZ {w : World} {n : Nod} (h : NodAt w n) (z : Int) : NodAt (w.setCell ⟨n.b, 1, none⟩ (.int .i64 z)) { n with Z := z } := ⟨(World.cell?_setCell_other _ _ _ _ (by simp)).trans h.c0, World.cell?_setCell_same _ _ _ h.c1, (World.cell?_setCell_other _ _ _ _ (by simp)).trans h.c2, (World.cell?_setCell_other _ _ _ _ (by simp)).trans h.c3, (World.cell?_setCell_other _ _ _ _ (by simp)).trans h.c4, (World.cell?_setCell_other _ _ _ _ (by simp)).trans h.c5, h.d.put (by omega) (by omega) _⟩
theorem NodAt.putL {w : World} {n : Nod} (h : NodAt w n) (z : Int) : NodAt (w.setCell ⟨n.b, 2, none⟩ (.int .i64 z)) { n with L := z } := ⟨(World.cell?_setCell_other _ _ _ _ (by simp)).trans h.c0, (World.cell?_setCell_other _ _ _ _ (by simp)).trans h.c1, World.cell?_setCell_same _ _ _ h.c2, (World.cell?_setCell_other _ _ _ _ (by simp)).trans h.c3, (World.cell?_setCell_other _ _ _ _ (by simp)).trans h.c4, (World.cell?_setCell_other _ _ _ _ (by simp)).trans h.c5, h.d.put (by omega) (by omega) _⟩
theorem NodAt.putC {w : World} {n : Nod} (h : NodAt w n) (z : Int) : NodAt (w.setCell ⟨n.b, 3, none⟩ (.int .i64 z)) { n with C := z } := ⟨(World.cell?_setCell_other _ _ _ _ (by simp)).trans h.c0, (World.cell?_setCell_other _ _ _ _ (by simp)).trans h.c1, (World.cell?_setCell_other _ _ _ _ (by simp)).trans h.c2, World.cell?_setCell_same _ _ _ h.c3, (World.cell?_setCell_other _ _ _ _ (by simp)).trans h.c4, (World.cell?_setCell_other _ _ _ _ (by simp)).trans h.c5, h.d.put (by omega) (by omega) _⟩
theorem NodAt.putUN {w : World} {n : Nod} (h : NodAt w n) (z : Int) : NodAt (w.setCell ⟨n.b, 4, none⟩ (.int .i64 z)) { n with UN := z } := ⟨(World.cell?_setCell_other _ _ _ _ (by simp)).trans h.c0, (World.cell?_setCell_other _ _ _ _ (by simp)).trans h.c1, (World.cell?_setCell_other _ _ _ _ (by simp)).trans h.c2, (World.cell?_setCell_other _ _ _ _ (by simp)).trans h.c3, World.cell?_setCell_same _ _ _ h.c4, (World.cell?_setCell_other _ _ _ _ (by simp)).trans h.c5, h.d.put (by omega) (by omega) _⟩
theorem NodAt.putUG {w : World} {n : Nod} (h : NodAt w n) (z : Int) : NodAt (w.setCell ⟨n.b, 5, none⟩ (.int .i64 z)) { n with UG := z } := ⟨(World.cell?_setCell_other _ _ _ _ (by simp)).trans h.c0, (World.cell?_setCell_other _ _ _ _ (by simp)).trans h.c1, (World.cell?_setCell_other _ _ _ _ (by simp)).trans h.c2, (World.cell?_setCell_other _ _ _ _ (by simp)).trans h.c3, (World.cell?_setCell_other _ _ _ _ (by simp)).trans h.c4, World.cell?_setCell_same _ _ _ h.c5, h.d.put (by omega) (by omega) _⟩
/-- A node was written over. -/
theorem TabAt.put {w w2 w' : World} {t most i : Nat} {p : Row} {g : Nat → Nat} {nd : Nat → Option Nod} {n n' : Nod} (h : TabAt w t p most g nd) (ho : Only [] w w2) (hn : nd i = some n) (hb : n'.b = n.b) (hm : n'.m = n.m) (hN : NodAt w' n') (hw : Only [n.b] w2 w') :
    TabAt w' t p most g (setN nd i (some n')) ∧ Only [n.b] w w' := by
  have o : Only [n.b] w w' := (ho.mono (L' := [n.b]) (by simp)).trans hw (fun i hi => Or.inl hi)
  refine ⟨h.turn hn hb hN (o.mono (fun k hk => Or.inl (by simp at hk; subst hk; exact n.b_foot))) (fun k hk => Or.inl ?_), o⟩
  unfold Nod.foot at hk ⊢
  rw [hb, hm] at hk
  exact hk
theorem ttouch_stale (w : World) (t : Nat) (p : Row) (most : Nat) (g : Nat → Nat) (nd : Nat → Option Nod) (N G : Int) (ad : Addr) (h : TabAt w t p most g nd) (hE : w.cell? ⟨9, 0, none⟩ = some (errV ad)) (hs : Stale0 g nd N G) :
    Calls Tryd.prog 32 #[.pointer (some ⟨t, 0, none⟩), .agg #[.int .i64 N, .int .i64 G]] w fun e w' => e = .returned (errV ad) ∧ Only [] w w' := by
  have HC : Hid (∀ w1, Only [] w w1 → _) := find_no w t p most g nd N G (errV ad) h hE hs
  clear h hE hs
  unfold errV at HC ⊢
  go_enter Tryd.func32, Tryd.ntmps32
  go_wp2_with (go_at_call 36; go_must (refine (HC.out _ ((Only.refl _ _).alloc _)).mono ?_); rintro e w2 ⟨rfl, ho2⟩; have HO : Hid (Only [] w w2) := ((Only.refl _ _).alloc _).trans ho2 (fun _ hk => by cases hk))
  go_ret
  exact ⟨rfl, HO.out⟩
theorem tadj_stale (w : World) (t : Nat) (p : Row) (most : Nat) (g : Nat → Nat) (nd : Nat → Option Nod) (N G a b c d : Int) (ad : Addr) (h : TabAt w t p most g nd) (hE : w.cell? ⟨9, 0, none⟩ = some (errV ad)) (hs : Stale0 g nd N G) :
    Calls Tryd.prog 30 #[.pointer (some ⟨t, 0, none⟩), .agg #[.int .i64 N, .int .i64 G], .int .i64 a, .int .i64 b, .agg #[.int .i64 c, .int .i64 d]] w fun e w' => e = .returned (errV ad) ∧ Only [] w w' := by
  have HC : Hid (∀ w1, Only [] w w1 → _) := find_no w t p most g nd N G (errV ad) h hE hs
  clear h hE hs
  unfold errV at HC ⊢
  go_enter Tryd.func30, Tryd.ntmps30
  go_wp2_with (go_at_call 36; go_must (refine (HC.out _ (((Only.refl _ _).alloc _).alloc _)).mono ?_); rintro e w2 ⟨rfl, ho2⟩; have HO : Hid (Only [] w w2) := (((Only.refl _ _).alloc _).alloc _).trans ho2 (fun _ hk => by cases hk))
  go_ret
  exact ⟨rfl, HO.out⟩
set_option maxHeartbeats 1000000 in
theorem tadj_bound (w : World) (t : Nat) (p : Row) (most i : Nat) (g : Nat → Nat) (nd : Nat → Option Nod) (n : Nod) (a b c d : Int) (F : Value) (h : TabAt w t p most g nd) (hF : w.cell? ⟨4, 0, none⟩ = some F) (hn : nd i = some n) (hab : a < 0 ∨ b < 0) :
    Calls Tryd.prog 30 #[.pointer (some ⟨t, 0, none⟩), .agg #[.int .i64 i, .int .i64 (g i : Nat)], .int .i64 a, .int .i64 b, .agg #[.int .i64 c, .int .i64 d]] w fun e w' => e = .returned F ∧ Only [] w w' := by
  have HC : Hid (∀ w1, Only [] w w1 → _) := find_yes w t p most g nd i n h hn
  have HF : Hid (w.cell? ⟨4, 0, none⟩ = some F) := hF
  have hFl : 4 < w.heap.size := lt_of_cell hF
  clear h hn hF
  generalize n.b = nb at HC
  by_cases ha : a < 0
  · have hd1 : decide (a < 0) = true := decide_eq_true ha
    go_enter Tryd.func30, Tryd.ntmps30
    go_wp2_with (go_at_call 36; go_must (refine (HC.out _ (((Only.refl _ _).alloc _).alloc _)).mono ?_); rintro e w2 ⟨rfl, ho2⟩; have HO : Hid (Only [] w w2) := (((Only.refl _ _).alloc _).alloc _).trans ho2 (fun _ hk => by cases hk); have cF := (HO.out.cell (p := ⟨4, 0, none⟩) hFl (by simp)).trans HF.out)
    go_ret
    exact ⟨rfl, HO.out⟩
  · have hd1 : decide (a < 0) = false := decide_eq_false ha
    have hd2 : decide (b < 0) = true := decide_eq_true (by omega)
    go_enter Tryd.func30, Tryd.ntmps30
    go_wp2_with (go_at_call 36; go_must (refine (HC.out _ (((Only.refl _ _).alloc _).alloc _)).mono ?_); rintro e w2 ⟨rfl, ho2⟩; have HO : Hid (Only [] w w2) := (((Only.refl _ _).alloc _).alloc _).trans ho2 (fun _ hk => by cases hk); have cF := (HO.out.cell (p := ⟨4, 0, none⟩) hFl (by simp)).trans HF.out)
    go_ret
    exact ⟨rfl, HO.out⟩
set_option maxHeartbeats 1000000 in
theorem ttouch_ok (w : World) (t : Nat) (p : Row) (most i : Nat) (g : Nat → Nat) (nd : Nat → Option Nod) (n : Nod) (h : TabAt w t p most g nd) (hn : nd i = some n) (hC : 0 ≤ n.C ∧ n.C ≤ 9000000000000000000) :
    Calls Tryd.prog 32 #[.pointer (some ⟨t, 0, none⟩), .agg #[.int .i64 i, .int .i64 (g i : Nat)]] w fun e w' => e = .returned .nilIface ∧ TabAt w' t p most g (setN nd i (some { n with C := n.C + 1 })) ∧ Only [n.b] w w' := by
  have HC : Hid (∀ w1, Only [] w w1 → _) := find_yes w t p most g nd i n h hn
  have HN : Hid (NodAt w n) := h.node i n hn
  have HT : Hid (TabAt w t p most g nd) := h
  have HI : Hid (nd i = some n) := hn
  clear h hn
  obtain ⟨hC0, hC1⟩ := hC
  go_enter Tryd.func32, Tryd.ntmps32
  go_wp2_with (go_at_call 36; go_must (refine (HC.out _ ((Only.refl _ _).alloc _)).mono ?_); rintro e w2 ⟨rfl, ho2⟩; have HO : Hid (Only [] w w2) := ((Only.refl _ _).alloc _).trans ho2 (fun _ hk => by cases hk); have HN2 : Hid (NodAt w2 n) := HN.out.kept HO.out (fun _ _ => by simp); have c3 := HN2.out.c3; have f3 := HN2.out.d.fz 3)
  go_ret
  exact ⟨rfl, HT.out.put HO.out HI.out rfl rfl (HN2.out.putC _) ((Only.refl _ _).setCell (Or.inl (by simp)) _)⟩
set_option maxHeartbeats 1000000 in
theorem tadj_file (w : World) (t : Nat) (p : Row) (most i : Nat) (g : Nat → Nat) (nd : Nat → Option Nod) (n : Nod) (a b c d : Int) (h : TabAt w t p most g nd) (hn : nd i = some n) (hab : 0 ≤ a ∧ 0 ≤ b) (hK : n.K = 1) :
    Calls Tryd.prog 30 #[.pointer (some ⟨t, 0, none⟩), .agg #[.int .i64 i, .int .i64 (g i : Nat)], .int .i64 a, .int .i64 b, .agg #[.int .i64 c, .int .i64 d]] w fun e w' => e = .returned .nilIface ∧ TabAt w' t p most g (setN nd i (some { n with L := b })) ∧ Only [n.b] w w' := by
  have HC : Hid (∀ w1, Only [] w w1 → _) := find_yes w t p most g nd i n h hn
  have HN : Hid (NodAt w n) := h.node i n hn
  have HT : Hid (TabAt w t p most g nd) := h
  have HI : Hid (nd i = some n) := hn
  clear h hn
  have hd1 : decide (a < 0) = false := decide_eq_false (by omega)
  have hd2 : decide (b < 0) = false := decide_eq_false (by omega)
  go_enter Tryd.func30, Tryd.ntmps30
  go_wp2_with (go_at_call 36; go_must (refine (HC.out _ (((Only.refl _ _).alloc _).alloc _)).mono ?_); rintro e w2 ⟨rfl, ho2⟩; have HO : Hid (Only [] w w2) := (((Only.refl _ _).alloc _).alloc _).trans ho2 (fun _ hk => by cases hk); have HN2 : Hid (NodAt w2 n) := HN.out.kept HO.out (fun _ _ => by simp); have c0 := HN2.out.c0; rw [hK] at c0; have c2 := HN2.out.c2; have f3 := HN2.out.d.fz)
  go_ret
  exact ⟨rfl, HT.out.put HO.out HI.out rfl rfl (HN2.out.putL b) ((Only.refl _ _).setCell (Or.inl (by simp)) _)⟩
set_option maxHeartbeats 2000000 in
theorem tadj_dir (w : World) (t : Nat) (p : Row) (most i : Nat) (g : Nat → Nat) (nd : Nat → Option Nod) (n : Nod) (a b c d : Int) (h : TabAt w t p most g nd) (hn : nd i = some n) (hab : 0 ≤ a ∧ 0 ≤ b) (hK : n.K = 2) :
    Calls Tryd.prog 30 #[.pointer (some ⟨t, 0, none⟩), .agg #[.int .i64 i, .int .i64 (g i : Nat)], .int .i64 a, .int .i64 b, .agg #[.int .i64 c, .int .i64 d]] w fun e w' => e = .returned .nilIface ∧ TabAt w' t p most g (setN nd i (some { n with Z := a, UN := c, UG := d, L := b })) ∧ Only [n.b] w w' := by
  have HC : Hid (∀ w1, Only [] w w1 → _) := find_yes w t p most g nd i n h hn
  have HN : Hid (NodAt w n) := h.node i n hn
  have HT : Hid (TabAt w t p most g nd) := h
  have HI : Hid (nd i = some n) := hn
  clear h hn
  have hd1 : decide (a < 0) = false := decide_eq_false (by omega)
  have hd2 : decide (b < 0) = false := decide_eq_false (by omega)
  go_enter Tryd.func30, Tryd.ntmps30
  go_wp2_with (go_at_call 36; go_must (refine (HC.out _ (((Only.refl _ _).alloc _).alloc _)).mono ?_); rintro e w2 ⟨rfl, ho2⟩; have HO : Hid (Only [] w w2) := (((Only.refl _ _).alloc _).alloc _).trans ho2 (fun _ hk => by cases hk); have HN2 : Hid (NodAt w2 n) := HN.out.kept HO.out (fun _ _ => by simp); have c0 := HN2.out.c0; rw [hK] at c0; have c1 := HN2.out.c1; have c2 := HN2.out.c2; have c4 := HN2.out.c4; have c5 := HN2.out.c5; have f3 := HN2.out.d.fz; obtain ⟨u0, u1, fu, hlu⟩ := own_pairB (B := w.heap.size + 1) ho2 (by simp); have hbl := lt_of_cell c0; have hbw := lt_of_cell HN.out.c0)
  go_region
  go_wp2
  go_ret
  have o5 : Only [n.b] w2 ((((w2.setCell ⟨n.b, 1, none⟩ (.int .i64 a)).setCell ⟨n.b, 4, none⟩ (.int .i64 c)).setCell ⟨n.b, 5, none⟩ (.int .i64 d)).setCell ⟨n.b, 2, none⟩ (.int .i64 b)) :=
    ((((Only.refl [n.b] w2).setCell (Or.inl (by simp)) _).setCell (Or.inl (by simp)) _).setCell (Or.inl (by simp)) _).setCell (Or.inl (by simp)) _
  have hN5 := (((HN2.out.putZ a).putUN c).putUG d).putL b
  exact ⟨rfl, HT.out.put (n' := { n with Z := a, UN := c, UG := d, L := b }) HO.out HI.out rfl rfl (hN5.kept ((Only.refl [] _).drew) (fun _ _ => by simp)) o5.drew⟩
/-! ### Set -/
theorem setN_again {α : Type} (f : Nat → α) (i : Nat) (a b : α) : setN (setN f i a) i b = setN f i b := by
  funext j
  by_cases h : j = i
  · subst h; rw [setN_same, setN_same]
  · rw [setN_other _ _ h, setN_other _ _ h, setN_other _ _ h]
section
variable (w : World) (t : Nat) (p : Row) (most i : Nat) (g : Nat → Nat) (nd : Nat → Option Nod) (n : Nod)
end
end Go.Proofs.YtnbanflnepbgnaaDoor
