/- Nodes: Set, Touch, Free. -/
import Derived.Test.YtdbfefkddaehmacDoorH7
namespace Go.Proofs.YtdbfefkddaehmacDoor
open Go Go.RowKit Go.Deep Go.Maps

theorem DataO.put {w : World} {g o k : Nat} {S : ByteArray} {H : List Bool} {m : Option Nat} (h : DataO w g o S H m) (h0 : k ≠ o) (h1 : k ≠ o + 1) (v : Value) : DataO (w.setCell ⟨g, k, none⟩ v) g o S H m := by
  obtain ⟨f, hs, hm⟩ := h.holds
  refine ⟨?_, ?_, fun j => ?_, f, hs, ?_⟩
  · rw [World.cell?_setCell_other _ _ _ _ (by simp)]; exact h.size
  · rw [World.cell?_setCell_other _ _ _ _ (by simp)]; exact h.map
  · rw [World.frozen?_setCell]; exact h.fz j
  · cases m with
    | none => exact hm
    | some b =>
      obtain ⟨D, d1, d2⟩ := hm
      exact ⟨D, d1.setCell (own_ne d1 h.size) _, d2⟩
theorem NodAt.putZ {w : World} {n : Nod} (h : NodAt w n) (z : Int) : NodAt (w.setCell ⟨n.b, 1, none⟩ (.int .i64 z)) { n with Z := z } := ⟨(World.cell?_setCell_other _ _ _ _ (by simp)).trans h.c0, World.cell?_setCell_same _ _ _ h.c1, (World.cell?_setCell_other _ _ _ _ (by simp)).trans h.c2, (World.cell?_setCell_other _ _ _ _ (by simp)).trans h.c3, (World.cell?_setCell_other _ _ _ _ (by simp)).trans h.c4, (World.cell?_setCell_other _ _ _ _ (by simp)).trans h.c5, h.d.put (by omega) (by omega) _⟩
theorem NodAt.putL {w : World} {n : Nod} (h : NodAt w n) (z : Int) : NodAt (w.setCell ⟨n.b, 2, none⟩ (.int .i64 z)) { n with L := z } := ⟨(World.cell?_setCell_other _ _ _ _ (by simp)).trans h.c0, (World.cell?_setCell_other _ _ _ _ (by simp)).trans h.c1, World.cell?_setCell_same _ _ _ h.c2, (World.cell?_setCell_other _ _ _ _ (by simp)).trans h.c3, (World.cell?_setCell_other _ _ _ _ (by simp)).trans h.c4, (World.cell?_setCell_other _ _ _ _ (by simp)).trans h.c5, h.d.put (by omega) (by omega) _⟩
theorem NodAt.putC {w : World} {n : Nod} (h : NodAt w n) (z : Int) : NodAt (w.setCell ⟨n.b, 3, none⟩ (.int .i64 z)) { n with C := z } := ⟨(World.cell?_setCell_other _ _ _ _ (by simp)).trans h.c0, (World.cell?_setCell_other _ _ _ _ (by simp)).trans h.c1, (World.cell?_setCell_other _ _ _ _ (by simp)).trans h.c2, World.cell?_setCell_same _ _ _ h.c3, (World.cell?_setCell_other _ _ _ _ (by simp)).trans h.c4, (World.cell?_setCell_other _ _ _ _ (by simp)).trans h.c5, h.d.put (by omega) (by omega) _⟩
theorem NodAt.putUN {w : World} {n : Nod} (h : NodAt w n) (z : Int) : NodAt (w.setCell ⟨n.b, 4, none⟩ (.int .i64 z)) { n with UN := z } := ⟨(World.cell?_setCell_other _ _ _ _ (by simp)).trans h.c0, (World.cell?_setCell_other _ _ _ _ (by simp)).trans h.c1, (World.cell?_setCell_other _ _ _ _ (by simp)).trans h.c2, (World.cell?_setCell_other _ _ _ _ (by simp)).trans h.c3, World.cell?_setCell_same _ _ _ h.c4, (World.cell?_setCell_other _ _ _ _ (by simp)).trans h.c5, h.d.put (by omega) (by omega) _⟩
theorem NodAt.putUG {w : World} {n : Nod} (h : NodAt w n) (z : Int) : NodAt (w.setCell ⟨n.b, 5, none⟩ (.int .i64 z)) { n with UG := z } := ⟨(World.cell?_setCell_other _ _ _ _ (by simp)).trans h.c0, (World.cell?_setCell_other _ _ _ _ (by simp)).trans h.c1, (World.cell?_setCell_other _ _ _ _ (by simp)).trans h.c2, (World.cell?_setCell_other _ _ _ _ (by simp)).trans h.c3, (World.cell?_setCell_other _ _ _ _ (by simp)).trans h.c4, World.cell?_setCell_same _ _ _ h.c5, h.d.put (by omega) (by omega) _⟩
/-- A node was written over. -/
theorem TabAt.put {w w2 w' : World} {t p most i : Nat} {g : Nat → Nat} {nd : Nat → Option Nod} {n n' : Nod} (h : TabAt w t p most g nd) (ho : Only [] w w2) (hi : i < most) (hn : nd i = some n) (hb : n'.b = n.b) (hm : n'.m = n.m) (hN : NodAt w' n') (hw : Only [n.b] w2 w') :
    TabAt w' t p most g (setN nd i (some n')) ∧ Only [n.b] w w' := by
  have o : Only [n.b] w w' := (ho.mono (L' := [n.b]) (by simp)).trans hw (fun i hi => Or.inl hi)
  refine ⟨h.turn hi hn hb hN (o.mono (fun k hk => Or.inl (by simp at hk; subst hk; exact n.b_foot))) (fun k hk => Or.inl ?_), o⟩
  unfold Nod.foot at hk ⊢
  rw [hb, hm] at hk
  exact hk
theorem ttouch_stale (w : World) (t p most : Nat) (g : Nat → Nat) (nd : Nat → Option Nod) (N G : Int) (ad : Addr) (h : TabAt w t p most g nd) (hm : most ≤ 300) (hE : w.cell? ⟨9, 0, none⟩ = some (errV ad)) (hs : Stale most g nd N G) :
    Calls Tryd.prog 17 #[.pointer (some ⟨t, 0, none⟩), .agg #[.int .i64 N, .int .i64 G]] w fun e w' => e = .returned (errV ad) ∧ Only [] w w' := by
  have HC : Hid (∀ w1, Only [] w w1 → _) := find_no w t p most g nd N G (errV ad) h hm hE hs
  clear h hE hs
  unfold errV at HC ⊢
  go_enter Tryd.func17, Tryd.ntmps17
  go_wp2_with (go_at_call 29; go_must (refine (HC.out _ ((Only.refl _ _).alloc _)).mono ?_); rintro e w2 ⟨rfl, ho2⟩; have HO : Hid (Only [] w w2) := ((Only.refl _ _).alloc _).trans ho2 (fun _ hk => by cases hk))
  go_ret
  exact ⟨rfl, HO.out⟩
theorem tfree_stale (w : World) (t p most : Nat) (g : Nat → Nat) (nd : Nat → Option Nod) (N G : Int) (ad : Addr) (h : TabAt w t p most g nd) (hm : most ≤ 300) (hE : w.cell? ⟨9, 0, none⟩ = some (errV ad)) (hs : Stale most g nd N G) :
    Calls Tryd.prog 18 #[.pointer (some ⟨t, 0, none⟩), .agg #[.int .i64 N, .int .i64 G]] w fun e w' => e = .returned (errV ad) ∧ Only [] w w' := by
  have HC : Hid (∀ w1, Only [] w w1 → _) := find_no w t p most g nd N G (errV ad) h hm hE hs
  clear h hE hs
  unfold errV at HC ⊢
  go_enter Tryd.func18, Tryd.ntmps18
  go_wp2_with (go_at_call 29; go_must (refine (HC.out _ ((Only.refl _ _).alloc _)).mono ?_); rintro e w2 ⟨rfl, ho2⟩; have HO : Hid (Only [] w w2) := ((Only.refl _ _).alloc _).trans ho2 (fun _ hk => by cases hk))
  go_ret
  exact ⟨rfl, HO.out⟩
theorem tset_stale (w : World) (t p most : Nat) (g : Nat → Nat) (nd : Nat → Option Nod) (N G a b c d : Int) (ad : Addr) (h : TabAt w t p most g nd) (hm : most ≤ 300) (hE : w.cell? ⟨9, 0, none⟩ = some (errV ad)) (hs : Stale most g nd N G) :
    Calls Tryd.prog 16 #[.pointer (some ⟨t, 0, none⟩), .agg #[.int .i64 N, .int .i64 G], .int .i64 a, .int .i64 b, .agg #[.int .i64 c, .int .i64 d]] w fun e w' => e = .returned (errV ad) ∧ Only [] w w' := by
  have HC : Hid (∀ w1, Only [] w w1 → _) := find_no w t p most g nd N G (errV ad) h hm hE hs
  clear h hE hs
  unfold errV at HC ⊢
  go_enter Tryd.func16, Tryd.ntmps16
  go_wp2_with (go_at_call 29; go_must (refine (HC.out _ (((Only.refl _ _).alloc _).alloc _)).mono ?_); rintro e w2 ⟨rfl, ho2⟩; have HO : Hid (Only [] w w2) := (((Only.refl _ _).alloc _).alloc _).trans ho2 (fun _ hk => by cases hk))
  go_ret
  exact ⟨rfl, HO.out⟩
set_option maxHeartbeats 1000000 in
theorem tset_bound (w : World) (t p most i : Nat) (g : Nat → Nat) (nd : Nat → Option Nod) (n : Nod) (a b c d : Int) (E F : Value) (h : TabAt w t p most g nd) (hm : most ≤ 300) (hE : w.cell? ⟨9, 0, none⟩ = some E) (hF : w.cell? ⟨0, 0, none⟩ = some F) (hi : i < most) (hn : nd i = some n) (hab : a < 0 ∨ b < 0) :
    Calls Tryd.prog 16 #[.pointer (some ⟨t, 0, none⟩), .agg #[.int .i64 i, .int .i64 (g i : Nat)], .int .i64 a, .int .i64 b, .agg #[.int .i64 c, .int .i64 d]] w fun e w' => e = .returned F ∧ Only [] w w' := by
  have HC : Hid (∀ w1, Only [] w w1 → _) := find_yes w t p most g nd i n E h hm hE hi hn
  have HF : Hid (w.cell? ⟨0, 0, none⟩ = some F) := hF
  have hFl : 0 < w.heap.size := lt_of_cell hF
  clear h hE hn hF
  generalize n.b = nb at HC
  by_cases ha : a < 0
  · have hd1 : decide (a < 0) = true := decide_eq_true ha
    go_enter Tryd.func16, Tryd.ntmps16
    go_wp2_with (go_at_call 29; go_must (refine (HC.out _ (((Only.refl _ _).alloc _).alloc _)).mono ?_); rintro e w2 ⟨rfl, ho2⟩; have HO : Hid (Only [] w w2) := (((Only.refl _ _).alloc _).alloc _).trans ho2 (fun _ hk => by cases hk); have cF := (HO.out.cell (p := ⟨0, 0, none⟩) hFl (by simp)).trans HF.out)
    go_ret
    exact ⟨rfl, HO.out⟩
  · have hd1 : decide (a < 0) = false := decide_eq_false ha
    have hd2 : decide (b < 0) = true := decide_eq_true (by omega)
    go_enter Tryd.func16, Tryd.ntmps16
    go_wp2_with (go_at_call 29; go_must (refine (HC.out _ (((Only.refl _ _).alloc _).alloc _)).mono ?_); rintro e w2 ⟨rfl, ho2⟩; have HO : Hid (Only [] w w2) := (((Only.refl _ _).alloc _).alloc _).trans ho2 (fun _ hk => by cases hk); have cF := (HO.out.cell (p := ⟨0, 0, none⟩) hFl (by simp)).trans HF.out)
    go_ret
    exact ⟨rfl, HO.out⟩
set_option maxHeartbeats 1000000 in
theorem ttouch_ok (w : World) (t p most i : Nat) (g : Nat → Nat) (nd : Nat → Option Nod) (n : Nod) (E : Value) (h : TabAt w t p most g nd) (hm : most ≤ 300) (hE : w.cell? ⟨9, 0, none⟩ = some E) (hi : i < most) (hn : nd i = some n) (hC : 0 ≤ n.C ∧ n.C ≤ 1000) :
    Calls Tryd.prog 17 #[.pointer (some ⟨t, 0, none⟩), .agg #[.int .i64 i, .int .i64 (g i : Nat)]] w fun e w' => e = .returned .nilIface ∧ TabAt w' t p most g (setN nd i (some { n with C := n.C + 1 })) ∧ Only [n.b] w w' := by
  have HC : Hid (∀ w1, Only [] w w1 → _) := find_yes w t p most g nd i n E h hm hE hi hn
  have HN : Hid (NodAt w n) := h.node i n hi hn
  have HT : Hid (TabAt w t p most g nd) := h
  have HI : Hid (nd i = some n) := hn
  clear h hE hn
  obtain ⟨hC0, hC1⟩ := hC
  go_enter Tryd.func17, Tryd.ntmps17
  go_wp2_with (go_at_call 29; go_must (refine (HC.out _ ((Only.refl _ _).alloc _)).mono ?_); rintro e w2 ⟨rfl, ho2⟩; have HO : Hid (Only [] w w2) := ((Only.refl _ _).alloc _).trans ho2 (fun _ hk => by cases hk); have HN2 : Hid (NodAt w2 n) := HN.out.kept HO.out (fun _ _ => by simp); have c3 := HN2.out.c3; have f3 := HN2.out.d.fz 3)
  go_ret
  exact ⟨rfl, HT.out.put HO.out hi HI.out rfl rfl (HN2.out.putC _) ((Only.refl _ _).setCell (Or.inl (by simp)) _)⟩
set_option maxHeartbeats 1000000 in
theorem tset_file (w : World) (t p most i : Nat) (g : Nat → Nat) (nd : Nat → Option Nod) (n : Nod) (a b c d : Int) (E : Value) (h : TabAt w t p most g nd) (hm : most ≤ 300) (hE : w.cell? ⟨9, 0, none⟩ = some E) (hi : i < most) (hn : nd i = some n) (hab : 0 ≤ a ∧ 0 ≤ b) (hK : n.K = 1) (hC : 0 ≤ n.C ∧ n.C ≤ 1000) :
    Calls Tryd.prog 16 #[.pointer (some ⟨t, 0, none⟩), .agg #[.int .i64 i, .int .i64 (g i : Nat)], .int .i64 a, .int .i64 b, .agg #[.int .i64 c, .int .i64 d]] w fun e w' => e = .returned .nilIface ∧ TabAt w' t p most g (setN nd i (some { n with L := b, C := n.C + 1 })) ∧ Only [n.b] w w' := by
  have HC : Hid (∀ w1, Only [] w w1 → _) := find_yes w t p most g nd i n E h hm hE hi hn
  have HN : Hid (NodAt w n) := h.node i n hi hn
  have HT : Hid (TabAt w t p most g nd) := h
  have HI : Hid (nd i = some n) := hn
  clear h hE hn
  obtain ⟨hC0, hC1⟩ := hC
  have hd1 : decide (a < 0) = false := decide_eq_false (by omega)
  have hd2 : decide (b < 0) = false := decide_eq_false (by omega)
  go_enter Tryd.func16, Tryd.ntmps16
  go_wp2_with (go_at_call 29; go_must (refine (HC.out _ (((Only.refl _ _).alloc _).alloc _)).mono ?_); rintro e w2 ⟨rfl, ho2⟩; have HO : Hid (Only [] w w2) := (((Only.refl _ _).alloc _).alloc _).trans ho2 (fun _ hk => by cases hk); have HN2 : Hid (NodAt w2 n) := HN.out.kept HO.out (fun _ _ => by simp); have c0 := HN2.out.c0; rw [hK] at c0; have c2 := HN2.out.c2; have c3 := HN2.out.c3; have f3 := HN2.out.d.fz)
  go_ret
  exact ⟨rfl, HT.out.put HO.out hi HI.out rfl rfl ((HN2.out.putL b).putC _) (((Only.refl _ _).setCell (Or.inl (by simp)) _).setCell (Or.inl (by simp)) _)⟩
set_option maxHeartbeats 2000000 in
theorem tset_dir (w : World) (t p most i : Nat) (g : Nat → Nat) (nd : Nat → Option Nod) (n : Nod) (a b c d : Int) (E : Value) (h : TabAt w t p most g nd) (hm : most ≤ 300) (hE : w.cell? ⟨9, 0, none⟩ = some E) (hi : i < most) (hn : nd i = some n) (hab : 0 ≤ a ∧ 0 ≤ b) (hK : n.K = 2) (hC : 0 ≤ n.C ∧ n.C ≤ 1000) :
    Calls Tryd.prog 16 #[.pointer (some ⟨t, 0, none⟩), .agg #[.int .i64 i, .int .i64 (g i : Nat)], .int .i64 a, .int .i64 b, .agg #[.int .i64 c, .int .i64 d]] w fun e w' => e = .returned .nilIface ∧ TabAt w' t p most g (setN nd i (some { n with Z := a, UN := c, UG := d, L := b, C := n.C + 1 })) ∧ Only [n.b] w w' := by
  have HC : Hid (∀ w1, Only [] w w1 → _) := find_yes w t p most g nd i n E h hm hE hi hn
  have HN : Hid (NodAt w n) := h.node i n hi hn
  have HT : Hid (TabAt w t p most g nd) := h
  have HI : Hid (nd i = some n) := hn
  clear h hE hn
  obtain ⟨hC0, hC1⟩ := hC
  have hd1 : decide (a < 0) = false := decide_eq_false (by omega)
  have hd2 : decide (b < 0) = false := decide_eq_false (by omega)
  go_enter Tryd.func16, Tryd.ntmps16
  go_wp2_with (go_at_call 29; go_must (refine (HC.out _ (((Only.refl _ _).alloc _).alloc _)).mono ?_); rintro e w2 ⟨rfl, ho2⟩; have HO : Hid (Only [] w w2) := (((Only.refl _ _).alloc _).alloc _).trans ho2 (fun _ hk => by cases hk); have HN2 : Hid (NodAt w2 n) := HN.out.kept HO.out (fun _ _ => by simp); have c0 := HN2.out.c0; rw [hK] at c0; have c1 := HN2.out.c1; have c2 := HN2.out.c2; have c3 := HN2.out.c3; have c4 := HN2.out.c4; have c5 := HN2.out.c5; have f3 := HN2.out.d.fz; obtain ⟨u0, u1, fu, hlu⟩ := own_pairB (B := w.heap.size + 1) ho2 (by simp); have hbl := lt_of_cell c0; have hbw := lt_of_cell HN.out.c0)
  go_region
  go_wp2
  go_ret
  have o5 : Only [n.b] w2 (((((w2.setCell ⟨n.b, 1, none⟩ (.int .i64 a)).setCell ⟨n.b, 4, none⟩ (.int .i64 c)).setCell ⟨n.b, 5, none⟩ (.int .i64 d)).setCell ⟨n.b, 2, none⟩ (.int .i64 b)).setCell ⟨n.b, 3, none⟩ (.int .i64 (n.C + 1))) :=
    (((((Only.refl [n.b] w2).setCell (Or.inl (by simp)) _).setCell (Or.inl (by simp)) _).setCell (Or.inl (by simp)) _).setCell (Or.inl (by simp)) _).setCell (Or.inl (by simp)) _
  have hN5 := ((((HN2.out.putZ a).putUN c).putUG d).putL b).putC (n.C + 1)
  exact ⟨rfl, HT.out.put (n' := { n with Z := a, UN := c, UG := d, L := b, C := n.C + 1 }) HO.out hi HI.out rfl rfl (hN5.kept ((Only.refl [] _).drew) (fun _ _ => by simp)) o5.drew⟩
set_option maxHeartbeats 1000000 in
theorem tfree_ok (w : World) (t p most i : Nat) (g : Nat → Nat) (nd : Nat → Option Nod) (n : Nod) (E : Value) (h : TabAt w t p most g nd) (hm : most ≤ 300) (hE : w.cell? ⟨9, 0, none⟩ = some E) (hi : i < most) (hn : nd i = some n) (hG : g i ≤ 1000) :
    Calls Tryd.prog 18 #[.pointer (some ⟨t, 0, none⟩), .agg #[.int .i64 i, .int .i64 (g i : Nat)]] w fun e w' => e = .returned .nilIface ∧ TabAt w' t p most (setN g i (g i + 1)) (setN nd i none) ∧ Only [p] w w' := by
  have HC : Hid (∀ w1, Only [] w w1 → _) := find_yes w t p most g nd i n E h hm hE hi hn
  have HT : Hid (TabAt w t p most g nd) := h
  clear h hE hn
  go_enter Tryd.func18, Tryd.ntmps18
  go_wp2_with (go_at_call 29; go_must (refine (HC.out _ ((Only.refl _ _).alloc _)).mono ?_); rintro e w2 ⟨rfl, ho2⟩; have HO : Hid (Only [] w w2) := ((Only.refl _ _).alloc _).trans ho2 (fun _ hk => by cases hk); have HT2 : Hid (TabAt w2 t p most g nd) := HT.out.kept HO.out (fun _ _ => by simp); have c0 := HT2.out.tab; have c1 := HT2.out.gen i hi; have c2 := HT2.out.ptr i hi; have fp := HT2.out.fz; have hl2 := HT2.out.plt; obtain ⟨u0, u1, fu, hlu⟩ := own_pair ho2)
  go_region
  go_wp2
  go_ret
  have hpw := HT.out.plt
  have o2 : Only [p] w ((w2.setCell ⟨p, i * 2, none⟩ (.int .i64 ((g i : Int) + 1))).setCell ⟨p, i * 2 + 1, none⟩ (.pointer none)).drew := (((HO.out.mono (L' := [p]) (by simp)).setCell (Or.inl (by simp)) _).setCell (Or.inl (by simp)) _).drew
  refine ⟨rfl, HT.out.place (i := i) ⟨o2, fun o h1 h2 => ?_, fun o => ?_⟩ (fun j hj => setN_other _ _ hj) (fun j hj => setN_other _ _ hj) ?_ ?_ (fun n hn => ?_), o2⟩
  · show ((w2.setCell ⟨p, i * 2, none⟩ (.int .i64 ((g i : Int) + 1))).setCell ⟨p, i * 2 + 1, none⟩ (.pointer none)).cell? ⟨p, o, none⟩ = _
    rw [World.cell?_setCell_other _ _ _ _ (by simp), World.cell?_setCell_other _ _ _ _ (by simp)]
    exact HO.out.cell (p := ⟨p, o, none⟩) hpw (by simp)
  · show ((w2.setCell ⟨p, i * 2, none⟩ (.int .i64 ((g i : Int) + 1))).setCell ⟨p, i * 2 + 1, none⟩ (.pointer none)).frozen? ⟨p, o, none⟩ = _
    rw [World.frozen?_setCell, World.frozen?_setCell]
    exact HO.out.frozen (p := ⟨p, o, none⟩) hpw (by simp)
  · show ((w2.setCell ⟨p, i * 2, none⟩ (.int .i64 ((g i : Int) + 1))).setCell ⟨p, i * 2 + 1, none⟩ (.pointer none)).cell? ⟨p, i * 2, none⟩ = _
    rw [World.cell?_setCell_other _ _ _ _ (by simp), World.cell?_setCell_same _ _ _ c1, setN_same]
    simp
  · show ((w2.setCell ⟨p, i * 2, none⟩ (.int .i64 ((g i : Int) + 1))).setCell ⟨p, i * 2 + 1, none⟩ (.pointer none)).cell? ⟨p, i * 2 + 1, none⟩ = _
    have c3 : (w2.setCell ⟨p, i * 2, none⟩ (.int .i64 ((g i : Int) + 1))).cell? ⟨p, i * 2 + 1, none⟩ = some (.pointer ((nd i).map (fun n => ⟨n.b, 0, none⟩))) := by
      rw [World.cell?_setCell_other _ _ _ _ (by simp)]
      exact c2
    rw [World.cell?_setCell_same _ _ _ c3, setN_same]
    rfl
  · rw [setN_same] at hn
    cases hn
end Go.Proofs.YtdbfefkddaehmacDoor
