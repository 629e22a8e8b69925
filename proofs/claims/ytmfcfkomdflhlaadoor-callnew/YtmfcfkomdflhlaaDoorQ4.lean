/- Nodes: Attr, Data: what is asked of a table. -/
import Derived.Test.YtmfcfkomdflhlaaDoorQ3
import Derived.Test.YtmfcfkomdflhlaaDoorP1
/- Nodes: Attr, Data: what is asked of a table. -/
namespace Go.Proofs.YtmfcfkomdflhlaaDoor
open Go Go.RowKit Go.Deep Go.Maps

section
variable (w : World) (t : Nat) (p : Row) (most : Nat) (g : Nat → Nat) (nd : Nat → Option Nod)
theorem find_no (N G : Int) (E : Value) (h : TabAt w t p most g nd) (hE : w.cell? ⟨9, 0, none⟩ = some E) (hs : Stale0 g nd N G) (w1 : World) (ho : Only [] w w1) :
    Calls Tryd.prog 54 #[.pointer (some ⟨t, 0, none⟩), .agg #[.int .i64 N, .int .i64 G]] w1 fun e w' => e = .returned (.tuple #[.pointer none, E]) ∧ Only [] w1 w' :=
  find_stale w1 t p most g nd N G E (h.kept ho (fun _ _ => by simp)) ((ho.cell (p := ⟨9, 0, none⟩) (lt_of_cell hE) (by simp)).trans hE) hs
theorem find_yes (i : Nat) (n : Nod) (h : TabAt w t p most g nd) (hn : nd i = some n) (w1 : World) (ho : Only [] w w1) :
    Calls Tryd.prog 54 #[.pointer (some ⟨t, 0, none⟩), .agg #[.int .i64 i, .int .i64 (g i : Nat)]] w1 fun e w' => e = .returned (.tuple #[.pointer (some ⟨n.b, 0, none⟩), .nilIface]) ∧ Only [] w1 w' :=
  find_ok w1 t p most i g nd n (h.kept ho (fun _ _ => by simp)) hn
end
theorem own_six {w w2 : World} {B : Nat} {a b c d e f : Value} {ty : TypeId} (h : Only [] (w.alloc (.cells #[a, b, c, d, e, f] ty)) w2) (hB : w.heap.size = B) :
    w2.cell? ⟨B, 0, none⟩ = some a ∧ w2.cell? ⟨B, 1, none⟩ = some b ∧ w2.cell? ⟨B, 2, none⟩ = some c ∧ w2.cell? ⟨B, 3, none⟩ = some d ∧ w2.cell? ⟨B, 4, none⟩ = some e ∧ w2.cell? ⟨B, 5, none⟩ = some f ∧ (∀ o, w2.frozen? ⟨B, o, none⟩ = false) ∧ B < w2.heap.size := by
  subst hB
  have hh := heap_alloc_last w (.cells #[a, b, c, d, e, f] ty)
  have hlt : w.heap.size < (w.alloc (.cells #[a, b, c, d, e, f] ty)).heap.size := by simp
  refine ⟨(h.cell (p := ⟨w.heap.size, 0, none⟩) hlt (by simp)).trans (cell_of_row _ _ 0 _ _ _ hh), (h.cell (p := ⟨w.heap.size, 1, none⟩) hlt (by simp)).trans (cell_of_row _ _ 1 _ _ _ hh), (h.cell (p := ⟨w.heap.size, 2, none⟩) hlt (by simp)).trans (cell_of_row _ _ 2 _ _ _ hh),
    (h.cell (p := ⟨w.heap.size, 3, none⟩) hlt (by simp)).trans (cell_of_row _ _ 3 _ _ _ hh), (h.cell (p := ⟨w.heap.size, 4, none⟩) hlt (by simp)).trans (cell_of_row _ _ 4 _ _ _ hh), (h.cell (p := ⟨w.heap.size, 5, none⟩) hlt (by simp)).trans (cell_of_row _ _ 5 _ _ _ hh), fun o => ?_, Nat.lt_of_lt_of_le hlt h.size⟩
  rw [h.frozen (p := ⟨w.heap.size, o, none⟩) hlt (by simp)]
  unfold World.frozen?
  rw [hh]
  simp
theorem own_pairB {w w2 : World} {B : Nat} {a b : Int} {ty : TypeId} (h : Only [] (w.alloc (.cells #[.int .i64 a, .int .i64 b] ty)) w2) (hB : w.heap.size = B) :
    w2.cell? ⟨B, 0, none⟩ = some (.int .i64 a) ∧ w2.cell? ⟨B, 1, none⟩ = some (.int .i64 b) ∧ (∀ o, w2.frozen? ⟨B, o, none⟩ = false) ∧ B < w2.heap.size := by
  subst hB
  exact own_pair h
/-- What is told of a node. -/
def attrV (K Z L C UN UG : Int) : Value := .agg #[.int .i64 K, .int .i64 Z, .int .i64 L, .int .i64 C, .int .i64 UN, .int .i64 UG]
/-- An error, as a value. -/
def errV (a : Addr) : Value := .iface 171 (.pointer (some a))
set_option maxHeartbeats 1000000 in
theorem tattr_stale (w : World) (t : Nat) (p : Row) (most : Nat) (g : Nat → Nat) (nd : Nat → Option Nod) (N G : Int) (ad : Addr) (h : TabAt w t p most g nd) (hE : w.cell? ⟨9, 0, none⟩ = some (errV ad)) (hs : Stale0 g nd N G) :
    Calls Tryd.prog 55 #[.pointer (some ⟨t, 0, none⟩), .agg #[.int .i64 N, .int .i64 G]] w fun e w' => e = .returned (.tuple #[attrV 0 0 0 0 0 0, errV ad]) ∧ Only [] w w' := by
  have HC : Hid (∀ w1, Only [] w w1 → _) := find_no w t p most g nd N G (errV ad) h hE hs
  clear h hE hs
  unfold errV at HC ⊢
  go_enter Tryd.func55, Tryd.ntmps55
  go_wp2_with (go_at_call 54; go_must (refine (HC.out _ (((Only.refl _ _).alloc _).alloc _)).mono ?_); rintro e w2 ⟨rfl, ho2⟩; have HO : Hid (Only [] w w2) := (((Only.refl _ _).alloc _).alloc _).trans ho2 (fun _ hk => by cases hk); obtain ⟨r0, r1, r2, r3, r4, r5, f0, hl0⟩ := own_six (B := w.heap.size + 1) ho2 (by simp))
  have hle : w.heap.size ≤ w.heap.size + 1 := Nat.le_succ _
  refine bodyPost_ret (v := .tuple #[attrV 0 0 0 0 0 0, .iface 171 (.pointer (some ad))]) (by simp [results, Tryd.results55, go_sem, r0, r1, r2, r3, r4, r5, attrV]) rfl ⟨rfl, ?_⟩
  exact (((((HO.out.setCell (Or.inr hle) _).setCell (Or.inr hle) _).setCell (Or.inr hle) _).setCell (Or.inr hle) _).setCell (Or.inr hle) _).setCell (Or.inr hle) _
set_option maxHeartbeats 1000000 in
theorem tattr_ok (w : World) (t : Nat) (p : Row) (most i : Nat) (g : Nat → Nat) (nd : Nat → Option Nod) (n : Nod) (z : Int) (h : TabAt w t p most g nd) (hn : nd i = some n) (hz : n.K = 1 ∧ z = (n.S.size : Int) ∨ n.K = 2 ∧ z = n.Z) :
    Calls Tryd.prog 55 #[.pointer (some ⟨t, 0, none⟩), .agg #[.int .i64 i, .int .i64 (g i : Nat)]] w fun e w' => e = .returned (.tuple #[attrV n.K z n.L n.C n.UN n.UG, .nilIface]) ∧ Only [] w w' := by
  have HC : Hid (∀ w1, Only [] w w1 → _) := find_yes w t p most g nd i n h hn
  have hN := h.node i n hn
  have HN : Hid (NodAt w n) := hN
  have hbl : n.b < w.heap.size := lt_of_cell hN.c0
  clear h hn hN
  obtain ⟨nb, K, Z, L, C, UN, UG, S, H, m⟩ := n
  simp only at HC hbl hz ⊢
  have hle : w.heap.size ≤ w.heap.size + 1 := Nat.le_succ _
  rcases hz with ⟨rfl, hz⟩ | ⟨rfl, hz⟩
  all_goals rw [hz]
  all_goals clear hz
  · go_enter Tryd.func55, Tryd.ntmps55
    go_wp2_with (first
      | (go_at_call 54; go_must (refine (HC.out _ (((Only.refl _ _).alloc _).alloc _)).mono ?_); rintro e w2 ⟨rfl, ho2⟩; have HO : Hid (Only [] w w2) := (((Only.refl _ _).alloc _).alloc _).trans ho2 (fun _ hk => by cases hk); obtain ⟨r0, r1, r2, r3, r4, r5, f0, hl0⟩ := own_six (B := w.heap.size + 1) ho2 (by simp); have HN2 : Hid (NodAt w2 ⟨nb, 1, Z, L, C, UN, UG, S, H, m⟩) := HN.out.kept HO.out (fun _ _ => by simp); obtain ⟨c0, c1, c2, c3, c4, c5, _⟩ := HN2.out; have hb2 : nb < w2.heap.size := lt_of_cell c0)
      | (go_at_call 56; go_must (refine (dsizeO _ nb 6 S H m (HN2.out.d.kept ((Only.refl [] _).alloc _) (fun _ _ => by simp))).mono ?_); rintro e w3 ⟨rfl, rfl⟩)
      | go_in)
    refine bodyPost_ret (v := .tuple #[attrV 1 (S.size : Nat) L C UN UG, .nilIface]) (by simp [results, Tryd.results55, go_sem, r0, r1, r2, r3, r4, r5, hl0, attrV]) rfl ⟨rfl, ?_⟩
    exact ((((((HO.out.setCell (Or.inr hle) _).setCell (Or.inr hle) _).setCell (Or.inr hle) _).setCell (Or.inr hle) _).setCell (Or.inr hle) _).setCell (Or.inr hle) _).alloc _
  · go_enter Tryd.func55, Tryd.ntmps55
    go_wp2_with (first
      | (go_at_call 54; go_must (refine (HC.out _ (((Only.refl _ _).alloc _).alloc _)).mono ?_); rintro e w2 ⟨rfl, ho2⟩; have HO : Hid (Only [] w w2) := (((Only.refl _ _).alloc _).alloc _).trans ho2 (fun _ hk => by cases hk); obtain ⟨r0, r1, r2, r3, r4, r5, f0, hl0⟩ := own_six (B := w.heap.size + 1) ho2 (by simp); have HN2 : Hid (NodAt w2 ⟨nb, 2, Z, L, C, UN, UG, S, H, m⟩) := HN.out.kept HO.out (fun _ _ => by simp); obtain ⟨c0, c1, c2, c3, c4, c5, _⟩ := HN2.out; have hb2 : nb < w2.heap.size := lt_of_cell c0)
      | go_in)
    refine bodyPost_ret (v := .tuple #[attrV 2 Z L C UN UG, .nilIface]) (by simp [results, Tryd.results55, go_sem, r0, r1, r2, r3, r4, r5, hl0, attrV]) rfl ⟨rfl, ?_⟩
    exact ((((((HO.out.setCell (Or.inr hle) _).setCell (Or.inr hle) _).setCell (Or.inr hle) _).setCell (Or.inr hle) _).setCell (Or.inr hle) _).setCell (Or.inr hle) _).alloc _
end Go.Proofs.YtmfcfkomdflhlaaDoor
/- Nodes: Set, Touch, Free. -/
namespace Go.Proofs.YtmfcfkomdflhlaaDoor
open Go Go.RowKit Go.Deep Go.Maps

theorem DataO.put {w : World} {g o k : Nat} {S : ByteArray} {H : List Bool} {m : Option Nat} (h : DataO w g o S H m) (h0 : k ≠ o) (h1 : k ≠ o + 1) (v : Value) : DataO (w.setCell ⟨g, k, none⟩ v) g o S H m := by
  obtain ⟨f, hs, hm⟩ := h.holds
  refine ⟨?_, ?_, fun j => ?_, h.ty.set _ _, f, hs, ?_⟩
  · rw [World.cell?_setCell_other _ _ _ _ (by simp)]; exact h.size
  · rw [World.cell?_setCell_other _ _ _ _ (by simp)]; exact h.map
  · rw [World.frozen?_setCell]; exact h.fz j
  · cases m with
    | none => exact hm
    | some b =>
      obtain ⟨D, d1, d2⟩ := hm
      exact ⟨D, d1.setCell (own_ne d1 h.size) _, d2⟩
theorem NodAt.putZ {w : World} {n : Nod} (h : NodAt w n) (z : Int) : NodAt (w.setCell ⟨n.b, 1, none⟩ (.int .i64 z)) { n with Z := z } := ⟨(World.cell?_setCell_other _ _ _ _ (by simp)).trans h.c0, World.cell?_setCell_same _ _ _ h.c1, (World.cell?_setCell_other _ _ _ _ (by simp)).trans h.c2, (World.cell?_setCell_other _ _ _ _ (by simp)).trans h.c3, (World.cell?_setCell_other _ _ _ _ (by simp)).trans h.c4, (World.cell?_setCell_other _ _ _ _ (by simp)).trans h.c5, h.d.put (by omega) (by omega) _⟩
theorem NodAt.putL {w : World} {n : Nod} (h : NodAt w n) (z : Int) : NodAt (w.setCell ⟨n.b, 2, none⟩ (.int .i64 z)) { n with L := z } := ⟨(World.cell?_setCell_other _ _ _ _ (by simp)).trans h.c0, (World.cell?_setCell_other _ _ _ _ (by simp)).trans h.c1, World.cell?_setCell_same _ _ _ h.c2, (World.cell?_setCell_other _ _ _ _ (by simp)).trans h.c3, (World.cell?_setCell_other _ _ _ _ (by simp)).trans h.c4, (World.cell?_setCell_other _ _ _ _ (by simp)).trans h.c5, h.d.put (by omega) (by omega) _⟩
theorem NodAt.putC {w : World} {n : Nod} (h : NodAt w n) (z : Int) : NodAt (w.setCell ⟨n.b, 3, none⟩ (.int .i64 z)) { n with C := z } := ⟨(World.cell?_setCell_other _ _ _ _ (by simp)).trans h.c0, (World.cell?_setCell_other _ _ _ _ (by simp)).trans h.c1, (World.cell?_setCell_other _ _ _ _ (by simp)).trans h.c2, World.cell?_setCell_same _ _ _ h.c3, (World.cell?_setCell_other _ _ _ _ (by simp)).trans h.c4, (World.cell?_setCell_other _ _ _ _ (by simp)).trans h.c5, h.d.put (by omega) (by omega) _⟩
theorem NodAt.putUN {w : World} {n : Nod} (h : NodAt w n) (z : Int) : NodAt (w.setCell ⟨n.b, 4, none⟩ (.int .i64 z)) { n with UN := z } := ⟨(World.cell?_setCell_other _ _ _ _ (by simp)).trans h.c0, (World.cell?_setCell_other _ _ _ _ (by simp)).trans h.c1, (World.cell?_setCell_other _ _ _ _ (by simp)).trans h.c2, (World.cell?_setCell_other _ _ _ _ (by simp)).trans h.c3, World.cell?_setCell_same _ _ _ h.c4, (World.cell?_setCell_other _ _ _ _ (by simp)).trans h.c5, h.d.put (by omega) (by omega) _⟩
theorem NodAt.putUG {w : World} {n : Nod} (h : NodAt w n) (z : Int) : NodAt (w.setCell ⟨n.b, 5, none⟩ (.int .i64 z)) { n with UG := z } := ⟨(World.cell?_setCell_other _ _ _ _ (by simp)).trans h.c0, (World.cell?_setCell_other _ _ _ _ (by simp)).trans h.c1, (World.cell?_setCell_other _ _ _ _ (by simp)).trans h.c2, (World.cell?_setCell_other _ _ _ _ (by simp)).trans h.c3, (World.cell?_setCell_other _ _ _ _ (by simp)).trans h.c4, World.cell?_setCell_same _ _ _ h.c5, h.d.put (by omega) (by omega) _⟩
/-- A node was written over. -/
theorem TabAt.put {w w2 w' : World} {t most i : Nat} {p : Row} {g : Nat → Nat} {nd : Nat → Option Nod} {n n' : Nod} (h : TabAt w t p most g nd) (ho : Only [] w w2) (hn : nd i = some n) (hb : n'.b = n.b) (hm : n'.m = n.m) (hN : NodAt w' n') (hw : Only [n.b] w2 w') :
    TabAt w' t p most g (setN nd i (some n')) ∧ Only [n.b] w w' := by
  have o : Only [n.b] w w' := (ho.mono (L' := [n.b]) (by simp)).trans hw (fun i hi => Or.inl hi)
  refine ⟨h.turn hn hb hN (o.mono (fun k hk => Or.inl (by simp at hk; subst hk; exact n.b_foot))) (fun k hk => Or.inl ?_), o⟩
  unfold Nod.foot at hk ⊢
  rw [hb, hm] at hk
  exact hk
theorem tadj_stale (w : World) (t : Nat) (p : Row) (most : Nat) (g : Nat → Nat) (nd : Nat → Option Nod) (N G a b c d : Int) (ad : Addr) (h : TabAt w t p most g nd) (hE : w.cell? ⟨9, 0, none⟩ = some (errV ad)) (hs : Stale0 g nd N G) :
    Calls Tryd.prog 51 #[.pointer (some ⟨t, 0, none⟩), .agg #[.int .i64 N, .int .i64 G], .int .i64 a, .int .i64 b, .agg #[.int .i64 c, .int .i64 d]] w fun e w' => e = .returned (errV ad) ∧ Only [] w w' := by
  have HC : Hid (∀ w1, Only [] w w1 → _) := find_no w t p most g nd N G (errV ad) h hE hs
  clear h hE hs
  unfold errV at HC ⊢
  go_enter Tryd.func51, Tryd.ntmps51
  go_wp2_with (go_at_call 54; go_must (refine (HC.out _ (((Only.refl _ _).alloc _).alloc _)).mono ?_); rintro e w2 ⟨rfl, ho2⟩; have HO : Hid (Only [] w w2) := (((Only.refl _ _).alloc _).alloc _).trans ho2 (fun _ hk => by cases hk))
  go_ret
  exact ⟨rfl, HO.out⟩
set_option maxHeartbeats 1000000 in
theorem tadj_bound (w : World) (t : Nat) (p : Row) (most i : Nat) (g : Nat → Nat) (nd : Nat → Option Nod) (n : Nod) (a b c d : Int) (F : Value) (h : TabAt w t p most g nd) (hF : w.cell? ⟨4, 0, none⟩ = some F) (hn : nd i = some n) (hab : a < 0 ∨ b < 0) :
    Calls Tryd.prog 51 #[.pointer (some ⟨t, 0, none⟩), .agg #[.int .i64 i, .int .i64 (g i : Nat)], .int .i64 a, .int .i64 b, .agg #[.int .i64 c, .int .i64 d]] w fun e w' => e = .returned F ∧ Only [] w w' := by
  have HC : Hid (∀ w1, Only [] w w1 → _) := find_yes w t p most g nd i n h hn
  have HF : Hid (w.cell? ⟨4, 0, none⟩ = some F) := hF
  have hFl : 4 < w.heap.size := lt_of_cell hF
  clear h hn hF
  generalize n.b = nb at HC
  by_cases ha : a < 0
  · have hd1 : decide (a < 0) = true := decide_eq_true ha
    go_enter Tryd.func51, Tryd.ntmps51
    go_wp2_with (go_at_call 54; go_must (refine (HC.out _ (((Only.refl _ _).alloc _).alloc _)).mono ?_); rintro e w2 ⟨rfl, ho2⟩; have HO : Hid (Only [] w w2) := (((Only.refl _ _).alloc _).alloc _).trans ho2 (fun _ hk => by cases hk); have cF := (HO.out.cell (p := ⟨4, 0, none⟩) hFl (by simp)).trans HF.out)
    go_ret
    exact ⟨rfl, HO.out⟩
  · have hd1 : decide (a < 0) = false := decide_eq_false ha
    have hd2 : decide (b < 0) = true := decide_eq_true (by omega)
    go_enter Tryd.func51, Tryd.ntmps51
    go_wp2_with (go_at_call 54; go_must (refine (HC.out _ (((Only.refl _ _).alloc _).alloc _)).mono ?_); rintro e w2 ⟨rfl, ho2⟩; have HO : Hid (Only [] w w2) := (((Only.refl _ _).alloc _).alloc _).trans ho2 (fun _ hk => by cases hk); have cF := (HO.out.cell (p := ⟨4, 0, none⟩) hFl (by simp)).trans HF.out)
    go_ret
    exact ⟨rfl, HO.out⟩
set_option maxHeartbeats 1000000 in
theorem tadj_file (w : World) (t : Nat) (p : Row) (most i : Nat) (g : Nat → Nat) (nd : Nat → Option Nod) (n : Nod) (a b c d : Int) (h : TabAt w t p most g nd) (hn : nd i = some n) (hab : 0 ≤ a ∧ 0 ≤ b) (hK : n.K = 1) :
    Calls Tryd.prog 51 #[.pointer (some ⟨t, 0, none⟩), .agg #[.int .i64 i, .int .i64 (g i : Nat)], .int .i64 a, .int .i64 b, .agg #[.int .i64 c, .int .i64 d]] w fun e w' => e = .returned .nilIface ∧ TabAt w' t p most g (setN nd i (some { n with L := b })) ∧ Only [n.b] w w' := by
  have HC : Hid (∀ w1, Only [] w w1 → _) := find_yes w t p most g nd i n h hn
  have HN : Hid (NodAt w n) := h.node i n hn
  have HT : Hid (TabAt w t p most g nd) := h
  have HI : Hid (nd i = some n) := hn
  clear h hn
  have hd1 : decide (a < 0) = false := decide_eq_false (by omega)
  have hd2 : decide (b < 0) = false := decide_eq_false (by omega)
  go_enter Tryd.func51, Tryd.ntmps51
  go_wp2_with (go_at_call 54; go_must (refine (HC.out _ (((Only.refl _ _).alloc _).alloc _)).mono ?_); rintro e w2 ⟨rfl, ho2⟩; have HO : Hid (Only [] w w2) := (((Only.refl _ _).alloc _).alloc _).trans ho2 (fun _ hk => by cases hk); have HN2 : Hid (NodAt w2 n) := HN.out.kept HO.out (fun _ _ => by simp); have c0 := HN2.out.c0; rw [hK] at c0; have c2 := HN2.out.c2; have f3 := HN2.out.d.fz)
  go_ret
  exact ⟨rfl, HT.out.put HO.out HI.out rfl rfl (HN2.out.putL b) ((Only.refl _ _).setCell (Or.inl (by simp)) _)⟩
set_option maxHeartbeats 2000000 in
theorem tadj_dir (w : World) (t : Nat) (p : Row) (most i : Nat) (g : Nat → Nat) (nd : Nat → Option Nod) (n : Nod) (a b c d : Int) (h : TabAt w t p most g nd) (hn : nd i = some n) (hab : 0 ≤ a ∧ 0 ≤ b) (hK : n.K = 2) :
    Calls Tryd.prog 51 #[.pointer (some ⟨t, 0, none⟩), .agg #[.int .i64 i, .int .i64 (g i : Nat)], .int .i64 a, .int .i64 b, .agg #[.int .i64 c, .int .i64 d]] w fun e w' => e = .returned .nilIface ∧ TabAt w' t p most g (setN nd i (some { n with Z := a, UN := c, UG := d, L := b })) ∧ Only [n.b] w w' := by
  have HC : Hid (∀ w1, Only [] w w1 → _) := find_yes w t p most g nd i n h hn
  have HN : Hid (NodAt w n) := h.node i n hn
  have HT : Hid (TabAt w t p most g nd) := h
  have HI : Hid (nd i = some n) := hn
  clear h hn
  have hd1 : decide (a < 0) = false := decide_eq_false (by omega)
  have hd2 : decide (b < 0) = false := decide_eq_false (by omega)
  go_enter Tryd.func51, Tryd.ntmps51
  go_wp2_with (go_at_call 54; go_must (refine (HC.out _ (((Only.refl _ _).alloc _).alloc _)).mono ?_); rintro e w2 ⟨rfl, ho2⟩; have HO : Hid (Only [] w w2) := (((Only.refl _ _).alloc _).alloc _).trans ho2 (fun _ hk => by cases hk); have HN2 : Hid (NodAt w2 n) := HN.out.kept HO.out (fun _ _ => by simp); have c0 := HN2.out.c0; rw [hK] at c0; have c1 := HN2.out.c1; have c2 := HN2.out.c2; have c4 := HN2.out.c4; have c5 := HN2.out.c5; have f3 := HN2.out.d.fz; obtain ⟨u0, u1, fu, hlu⟩ := own_pairB (B := w.heap.size + 1) ho2 (by simp); have hbl := lt_of_cell c0; have hbw := lt_of_cell HN.out.c0)
  go_region
  go_wp2
  go_ret
  have o5 : Only [n.b] w2 ((((w2.setCell ⟨n.b, 1, none⟩ (.int .i64 a)).setCell ⟨n.b, 4, none⟩ (.int .i64 c)).setCell ⟨n.b, 5, none⟩ (.int .i64 d)).setCell ⟨n.b, 2, none⟩ (.int .i64 b)) :=
    ((((Only.refl [n.b] w2).setCell (Or.inl (by simp)) _).setCell (Or.inl (by simp)) _).setCell (Or.inl (by simp)) _).setCell (Or.inl (by simp)) _
  have hN5 := (((HN2.out.putZ a).putUN c).putUG d).putL b
  exact ⟨rfl, HT.out.put (n' := { n with Z := a, UN := c, UG := d, L := b }) HO.out HI.out rfl rfl (hN5.kept ((Only.refl [] _).drew) (fun _ _ => by simp)) o5.drew⟩
/-! ### Set -/
theorem setN_again {α : Type} (f : Nat → α) (i : Nat) (a b : α) : setN (setN f i a) i b = setN f i b := by
  funext j
  by_cases h : j = i
  · subst h; rw [setN_same, setN_same]
  · rw [setN_other _ _ h, setN_other _ _ h, setN_other _ _ h]
section
variable (w : World) (t : Nat) (p : Row) (most i : Nat) (g : Nat → Nat) (nd : Nat → Option Nod) (n : Nod)
end
end Go.Proofs.YtmfcfkomdflhlaaDoor
