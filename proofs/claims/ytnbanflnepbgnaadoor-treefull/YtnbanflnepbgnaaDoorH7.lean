/- Nodes: Attr, Data: what is asked of a table. -/
import Derived.Test.YtnbanflnepbgnaaDoorH6
import Derived.Test.YtnbanflnepbgnaaDoorP1
namespace Go.Proofs.YtnbanflnepbgnaaDoor
open Go Go.RowKit Go.Deep Go.Maps

section
variable (w : World) (t : Nat) (p : Row) (most : Nat) (g : Nat → Nat) (nd : Nat → Option Nod)
theorem find_no (N G : Int) (E : Value) (h : TabAt w t p most g nd) (hE : w.cell? ⟨9, 0, none⟩ = some E) (hs : Stale0 g nd N G) (w1 : World) (ho : Only [] w w1) :
    Calls Tryd.prog 36 #[.pointer (some ⟨t, 0, none⟩), .agg #[.int .i64 N, .int .i64 G]] w1 fun e w' => e = .returned (.tuple #[.pointer none, E]) ∧ Only [] w1 w' :=
  find_stale w1 t p most g nd N G E (h.kept ho (fun _ _ => by simp)) ((ho.cell (p := ⟨9, 0, none⟩) (lt_of_cell hE) (by simp)).trans hE) hs
theorem find_yes (i : Nat) (n : Nod) (h : TabAt w t p most g nd) (hn : nd i = some n) (w1 : World) (ho : Only [] w w1) :
    Calls Tryd.prog 36 #[.pointer (some ⟨t, 0, none⟩), .agg #[.int .i64 i, .int .i64 (g i : Nat)]] w1 fun e w' => e = .returned (.tuple #[.pointer (some ⟨n.b, 0, none⟩), .nilIface]) ∧ Only [] w1 w' :=
  find_ok w1 t p most i g nd n (h.kept ho (fun _ _ => by simp)) hn
end
theorem own_six {w w2 : World} {B : Nat} {a b c d e f : Value} {ty : TypeId} (h : Only [] (w.alloc (.cells #[a, b, c, d, e, f] ty)) w2) (hB : w.heap.size = B) :
    w2.cell? ⟨B, 0, none⟩ = some a ∧ w2.cell? ⟨B, 1, none⟩ = some b ∧ w2.cell? ⟨B, 2, none⟩ = some c ∧ w2.cell? ⟨B, 3, none⟩ = some d ∧ w2.cell? ⟨B, 4, none⟩ = some e ∧ w2.cell? ⟨B, 5, none⟩ = some f ∧ (∀ o, w2.frozen? ⟨B, o, none⟩ = false) ∧ B < w2.heap.size := by
  subst hB
  have hh := heap_alloc_last w (.cells #[a, b, c, d, e, f] ty)
  have hlt : w.heap.size < (w.alloc (.cells #[a, b, c, d, e, f] ty)).heap.size := by simp
  refine ⟨(h.cell (p := ⟨w.heap.size, 0, none⟩) hlt (by simp)).trans (cell_of_row _ _ 0 _ _ _ hh), (h.cell (p := ⟨w.heap.size, 1, none⟩) hlt (by simp)).trans (cell_of_row _ _ 1 _ _ _ hh), (h.cell (p := ⟨w.heap.size, 2, none⟩) hlt (by simp)).trans (cell_of_row _ _ 2 _ _ _ hh),
    (h.cell (p := ⟨w.heap.size, 3, none⟩) hlt (by simp)).trans (cell_of_row _ _ 3 _ _ _ hh), (h.cell (p := ⟨w.heap.size, 4, none⟩) hlt (by simp)).trans (cell_of_row _ _ 4 _ _ _ hh), (h.cell (p := ⟨w.heap.size, 5, none⟩) hlt (by simp)).trans (cell_of_row _ _ 5 _ _ _ hh), fun o => ?_, Nat.lt_of_lt_of_le hlt h.size⟩
  rw [h.frozen (p := ⟨w.heap.size, o, none⟩) hlt (by simp)]
  unfold World.frozen?
  rw [hh]
  simp
theorem own_pairB {w w2 : World} {B : Nat} {a b : Int} {ty : TypeId} (h : Only [] (w.alloc (.cells #[.int .i64 a, .int .i64 b] ty)) w2) (hB : w.heap.size = B) :
    w2.cell? ⟨B, 0, none⟩ = some (.int .i64 a) ∧ w2.cell? ⟨B, 1, none⟩ = some (.int .i64 b) ∧ (∀ o, w2.frozen? ⟨B, o, none⟩ = false) ∧ B < w2.heap.size := by
  subst hB
  exact own_pair h
/-- What is told of a node. -/
def attrV (K Z L C UN UG : Int) : Value := .agg #[.int .i64 K, .int .i64 Z, .int .i64 L, .int .i64 C, .int .i64 UN, .int .i64 UG]
/-- An error, as a value. -/
def errV (a : Addr) : Value := .iface 123 (.pointer (some a))
set_option maxHeartbeats 1000000 in
theorem tattr_stale (w : World) (t : Nat) (p : Row) (most : Nat) (g : Nat → Nat) (nd : Nat → Option Nod) (N G : Int) (ad : Addr) (h : TabAt w t p most g nd) (hE : w.cell? ⟨9, 0, none⟩ = some (errV ad)) (hs : Stale0 g nd N G) :
    Calls Tryd.prog 24 #[.pointer (some ⟨t, 0, none⟩), .agg #[.int .i64 N, .int .i64 G]] w fun e w' => e = .returned (.tuple #[attrV 0 0 0 0 0 0, errV ad]) ∧ Only [] w w' := by
  have HC : Hid (∀ w1, Only [] w w1 → _) := find_no w t p most g nd N G (errV ad) h hE hs
  clear h hE hs
  unfold errV at HC ⊢
  go_enter Tryd.func24, Tryd.ntmps24
  go_wp2_with (go_at_call 36; go_must (refine (HC.out _ (((Only.refl _ _).alloc _).alloc _)).mono ?_); rintro e w2 ⟨rfl, ho2⟩; have HO : Hid (Only [] w w2) := (((Only.refl _ _).alloc _).alloc _).trans ho2 (fun _ hk => by cases hk); obtain ⟨r0, r1, r2, r3, r4, r5, f0, hl0⟩ := own_six (B := w.heap.size + 1) ho2 (by simp))
  have hle : w.heap.size ≤ w.heap.size + 1 := Nat.le_succ _
  refine bodyPost_ret (v := .tuple #[attrV 0 0 0 0 0 0, .iface 123 (.pointer (some ad))]) (by simp [results, Tryd.results24, go_sem, r0, r1, r2, r3, r4, r5, attrV]) rfl ⟨rfl, ?_⟩
  exact (((((HO.out.setCell (Or.inr hle) _).setCell (Or.inr hle) _).setCell (Or.inr hle) _).setCell (Or.inr hle) _).setCell (Or.inr hle) _).setCell (Or.inr hle) _
set_option maxHeartbeats 1000000 in
theorem tattr_ok (w : World) (t : Nat) (p : Row) (most i : Nat) (g : Nat → Nat) (nd : Nat → Option Nod) (n : Nod) (z : Int) (h : TabAt w t p most g nd) (hn : nd i = some n) (hz : n.K = 1 ∧ z = (n.S.size : Int) ∨ n.K = 2 ∧ z = n.Z) :
    Calls Tryd.prog 24 #[.pointer (some ⟨t, 0, none⟩), .agg #[.int .i64 i, .int .i64 (g i : Nat)]] w fun e w' => e = .returned (.tuple #[attrV n.K z n.L n.C n.UN n.UG, .nilIface]) ∧ Only [] w w' := by
  have HC : Hid (∀ w1, Only [] w w1 → _) := find_yes w t p most g nd i n h hn
  have hN := h.node i n hn
  have HN : Hid (NodAt w n) := hN
  have hbl : n.b < w.heap.size := lt_of_cell hN.c0
  clear h hn hN
  obtain ⟨nb, K, Z, L, C, UN, UG, S, H, m⟩ := n
  simp only at HC hbl hz ⊢
  have hle : w.heap.size ≤ w.heap.size + 1 := Nat.le_succ _
  rcases hz with ⟨rfl, hz⟩ | ⟨rfl, hz⟩
  all_goals rw [hz]
  all_goals clear hz
  · go_enter Tryd.func24, Tryd.ntmps24
    go_wp2_with (first
      | (go_at_call 36; go_must (refine (HC.out _ (((Only.refl _ _).alloc _).alloc _)).mono ?_); rintro e w2 ⟨rfl, ho2⟩; have HO : Hid (Only [] w w2) := (((Only.refl _ _).alloc _).alloc _).trans ho2 (fun _ hk => by cases hk); obtain ⟨r0, r1, r2, r3, r4, r5, f0, hl0⟩ := own_six (B := w.heap.size + 1) ho2 (by simp); have HN2 : Hid (NodAt w2 ⟨nb, 1, Z, L, C, UN, UG, S, H, m⟩) := HN.out.kept HO.out (fun _ _ => by simp); obtain ⟨c0, c1, c2, c3, c4, c5, _⟩ := HN2.out; have hb2 : nb < w2.heap.size := lt_of_cell c0)
      | (go_at_call 37; go_must (refine (dsizeO _ nb 6 S H m (HN2.out.d.kept ((Only.refl [] _).alloc _) (fun _ _ => by simp))).mono ?_); rintro e w3 ⟨rfl, rfl⟩)
      | go_in)
    refine bodyPost_ret (v := .tuple #[attrV 1 (S.size : Nat) L C UN UG, .nilIface]) (by simp [results, Tryd.results24, go_sem, r0, r1, r2, r3, r4, r5, hl0, attrV]) rfl ⟨rfl, ?_⟩
    exact ((((((HO.out.setCell (Or.inr hle) _).setCell (Or.inr hle) _).setCell (Or.inr hle) _).setCell (Or.inr hle) _).setCell (Or.inr hle) _).setCell (Or.inr hle) _).alloc _
  · go_enter Tryd.func24, Tryd.ntmps24
    go_wp2_with (first
      | (go_at_call 36; go_must (refine (HC.out _ (((Only.refl _ _).alloc _).alloc _)).mono ?_); rintro e w2 ⟨rfl, ho2⟩; have HO : Hid (Only [] w w2) := (((Only.refl _ _).alloc _).alloc _).trans ho2 (fun _ hk => by cases hk); obtain ⟨r0, r1, r2, r3, r4, r5, f0, hl0⟩ := own_six (B := w.heap.size + 1) ho2 (by simp); have HN2 : Hid (NodAt w2 ⟨nb, 2, Z, L, C, UN, UG, S, H, m⟩) := HN.out.kept HO.out (fun _ _ => by simp); obtain ⟨c0, c1, c2, c3, c4, c5, _⟩ := HN2.out; have hb2 : nb < w2.heap.size := lt_of_cell c0)
      | go_in)
    refine bodyPost_ret (v := .tuple #[attrV 2 Z L C UN UG, .nilIface]) (by simp [results, Tryd.results24, go_sem, r0, r1, r2, r3, r4, r5, hl0, attrV]) rfl ⟨rfl, ?_⟩
    exact ((((((HO.out.setCell (Or.inr hle) _).setCell (Or.inr hle) _).setCell (Or.inr hle) _).setCell (Or.inr hle) _).setCell (Or.inr hle) _).setCell (Or.inr hle) _).alloc _
end Go.Proofs.YtnbanflnepbgnaaDoor
