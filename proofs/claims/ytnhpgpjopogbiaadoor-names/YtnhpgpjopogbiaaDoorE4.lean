/- plain.Code of an api.Fault, and of another error: its contracts. -/
import Derived.Test.YtnhpgpjopogbiaaDoorE3
namespace Go.Proofs.YtnhpgpjopogbiaaDoor
open Go Go.RowKit

set_option maxRecDepth 100000 in
set_option maxHeartbeats 2000000 in
/-- plain.Code of a *api.Fault that wraps the k-th error: k + 1, and its place. -/
theorem code_fault (A : Nat → Addr) (k : Nat) (hk : k < 15) (pb : Nat) (n : Int) (w : World) (h : Errs w A) (hp0 : w.cell? ⟨pb, 0, none⟩ = some (.int .i64 n)) (hp1 : w.cell? ⟨pb, 1, none⟩ = some (.iface 79 (.pointer (some (A k))))) :
    Calls Tryd.prog 10 #[.iface 30 (.pointer (some ⟨pb, 0, none⟩))] w fun e w' => e = .returned (.tuple #[.int .i64 ((k : Int) + 1), .int .i64 n]) ∧ Below w.heap.size w w' := by
  go_enter Tryd.func10, Tryd.ntmps10
  go_wp2_with fail
  refine (as_hit ⟨pb, 0, none⟩ ⟨w.heap.size, 0, none⟩ (.pointer none) _ ?_ ?_ ?_).mono ?_
  · rw [World.cell?_alloc_lt _ _ ⟨15, 0, none⟩ (lt_of_cell h.typ)]; exact h.typ
  · simp
  · simp
  rintro e w1 ⟨rfl, hb1⟩
  have hb2 : Below w.heap.size w w1 := (((Below.refl _ _).alloc (Nat.le_refl _) _).setCell (Nat.le_refl _) _).trans (hb1.mono (by simp))
  have hpl : pb < w.heap.size := lt_of_cell hp0
  have y0 : w1.cell? ⟨pb, 0, none⟩ = some (.int .i64 n) := (hb2.cell (p := ⟨pb, 0, none⟩) hpl).trans hp0
  have y1 : w1.cell? ⟨pb, 0 + 1, none⟩ = some (.iface 79 (.pointer (some (A k)))) := (hb2.cell (p := ⟨pb, 1, none⟩) hpl).trans hp1
  have y2 : w1.cell? ⟨w.heap.size, 0, none⟩ = some (.pointer (some ⟨pb, 0, none⟩)) := put_cell hb1 (u := .pointer none) (by simp)
  have h1 : Errs w1 A := h.below hb2 (Nat.le_refl _)
  have hcell := h1.cell
  have g0 : w1.cell? ⟨0, 0, none⟩ = some (.iface 79 (.pointer (some (A 0)))) := hcell 0 (by decide)
  have g1 : w1.cell? ⟨1, 0, none⟩ = some (.iface 79 (.pointer (some (A 1)))) := hcell 1 (by decide)
  have g2 : w1.cell? ⟨2, 0, none⟩ = some (.iface 79 (.pointer (some (A 2)))) := hcell 2 (by decide)
  have g3 : w1.cell? ⟨3, 0, none⟩ = some (.iface 79 (.pointer (some (A 3)))) := hcell 3 (by decide)
  have g4 : w1.cell? ⟨4, 0, none⟩ = some (.iface 79 (.pointer (some (A 4)))) := hcell 4 (by decide)
  have g5 : w1.cell? ⟨5, 0, none⟩ = some (.iface 79 (.pointer (some (A 5)))) := hcell 5 (by decide)
  have g6 : w1.cell? ⟨6, 0, none⟩ = some (.iface 79 (.pointer (some (A 6)))) := hcell 6 (by decide)
  have g7 : w1.cell? ⟨7, 0, none⟩ = some (.iface 79 (.pointer (some (A 7)))) := hcell 7 (by decide)
  have g8 : w1.cell? ⟨8, 0, none⟩ = some (.iface 79 (.pointer (some (A 8)))) := hcell 8 (by decide)
  have g9 : w1.cell? ⟨9, 0, none⟩ = some (.iface 79 (.pointer (some (A 9)))) := hcell 9 (by decide)
  have g10 : w1.cell? ⟨10, 0, none⟩ = some (.iface 79 (.pointer (some (A 10)))) := hcell 10 (by decide)
  have g11 : w1.cell? ⟨11, 0, none⟩ = some (.iface 79 (.pointer (some (A 11)))) := hcell 11 (by decide)
  have g12 : w1.cell? ⟨12, 0, none⟩ = some (.iface 79 (.pointer (some (A 12)))) := hcell 12 (by decide)
  have g13 : w1.cell? ⟨13, 0, none⟩ = some (.iface 79 (.pointer (some (A 13)))) := hcell 13 (by decide)
  have g14 : w1.cell? ⟨14, 0, none⟩ = some (.iface 79 (.pointer (some (A 14)))) := hcell 14 (by decide)
  clear hcell hb1
  have Hk : Hid (Errs w1 A) := h1
  clear h1 h
  go_wp2
  have hat := errs_at A w1
  have Hat : Hid _ := hat
  have y3 : ∀ o, (w1.alloc o).cell? ⟨pb, 0 + 1, none⟩ = some (.iface 79 (.pointer (some (A k)))) := fun o => (World.cell?_alloc_lt _ _ ⟨pb, 0 + 1, none⟩ (lt_of_cell y1)).trans y1
  have Y3 : Hid _ := y3
  clear y0 y1 y2 y3 hp0 hp1
  clear hat g0 g1 g2 g3 g4 g5 g6 g7 g8 g9 g10 g11 g12 g13 g14
  go_loop [3, 33] (fun pl i => ∃ j : Nat, j ≤ k ∧ i = .int .i64 j ∧ pl = .int .i64 n) (fun _ i => k + 1 - (intOf i).toNat)
  case atStart => exact ⟨0, Nat.zero_le _, rfl, rfl⟩
  case round =>
    obtain ⟨j, hj, rfl, rfl⟩ := hrel
    have hc := Hat.out j (by omega)
    have hE : Errs (w1.alloc (.cells #[.iface 79 (.pointer (some (A 0))), .iface 79 (.pointer (some (A 1))), .iface 79 (.pointer (some (A 2))), .iface 79 (.pointer (some (A 3))), .iface 79 (.pointer (some (A 4))), .iface 79 (.pointer (some (A 5))), .iface 79 (.pointer (some (A 6))), .iface 79 (.pointer (some (A 7))), .iface 79 (.pointer (some (A 8))), .iface 79 (.pointer (some (A 9))), .iface 79 (.pointer (some (A 10))), .iface 79 (.pointer (some (A 11))), .iface 79 (.pointer (some (A 12))), .iface 79 (.pointer (some (A 13))), .iface 79 (.pointer (some (A 14)))] 25)) A := Hk.out.below ((Below.refl _ _).alloc (Nat.le_refl _) _) (Nat.le_refl _)
    by_cases hjk : j = k
    · subst hjk
      clear hE
      go_wp2_with (go_at_call 40; refine (is_fault_same pb 0 (A j) _ (Y3.out _)).mono ?_; rintro e w2 ⟨rfl, rfl⟩)
      go_ret2
      exact ⟨rfl, hb2.alloc hb2.size _⟩
    · obtain ⟨ca, ta, ra⟩ := hE.row k hk
      obtain ⟨cb, tb, rb⟩ := hE.row j (by omega)
      have hne : A k ≠ A j := fun e => hjk (hE.inj j k (by omega) hk e.symm)
      clear hE
      have Ra : Hid _ := ra
      have Rb : Hid _ := rb
      clear ra rb
      go_wp2_with (go_at_call 40; refine (is_fault_other pb 0 (A j) (A k) ca cb ta tb _ (Y3.out _) hne Ra.out Rb.out).mono ?_; rintro e w2 ⟨rfl, rfl⟩)
      go_round
      case rel => exact ⟨j + 1, by omega, by go_num, rfl⟩
      case measure => simp [intOf]; omega
set_option maxRecDepth 100000 in
set_option maxHeartbeats 2000000 in
/-- plain.Code of another error of errors.New: -1, and no place. -/
theorem code_other (A : Nat → Addr) (a : Addr) (ca : Array Value) (ta : TypeId) (w : World) (h : Errs w A) (hra : w.heap[a.block]? = some (.cells ca ta (0, 0))) (hna : ∀ j, j < 15 → a ≠ A j) :
    Calls Tryd.prog 10 #[.iface 79 (.pointer (some a))] w fun e w' => e = .returned (.tuple #[.int .i64 (-1), .int .i64 (-1)]) ∧ Below w.heap.size w w' := by
  go_enter Tryd.func10, Tryd.ntmps10
  go_wp2_with fail
  refine (as_miss a ⟨w.heap.size, 0, none⟩ (.pointer none) _ ?_ ?_).mono ?_
  · rw [World.cell?_alloc_lt _ _ ⟨15, 0, none⟩ (lt_of_cell h.typ)]; exact h.typ
  · simp
  rintro e w1 ⟨rfl, hb1⟩
  have hb2 : Below w.heap.size w w1 := ((Below.refl _ _).alloc (Nat.le_refl _) _).trans (hb1.mono (by simp))
  have h1 : Errs w1 A := h.below hb2 (Nat.le_refl _)
  have hcell := h1.cell
  have g0 : w1.cell? ⟨0, 0, none⟩ = some (.iface 79 (.pointer (some (A 0)))) := hcell 0 (by decide)
  have g1 : w1.cell? ⟨1, 0, none⟩ = some (.iface 79 (.pointer (some (A 1)))) := hcell 1 (by decide)
  have g2 : w1.cell? ⟨2, 0, none⟩ = some (.iface 79 (.pointer (some (A 2)))) := hcell 2 (by decide)
  have g3 : w1.cell? ⟨3, 0, none⟩ = some (.iface 79 (.pointer (some (A 3)))) := hcell 3 (by decide)
  have g4 : w1.cell? ⟨4, 0, none⟩ = some (.iface 79 (.pointer (some (A 4)))) := hcell 4 (by decide)
  have g5 : w1.cell? ⟨5, 0, none⟩ = some (.iface 79 (.pointer (some (A 5)))) := hcell 5 (by decide)
  have g6 : w1.cell? ⟨6, 0, none⟩ = some (.iface 79 (.pointer (some (A 6)))) := hcell 6 (by decide)
  have g7 : w1.cell? ⟨7, 0, none⟩ = some (.iface 79 (.pointer (some (A 7)))) := hcell 7 (by decide)
  have g8 : w1.cell? ⟨8, 0, none⟩ = some (.iface 79 (.pointer (some (A 8)))) := hcell 8 (by decide)
  have g9 : w1.cell? ⟨9, 0, none⟩ = some (.iface 79 (.pointer (some (A 9)))) := hcell 9 (by decide)
  have g10 : w1.cell? ⟨10, 0, none⟩ = some (.iface 79 (.pointer (some (A 10)))) := hcell 10 (by decide)
  have g11 : w1.cell? ⟨11, 0, none⟩ = some (.iface 79 (.pointer (some (A 11)))) := hcell 11 (by decide)
  have g12 : w1.cell? ⟨12, 0, none⟩ = some (.iface 79 (.pointer (some (A 12)))) := hcell 12 (by decide)
  have g13 : w1.cell? ⟨13, 0, none⟩ = some (.iface 79 (.pointer (some (A 13)))) := hcell 13 (by decide)
  have g14 : w1.cell? ⟨14, 0, none⟩ = some (.iface 79 (.pointer (some (A 14)))) := hcell 14 (by decide)
  have ra1 : Hid (w1.heap[a.block]? = some (.cells ca ta (0, 0))) := (hb2.block _ (Array.getElem?_eq_some_iff.1 hra).1).trans hra
  clear hcell hb1 hra
  have Hk : Hid (Errs w1 A) := h1
  clear h1 h
  go_wp2
  have hat := errs_at A w1
  have Hat : Hid _ := hat
  clear hat g0 g1 g2 g3 g4 g5 g6 g7 g8 g9 g10 g11 g12 g13 g14
  go_loop [3, 33] (fun pl i => ∃ j : Nat, j ≤ 15 ∧ i = .int .i64 j ∧ pl = .int .i64 (-1)) (fun _ i => 15 - (intOf i).toNat)
  case atStart => exact ⟨0, Nat.zero_le _, rfl, rfl⟩
  case round =>
    obtain ⟨j, hj, rfl, rfl⟩ := hrel
    by_cases hjk : j < 15
    · have hc := Hat.out j hjk
      have hE : Errs (w1.alloc (.cells #[.iface 79 (.pointer (some (A 0))), .iface 79 (.pointer (some (A 1))), .iface 79 (.pointer (some (A 2))), .iface 79 (.pointer (some (A 3))), .iface 79 (.pointer (some (A 4))), .iface 79 (.pointer (some (A 5))), .iface 79 (.pointer (some (A 6))), .iface 79 (.pointer (some (A 7))), .iface 79 (.pointer (some (A 8))), .iface 79 (.pointer (some (A 9))), .iface 79 (.pointer (some (A 10))), .iface 79 (.pointer (some (A 11))), .iface 79 (.pointer (some (A 12))), .iface 79 (.pointer (some (A 13))), .iface 79 (.pointer (some (A 14)))] 25)) A := Hk.out.below ((Below.refl _ _).alloc (Nat.le_refl _) _) (Nat.le_refl _)
      obtain ⟨cb, tb, rb⟩ := hE.row j hjk
      have hne : a ≠ A j := hna j hjk
      have ra : Hid ((w1.alloc (.cells #[.iface 79 (.pointer (some (A 0))), .iface 79 (.pointer (some (A 1))), .iface 79 (.pointer (some (A 2))), .iface 79 (.pointer (some (A 3))), .iface 79 (.pointer (some (A 4))), .iface 79 (.pointer (some (A 5))), .iface 79 (.pointer (some (A 6))), .iface 79 (.pointer (some (A 7))), .iface 79 (.pointer (some (A 8))), .iface 79 (.pointer (some (A 9))), .iface 79 (.pointer (some (A 10))), .iface 79 (.pointer (some (A 11))), .iface 79 (.pointer (some (A 12))), .iface 79 (.pointer (some (A 13))), .iface 79 (.pointer (some (A 14)))] 25)).heap[a.block]? = some (.cells ca ta (0, 0))) := (((Below.refl w1.heap.size w1).alloc (Nat.le_refl _) _).block _ (Array.getElem?_eq_some_iff.1 ra1.out).1).trans ra1.out
      clear hE
      have Rb : Hid _ := rb
      clear rb
      go_wp2_with (go_at_call 40; refine (is_other a (A j) ca cb ta tb _ hne ra.out Rb.out).mono ?_; rintro e w2 ⟨rfl, rfl⟩)
      go_round
      case rel => exact ⟨j + 1, by omega, by go_num, rfl⟩
      case measure => simp [intOf]; omega
    · go_wp2
      go_ret2
      exact ⟨rfl, hb2.alloc hb2.size _⟩

end Go.Proofs.YtnhpgpjopogbiaaDoor
