/- The errors of package api: where they lie; plain.Code and coded by their contracts. -/
import Derived.Test.YtmfcfkomdflhlaaDoorE2
import Derived.Test.YtmfcfkomdflhlaaDoorL1
import Derived.Deep.OwnRows
namespace Go.Proofs.YtmfcfkomdflhlaaDoor
open Go Go.RowKit

/-- The fifteen errors' variables and texts, in the order of their numbers. -/
def errNames : List (String × List UInt8) := [("pigeonholes/api.ErrText", [112, 105, 103, 101, 111, 110, 104, 111, 108, 101, 115, 58, 32, 116, 101, 120, 116]), ("pigeonholes/api.ErrBound", [112, 105, 103, 101, 111, 110, 104, 111, 108, 101, 115, 58, 32, 98, 111, 117, 110, 100]), ("pigeonholes/api.ErrShape", [112, 105, 103, 101, 111, 110, 104, 111, 108, 101, 115, 58, 32, 115, 104, 97, 112, 101]), ("pigeonholes/api.ErrName", [112, 105, 103, 101, 111, 110, 104, 111, 108, 101, 115, 58, 32, 110, 97, 109, 101]), ("pigeonholes/api.ErrNone", [112, 105, 103, 101, 111, 110, 104, 111, 108, 101, 115, 58, 32, 110, 111, 110, 101]), ("pigeonholes/api.ErrExist", [112, 105, 103, 101, 111, 110, 104, 111, 108, 101, 115, 58, 32, 101, 120, 105, 115, 116]), ("pigeonholes/api.ErrDir", [112, 105, 103, 101, 111, 110, 104, 111, 108, 101, 115, 58, 32, 100, 105, 114]), ("pigeonholes/api.ErrFile", [112, 105, 103, 101, 111, 110, 104, 111, 108, 101, 115, 58, 32, 102, 105, 108, 101]), ("pigeonholes/api.ErrFull", [112, 105, 103, 101, 111, 110, 104, 111, 108, 101, 115, 58, 32, 102, 117, 108, 108]), ("pigeonholes/api.ErrStale", [112, 105, 103, 101, 111, 110, 104, 111, 108, 101, 115, 58, 32, 115, 116, 97, 108, 101]), ("pigeonholes/api.ErrHeld", [112, 105, 103, 101, 111, 110, 104, 111, 108, 101, 115, 58, 32, 104, 101, 108, 100]), ("pigeonholes/api.ErrSeq", [112, 105, 103, 101, 111, 110, 104, 111, 108, 101, 115, 58, 32, 115, 101, 113]), ("pigeonholes/api.ErrOld", [112, 105, 103, 101, 111, 110, 104, 111, 108, 101, 115, 58, 32, 111, 108, 100]), ("pigeonholes/api.ErrGrace", [112, 105, 103, 101, 111, 110, 104, 111, 108, 101, 115, 58, 32, 103, 114, 97, 99, 101]), ("pigeonholes/api.ErrPower", [112, 105, 103, 101, 111, 110, 104, 111, 108, 101, 115, 58, 32, 112, 111, 119, 101, 114])]
def errGs : List Nat := [3, 4, 0, 2, 5, 6, 7, 8, 1, 9, 10, 11, 12, 13, 14]
def gOf (k : Nat) : Nat := errGs.getD k 0

/-- The fifteen errors lie in memory, each a pointer of its own; and the type 'error' is known to errors.As. -/
structure Errs (W : World) (A : Nat → Addr) : Prop where
  cell : ∀ k, k < 15 → W.cell? ⟨gOf k, 0, none⟩ = some (.iface 171 (.pointer (some (A k))))
  inj : ∀ i j, i < 15 → j < 15 → A i = A j → i = j
  row : ∀ k, k < 15 → ∃ c t, W.heap[(A k).block]? = some (.cells c t (0, 0))
  text : ∀ k, k < 15 → ∃ s : ByteArray, W.cell? (A k) = some (.string s) ∧ s.data.toList = (errNames.getD k ("", [])).2
  typ : W.cell? ⟨15, 0, none⟩ = some (.iface 134 (.agg #[.pointer (some ⟨17, 25, none⟩)]))

theorem Errs.below {W W' : World} {A : Nat → Addr} {B : Nat} (h : Errs W A) (hb : Below B W W') (hB : W.heap.size ≤ B) : Errs W' A := by
  refine ⟨fun k hk => ?_, h.inj, fun k hk => ?_, fun k hk => ?_, ?_⟩
  · have := h.cell k hk
    exact (hb.cell (p := ⟨gOf k, 0, none⟩) (Nat.lt_of_lt_of_le (lt_of_cell this) hB)).trans this
  · obtain ⟨c, t, e⟩ := h.row k hk
    exact ⟨c, t, (hb.block _ (Nat.lt_of_lt_of_le (Array.getElem?_eq_some_iff.1 e).1 hB)).trans e⟩
  · obtain ⟨s, e, e2⟩ := h.text k hk
    exact ⟨s, (hb.cell (Nat.lt_of_lt_of_le (lt_of_cell e) hB)).trans e, e2⟩
  · exact (hb.cell (p := ⟨15, 0, none⟩) (Nat.lt_of_lt_of_le (lt_of_cell h.typ) hB)).trans h.typ

/-- The list of errors that Code goes over, as it lies in its own new memory. -/
theorem errs_at (A : Nat → Addr) (w : World) (j : Nat) (hj : j < 15) : (w.alloc (.cells #[.iface 171 (.pointer (some (A 0))), .iface 171 (.pointer (some (A 1))), .iface 171 (.pointer (some (A 2))), .iface 171 (.pointer (some (A 3))), .iface 171 (.pointer (some (A 4))), .iface 171 (.pointer (some (A 5))), .iface 171 (.pointer (some (A 6))), .iface 171 (.pointer (some (A 7))), .iface 171 (.pointer (some (A 8))), .iface 171 (.pointer (some (A 9))), .iface 171 (.pointer (some (A 10))), .iface 171 (.pointer (some (A 11))), .iface 171 (.pointer (some (A 12))), .iface 171 (.pointer (some (A 13))), .iface 171 (.pointer (some (A 14)))] 25)).cell? ⟨w.heap.size, j, none⟩ = some (.iface 171 (.pointer (some (A j)))) := by
  rw [World.cell?_alloc_new]
  match j, hj with
  | 0, _ => rfl
  | 1, _ => rfl
  | 2, _ => rfl
  | 3, _ => rfl
  | 4, _ => rfl
  | 5, _ => rfl
  | 6, _ => rfl
  | 7, _ => rfl
  | 8, _ => rfl
  | 9, _ => rfl
  | 10, _ => rfl
  | 11, _ => rfl
  | 12, _ => rfl
  | 13, _ => rfl
  | 14, _ => rfl

set_option maxRecDepth 100000 in
set_option maxHeartbeats 2000000 in
/-- plain.Code of the k-th error: k + 1, and no place. -/
theorem code_err (A : Nat → Addr) (k : Nat) (hk : k < 15) (w : World) (h : Errs w A) :
    Calls Tryd.prog 12 #[.iface 171 (.pointer (some (A k)))] w fun e w' => e = .returned (.tuple #[.int .i64 ((k : Int) + 1), .int .i64 (-1)]) ∧ Below w.heap.size w w' := by
  go_enter Tryd.func12, Tryd.ntmps12
  go_wp2_with fail
  refine (as_miss (A k) ⟨w.heap.size, 0, none⟩ (.pointer none) _ ?_ ?_).mono ?_
  · rw [World.cell?_alloc_lt _ _ ⟨15, 0, none⟩ (lt_of_cell h.typ)]; exact h.typ
  · simp
  rintro e w1 ⟨rfl, hb1⟩
  have hb2 : Below w.heap.size w w1 := ((Below.refl _ _).alloc (Nat.le_refl _) _).trans (hb1.mono (by simp))
  have h1 : Errs w1 A := h.below hb2 (Nat.le_refl _)
  have hcell := h1.cell
  have g0 : w1.cell? ⟨3, 0, none⟩ = some (.iface 171 (.pointer (some (A 0)))) := hcell 0 (by decide)
  have g1 : w1.cell? ⟨4, 0, none⟩ = some (.iface 171 (.pointer (some (A 1)))) := hcell 1 (by decide)
  have g2 : w1.cell? ⟨0, 0, none⟩ = some (.iface 171 (.pointer (some (A 2)))) := hcell 2 (by decide)
  have g3 : w1.cell? ⟨2, 0, none⟩ = some (.iface 171 (.pointer (some (A 3)))) := hcell 3 (by decide)
  have g4 : w1.cell? ⟨5, 0, none⟩ = some (.iface 171 (.pointer (some (A 4)))) := hcell 4 (by decide)
  have g5 : w1.cell? ⟨6, 0, none⟩ = some (.iface 171 (.pointer (some (A 5)))) := hcell 5 (by decide)
  have g6 : w1.cell? ⟨7, 0, none⟩ = some (.iface 171 (.pointer (some (A 6)))) := hcell 6 (by decide)
  have g7 : w1.cell? ⟨8, 0, none⟩ = some (.iface 171 (.pointer (some (A 7)))) := hcell 7 (by decide)
  have g8 : w1.cell? ⟨1, 0, none⟩ = some (.iface 171 (.pointer (some (A 8)))) := hcell 8 (by decide)
  have g9 : w1.cell? ⟨9, 0, none⟩ = some (.iface 171 (.pointer (some (A 9)))) := hcell 9 (by decide)
  have g10 : w1.cell? ⟨10, 0, none⟩ = some (.iface 171 (.pointer (some (A 10)))) := hcell 10 (by decide)
  have g11 : w1.cell? ⟨11, 0, none⟩ = some (.iface 171 (.pointer (some (A 11)))) := hcell 11 (by decide)
  have g12 : w1.cell? ⟨12, 0, none⟩ = some (.iface 171 (.pointer (some (A 12)))) := hcell 12 (by decide)
  have g13 : w1.cell? ⟨13, 0, none⟩ = some (.iface 171 (.pointer (some (A 13)))) := hcell 13 (by decide)
  have g14 : w1.cell? ⟨14, 0, none⟩ = some (.iface 171 (.pointer (some (A 14)))) := hcell 14 (by decide)
  clear hcell hb1
  have Hk : Hid (Errs w1 A) := h1
  clear h1 h
  go_wp2
  have hat := errs_at A w1
  have Hat : Hid _ := hat
  clear hat g0 g1 g2 g3 g4 g5 g6 g7 g8 g9 g10 g11 g12 g13 g14
  go_loop [3, 33] (fun pl i => ∃ j : Nat, j ≤ k ∧ i = .int .i64 j ∧ pl = .int .i64 (-1)) (fun _ i => k + 1 - (intOf i).toNat)
  case atStart => exact ⟨0, Nat.zero_le _, rfl, rfl⟩
  case round =>
    obtain ⟨j, hj, rfl, rfl⟩ := hrel
    have hc := Hat.out j (by omega)
    have hE : Errs (w1.alloc (.cells #[.iface 171 (.pointer (some (A 0))), .iface 171 (.pointer (some (A 1))), .iface 171 (.pointer (some (A 2))), .iface 171 (.pointer (some (A 3))), .iface 171 (.pointer (some (A 4))), .iface 171 (.pointer (some (A 5))), .iface 171 (.pointer (some (A 6))), .iface 171 (.pointer (some (A 7))), .iface 171 (.pointer (some (A 8))), .iface 171 (.pointer (some (A 9))), .iface 171 (.pointer (some (A 10))), .iface 171 (.pointer (some (A 11))), .iface 171 (.pointer (some (A 12))), .iface 171 (.pointer (some (A 13))), .iface 171 (.pointer (some (A 14)))] 25)) A := Hk.out.below ((Below.refl _ _).alloc (Nat.le_refl _) _) (Nat.le_refl _)
    by_cases hjk : j = k
    · subst hjk
      clear hE
      go_wp2_with (go_at_call 21; refine (is_same (A j) _).mono ?_; rintro e w2 ⟨rfl, rfl⟩)
      go_ret2
      exact ⟨rfl, hb2.alloc hb2.size _⟩
    · obtain ⟨ca, ta, ra⟩ := hE.row k hk
      obtain ⟨cb, tb, rb⟩ := hE.row j (by omega)
      have hne : A k ≠ A j := fun e => hjk (hE.inj j k (by omega) hk e.symm)
      clear hE
      have Ra : Hid _ := ra
      have Rb : Hid _ := rb
      clear ra rb
      go_wp2_with (go_at_call 21; refine (is_other (A k) (A j) ca cb ta tb _ hne Ra.out Rb.out).mono ?_; rintro e w2 ⟨rfl, rfl⟩)
      go_round
      case rel => exact ⟨j + 1, by omega, by go_num, rfl⟩
      case measure => simp [intOf]; omega

theorem code_nil (w : World) : Calls Tryd.prog 12 #[.nilIface] w fun e w' => e = .returned (.tuple #[.int .i64 0, .int .i64 (-1)]) ∧ w = w' := by
  go_enter Tryd.func12, Tryd.ntmps12
  go_wp2
  go_ret2
  exact ⟨rfl, rfl⟩
end Go.Proofs.YtmfcfkomdflhlaaDoor
