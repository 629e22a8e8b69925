/- Package names: checkAll by its contract: the first of the texts that is no name, ahead of there being too many. -/
import Derived.Test.YtnhpgpjopogbiaaDoorS2
namespace Go.Proofs.YtnhpgpjopogbiaaDoor
open Go Go.RowKit Go.Deep

/-- An error in memory, as a number and a place. -/
def ErrIs (W : World) (A : Nat → Addr) (code place : Int) (v : Value) : Prop :=
  (code = 0 ∧ v = .nilIface) ∨ (∃ k : Nat, k < 15 ∧ code = (k : Int) + 1 ∧ place = -1 ∧ v = .iface 79 (.pointer (some (A k)))) ∨
  (∃ k pb : Nat, k < 15 ∧ code = (k : Int) + 1 ∧ v = .iface 30 (.pointer (some ⟨pb, 0, none⟩)) ∧ W.cell? ⟨pb, 0, none⟩ = some (.int .i64 place) ∧ W.cell? ⟨pb, 1, none⟩ = some (.iface 79 (.pointer (some (A k)))))
theorem ErrIs.below {W W' : World} {A : Nat → Addr} {code place : Int} {v : Value} {B : Nat} (h : ErrIs W A code place v) (hb : Below B W W') (hB : W.heap.size ≤ B) : ErrIs W' A code place v := by
  rcases h with h | h | ⟨k, pb, h1, h2, h3, h4, h5⟩
  · exact Or.inl h
  · exact Or.inr (Or.inl h)
  · exact Or.inr (Or.inr ⟨k, pb, h1, h2, h3, (hb.cell (p := ⟨pb, 0, none⟩) (Nat.lt_of_lt_of_le (lt_of_cell h4) hB)).trans h4, (hb.cell (p := ⟨pb, 1, none⟩) (Nat.lt_of_lt_of_le (lt_of_cell h5) hB)).trans h5⟩)

/-- What checkAll leaves. -/
def AllEnds (n : Nat) (T : Nat → ByteArray) (A : Nat → Addr) (w : World) (e : Ending) (w' : World) : Prop :=
  ∃ (code place : Int) (v : Value), PathIs n T code place ∧ ErrIs w' A code place v ∧ e = .returned v ∧ Below w.heap.size w w'

theorem checkAll_none (a : Option Addr) (c : Nat) (w : World) : Calls Tryd.prog 55 #[.slice a 0 c] w fun e w' => e = .returned .nilIface ∧ w = w' := by
  go_enter Tryd.func55, Tryd.ntmps55
  go_wp2
  refine wp_loop_rounds 1 ?_
  rw [rounds_succ]
  go_wp2
  go_ret
  exact ⟨rfl, rfl⟩

set_option maxHeartbeats 1000000 in
theorem checkAll_some (ab ao c n : Nat) (T : Nat → ByteArray) (A : Nat → Addr) (w : World) (hE : Errs w A) (hc : ∀ i, i < n → w.cell? ⟨ab, ao + i, none⟩ = some (.string (T i))) (hn : n ≤ 1000000) :
    Calls Tryd.prog 55 #[.slice (some ⟨ab, ao, none⟩) n c] w (AllEnds n T A w) := by
  have HE : Hid _ := hE
  have HC : Hid _ := hc
  clear hc hE
  go_enter Tryd.func55, Tryd.ntmps55
  go_wp2
  go_loopw [7] (fun i wr => ∃ j : Nat, j ≤ n ∧ i = .int .i64 j ∧ (∀ k, k < j → OkN (T k)) ∧ Below w.heap.size w wr) (fun i _ => n - (intOf i).toNat)
  case atStart => exact ⟨0, Nat.zero_le _, rfl, fun k h => absurd h (Nat.not_lt_zero _), Below.refl _ _⟩
  case round =>
    obtain ⟨j, hj, rfl, hall, hbr⟩ := hrel
    have HA : Hid _ := hall
    have HB : Hid _ := hbr
    clear hall hbr
    by_cases hlt : j < n
    · have c0 := HC.out j hlt
      have lt0 : ab < w.heap.size := lt_of_cell c0
      have c1 : wr.cell? ⟨ab, ao + j, none⟩ = some (.string (T j)) := (HB.out.cell (p := ⟨ab, ao + j, none⟩) lt0).trans c0
      clear c0 lt0
      go_wp2_with fail
      refine (isName_any (T j) _).mono ?_
      rintro e w1 ⟨⟨hok, rfl⟩ | ⟨hno, rfl⟩, hb1⟩
      · have HN : Hid (∀ k, k < j + 1 → OkN (T k)) := fun k hk => by
          rcases Nat.lt_or_ge k j with h1 | h1
          · exact HA.out k h1
          · obtain rfl : k = j := by omega
            exact hok
        have HB1 : Hid (Below w.heap.size w w1) := HB.out.trans (hb1.mono HB.out.size)
        clear hok hb1 c1
        go_wp2
        go_round
        case rel => exact ⟨j + 1, by omega, by go_num, HN.out, HB1.out⟩
        case measure => simp [intOf]; omega
      · have HP : Hid (PathIs n T 4 (j : Int)) := Or.inl ⟨j, hlt, hno, HA.out, rfl, rfl⟩
        have HB1 : Hid (Below w.heap.size w w1) := HB.out.trans (hb1.mono HB.out.size)
        have hcell : w1.cell? ⟨3, 0, none⟩ = some (.iface 79 (.pointer (some (A 3)))) := ((HE.out.below HB1.out (Nat.le_refl _)).cell 3 (by decide))
        clear hno HA hb1 c1
        go_wp2
        go_ret
        exact ⟨4, j, _, HP.out, Or.inr (Or.inr ⟨3, w1.heap.size, by decide, rfl, rfl, by simp, by simp⟩), rfl, HB1.out.alloc HB1.out.size _⟩
    · have HK : Hid (∀ k, k < n → OkN (T k)) := fun k hk => HA.out k (by omega)
      clear HA
      by_cases h12 : 12 < n
      · have HP : Hid (PathIs n T 2 (-1)) := Or.inr (Or.inl ⟨HK.out, h12, rfl, rfl⟩)
        have hcell : wr.cell? ⟨1, 0, none⟩ = some (.iface 79 (.pointer (some (A 1)))) := ((HE.out.below HB.out (Nat.le_refl _)).cell 1 (by decide))
        go_wp2
        go_ret
        exact ⟨2, -1, _, HP.out, Or.inr (Or.inl ⟨1, by decide, rfl, rfl, rfl⟩), rfl, HB.out⟩
      · have HP : Hid (PathIs n T 0 (-1)) := Or.inr (Or.inr ⟨HK.out, by omega, rfl, rfl⟩)
        go_wp2
        go_ret
        exact ⟨0, -1, _, HP.out, Or.inl ⟨rfl, rfl⟩, rfl, HB.out⟩

theorem checkAll_any (a : Option Addr) (c n : Nat) (T : Nat → ByteArray) (A : Nat → Addr) (w : World) (hE : Errs w A) (h : TextsIn w a n T) (hn : n ≤ 1000000) :
    Calls Tryd.prog 55 #[.slice a n c] w (AllEnds n T A w) := by
  rcases h with rfl | ⟨ab, ao, rfl, h⟩
  · exact (checkAll_none a c w).mono fun e w' h => ⟨0, -1, .nilIface, Or.inr (Or.inr ⟨fun k hk => absurd hk (Nat.not_lt_zero _), by omega, rfl, rfl⟩), Or.inl ⟨rfl, rfl⟩, h.1, h.2 ▸ Below.refl _ _⟩
  · exact checkAll_some ab ao c n T A w hE h hn
end Go.Proofs.YtnhpgpjopogbiaaDoor
