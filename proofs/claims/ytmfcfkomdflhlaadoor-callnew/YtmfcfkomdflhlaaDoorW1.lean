/- The writer's small functions: their contracts. -/
import Derived.Test.YtmfcfkomdflhlaaDoorProg
import Derived.Test.YtmfcfkomdflhlaaDoorMath
import Derived.WalkKit
import Derived.Deep.OwnRows
import Derived.Laws.IdiomStrings
import Derived.WalkSpells
namespace Go.Proofs.YtmfcfkomdflhlaaDoor
open Go Go.RowKit Go.Deep

theorem Tryd.info5 : (Tryd.prog.info? 5).map (fun i => (i.zero, i.size, i.bytes)) = some (some (.int .u8 0), 1, 1) := by kernel_rfl

/-- Byte number x (of k) of n, the highest first. -/
def dig (n k x : Nat) : Int := ((n / 256 ^ (k - 1 - x) % 256 : Nat) : Int)

theorem dig_at (n k j : Nat) (h : j < k) : (n : Int) / 2 ^ (8 * j) % 256 = dig n k (k - 1 - j) := by
  unfold dig
  have e : k - 1 - (k - 1 - j) = j := by omega
  rw [e, show (256 : Nat) ^ j = 2 ^ (8 * j) by rw [Nat.pow_mul]]
  simp
theorem dig_be (n k x : Nat) (h : x < (be k n).length) : dig n k x = (((be k n)[x].toNat : Nat) : Int) := by
  rw [be_get]; rfl

theorem addr_head (b x : Nat) : (⟨b, 0, none⟩ : Addr).add x = ⟨b, x, none⟩ := by
  by_cases h : x = 0 <;> simp [Addr.add, h]

/-- What a round does to the row of bytes. -/
theorem row_step {wr : World} {b k j n : Nat} {t : TypeId} (hlt : j < k) (h : wr.rowIs b t k (fun x => if x + j < k then .int .u8 0 else .int .u8 (dig n k x))) :
    (wr.setCell ⟨b, k - 1 - j, none⟩ (.int .u8 ((n : Int) / 2 ^ (8 * j) % 256))).rowIs b t k (fun x => if x + (j + 1) < k then .int .u8 0 else .int .u8 (dig n k x)) := by
  refine (h.set (k - 1 - j) _).congr fun i hi => ?_
  show (if i = k - 1 - j then _ else if i + j < k then _ else _) = (if i + (j + 1) < k then _ else _)
  by_cases e : i = k - 1 - j
  · subst e
    rw [if_pos rfl, if_neg (by omega), dig_at n k j hlt]
  · rw [if_neg e]
    by_cases e2 : i + (j + 1) < k
    · rw [if_pos e2, if_pos (by omega)]
    · rw [if_neg e2, if_neg (by omega)]

set_option maxHeartbeats 400000 in
theorem digits_any (n k : Nat) (w : World) (_hn : n < 9223372036854775808) (hk : k ≤ 8) :
    Calls Tryd.prog 30 #[.int .i64 n, .int .i64 k] w fun e w' => e = .returned (.string (bs (be k n))) ∧ Below w.heap.size w w' := by
  have hmk := run_make_row' (P := Tryd.prog) 131 5 (.int .u8 0) 1 Tryd.underlying131 Tryd.info5 rfl .i64 .i64 k (by omega) (by omega)
  go_enter Tryd.func30, Tryd.ntmps30
  go_wp2
  go_loopw [10] (fun i wr => ∃ j : Nat, j ≤ k ∧ i = .int .i64 j ∧ wr.rowIs w.heap.size 5 k (fun x => if x + j < k then .int .u8 0 else .int .u8 (dig n k x)) ∧ Below w.heap.size w wr) (fun i _ => k - (intOf i).toNat)
  case atStart => exact ⟨0, Nat.zero_le _, rfl, (World.rowIs_made w (.int .u8 0) k 5).congr (fun i hi => by simp [hi]), (Below.refl _ _).alloc (Nat.le_refl _) _⟩
  case round =>
    obtain ⟨j, hj, rfl, hrow, hb⟩ := hrel
    by_cases hlt : j < k
    · have hc := hrow.cell (i := k - 1 - j) (by omega)
      have hf := hrow.frozen (k - 1 - j)
      have R := row_step hlt hrow
      go_wp2
      go_roundw
      case rel => exact ⟨j + 1, by omega, by go_num, R, hb.setCell (Nat.le_refl _) _⟩
      case measure => simp [intOf]; omega
    · have hcv := run_convert_bytes_back (P := Tryd.prog) wr 131 9 5 ⟨w.heap.size, 0, none⟩ k (be k n) Tryd.underlying131 Tryd.underlying5 Tryd.underlying9 (fun x hx => by
        have hx' : x < k := by simpa [be_length] using hx
        have := hrow.cell hx'
        rw [← dig_be]
        rw [addr_head]
        simpa [show ¬ x + j < k by omega] using this)
      rw [be_length] at hcv
      go_wp2
      go_ret
      exact ⟨rfl, hb⟩
end Go.Proofs.YtmfcfkomdflhlaaDoor
