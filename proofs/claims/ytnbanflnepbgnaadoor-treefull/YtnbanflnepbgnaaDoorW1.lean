/- The writer's small functions: their contracts. -/
import Derived.Test.YtnbanflnepbgnaaDoorProg
import Derived.Test.YtnbanflnepbgnaaDoorMath
import Derived.WalkKit
import Derived.Deep.OwnRows
import Derived.Laws.IdiomStrings
import Derived.WalkSpells
namespace Go.Proofs.YtnbanflnepbgnaaDoor
open Go Go.RowKit Go.Deep

theorem Tryd.info5 : (Tryd.prog.info? 5).map (fun i => (i.zero, i.size, i.bytes)) = some (some (.int .u8 0), 1, 1) := by kernel_rfl

/-- Byte number x (of k) of n, the highest first. -/
def dig (n k x : Nat) : Int := ((n / 256 ^ (k - 1 - x) % 256 : Nat) : Int)

theorem dig_at (n k j : Nat) (h : j < k) : (n : Int) / 2 ^ (8 * j) % 256 = dig n k (k - 1 - j) := by
  unfold dig
  have e : k - 1 - (k - 1 - j) = j := by omega
  rw [e, show (256 : Nat) ^ j = 2 ^ (8 * j) by rw [Nat.pow_mul]]
  simp
theorem dig_be (n k x : Nat) (h : x < (be k n).length) : dig n k x = (((be k n)[x].toNat : Nat) : Int) := by
  rw [be_get]; rfl

theorem addr_head (b x : Nat) : (⟨b, 0, none⟩ : Addr).add x = ⟨b, x, none⟩ := by
  by_cases h : x = 0 <;> simp [Addr.add, h]

/-- What a round does to the row of bytes. -/
theorem row_step {wr : World} {b k j n : Nat} {t : TypeId} (hlt : j < k) (h : wr.rowIs b t k (fun x => if x + j < k then .int .u8 0 else .int .u8 (dig n k x))) :
    (wr.setCell ⟨b, k - 1 - j, none⟩ (.int .u8 ((n : Int) / 2 ^ (8 * j) % 256))).rowIs b t k (fun x => if x + (j + 1) < k then .int .u8 0 else .int .u8 (dig n k x)) := by
  refine (h.set (k - 1 - j) _).congr fun i hi => ?_
  show (if i = k - 1 - j then _ else if i + j < k then _ else _) = (if i + (j + 1) < k then _ else _)
  by_cases e : i = k - 1 - j
  · subst e
    rw [if_pos rfl, if_neg (by omega), dig_at n k j hlt]
  · rw [if_neg e]
    by_cases e2 : i + (j + 1) < k
    · rw [if_pos e2, if_pos (by omega)]
    · rw [if_neg e2, if_neg (by omega)]

end Go.Proofs.YtnbanflnepbgnaaDoor
