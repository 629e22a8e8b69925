/- Writer.Bytes: its contracts. -/
import Derived.Test.YtdafekhmjddkbabDoorW2
namespace Go.Proofs.YtdafekhmjddkbabDoor
open Go Go.RowKit Go.Deep

/-- What Bytes writes of s. -/
def itemS (s : ByteArray) : ByteArray := bs (be 4 s.size) ++ s ++ bs (be (fillN s.size) 0)
theorem itemS_size (s : ByteArray) : (itemS s).size = 4 + s.size + fillN s.size := by
  simp [itemS, ByteArray.size_append, bs_size, be_length]

theorem digits_len (n : Nat) (w : World) (hn : n < 9223372036854775808) :
    Calls Tryd.prog 79 #[.int .i64 n, .int .i64 4] w fun e w' => e = .returned (.string (bs (be 4 n))) ∧ Below w.heap.size w w' := digits_any n 4 w hn (by decide)
theorem digits_zero (k : Nat) (w : World) (hk : k ≤ 8) :
    Calls Tryd.prog 79 #[.int .i64 0, .int .i64 k] w fun e w' => e = .returned (.string (bs (be k 0))) ∧ Below w.heap.size w w' := digits_any 0 k w (by decide) hk

end Go.Proofs.YtdafekhmjddkbabDoor
