/- Reader.Bytes: its contracts. -/
import Derived.Test.YtdafekhmjddkbabDoorR2
namespace Go.Proofs.YtdafekhmjddkbabDoor
open Go Go.RowKit Go.Deep

theorem skip_int (b : Nat) (t : ByteArray) (n : Int) (k : Nat) (w : World) (hn : n = (k : Int)) (hc : w.cell? ⟨b, 0, none⟩ = some (.string t)) (hf : w.frozen? ⟨b, 0, none⟩ = false) (h : k ≤ t.size) (ht : t.size ≤ 1000000) :
    Calls Tryd.prog 56 #[.pointer (some ⟨b, 0, none⟩), .int .i64 n] w fun e w' => e = .returned (.tuple #[]) ∧ w.setCell ⟨b, 0, none⟩ (.string (cutAt t k)) = w' := by
  subst hn; exact skip_any b t k w hc hf h ht

end Go.Proofs.YtdafekhmjddkbabDoor
