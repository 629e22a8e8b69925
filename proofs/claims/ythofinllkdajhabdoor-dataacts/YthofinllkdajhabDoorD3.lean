/- Data: the document's Zeros of many bytes, and Resize, by their contracts. -/
import Derived.Test.YthofinllkdajhabDoorD2
import Derived.Test.YthofinllkdajhabDoorW1
namespace Go.Proofs.YthofinllkdajhabDoor
open Go Go.RowKit Go.Deep

theorem zeros_all (k : Nat) (w : World) (hk : k ≤ 5000) : Calls Tryd.prog 49 #[.int .i64 k] w fun e w' => e = .returned (.string (zer k)) ∧ Below w.heap.size w w' := by
  have hmk := run_make_row' (P := Tryd.prog) 102 5 (.int .u8 0) 1 Tryd.underlying102 Tryd.info5 rfl .i64 .i64 k (by omega) (by omega)
  have hcv := run_convert_bytes_back (P := Tryd.prog) (w.alloc (.cells (madeCells #[.int .u8 0] k) 5)) 102 9 5 ⟨w.heap.size, 0, none⟩ k (List.replicate k 0) Tryd.underlying102 Tryd.underlying5 Tryd.underlying9 (fun x hx => by
    have hx' : x < k := by simpa using hx
    have := (World.rowIs_made w (.int .u8 0) k 5).cell hx'
    rw [addr_head, this]
    simp)
  rw [List.length_replicate] at hcv
  have hcv' : (convert 102 9 (.slice (some ⟨w.heap.size, 0, none⟩) k k)).run Tryd.prog (w.alloc (.cells (madeCells #[.int .u8 0] k) 5)) = .ok (.string (zer k)) (w.alloc (.cells (madeCells #[.int .u8 0] k) 5)) := hcv
  clear hcv
  go_enter Tryd.func49, Tryd.ntmps49
  go_wp2
  go_ret
  exact ⟨rfl, (Below.refl _ _).alloc (Nat.le_refl _) _⟩
end Go.Proofs.YthofinllkdajhabDoor
