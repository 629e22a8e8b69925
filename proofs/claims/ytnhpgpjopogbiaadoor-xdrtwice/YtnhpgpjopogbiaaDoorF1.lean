/- The closed fact that the statements begin with: an Int has four bytes. -/
import Derived.Test.YtnhpgpjopogbiaaDoorW2
import Derived.Test.YtnhpgpjopogbiaaDoorMem
namespace Go.Proofs.YtnhpgpjopogbiaaDoor
open Go Go.RowKit Go.Deep

theorem four_text : ((⟨#[]⟩ : ByteArray) ++ bs (be 4 258)) = ⟨#[0, 0, 1, 2]⟩ := by
  apply data_inj
  decide

set_option maxHeartbeats 400000 in
theorem four_any (w : World) : Calls Tryd.prog 13 #[] w fun e w' => e = .returned (.bool true) ∧ Below w.heap.size w w' := by
  go_enter Tryd.func13, Tryd.ntmps13
  go_wp2_with fail
  refine (int_ok w.heap.size ⟨#[]⟩ 258 _ ?_ ?_ (by decide) (by decide) (by decide)).mono ?_
  · simp
  · simp
  rintro e w1 ⟨rfl, hb⟩
  rw [four_text] at hb
  have k1 : w1.cell? ⟨w.heap.size, 0, none⟩ = some (.string ⟨#[0, 0, 1, 2]⟩) := put_cell hb (u := .string ⟨#[]⟩) (by simp)
  go_wp2_with (go_at_call 21; refine (text_any w.heap.size ⟨#[0, 0, 1, 2]⟩ _ k1).mono ?_; rintro e w2 ⟨rfl, rfl⟩)
  go_ret
  exact ⟨rfl, (((Below.refl _ _).alloc (Nat.le_refl _) _).setCell (Nat.le_refl _) _).trans (hb.mono (by simp))⟩
end Go.Proofs.YtnhpgpjopogbiaaDoor
