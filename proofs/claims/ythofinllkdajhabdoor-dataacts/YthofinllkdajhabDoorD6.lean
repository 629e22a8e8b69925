/- Data: the document's Write: where it errs, where nothing happens; what it writes. -/
import Derived.Test.YthofinllkdajhabDoorD5
import Derived.Deep.DeepCutAuto
namespace Go.Proofs.YthofinllkdajhabDoor
open Go Go.RowKit Go.Deep

theorem write_bound (w : World) (g : Nat) (s : ByteArray) (a : Int) (h : a < 0 ∨ 4096 < a + (s.size : Int)) (ha : a < 9223372036854775808) : Calls Tryd.prog 21 #[.pointer (some ⟨g, 0, none⟩), .int .i64 a, .string s] w fun e w' => e = .returned (.int .i64 2) ∧ w = w' := by
  by_cases h1 : a < 0
  · have hd : decide (a < 0) = true := decide_eq_true h1
    go_enter Tryd.func21, Tryd.ntmps21
    go_wp2
    go_ret
    exact ⟨rfl, rfl⟩
  · have hd : decide (a < 0) = false := decide_eq_false h1
    by_cases h2 : 4096 < a
    · have hd2 : decide (4096 < a) = true := decide_eq_true h2
      go_enter Tryd.func21, Tryd.ntmps21
      go_wp2
      go_ret
      exact ⟨rfl, rfl⟩
    · have hd2 : decide (4096 < a) = false := decide_eq_false h2
      obtain ⟨a, rfl⟩ : ∃ k : Nat, a = (k : Int) := ⟨a.toNat, by omega⟩
      have hd3 : decide (4096 - (a : Int) < (s.size : Int)) = true := decide_eq_true (by omega)
      go_enter Tryd.func21, Tryd.ntmps21
      go_wp2
      go_ret
      exact ⟨rfl, rfl⟩
theorem write_none (w : World) (g : Nat) (a : Nat) (ha : a ≤ 4096) : Calls Tryd.prog 21 #[.pointer (some ⟨g, 0, none⟩), .int .i64 a, .string ⟨#[]⟩] w fun e w' => e = .returned (.int .i64 0) ∧ w = w' := by
  have hd : decide ((a : Int) < 0) = false := decide_eq_false (by omega)
  have hd2 : decide (4096 < (a : Int)) = false := decide_eq_false (by omega)
  have hz : (⟨#[]⟩ : ByteArray).size = 0 := rfl
  go_enter Tryd.func21, Tryd.ntmps21
  go_wp2
  go_ret
  exact ⟨rfl, rfl⟩

end Go.Proofs.YthofinllkdajhabDoor
