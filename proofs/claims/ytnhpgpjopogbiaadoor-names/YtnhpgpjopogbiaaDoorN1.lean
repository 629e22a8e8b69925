/- Names: its small callees by their contracts. -/
import Derived.Test.YtnhpgpjopogbiaaDoorE4
import Derived.Deep.RegionWith
namespace Go.Proofs.YtnhpgpjopogbiaaDoor
open Go Go.RowKit Go.Deep

theorem sameInts_any (b1 b2 n : Nat) (f : Nat → Int) (w : World) (h1 : ∀ i, i < n → w.cell? ⟨b1, i, none⟩ = some (.int .i64 (f i))) (h2 : ∀ i, i < n → w.cell? ⟨b2, i, none⟩ = some (.int .i64 (f i))) (hn : n ≤ 100) :
    Calls Tryd.prog 9 #[.slice (some ⟨b1, 0, none⟩) n n, .slice (some ⟨b2, 0, none⟩) n n] w fun e w' => e = .returned (.bool true) ∧ Below w.heap.size w w' := by
  have H1 : Hid _ := h1
  have H2 : Hid _ := h2
  clear h1 h2
  go_enter Tryd.func9, Tryd.ntmps9
  go_wp2
  go_loopw [5] (fun i wr => ∃ j : Nat, j ≤ n ∧ i = .int .i64 j ∧ (∀ a, wr.cell? a = w.cell? a) ∧ Below w.heap.size w wr) (fun i _ => n - (intOf i).toNat)
  case atStart => exact ⟨0, Nat.zero_le _, rfl, fun _ => rfl, Below.refl _ _⟩
  case round =>
    obtain ⟨j, hj, rfl, hall, hb⟩ := hrel
    by_cases hlt : j < n
    · have c1 : wr.cell? ⟨b1, j, none⟩ = some (.int .i64 (f j)) := (hall _).trans (H1.out j hlt)
      have c2 : wr.cell? ⟨b2, j, none⟩ = some (.int .i64 (f j)) := (hall _).trans (H2.out j hlt)
      have HA : Hid _ := hall
      clear hall
      go_wp2
      go_region
      all_goals
        go_wp2
        go_roundw
        case rel => exact ⟨j + 1, by omega, by go_num, fun a => HA.out a, hb.drew⟩
        case measure => simp [intOf]; omega
    · clear hall
      go_wp2
      go_ret
      exact ⟨rfl, hb⟩

theorem new_any (s : ByteArray) (w : World) : Calls Tryd.prog 12 #[.string s] w fun e w' => e = .returned (.iface 79 (.pointer (some ⟨w.heap.size, 0, none⟩))) ∧ w.alloc (.cells #[.string s] 81) = w' := by
  go_enter Tryd.func12, Tryd.ntmps12
  go_wp2
  go_ret
  exact ⟨rfl, rfl⟩

theorem error_any (a : Addr) (s : ByteArray) (w : World) (hc : w.cell? a = some (.string s)) : Calls Tryd.prog 113 #[.pointer (some a)] w fun e w' => e = .returned (.string s) ∧ w = w' := by
  obtain ⟨b, o, sp⟩ := a
  obtain rfl : sp = none := World.cell?_spot hc
  go_enter Tryd.func113, Tryd.ntmps113
  go_wp2
  go_ret
  exact ⟨rfl, rfl⟩
theorem nil_error (a : Addr) (w : World) : (nilAhead 276 79 (.pointer (some a)) "Error").run Tryd.prog w = .ok (some false) w := by kernel_rfl
theorem method_error (a : Addr) (w : World) : (Go.method 276 79 (.pointer (some a)) "Error").run Tryd.prog w = .ok (113, .pointer (some a)) w := by kernel_rfl
end Go.Proofs.YtnhpgpjopogbiaaDoor
