/- TreeFull: for every two numbers. -/
import Derived.Test.YtnbanflnepbgnaaDoorU24
namespace Go.Proofs.YtnbanflnepbgnaaDoor
open Go Go.RowKit Go.Deep Go.Maps

set_option maxRecDepth 100000 in
set_option maxHeartbeats 1000000 in
theorem tfull_out (n k : Int) (A : Nat → Addr) (w : World) (hE : Errs w A) (h : n < 0 ∨ 65 < n ∨ k < 0 ∨ 12 < k) :
    Calls Tryd.prog 3 #[.int .i64 n, .int .i64 k] w fun e w' => e = .returned (.bool true) ∧ Below w.heap.size w w' := by
  have hroot := rooted_any A w hE
  clear hE
  by_cases h1 : n < 0
  · have hd1 : decide (n < 0) = true := decide_eq_true h1
    go_enter Tryd.func3, Tryd.ntmps3
    go_wp2_with (go_at_call 4; go_must (refine hroot.mono ?_); rintro e w1 ⟨rfl, hb1⟩)
    go_ret
    exact ⟨rfl, hb1⟩
  · have hd1 : decide (n < 0) = false := decide_eq_false h1
    by_cases h2 : 65 < n
    · have hd2 : decide (65 < n) = true := decide_eq_true h2
      go_enter Tryd.func3, Tryd.ntmps3
      go_wp2_with (go_at_call 4; go_must (refine hroot.mono ?_); rintro e w1 ⟨rfl, hb1⟩)
      go_ret
      exact ⟨rfl, hb1⟩
    · have hd2 : decide (65 < n) = false := decide_eq_false h2
      by_cases h3 : k < 0
      · have hd3 : decide (k < 0) = true := decide_eq_true h3
        go_enter Tryd.func3, Tryd.ntmps3
        go_wp2_with (go_at_call 4; go_must (refine hroot.mono ?_); rintro e w1 ⟨rfl, hb1⟩)
        go_ret
        exact ⟨rfl, hb1⟩
      · have hd3 : decide (k < 0) = false := decide_eq_false h3
        have hd4 : decide (12 < k) = true := decide_eq_true (by omega)
        go_enter Tryd.func3, Tryd.ntmps3
        go_wp2_with (go_at_call 4; go_must (refine hroot.mono ?_); rintro e w1 ⟨rfl, hb1⟩)
        go_ret
        exact ⟨rfl, hb1⟩
theorem tfull_all (n k : Int) (A : Nat → Addr) (w : World) (hE : Errs w A) :
    Calls Tryd.prog 3 #[.int .i64 n, .int .i64 k] w fun e w' => e = .returned (.bool true) ∧ Below w.heap.size w w' := by
  by_cases h : n < 0 ∨ 65 < n ∨ k < 0 ∨ 12 < k
  · exact tfull_out n k A w hE h
  · obtain ⟨m, rfl⟩ : ∃ m : Nat, n = (m : Int) := ⟨n.toNat, by omega⟩
    obtain ⟨l, rfl⟩ : ∃ l : Nat, k = (l : Int) := ⟨k.toNat, by omega⟩
    exact tfull_walk m l A w (by omega) (by omega) hE
end Go.Proofs.YtnbanflnepbgnaaDoor
