/- LockFull: for every number of runs, and every place of a cut. -/
import Derived.Test.YtfnniphemlnanaaDoorLk19
namespace Go.Proofs.YtfnniphemlnanaaDoor
open Go Go.RowKit Go.Deep

set_option maxHeartbeats 1000000 in
theorem full_o1 (n c : Int) (A : Nat → Addr) (w : World) (hE : Errs w A) (h1 : n < 0) : Calls Tryd.prog 5 #[.int .i64 n, .int .i64 c] w fun e w' => e = .returned (.bool true) ∧ Below w.heap.size w w' := by
  have hh := held_any A w hE.three
  have g1 : decide (n < 0) = true := decide_eq_true h1
  clear hE
  go_enter Tryd.func5, Tryd.ntmps5
  go_wp2_with (go_at_call 7; refine hh.mono ?_; rintro e w1 ⟨rfl, hb1⟩; have HB : Hid (Below w.heap.size w w1) := hb1; clear hh hb1)
  go_ret
  exact ⟨rfl, HB.out⟩
set_option maxHeartbeats 1000000 in
theorem full_o2 (n c : Int) (A : Nat → Addr) (w : World) (hE : Errs w A) (h1 : ¬ n < 0) (h2 : 70 < n) : Calls Tryd.prog 5 #[.int .i64 n, .int .i64 c] w fun e w' => e = .returned (.bool true) ∧ Below w.heap.size w w' := by
  have hh := held_any A w hE.three
  have g1 : decide (n < 0) = false := decide_eq_false h1
  have g2 : decide (70 < n) = true := decide_eq_true h2
  clear hE
  go_enter Tryd.func5, Tryd.ntmps5
  go_wp2_with (go_at_call 7; refine hh.mono ?_; rintro e w1 ⟨rfl, hb1⟩; have HB : Hid (Below w.heap.size w w1) := hb1; clear hh hb1)
  go_ret
  exact ⟨rfl, HB.out⟩
set_option maxHeartbeats 1000000 in
theorem full_o3 (n c : Int) (A : Nat → Addr) (w : World) (hE : Errs w A) (h1 : ¬ n < 0) (h2 : ¬ 70 < n) (h3 : c < 0) : Calls Tryd.prog 5 #[.int .i64 n, .int .i64 c] w fun e w' => e = .returned (.bool true) ∧ Below w.heap.size w w' := by
  have hh := held_any A w hE.three
  have g1 : decide (n < 0) = false := decide_eq_false h1
  have g2 : decide (70 < n) = false := decide_eq_false h2
  have g3 : decide (c < 0) = true := decide_eq_true h3
  clear hE
  go_enter Tryd.func5, Tryd.ntmps5
  go_wp2_with (go_at_call 7; refine hh.mono ?_; rintro e w1 ⟨rfl, hb1⟩; have HB : Hid (Below w.heap.size w w1) := hb1; clear hh hb1)
  go_ret
  exact ⟨rfl, HB.out⟩
set_option maxHeartbeats 1000000 in
theorem full_o4 (n c : Int) (A : Nat → Addr) (w : World) (hE : Errs w A) (h1 : ¬ n < 0) (h2 : ¬ 70 < n) (h3 : ¬ c < 0) (h4 : 100 < c) : Calls Tryd.prog 5 #[.int .i64 n, .int .i64 c] w fun e w' => e = .returned (.bool true) ∧ Below w.heap.size w w' := by
  have hh := held_any A w hE.three
  have g1 : decide (n < 0) = false := decide_eq_false h1
  have g2 : decide (70 < n) = false := decide_eq_false h2
  have g3 : decide (c < 0) = false := decide_eq_false h3
  have g4 : decide (100 < c) = true := decide_eq_true h4
  clear hE
  go_enter Tryd.func5, Tryd.ntmps5
  go_wp2_with (go_at_call 7; refine hh.mono ?_; rintro e w1 ⟨rfl, hb1⟩; have HB : Hid (Below w.heap.size w w1) := hb1; clear hh hb1)
  go_ret
  exact ⟨rfl, HB.out⟩
theorem full_all (n c : Int) (A : Nat → Addr) (w : World) (hE : Errs w A) : Calls Tryd.prog 5 #[.int .i64 n, .int .i64 c] w fun e w' => e = .returned (.bool true) ∧ Below w.heap.size w w' := by
  by_cases h1 : n < 0
  · exact full_o1 n c A w hE h1
  · by_cases h2 : 70 < n
    · exact full_o2 n c A w hE h1 h2
    · by_cases h3 : c < 0
      · exact full_o3 n c A w hE h1 h2 h3
      · by_cases h4 : 100 < c
        · exact full_o4 n c A w hE h1 h2 h3 h4
        · have := full_in n.toNat c.toNat A w hE (by omega) (by omega)
          rw [Int.toNat_of_nonneg (by omega), Int.toNat_of_nonneg (by omega)] at this
          exact this
end Go.Proofs.YtfnniphemlnanaaDoor
