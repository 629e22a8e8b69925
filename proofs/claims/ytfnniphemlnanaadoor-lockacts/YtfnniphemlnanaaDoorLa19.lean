/- LockActs: for every list of acts. -/
import Derived.Test.YtfnniphemlnanaaDoorLa18
namespace Go.Proofs.YtfnniphemlnanaaDoor
open Go Go.RowKit Go.Deep

set_option maxRecDepth 100000 in
set_option maxHeartbeats 1000000 in
theorem lacts_out (a : Option Addr) (len cap : Nat) (A : Nat → Addr) (w : World) (hE : Errs w A) (h : 40 < len) :
    Calls Tryd.prog 3 #[.slice a len cap] w fun e w' => e = .returned (.bool true) ∧ Below w.heap.size w w' := by
  have hsh := held_any A w hE.three
  have hd1 : decide (40 < (len : Int)) = true := decide_eq_true (by omega)
  clear hE
  go_enter Tryd.func3, Tryd.ntmps3
  go_wp2_with (go_at_call 7; refine hsh.mono ?_; rintro e w1 ⟨rfl, hb1⟩; have HB : Hid (Below w.heap.size w w1) := hb1; clear hb1 hsh)
  go_ret
  exact ⟨rfl, HB.out⟩
theorem lacts_all (a : Option Addr) (len cap : Nat) (A : Nat → Addr) (w : World) (hp : IsLActs w a len) (hE : Errs w A) :
    Calls Tryd.prog 3 #[.slice a len cap] w fun e w' => e = .returned (.bool true) ∧ Below w.heap.size w w' := by
  by_cases h : 40 < len
  · exact lacts_out a len cap A w hE h
  · exact lacts_walk a len cap A w hp hE (by omega)
end Go.Proofs.YtfnniphemlnanaaDoor
