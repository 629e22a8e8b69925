/- ShareSound: for every list of acts. -/
import Derived.Test.YtmghffeommdgjaaDoorSh24
namespace Go.Proofs.YtmghffeommdgjaaDoor
open Go Go.RowKit Go.Deep

set_option maxRecDepth 100000 in
set_option maxHeartbeats 1000000 in
theorem ssound_out (a : Option Addr) (len cap : Nat) (A : Nat → Addr) (w : World) (hE : Err5 w A) (h : 80 < len) :
    Calls Tryd.prog 4 #[.slice a len cap] w fun e w' => e = .returned (.bool true) ∧ Below w.heap.size w w' := by
  have hsh := shared_any A w hE
  have hd1 : decide (80 < (len : Int)) = true := decide_eq_true (by omega)
  clear hE
  go_enter Tryd.func4, Tryd.ntmps4
  go_wp2_with (go_at_call 5; refine hsh.mono ?_; rintro e w1 ⟨rfl, hb1⟩; have HB : Hid (Below w.heap.size w w1) := hb1; clear hb1 hsh)
  go_ret
  exact ⟨rfl, HB.out⟩
set_option maxRecDepth 100000 in
set_option maxHeartbeats 1000000 in
theorem ssound_none (a : Option Addr) (cap : Nat) (A : Nat → Addr) (w : World) (hE : Err5 w A) :
    Calls Tryd.prog 4 #[.slice a 0 cap] w fun e w' => e = .returned (.bool true) ∧ Below w.heap.size w w' := by
  have hsh := shared_any A w hE
  clear hE
  go_enter Tryd.func4, Tryd.ntmps4
  go_wp2_with (go_at_call 5; refine hsh.mono ?_; rintro e w1 ⟨rfl, hb1⟩; have HS0 : Hid (ShW w (w1.alloc (.cells #[.slice none 0 0] 27)) w1.heap.size []) := ShW.fresh hb1; clear hsh hb1)
  generalize w1.alloc (.cells #[.slice none 0 0] 27) = w2 at HS0 ⊢
  generalize w1.heap.size = t at HS0 ⊢
  have HL : Hid (∀ _u : Unit, _) := fun _u => list_form HS0.out
  rw [show ([] : List Opn).length = 0 from rfl] at HL
  refine wp_loop_rounds 1 ?_
  rw [rounds_succ]
  go_wp2_with (go_at_call 21; refine (HL.out ()).mono ?_; rintro e w3 ⟨ad, cp, rfl, _, _, ho3⟩; have HB : Hid (Below w.heap.size w w3) := (HS0.out.only ho3).below; clear HL ho3)
  refine wp_loop_rounds 1 ?_
  rw [rounds_succ]
  go_wp2
  go_ret
  exact ⟨rfl, HB.out⟩
theorem ssound_all (a : Option Addr) (len cap : Nat) (A : Nat → Addr) (w : World) (hp : IsSActs w a len) (hE : Err5 w A) :
    Calls Tryd.prog 4 #[.slice a len cap] w fun e w' => e = .returned (.bool true) ∧ Below w.heap.size w w' := by
  by_cases h : 80 < len
  · exact ssound_out a len cap A w hE h
  · rcases hp with rfl | ⟨ab, ao, P, rfl, hP⟩
    · exact ssound_none a cap A w hE
    · exact ssound_walk ab ao len cap P A w hP (by omega) hE
end Go.Proofs.YtmghffeommdgjaaDoor
