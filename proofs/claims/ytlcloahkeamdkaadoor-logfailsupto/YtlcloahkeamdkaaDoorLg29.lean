/- LogFails: the law's walk. -/
import Derived.Test.YtlcloahkeamdkaaDoorLg28
namespace Go.Proofs.YtlcloahkeamdkaaDoor
open Go Go.RowKit Go.Deep Go.Maps

set_option maxRecDepth 100000 in
set_option maxHeartbeats 4000000 in
theorem lfails_short (A : Nat → Addr) (w : World) (n : Int) (ad : Option Addr) (cap : Nat) (L : List Rc) (ka : Option Addr) (kn kc : Nat) (ad2 : Option Addr) (cap2 : Nat) (L2 : List Rc) (hE : Errs w A) (hI : RcsIn w ad L) (hL : L.length ≤ 1048576) (hI2 : RcsIn w ad2 L2) (hL2 : L2.length ≤ 1048576) (hc : 500 < wordN L ∨ 500 < wordN L2 ∨ n < 0 ∨ 500 < kn) :
    Calls Tryd.prog 4 #[.slice ad L.length cap, .int .i64 n, .slice ka kn kc, .slice ad2 L2.length cap2] w fun e w' => e = .returned (.bool true) ∧ Below w.heap.size w w' := by
  have HSP : Hid (Calls Tryd.prog 6 #[] w fun e w' => e = .returned (.bool true) ∧ Below w.heap.size w w') := logged_ok A w hE.five
  have HB1 : Hid (∀ W, Below w.heap.size w W → Calls Tryd.prog 7 #[.slice ad L.length cap] W fun e w' => e = .returned (.bool (decide ((500 : Int) < (wordN L : Nat)))) ∧ w' = W) := fun W hb => wordy_ok W ad cap L (hI.below hb) hL
  have HB2 : Hid (∀ W, Below w.heap.size w W → Calls Tryd.prog 7 #[.slice ad2 L2.length cap2] W fun e w' => e = .returned (.bool (decide ((500 : Int) < (wordN L2 : Nat)))) ∧ w' = W) := fun W hb => wordy_ok W ad2 cap2 L2 (hI2.below hb) hL2
  clear hE hI hI2
  by_cases hc0 : 500 < wordN L
  · have e0 : decide ((500 : Int) < (wordN L : Nat)) = true := decide_eq_true (by omega)
    go_enter Tryd.func4, Tryd.ntmps4
    go_upto_region 2 with (go_at_call 6; refine HSP.out.mono ?_; rintro e w1 ⟨rfl, hb⟩; have B1 : Hid (Below w.heap.size w w1) := hb; clear hb)
    have P1 : Hid (Calls Tryd.prog 7 #[.slice ad L.length cap] w1 fun e w' => e = .returned (.bool (decide ((500 : Int) < (wordN L : Nat)))) ∧ w' = w1) := HB1.out w1 B1.out
    have P2 : Hid (Calls Tryd.prog 7 #[.slice ad2 L2.length cap2] w1 fun e w' => e = .returned (.bool (decide ((500 : Int) < (wordN L2 : Nat)))) ∧ w' = w1) := HB2.out w1 B1.out
    rw [e0] at P1
    go_wp2_with (first
      | (go_at_call 7; with_reducible refine P1.out.mono ?_; rintro e w2 ⟨rfl, h0⟩; have h1 := h0.symm; subst h1; clear h0)
      | (go_at_call 7; with_reducible refine P2.out.mono ?_; rintro e w2 ⟨rfl, h0⟩; have h1 := h0.symm; subst h1; clear h0))
    go_ret
    exact ⟨rfl, B1.out⟩
  · have e0 : decide ((500 : Int) < (wordN L : Nat)) = false := decide_eq_false (by omega)
    by_cases hc1 : 500 < wordN L2
    · have e1 : decide ((500 : Int) < (wordN L2 : Nat)) = true := decide_eq_true (by omega)
      go_enter Tryd.func4, Tryd.ntmps4
      go_upto_region 2 with (go_at_call 6; refine HSP.out.mono ?_; rintro e w1 ⟨rfl, hb⟩; have B1 : Hid (Below w.heap.size w w1) := hb; clear hb)
      have P1 : Hid (Calls Tryd.prog 7 #[.slice ad L.length cap] w1 fun e w' => e = .returned (.bool (decide ((500 : Int) < (wordN L : Nat)))) ∧ w' = w1) := HB1.out w1 B1.out
      have P2 : Hid (Calls Tryd.prog 7 #[.slice ad2 L2.length cap2] w1 fun e w' => e = .returned (.bool (decide ((500 : Int) < (wordN L2 : Nat)))) ∧ w' = w1) := HB2.out w1 B1.out
      rw [e0] at P1
      rw [e1] at P2
      go_wp2_with (first
        | (go_at_call 7; with_reducible refine P1.out.mono ?_; rintro e w2 ⟨rfl, h0⟩; have h1 := h0.symm; subst h1; clear h0)
        | (go_at_call 7; with_reducible refine P2.out.mono ?_; rintro e w2 ⟨rfl, h0⟩; have h1 := h0.symm; subst h1; clear h0))
      go_ret
      exact ⟨rfl, B1.out⟩
    · have e1 : decide ((500 : Int) < (wordN L2 : Nat)) = false := decide_eq_false (by omega)
      by_cases hc2 : n < 0
      · have e2 : decide (n < 0) = true := decide_eq_true hc2
        go_enter Tryd.func4, Tryd.ntmps4
        go_upto_region 2 with (go_at_call 6; refine HSP.out.mono ?_; rintro e w1 ⟨rfl, hb⟩; have B1 : Hid (Below w.heap.size w w1) := hb; clear hb)
        have P1 : Hid (Calls Tryd.prog 7 #[.slice ad L.length cap] w1 fun e w' => e = .returned (.bool (decide ((500 : Int) < (wordN L : Nat)))) ∧ w' = w1) := HB1.out w1 B1.out
        have P2 : Hid (Calls Tryd.prog 7 #[.slice ad2 L2.length cap2] w1 fun e w' => e = .returned (.bool (decide ((500 : Int) < (wordN L2 : Nat)))) ∧ w' = w1) := HB2.out w1 B1.out
        rw [e0] at P1
        rw [e1] at P2
        go_wp2_with (first
          | (go_at_call 7; with_reducible refine P1.out.mono ?_; rintro e w2 ⟨rfl, h0⟩; have h1 := h0.symm; subst h1; clear h0)
          | (go_at_call 7; with_reducible refine P2.out.mono ?_; rintro e w2 ⟨rfl, h0⟩; have h1 := h0.symm; subst h1; clear h0))
        go_ret
        exact ⟨rfl, B1.out⟩
      · have e2 : decide (n < 0) = false := decide_eq_false hc2
        have e3 : decide ((500 : Int) < (kn : Int)) = true := decide_eq_true (by omega)
        go_enter Tryd.func4, Tryd.ntmps4
        go_upto_region 2 with (go_at_call 6; refine HSP.out.mono ?_; rintro e w1 ⟨rfl, hb⟩; have B1 : Hid (Below w.heap.size w w1) := hb; clear hb)
        have P1 : Hid (Calls Tryd.prog 7 #[.slice ad L.length cap] w1 fun e w' => e = .returned (.bool (decide ((500 : Int) < (wordN L : Nat)))) ∧ w' = w1) := HB1.out w1 B1.out
        have P2 : Hid (Calls Tryd.prog 7 #[.slice ad2 L2.length cap2] w1 fun e w' => e = .returned (.bool (decide ((500 : Int) < (wordN L2 : Nat)))) ∧ w' = w1) := HB2.out w1 B1.out
        rw [e0] at P1
        rw [e1] at P2
        go_wp2_with (first
          | (go_at_call 7; with_reducible refine P1.out.mono ?_; rintro e w2 ⟨rfl, h0⟩; have h1 := h0.symm; subst h1; clear h0)
          | (go_at_call 7; with_reducible refine P2.out.mono ?_; rintro e w2 ⟨rfl, h0⟩; have h1 := h0.symm; subst h1; clear h0))
        go_ret
        exact ⟨rfl, B1.out⟩
end Go.Proofs.YtlcloahkeamdkaaDoor
