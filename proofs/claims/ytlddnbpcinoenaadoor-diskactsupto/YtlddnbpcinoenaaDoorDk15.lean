/- DiskKeeps: the law's short ways. -/
import Derived.Test.YtlddnbpcinoenaaDoorDk14
import Derived.Deep.DeepCutAuto
namespace Go.Proofs.YtlddnbpcinoenaaDoor
open Go Go.RowKit Go.Deep

set_option maxRecDepth 100000 in
set_option maxHeartbeats 4000000 in
theorem keeps_short (A : Nat → Addr) (w : World) (n a : Int) (ad : Option Addr) (cap : Nat) (L : List Ac) (s : ByteArray) (keep : Bool) (hE : Err3 w A) (hI : ActsIn w ad L) (hL : L.length ≤ 1048576) (hc : 200 < bulkN L ∨ n < 1 ∨ 40 < n ∨ 64 < s.size ∨ a < 0 ∨ n ≤ a) :
    Calls Tryd.prog 4 #[.int .i64 n, .slice ad L.length cap, .string s, .int .i64 a, .bool keep] w fun e w' => e = .returned (.bool true) ∧ Below w.heap.size w w' := by
  have HSP : Hid (Calls Tryd.prog 5 #[] w fun e w' => e = .returned (.bool true) ∧ Below w.heap.size w w') := spun_any A w hE
  have HBK : Hid (∀ W, Below w.heap.size w W → Calls Tryd.prog 6 #[.slice ad L.length cap] W fun e w' => e = .returned (.bool (decide ((200 : Int) < (bulkN L : Nat)))) ∧ Only [] W w') := fun W hb => bulky_any W ad cap L (hI.below hb) hL
  clear hE hI
  by_cases hc0 : 200 < bulkN L
  · have e0 : decide ((200 : Int) < (bulkN L : Nat)) = true := decide_eq_true (by omega)
    go_enter Tryd.func4, Tryd.ntmps4
    go_wp2_with (first
      | (go_at_call 5; refine HSP.out.mono ?_; rintro e w1 ⟨rfl, hb⟩; have B1 : Hid (Below w.heap.size w w1) := hb; clear hb)
      | (go_at_call 6; refine (HBK.out w1 B1.out).mono ?_; rintro e w2 ⟨rfl, hb⟩; have B2 : Hid (Below w.heap.size w w2) := B1.out.trans (hb.to_below B1.out.size (fun _ h => by cases h)); clear hb))
    go_ret
    exact ⟨rfl, B2.out⟩
  · have e0 : decide ((200 : Int) < (bulkN L : Nat)) = false := decide_eq_false (by omega)
    by_cases hc1 : n < 1
    · have e1 : decide (n < 1) = true := decide_eq_true hc1
      go_enter Tryd.func4, Tryd.ntmps4
      go_wp2_with (first
        | (go_at_call 5; refine HSP.out.mono ?_; rintro e w1 ⟨rfl, hb⟩; have B1 : Hid (Below w.heap.size w w1) := hb; clear hb)
        | (go_at_call 6; refine (HBK.out w1 B1.out).mono ?_; rintro e w2 ⟨rfl, hb⟩; have B2 : Hid (Below w.heap.size w w2) := B1.out.trans (hb.to_below B1.out.size (fun _ h => by cases h)); clear hb))
      go_ret
      exact ⟨rfl, B2.out⟩
    · have e1 : decide (n < 1) = false := decide_eq_false hc1
      by_cases hc2 : 40 < n
      · have e2 : decide (40 < n) = true := decide_eq_true hc2
        go_enter Tryd.func4, Tryd.ntmps4
        go_wp2_with (first
          | (go_at_call 5; refine HSP.out.mono ?_; rintro e w1 ⟨rfl, hb⟩; have B1 : Hid (Below w.heap.size w w1) := hb; clear hb)
          | (go_at_call 6; refine (HBK.out w1 B1.out).mono ?_; rintro e w2 ⟨rfl, hb⟩; have B2 : Hid (Below w.heap.size w w2) := B1.out.trans (hb.to_below B1.out.size (fun _ h => by cases h)); clear hb))
        go_ret
        exact ⟨rfl, B2.out⟩
      · have e2 : decide (40 < n) = false := decide_eq_false hc2
        by_cases hc3 : 64 < s.size
        · have e3 : decide ((64 : Int) < (s.size : Int)) = true := decide_eq_true (by omega)
          go_enter Tryd.func4, Tryd.ntmps4
          go_wp2_with (first
            | (go_at_call 5; refine HSP.out.mono ?_; rintro e w1 ⟨rfl, hb⟩; have B1 : Hid (Below w.heap.size w w1) := hb; clear hb)
            | (go_at_call 6; refine (HBK.out w1 B1.out).mono ?_; rintro e w2 ⟨rfl, hb⟩; have B2 : Hid (Below w.heap.size w w2) := B1.out.trans (hb.to_below B1.out.size (fun _ h => by cases h)); clear hb))
          go_ret
          exact ⟨rfl, B2.out⟩
        · have e3 : decide ((64 : Int) < (s.size : Int)) = false := decide_eq_false (by omega)
          by_cases hc4 : a < 0
          · have e4 : decide (a < 0) = true := decide_eq_true hc4
            go_enter Tryd.func4, Tryd.ntmps4
            go_wp2_with (first
              | (go_at_call 5; refine HSP.out.mono ?_; rintro e w1 ⟨rfl, hb⟩; have B1 : Hid (Below w.heap.size w w1) := hb; clear hb)
              | (go_at_call 6; refine (HBK.out w1 B1.out).mono ?_; rintro e w2 ⟨rfl, hb⟩; have B2 : Hid (Below w.heap.size w w2) := B1.out.trans (hb.to_below B1.out.size (fun _ h => by cases h)); clear hb))
            go_ret
            exact ⟨rfl, B2.out⟩
          · have e4 : decide (a < 0) = false := decide_eq_false hc4
            by_cases hc5 : n ≤ a
            · have e5 : decide (n ≤ a) = true := decide_eq_true hc5
              go_enter Tryd.func4, Tryd.ntmps4
              go_wp2_with (first
                | (go_at_call 5; refine HSP.out.mono ?_; rintro e w1 ⟨rfl, hb⟩; have B1 : Hid (Below w.heap.size w w1) := hb; clear hb)
                | (go_at_call 6; refine (HBK.out w1 B1.out).mono ?_; rintro e w2 ⟨rfl, hb⟩; have B2 : Hid (Below w.heap.size w w2) := B1.out.trans (hb.to_below B1.out.size (fun _ h => by cases h)); clear hb))
              go_ret
              exact ⟨rfl, B2.out⟩
            · have e5 : decide (n ≤ a) = false := decide_eq_false hc5
              omega
end Go.Proofs.YtlddnbpcinoenaaDoor
