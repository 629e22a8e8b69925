/- CallNew: who can be a caller, who a listener. -/
import Derived.Test.YtmfcfkomdflhlaaDoorCl2
import Derived.Test.YtmfcfkomdflhlaaDoorCl5
import Derived.Test.YtmfcfkomdflhlaaDoorM1
namespace Go.Proofs.YtmfcfkomdflhlaaDoor
open Go Go.RowKit Go.Deep Go.Maps

/-- A name's error, as a number. -/
theorem nameErr_yes (s : ByteArray) (h : OkN s) (w : World) : Calls Tryd.prog 6 #[.string s] w fun e w' => e = .returned (.int .i64 0) ∧ w' = w :=
  (nameError_any s w).mono fun e w' q => by
    rcases q with ⟨⟨_, q⟩ | ⟨q, _⟩, hb⟩
    · exact ⟨q, hb.symm⟩
    · exact absurd h q
theorem nameErr_no (s : ByteArray) (h : ¬ OkN s) (w : World) : Calls Tryd.prog 6 #[.string s] w fun e w' => e = .returned (.int .i64 4) ∧ w' = w :=
  (nameError_any s w).mono fun e w' q => by
    rcases q with ⟨⟨q, _⟩ | ⟨_, q⟩, hb⟩
    · exact absurd q h
    · exact ⟨q, hb.symm⟩
set_option maxRecDepth 100000 in
theorem new_many (A : Nat → Addr) (a b : ByteArray) (m : Int) (no : Bool) (w : World) (hE : Errs w A) (ha : a.size ≤ 4611686018427387904) (hb : b.size ≤ 4611686018427387903) (h : 200 < a.size + b.size) :
    Calls Tryd.prog 3 #[.string a, .string b, .int .i64 m, .bool no] w fun e w' => e = .returned (.bool true) ∧ Below w.heap.size w w' := by
  have H : Hid (Calls Tryd.prog 4 #[] w fun e w' => e = .returned (.bool true) ∧ Below w.heap.size w w') := asks_any A w hE
  clear hE
  go_enter Tryd.func3, Tryd.ntmps3
  go_wp2_with (go_at_call 4; go_must (refine H.out.mono ?_); rintro e w1 ⟨rfl, hb1⟩)
  go_ret
  exact ⟨rfl, hb1⟩
/-- What is known at any later world. -/
theorem new_server (w : World) : Hid (∀ W, Below w.heap.size w W → Calls Tryd.prog 8 #[.int .i64 3] W fun e w' => (∃ t, e = .returned (.tuple #[.pointer (some ⟨t, 0, none⟩), .nilIface])) ∧ Below w.heap.size w w') :=
  fun W hb => (serveNew0 W 3 (by decide) (by decide)).mono fun _ _ q => ⟨q.1, hb.trans (q.2.mono hb.size)⟩
theorem new_coded (A : Nat → Addr) (k : Nat) (hk : k < 15) (w : World) (hE : Errs w A) : Hid (∀ W, Below w.heap.size w W → Calls Tryd.prog 7 #[erV A k, .int .i64 ((k : Int) + 1)] W fun e w' => e = .returned (.bool true) ∧ Below w.heap.size w w') :=
  fun W hb => (coded3_err A k hk W (hE.below hb (Nat.le_refl _))).mono fun _ _ q => ⟨q.1, hb.trans (q.2.mono hb.size)⟩
set_option maxRecDepth 100000 in
set_option maxHeartbeats 2000000 in
theorem new_noname (A : Nat → Addr) (a b : ByteArray) (m : Int) (no : Bool) (w : World) (hE : Errs w A) (hz : a.size + b.size ≤ 200) (ha : ¬ OkN a) :
    Calls Tryd.prog 3 #[.string a, .string b, .int .i64 m, .bool no] w fun e w' => e = .returned (.bool true) ∧ Below w.heap.size w w' := by
  have H : Hid (Calls Tryd.prog 4 #[] w fun e w' => e = .returned (.bool true) ∧ Below w.heap.size w w') := asks_any A w hE
  have HS := new_server w
  have HA : Hid (∀ W, Calls Tryd.prog 6 #[.string a] W fun e w' => e = .returned (.int .i64 4) ∧ w' = W) := nameErr_no a ha
  have H1 : Hid (∀ W, Below w.heap.size w W → Calls Tryd.prog 5 #[.string a, .string b] W fun e w' => e = .returned (.tuple #[.pointer none, erV A 3]) ∧ Below w.heap.size w w') := fun W hb => (newCaller_no1 A a b W (hE.below hb (Nat.le_refl _)) ha).mono fun e w' q => ⟨q.1, hb.trans (q.2.mono hb.size)⟩
  have HL : Hid (∀ v W, Below w.heap.size w W → Calls Tryd.prog 9 #[.string a, v, .int .i64 m] W fun e w' => e = .returned (.tuple #[.pointer none, erV A 3]) ∧ Below w.heap.size w w') := fun v W hb => (newListener_name A a v m W (hE.below hb (Nat.le_refl _)) ha).mono fun e w' q => ⟨q.1, hb.trans (q.2.mono hb.size)⟩
  have HC : Hid (∀ W, Below w.heap.size w W → Calls Tryd.prog 7 #[erV A 3, .int .i64 4] W fun e w' => e = .returned (.bool true) ∧ Below w.heap.size w w') := new_coded A 3 (by decide) w hE
  have HC2 := HC
  have hd : decide ((200 : Int) < (a.size : Int) + (b.size : Int)) = false := decide_eq_false (by omega)
  clear hE ha
  cases no
  · go_enter Tryd.func3, Tryd.ntmps3
    go_wp2_with (first
      | (go_at_call 4; refine H.out.mono ?_; rintro e w1 ⟨rfl, hb⟩; have B1 : Hid (Below w.heap.size w w1) := hb; clear hb)
      | (go_at_call 5; (with_reducible refine (H1.out _ B1.out).mono ?_); rintro e w2 ⟨rfl, hb⟩; have B2 : Hid (Below w.heap.size w w2) := hb; clear hb)
      | (go_at_call 6; (with_reducible refine (HA.out _).mono ?_); rintro e w9 ⟨rfl, rfl⟩)
      | (go_at_call 6; (with_reducible refine (HB.out _).mono ?_); rintro e w9 ⟨rfl, rfl⟩)
      | (go_at_call 7; (with_reducible refine (HC.out _ B2.out).mono ?_); rintro e w3 ⟨rfl, hb⟩; have B3 : Hid (Below w.heap.size w w3) := hb; clear hb))
    go_wp2_with (first
      | (go_at_call 8; (with_reducible refine (HS.out _ B3.out).mono ?_); rintro e w4 ⟨⟨t, rfl⟩, hb⟩; have B4 : Hid (Below w.heap.size w w4) := hb; clear hb)
      | (go_at_call 9; (with_reducible refine (HL.out _ _ B4.out).mono ?_); rintro e w5 ⟨rfl, hb⟩; have B5 : Hid (Below w.heap.size w w5) := hb; clear hb)
      | (go_at_call 6; (with_reducible refine (HA.out _).mono ?_); rintro e w9 ⟨rfl, rfl⟩)
      | (go_at_call 7; (with_reducible refine (HC2.out _ B5.out).mono ?_); rintro e w6 ⟨rfl, hb⟩; have B6 : Hid (Below w.heap.size w w6) := hb; clear hb))
    go_ret
    exact ⟨by simp, B6.out⟩
  · go_enter Tryd.func3, Tryd.ntmps3
    go_wp2_with (first
      | (go_at_call 4; refine H.out.mono ?_; rintro e w1 ⟨rfl, hb⟩; have B1 : Hid (Below w.heap.size w w1) := hb; clear hb)
      | (go_at_call 5; (with_reducible refine (H1.out _ B1.out).mono ?_); rintro e w2 ⟨rfl, hb⟩; have B2 : Hid (Below w.heap.size w w2) := hb; clear hb)
      | (go_at_call 6; (with_reducible refine (HA.out _).mono ?_); rintro e w9 ⟨rfl, rfl⟩)
      | (go_at_call 6; (with_reducible refine (HB.out _).mono ?_); rintro e w9 ⟨rfl, rfl⟩)
      | (go_at_call 7; (with_reducible refine (HC.out _ B2.out).mono ?_); rintro e w3 ⟨rfl, hb⟩; have B3 : Hid (Below w.heap.size w w3) := hb; clear hb))
    go_wp2_with (first
      | (go_at_call 8; (with_reducible refine (HS.out _ B3.out).mono ?_); rintro e w4 ⟨⟨t, rfl⟩, hb⟩; have B4 : Hid (Below w.heap.size w w4) := hb; clear hb)
      | (go_at_call 9; (with_reducible refine (HL.out _ _ B4.out).mono ?_); rintro e w5 ⟨rfl, hb⟩; have B5 : Hid (Below w.heap.size w w5) := hb; clear hb)
      | (go_at_call 6; (with_reducible refine (HA.out _).mono ?_); rintro e w9 ⟨rfl, rfl⟩)
      | (go_at_call 7; (with_reducible refine (HC2.out _ B5.out).mono ?_); rintro e w6 ⟨rfl, hb⟩; have B6 : Hid (Below w.heap.size w w6) := hb; clear hb))
    go_ret
    exact ⟨by simp, B6.out⟩
set_option maxRecDepth 100000 in
set_option maxHeartbeats 2000000 in
theorem new_noserver (A : Nat → Addr) (a b : ByteArray) (m : Int) (no : Bool) (w : World) (hE : Errs w A) (hz : a.size + b.size ≤ 200) (ha : OkN a) (hb : ¬ OkN b) :
    Calls Tryd.prog 3 #[.string a, .string b, .int .i64 m, .bool no] w fun e w' => e = .returned (.bool true) ∧ Below w.heap.size w w' := by
  have H : Hid (Calls Tryd.prog 4 #[] w fun e w' => e = .returned (.bool true) ∧ Below w.heap.size w w') := asks_any A w hE
  have HS := new_server w
  have HA : Hid (∀ W, Calls Tryd.prog 6 #[.string a] W fun e w' => e = .returned (.int .i64 0) ∧ w' = W) := nameErr_yes a ha
  have HB : Hid (∀ W, Calls Tryd.prog 6 #[.string b] W fun e w' => e = .returned (.int .i64 4) ∧ w' = W) := nameErr_no b hb
  have H1 : Hid (∀ W, Below w.heap.size w W → Calls Tryd.prog 5 #[.string a, .string b] W fun e w' => e = .returned (.tuple #[.pointer none, erV A 3]) ∧ Below w.heap.size w w') := fun W h => (newCaller_no2 A a b W (hE.below h (Nat.le_refl _)) ha hb).mono fun e w' q => ⟨q.1, h.trans (q.2.mono h.size)⟩
  have HC : Hid (∀ W, Below w.heap.size w W → Calls Tryd.prog 7 #[erV A 3, .int .i64 4] W fun e w' => e = .returned (.bool true) ∧ Below w.heap.size w w') := new_coded A 3 (by decide) w hE
  have hd : decide ((200 : Int) < (a.size : Int) + (b.size : Int)) = false := decide_eq_false (by omega)
  have E0 : Hid (Errs w A) := hE
  have A0 : Hid (OkN a) := ha
  clear hE ha hb
  cases no
  · by_cases h1 : m < 1 ∨ 20 < m
    · have HL : Hid (∀ v W, Below w.heap.size w W → Calls Tryd.prog 9 #[.string a, .pointer (some ⟨v, 0, none⟩), .int .i64 m] W fun e w' => e = .returned (.tuple #[.pointer none, erV A 1]) ∧ Below w.heap.size w w') := fun v W hb => (newListener_bad A a v m W (E0.out.below hb (Nat.le_refl _)) A0.out h1).mono fun e w' q => ⟨q.1, hb.trans (q.2.mono hb.size)⟩
      have HC2 : Hid (∀ W, Below w.heap.size w W → Calls Tryd.prog 7 #[erV A 1, .int .i64 2] W fun e w' => e = .returned (.bool true) ∧ Below w.heap.size w w') := new_coded A 1 (by decide) w E0.out
      clear E0 A0
      rcases h1 with h1 | h1
      · have hm : decide (m < 1) = true := decide_eq_true h1
        clear h1
        go_enter Tryd.func3, Tryd.ntmps3
        go_wp2_with (first
          | (go_at_call 4; refine H.out.mono ?_; rintro e w1 ⟨rfl, hb⟩; have B1 : Hid (Below w.heap.size w w1) := hb; clear hb)
          | (go_at_call 5; (with_reducible refine (H1.out _ B1.out).mono ?_); rintro e w2 ⟨rfl, hb⟩; have B2 : Hid (Below w.heap.size w w2) := hb; clear hb)
          | (go_at_call 6; (with_reducible refine (HA.out _).mono ?_); rintro e w9 ⟨rfl, rfl⟩)
          | (go_at_call 6; (with_reducible refine (HB.out _).mono ?_); rintro e w9 ⟨rfl, rfl⟩)
          | (go_at_call 7; (with_reducible refine (HC.out _ B2.out).mono ?_); rintro e w3 ⟨rfl, hb⟩; have B3 : Hid (Below w.heap.size w w3) := hb; clear hb))
        go_wp2_with (first
          | (go_at_call 8; (with_reducible refine (HS.out _ B3.out).mono ?_); rintro e w4 ⟨⟨t, rfl⟩, hb⟩; have B4 : Hid (Below w.heap.size w w4) := hb; clear hb)
          | (go_at_call 9; (with_reducible refine (HL.out _ _ B4.out).mono ?_); rintro e w5 ⟨rfl, hb⟩; have B5 : Hid (Below w.heap.size w w5) := hb; clear hb)
          | (go_at_call 6; (with_reducible refine (HA.out _).mono ?_); rintro e w9 ⟨rfl, rfl⟩)
          | (go_at_call 7; (with_reducible refine (HC2.out _ B5.out).mono ?_); rintro e w6 ⟨rfl, hb⟩; have B6 : Hid (Below w.heap.size w w6) := hb; clear hb))
        go_ret
        exact ⟨by simp, B6.out⟩
      · have hm : decide (m < 1) = false := decide_eq_false (by omega)
        have hm2 : decide (20 < m) = true := decide_eq_true h1
        clear h1
        go_enter Tryd.func3, Tryd.ntmps3
        go_wp2_with (first
          | (go_at_call 4; refine H.out.mono ?_; rintro e w1 ⟨rfl, hb⟩; have B1 : Hid (Below w.heap.size w w1) := hb; clear hb)
          | (go_at_call 5; (with_reducible refine (H1.out _ B1.out).mono ?_); rintro e w2 ⟨rfl, hb⟩; have B2 : Hid (Below w.heap.size w w2) := hb; clear hb)
          | (go_at_call 6; (with_reducible refine (HA.out _).mono ?_); rintro e w9 ⟨rfl, rfl⟩)
          | (go_at_call 6; (with_reducible refine (HB.out _).mono ?_); rintro e w9 ⟨rfl, rfl⟩)
          | (go_at_call 7; (with_reducible refine (HC.out _ B2.out).mono ?_); rintro e w3 ⟨rfl, hb⟩; have B3 : Hid (Below w.heap.size w w3) := hb; clear hb))
        go_wp2_with (first
          | (go_at_call 8; (with_reducible refine (HS.out _ B3.out).mono ?_); rintro e w4 ⟨⟨t, rfl⟩, hb⟩; have B4 : Hid (Below w.heap.size w w4) := hb; clear hb)
          | (go_at_call 9; (with_reducible refine (HL.out _ _ B4.out).mono ?_); rintro e w5 ⟨rfl, hb⟩; have B5 : Hid (Below w.heap.size w w5) := hb; clear hb)
          | (go_at_call 6; (with_reducible refine (HA.out _).mono ?_); rintro e w9 ⟨rfl, rfl⟩)
          | (go_at_call 7; (with_reducible refine (HC2.out _ B5.out).mono ?_); rintro e w6 ⟨rfl, hb⟩; have B6 : Hid (Below w.heap.size w w6) := hb; clear hb))
        go_ret
        exact ⟨by simp, B6.out⟩
    · obtain ⟨n, rfl⟩ : ∃ n : Nat, m = n := ⟨m.toNat, by omega⟩
      have HL : Hid (∀ v W, Below w.heap.size w W → Calls Tryd.prog 9 #[.string a, .pointer (some ⟨v, 0, none⟩), .int .i64 n] W fun e w' => (∃ l, e = .returned (.tuple #[.pointer (some ⟨l, 0, none⟩), .nilIface])) ∧ Below w.heap.size w w') := fun v W hb => (newListener_ok A a v n W (E0.out.below hb (Nat.le_refl _)) A0.out (by omega) (by omega)).mono fun e w' q => by
        obtain ⟨l, c, b, he, _, _, _, _, _, hb'⟩ := q
        exact ⟨⟨l, he⟩, hb.trans (hb'.mono hb.size)⟩
      have HC2 : Hid (∀ W, Below w.heap.size w W → Calls Tryd.prog 7 #[.nilIface, .int .i64 0] W fun e w' => e = .returned (.bool true) ∧ Below w.heap.size w w') := fun W hb => (coded3_nil W).mono fun e w' q => ⟨q.1, hb.trans (q.2.mono hb.size)⟩
      have hm : decide ((n : Int) < 1) = false := decide_eq_false (by omega)
      have hm2 : decide ((20 : Int) < (n : Int)) = false := decide_eq_false (by omega)
      clear E0 A0 h1
      go_enter Tryd.func3, Tryd.ntmps3
      go_wp2_with (first
        | (go_at_call 4; refine H.out.mono ?_; rintro e w1 ⟨rfl, hb⟩; have B1 : Hid (Below w.heap.size w w1) := hb; clear hb)
        | (go_at_call 5; (with_reducible refine (H1.out _ B1.out).mono ?_); rintro e w2 ⟨rfl, hb⟩; have B2 : Hid (Below w.heap.size w w2) := hb; clear hb)
        | (go_at_call 6; (with_reducible refine (HA.out _).mono ?_); rintro e w9 ⟨rfl, rfl⟩)
        | (go_at_call 6; (with_reducible refine (HB.out _).mono ?_); rintro e w9 ⟨rfl, rfl⟩)
        | (go_at_call 7; (with_reducible refine (HC.out _ B2.out).mono ?_); rintro e w3 ⟨rfl, hb⟩; have B3 : Hid (Below w.heap.size w w3) := hb; clear hb))
      go_wp2_with (first
        | (go_at_call 8; (with_reducible refine (HS.out _ B3.out).mono ?_); rintro e w4 ⟨⟨t, rfl⟩, hb⟩; have B4 : Hid (Below w.heap.size w w4) := hb; clear hb)
        | (go_at_call 9; (with_reducible refine (HL.out _ _ B4.out).mono ?_); rintro e w5 ⟨⟨l, rfl⟩, hb⟩; have B5 : Hid (Below w.heap.size w w5) := hb; clear hb)
        | (go_at_call 6; (with_reducible refine (HA.out _).mono ?_); rintro e w9 ⟨rfl, rfl⟩)
        | (go_at_call 7; (with_reducible refine (HC2.out _ B5.out).mono ?_); rintro e w6 ⟨rfl, hb⟩; have B6 : Hid (Below w.heap.size w w6) := hb; clear hb))
      go_ret
      exact ⟨by simp, B6.out⟩
  · have HL : Hid (∀ (_ : Unit) W, Below w.heap.size w W → Calls Tryd.prog 9 #[.string a, .pointer none, .int .i64 m] W fun e w' => e = .returned (.tuple #[.pointer none, erV A 2]) ∧ Below w.heap.size w w') := fun _ W hb => (newListener_nil A a m W (E0.out.below hb (Nat.le_refl _)) A0.out).mono fun e w' q => ⟨q.1, hb.trans (q.2.mono hb.size)⟩
    have HC2 : Hid (∀ W, Below w.heap.size w W → Calls Tryd.prog 7 #[erV A 2, .int .i64 3] W fun e w' => e = .returned (.bool true) ∧ Below w.heap.size w w') := new_coded A 2 (by decide) w E0.out
    clear E0 A0
    go_enter Tryd.func3, Tryd.ntmps3
    go_wp2_with (first
      | (go_at_call 4; refine H.out.mono ?_; rintro e w1 ⟨rfl, hb⟩; have B1 : Hid (Below w.heap.size w w1) := hb; clear hb)
      | (go_at_call 5; (with_reducible refine (H1.out _ B1.out).mono ?_); rintro e w2 ⟨rfl, hb⟩; have B2 : Hid (Below w.heap.size w w2) := hb; clear hb)
      | (go_at_call 6; (with_reducible refine (HA.out _).mono ?_); rintro e w9 ⟨rfl, rfl⟩)
      | (go_at_call 6; (with_reducible refine (HB.out _).mono ?_); rintro e w9 ⟨rfl, rfl⟩)
      | (go_at_call 7; (with_reducible refine (HC.out _ B2.out).mono ?_); rintro e w3 ⟨rfl, hb⟩; have B3 : Hid (Below w.heap.size w w3) := hb; clear hb))
    go_wp2_with (first
      | (go_at_call 8; (with_reducible refine (HS.out _ B3.out).mono ?_); rintro e w4 ⟨⟨t, rfl⟩, hb⟩; have B4 : Hid (Below w.heap.size w w4) := hb; clear hb)
      | (go_at_call 9; (with_reducible refine (HL.out () _ B4.out).mono ?_); rintro e w5 ⟨rfl, hb⟩; have B5 : Hid (Below w.heap.size w w5) := hb; clear hb)
      | (go_at_call 6; (with_reducible refine (HA.out _).mono ?_); rintro e w9 ⟨rfl, rfl⟩)
      | (go_at_call 7; (with_reducible refine (HC2.out _ B5.out).mono ?_); rintro e w6 ⟨rfl, hb⟩; have B6 : Hid (Below w.heap.size w w6) := hb; clear hb))
    go_ret
    exact ⟨by simp, B6.out⟩
set_option maxRecDepth 100000 in
set_option maxHeartbeats 2000000 in
theorem new_both (A : Nat → Addr) (a b : ByteArray) (m : Int) (no : Bool) (w : World) (hE : Errs w A) (hz : a.size + b.size ≤ 200) (ha : OkN a) (hb : OkN b) :
    Calls Tryd.prog 3 #[.string a, .string b, .int .i64 m, .bool no] w fun e w' => e = .returned (.bool true) ∧ Below w.heap.size w w' := by
  have H : Hid (Calls Tryd.prog 4 #[] w fun e w' => e = .returned (.bool true) ∧ Below w.heap.size w w') := asks_any A w hE
  have HS := new_server w
  have HA : Hid (∀ W, Calls Tryd.prog 6 #[.string a] W fun e w' => e = .returned (.int .i64 0) ∧ w' = W) := nameErr_yes a ha
  have HB : Hid (∀ W, Calls Tryd.prog 6 #[.string b] W fun e w' => e = .returned (.int .i64 0) ∧ w' = W) := nameErr_yes b hb
  have H1 : Hid (∀ W, Below w.heap.size w W → Calls Tryd.prog 5 #[.string a, .string b] W fun e w' => (∃ c, e = .returned (.tuple #[.pointer (some ⟨c, 0, none⟩), .nilIface])) ∧ Below w.heap.size w w') := fun W h => (newCaller_ok A a b W (hE.below h (Nat.le_refl _)) ha hb).mono fun e w' q => by
    obtain ⟨c, he, _, _, hb'⟩ := q
    exact ⟨⟨c, he⟩, h.trans (hb'.mono h.size)⟩
  have hd : decide ((200 : Int) < (a.size : Int) + (b.size : Int)) = false := decide_eq_false (by omega)
  have E0 : Hid (Errs w A) := hE
  have A0 : Hid (OkN a) := ha
  clear hE ha hb
  cases no
  · by_cases h1 : m < 1 ∨ 20 < m
    · have HL : Hid (∀ v W, Below w.heap.size w W → Calls Tryd.prog 9 #[.string a, .pointer (some ⟨v, 0, none⟩), .int .i64 m] W fun e w' => e = .returned (.tuple #[.pointer none, erV A 1]) ∧ Below w.heap.size w w') := fun v W hb => (newListener_bad A a v m W (E0.out.below hb (Nat.le_refl _)) A0.out h1).mono fun e w' q => ⟨q.1, hb.trans (q.2.mono hb.size)⟩
      have HC2 : Hid (∀ W, Below w.heap.size w W → Calls Tryd.prog 7 #[erV A 1, .int .i64 2] W fun e w' => e = .returned (.bool true) ∧ Below w.heap.size w w') := new_coded A 1 (by decide) w E0.out
      clear E0 A0
      rcases h1 with h1 | h1
      · have hm : decide (m < 1) = true := decide_eq_true h1
        clear h1
        go_enter Tryd.func3, Tryd.ntmps3
        go_wp2_with (first
          | (go_at_call 4; refine H.out.mono ?_; rintro e w1 ⟨rfl, hb⟩; have B1 : Hid (Below w.heap.size w w1) := hb; clear hb)
          | (go_at_call 5; (with_reducible refine (H1.out _ B1.out).mono ?_); rintro e w2 ⟨⟨c, rfl⟩, hb⟩; have B2 : Hid (Below w.heap.size w w2) := hb; clear hb)
          | (go_at_call 6; (with_reducible refine (HA.out _).mono ?_); rintro e w9 ⟨rfl, rfl⟩)
          | (go_at_call 6; (with_reducible refine (HB.out _).mono ?_); rintro e w9 ⟨rfl, rfl⟩))
        go_wp2_with (first
          | (go_at_call 8; (with_reducible refine (HS.out _ B2.out).mono ?_); rintro e w4 ⟨⟨t, rfl⟩, hb⟩; have B4 : Hid (Below w.heap.size w w4) := hb; clear hb)
          | (go_at_call 9; (with_reducible refine (HL.out _ _ B4.out).mono ?_); rintro e w5 ⟨rfl, hb⟩; have B5 : Hid (Below w.heap.size w w5) := hb; clear hb)
          | (go_at_call 6; (with_reducible refine (HA.out _).mono ?_); rintro e w9 ⟨rfl, rfl⟩)
          | (go_at_call 7; (with_reducible refine (HC2.out _ B5.out).mono ?_); rintro e w6 ⟨rfl, hb⟩; have B6 : Hid (Below w.heap.size w w6) := hb; clear hb))
        go_ret
        exact ⟨by simp, B6.out⟩
      · have hm : decide (m < 1) = false := decide_eq_false (by omega)
        have hm2 : decide (20 < m) = true := decide_eq_true h1
        clear h1
        go_enter Tryd.func3, Tryd.ntmps3
        go_wp2_with (first
          | (go_at_call 4; refine H.out.mono ?_; rintro e w1 ⟨rfl, hb⟩; have B1 : Hid (Below w.heap.size w w1) := hb; clear hb)
          | (go_at_call 5; (with_reducible refine (H1.out _ B1.out).mono ?_); rintro e w2 ⟨⟨c, rfl⟩, hb⟩; have B2 : Hid (Below w.heap.size w w2) := hb; clear hb)
          | (go_at_call 6; (with_reducible refine (HA.out _).mono ?_); rintro e w9 ⟨rfl, rfl⟩)
          | (go_at_call 6; (with_reducible refine (HB.out _).mono ?_); rintro e w9 ⟨rfl, rfl⟩))
        go_wp2_with (first
          | (go_at_call 8; (with_reducible refine (HS.out _ B2.out).mono ?_); rintro e w4 ⟨⟨t, rfl⟩, hb⟩; have B4 : Hid (Below w.heap.size w w4) := hb; clear hb)
          | (go_at_call 9; (with_reducible refine (HL.out _ _ B4.out).mono ?_); rintro e w5 ⟨rfl, hb⟩; have B5 : Hid (Below w.heap.size w w5) := hb; clear hb)
          | (go_at_call 6; (with_reducible refine (HA.out _).mono ?_); rintro e w9 ⟨rfl, rfl⟩)
          | (go_at_call 7; (with_reducible refine (HC2.out _ B5.out).mono ?_); rintro e w6 ⟨rfl, hb⟩; have B6 : Hid (Below w.heap.size w w6) := hb; clear hb))
        go_ret
        exact ⟨by simp, B6.out⟩
    · obtain ⟨n, rfl⟩ : ∃ n : Nat, m = n := ⟨m.toNat, by omega⟩
      have HL : Hid (∀ v W, Below w.heap.size w W → Calls Tryd.prog 9 #[.string a, .pointer (some ⟨v, 0, none⟩), .int .i64 n] W fun e w' => (∃ l, e = .returned (.tuple #[.pointer (some ⟨l, 0, none⟩), .nilIface])) ∧ Below w.heap.size w w') := fun v W hb => (newListener_ok A a v n W (E0.out.below hb (Nat.le_refl _)) A0.out (by omega) (by omega)).mono fun e w' q => by
        obtain ⟨l, c, b, he, _, _, _, _, _, hb'⟩ := q
        exact ⟨⟨l, he⟩, hb.trans (hb'.mono hb.size)⟩
      have HC2 : Hid (∀ W, Below w.heap.size w W → Calls Tryd.prog 7 #[.nilIface, .int .i64 0] W fun e w' => e = .returned (.bool true) ∧ Below w.heap.size w w') := fun W hb => (coded3_nil W).mono fun e w' q => ⟨q.1, hb.trans (q.2.mono hb.size)⟩
      have hm : decide ((n : Int) < 1) = false := decide_eq_false (by omega)
      have hm2 : decide ((20 : Int) < (n : Int)) = false := decide_eq_false (by omega)
      clear E0 A0 h1
      go_enter Tryd.func3, Tryd.ntmps3
      go_wp2_with (first
        | (go_at_call 4; refine H.out.mono ?_; rintro e w1 ⟨rfl, hb⟩; have B1 : Hid (Below w.heap.size w w1) := hb; clear hb)
        | (go_at_call 5; (with_reducible refine (H1.out _ B1.out).mono ?_); rintro e w2 ⟨⟨c, rfl⟩, hb⟩; have B2 : Hid (Below w.heap.size w w2) := hb; clear hb)
        | (go_at_call 6; (with_reducible refine (HA.out _).mono ?_); rintro e w9 ⟨rfl, rfl⟩)
        | (go_at_call 6; (with_reducible refine (HB.out _).mono ?_); rintro e w9 ⟨rfl, rfl⟩))
      go_wp2_with (first
        | (go_at_call 8; (with_reducible refine (HS.out _ B2.out).mono ?_); rintro e w4 ⟨⟨t, rfl⟩, hb⟩; have B4 : Hid (Below w.heap.size w w4) := hb; clear hb)
        | (go_at_call 9; (with_reducible refine (HL.out _ _ B4.out).mono ?_); rintro e w5 ⟨⟨l, rfl⟩, hb⟩; have B5 : Hid (Below w.heap.size w w5) := hb; clear hb)
        | (go_at_call 6; (with_reducible refine (HA.out _).mono ?_); rintro e w9 ⟨rfl, rfl⟩)
        | (go_at_call 7; (with_reducible refine (HC2.out _ B5.out).mono ?_); rintro e w6 ⟨rfl, hb⟩; have B6 : Hid (Below w.heap.size w w6) := hb; clear hb))
      go_ret
      exact ⟨by simp, B6.out⟩
  · have HL : Hid (∀ (_ : Unit) W, Below w.heap.size w W → Calls Tryd.prog 9 #[.string a, .pointer none, .int .i64 m] W fun e w' => e = .returned (.tuple #[.pointer none, erV A 2]) ∧ Below w.heap.size w w') := fun _ W hb => (newListener_nil A a m W (E0.out.below hb (Nat.le_refl _)) A0.out).mono fun e w' q => ⟨q.1, hb.trans (q.2.mono hb.size)⟩
    have HC2 : Hid (∀ W, Below w.heap.size w W → Calls Tryd.prog 7 #[erV A 2, .int .i64 3] W fun e w' => e = .returned (.bool true) ∧ Below w.heap.size w w') := new_coded A 2 (by decide) w E0.out
    clear E0 A0
    go_enter Tryd.func3, Tryd.ntmps3
    go_wp2_with (first
      | (go_at_call 4; refine H.out.mono ?_; rintro e w1 ⟨rfl, hb⟩; have B1 : Hid (Below w.heap.size w w1) := hb; clear hb)
      | (go_at_call 5; (with_reducible refine (H1.out _ B1.out).mono ?_); rintro e w2 ⟨⟨c, rfl⟩, hb⟩; have B2 : Hid (Below w.heap.size w w2) := hb; clear hb)
      | (go_at_call 6; (with_reducible refine (HA.out _).mono ?_); rintro e w9 ⟨rfl, rfl⟩)
      | (go_at_call 6; (with_reducible refine (HB.out _).mono ?_); rintro e w9 ⟨rfl, rfl⟩))
    go_wp2_with (first
      | (go_at_call 8; (with_reducible refine (HS.out _ B2.out).mono ?_); rintro e w4 ⟨⟨t, rfl⟩, hb⟩; have B4 : Hid (Below w.heap.size w w4) := hb; clear hb)
      | (go_at_call 9; (with_reducible refine (HL.out () _ B4.out).mono ?_); rintro e w5 ⟨rfl, hb⟩; have B5 : Hid (Below w.heap.size w w5) := hb; clear hb)
      | (go_at_call 6; (with_reducible refine (HA.out _).mono ?_); rintro e w9 ⟨rfl, rfl⟩)
      | (go_at_call 7; (with_reducible refine (HC2.out _ B5.out).mono ?_); rintro e w6 ⟨rfl, hb⟩; have B6 : Hid (Below w.heap.size w w6) := hb; clear hb))
    go_ret
    exact ⟨by simp, B6.out⟩
theorem new_all (A : Nat → Addr) (a b : ByteArray) (m : Int) (no : Bool) (w : World) (hE : Errs w A) (ha : a.size ≤ 4611686018427387903) (hb : b.size ≤ 4611686018427387903) :
    Calls Tryd.prog 3 #[.string a, .string b, .int .i64 m, .bool no] w fun e w' => e = .returned (.bool true) ∧ Below w.heap.size w w' := by
  by_cases h : 200 < a.size + b.size
  · exact new_many A a b m no w hE (by omega) hb h
  by_cases h1 : OkN a
  · by_cases h2 : OkN b
    · exact new_both A a b m no w hE (by omega) h1 h2
    · exact new_noserver A a b m no w hE (by omega) h1 h2
  · exact new_noname A a b m no w hE (by omega) h1
end Go.Proofs.YtmfcfkomdflhlaaDoor
