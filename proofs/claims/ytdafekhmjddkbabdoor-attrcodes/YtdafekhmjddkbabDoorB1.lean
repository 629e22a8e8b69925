/- The document's answer for texts on the wire: its small functions by their contracts. -/
import Derived.Test.YtdafekhmjddkbabDoorT0
namespace Go.Proofs.YtdafekhmjddkbabDoor
open Go Go.RowKit Go.Deep

theorem refIsInt_yes (n : Int) (w : World) (_h0 : 0 ≤ n) (h1 : n ≤ 4294967295) : Calls Tryd.prog 28 #[.int .i64 n] w fun e w' => e = .returned (.bool true) ∧ w = w' := by
  have hd : decide (n < 4294967296) = true := decide_eq_true (by omega)
  go_enter Tryd.func28, Tryd.ntmps28
  go_wp2
  go_ret
  exact ⟨rfl, rfl⟩
theorem refIsInt_no (n : Int) (w : World) (h : n < 0 ∨ 4294967295 < n) : Calls Tryd.prog 28 #[.int .i64 n] w fun e w' => e = .returned (.bool false) ∧ w = w' := by
  rcases h with h | h
  · go_enter Tryd.func28, Tryd.ntmps28
    go_wp2
    go_ret
    exact ⟨rfl, rfl⟩
  · have h0 : 0 ≤ n := by omega
    have h1 : decide (n < 4294967296) = false := decide_eq_false (by omega)
    go_enter Tryd.func28, Tryd.ntmps28
    go_wp2
    go_ret
    exact ⟨rfl, rfl⟩

theorem byte_any (n : Nat) (w : World) (hn : n < 256) : Calls Tryd.prog 52 #[.int .i64 n] w fun e w' => e = .returned (.string (bs [UInt8.ofNat n])) ∧ Below w.heap.size w w' := by
  have hcv := run_convert_bytes_back (P := Tryd.prog) (w.alloc (.cells #[.int .u8 n] 5)) 117 9 5 ⟨w.heap.size, 0, none⟩ 1 [UInt8.ofNat n] Tryd.underlying117 Tryd.underlying5 Tryd.underlying9 (fun x hx => by
    obtain rfl : x = 0 := by simpa using hx
    rw [addr_head, World.cell?_alloc_new]
    have : (UInt8.ofNat n).toNat = n := by rw [UInt8.toNat_ofNat']; omega
    simp [this])
  have hcv' : (convert 117 9 (.slice (some ⟨w.heap.size, 0, none⟩) 1 1)).run Tryd.prog (w.alloc (.cells #[.int .u8 n] 5)) = .ok (.string (bs [UInt8.ofNat n])) (w.alloc (.cells #[.int .u8 n] 5)) := hcv
  clear hcv
  go_enter Tryd.func52, Tryd.ntmps52
  go_wp2
  go_ret
  exact ⟨rfl, (Below.refl _ _).alloc (Nat.le_refl _) _⟩
theorem byte_int (x : Int) (n : Nat) (w : World) (hx : x = (n : Int)) (hn : n < 256) : Calls Tryd.prog 52 #[.int .i64 x] w fun e w' => e = .returned (.string (bs [UInt8.ofNat n])) ∧ Below w.heap.size w w' := by
  subst hx; exact byte_any n w hn

theorem be_succ_bs (j n : Nat) : bs [UInt8.ofNat (n / 256 ^ j % 256)] ++ bs (be j n) = bs (be (j + 1) n) := by
  rw [bs_append]
  show bs (UInt8.ofNat (n / 256 ^ j % 256) :: be j n) = bs (UInt8.ofNat (n / 256 ^ j) :: be j n)
  have : UInt8.ofNat (n / 256 ^ j % 256) = UInt8.ofNat (n / 256 ^ j) := by
    apply UInt8.toNat_inj.1
    simp
  rw [this]

set_option maxHeartbeats 400000 in
theorem big_any (n k : Nat) (w : World) (hn : n < 9223372036854775808) (hk : k ≤ 8) :
    Calls Tryd.prog 27 #[.int .i64 n, .int .i64 k] w fun e w' => e = .returned (.string (bs (be k n))) ∧ Below w.heap.size w w' := by
  go_enter Tryd.func27, Tryd.ntmps27
  go_wp2
  go_loopw [0, 5, 6] (fun x o i wr => ∃ j : Nat, j ≤ k ∧ i = .int .i64 j ∧ x = .int .i64 ((n / 256 ^ j : Nat) : Int) ∧ o = .string (bs (be j n)) ∧ Below w.heap.size w wr) (fun _ _ i _ => k - (intOf i).toNat)
  case atStart => exact ⟨0, Nat.zero_le _, rfl, by simp, rfl, Below.refl _ _⟩
  case round =>
    obtain ⟨j, hj, rfl, rfl, rfl, hb⟩ := hrel
    by_cases hlt : j < k
    · obtain ⟨m, hm⟩ : ∃ m, m = n / 256 ^ j := ⟨_, rfl⟩
      have hmb : m < 9223372036854775808 := by rw [hm]; exact Nat.lt_of_le_of_lt (Nat.div_le_self _ _) hn
      have e1 : n / 256 ^ (j + 1) = m / 256 := by rw [hm, Nat.pow_succ, Nat.div_div_eq_div_mul]
      have e2 : bs [UInt8.ofNat (m % 256)] ++ bs (be j n) = bs (be (j + 1) n) := by rw [hm]; exact be_succ_bs j n
      have hz : (bs (be j n)).size ≤ 8 := by rw [be_size]; omega
      have hz1 : (bs [UInt8.ofNat (m % 256)]).size ≤ 1 := by rw [bs_size]; exact Nat.le_refl _
      rw [← hm]
      have E1 : Hid _ := e1
      have E2 : Hid _ := e2
      clear hm e1 e2
      go_wp2_with (go_at_call 52; refine (byte_int _ (m % 256) _ (by omega) (by omega)).mono ?_; rintro e w1 ⟨rfl, hb1⟩)
      go_roundw
      case rel => exact ⟨j + 1, by omega, by go_num, by rw [E1.out]; go_num, by rw [← E2.out], hb.trans (hb1.mono hb.size)⟩
      case measure => simp [intOf]; omega
    · obtain rfl : j = k := by omega
      go_wp2
      go_ret
      exact ⟨rfl, hb⟩

theorem big4 (n : Nat) (w : World) (hn : n < 9223372036854775808) : Calls Tryd.prog 27 #[.int .i64 n, .int .i64 4] w fun e w' => e = .returned (.string (bs (be 4 n))) ∧ Below w.heap.size w w' := big_any n 4 w hn (by decide)
theorem big8 (n : Nat) (w : World) (hn : n < 9223372036854775808) : Calls Tryd.prog 27 #[.int .i64 n, .int .i64 8] w fun e w' => e = .returned (.string (bs (be 8 n))) ∧ Below w.heap.size w w' := big_any n 8 w hn (by decide)

end Go.Proofs.YtdafekhmjddkbabDoor
