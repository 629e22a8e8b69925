/- The document's answer for texts on the wire: its small functions by their contracts. -/
import Derived.Test.YtigcbdcgfloggaaDoorT0
namespace Go.Proofs.YtigcbdcgfloggaaDoor
open Go Go.RowKit Go.Deep

theorem byte_any (n : Nat) (w : World) (hn : n < 256) : Calls Tryd.prog 36 #[.int .i64 n] w fun e w' => e = .returned (.string (bs [UInt8.ofNat n])) ∧ Below w.heap.size w w' := by
  have hcv := run_convert_bytes_back (P := Tryd.prog) (w.alloc (.cells #[.int .u8 n] 5)) 129 9 5 ⟨w.heap.size, 0, none⟩ 1 [UInt8.ofNat n] Tryd.underlying129 Tryd.underlying5 Tryd.underlying9 (fun x hx => by
    obtain rfl : x = 0 := by simpa using hx
    rw [addr_head, World.cell?_alloc_new]
    have : (UInt8.ofNat n).toNat = n := by rw [UInt8.toNat_ofNat']; omega
    simp [this])
  have hcv' : (convert 129 9 (.slice (some ⟨w.heap.size, 0, none⟩) 1 1)).run Tryd.prog (w.alloc (.cells #[.int .u8 n] 5)) = .ok (.string (bs [UInt8.ofNat n])) (w.alloc (.cells #[.int .u8 n] 5)) := hcv
  clear hcv
  go_enter Tryd.func36, Tryd.ntmps36
  go_wp2
  go_ret
  exact ⟨rfl, (Below.refl _ _).alloc (Nat.le_refl _) _⟩
theorem byte_int (x : Int) (n : Nat) (w : World) (hx : x = (n : Int)) (hn : n < 256) : Calls Tryd.prog 36 #[.int .i64 x] w fun e w' => e = .returned (.string (bs [UInt8.ofNat n])) ∧ Below w.heap.size w w' := by
  subst hx; exact byte_any n w hn

theorem zeros_any (k : Nat) (w : World) (hk : k ≤ 8) : Calls Tryd.prog 37 #[.int .i64 k] w fun e w' => e = .returned (.string (bs (be k 0))) ∧ Below w.heap.size w w' := by
  have hmk := run_make_row' (P := Tryd.prog) 129 5 (.int .u8 0) 1 Tryd.underlying129 Tryd.info5 rfl .i64 .i64 k (by omega) (by omega)
  have hcv := run_convert_bytes_back (P := Tryd.prog) (w.alloc (.cells (madeCells #[.int .u8 0] k) 5)) 129 9 5 ⟨w.heap.size, 0, none⟩ k (be k 0) Tryd.underlying129 Tryd.underlying5 Tryd.underlying9 (fun x hx => by
    have hx' : x < k := by simpa [be_length] using hx
    have := (World.rowIs_made w (.int .u8 0) k 5).cell hx'
    rw [addr_head, this, be_get, Nat.zero_div, Nat.zero_mod]
    rfl)
  rw [be_length] at hcv
  have hcv' : (convert 129 9 (.slice (some ⟨w.heap.size, 0, none⟩) k k)).run Tryd.prog (w.alloc (.cells (madeCells #[.int .u8 0] k) 5)) = .ok (.string (bs (be k 0))) (w.alloc (.cells (madeCells #[.int .u8 0] k) 5)) := hcv
  clear hcv
  go_enter Tryd.func37, Tryd.ntmps37
  go_wp2
  go_ret
  exact ⟨rfl, (Below.refl _ _).alloc (Nat.le_refl _) _⟩

theorem be_succ_bs (j n : Nat) : bs [UInt8.ofNat (n / 256 ^ j % 256)] ++ bs (be j n) = bs (be (j + 1) n) := by
  rw [bs_append]
  show bs (UInt8.ofNat (n / 256 ^ j % 256) :: be j n) = bs (UInt8.ofNat (n / 256 ^ j) :: be j n)
  have : UInt8.ofNat (n / 256 ^ j % 256) = UInt8.ofNat (n / 256 ^ j) := by
    apply UInt8.toNat_inj.1
    simp
  rw [this]

set_option maxHeartbeats 400000 in
theorem big_any (n k : Nat) (w : World) (hn : n < 9223372036854775808) (hk : k ≤ 8) :
    Calls Tryd.prog 18 #[.int .i64 n, .int .i64 k] w fun e w' => e = .returned (.string (bs (be k n))) ∧ Below w.heap.size w w' := by
  go_enter Tryd.func18, Tryd.ntmps18
  go_wp2
  go_loopw [0, 5, 6] (fun x o i wr => ∃ j : Nat, j ≤ k ∧ i = .int .i64 j ∧ x = .int .i64 ((n / 256 ^ j : Nat) : Int) ∧ o = .string (bs (be j n)) ∧ Below w.heap.size w wr) (fun _ _ i _ => k - (intOf i).toNat)
  case atStart => exact ⟨0, Nat.zero_le _, rfl, by simp, rfl, Below.refl _ _⟩
  case round =>
    obtain ⟨j, hj, rfl, rfl, rfl, hb⟩ := hrel
    by_cases hlt : j < k
    · obtain ⟨m, hm⟩ : ∃ m, m = n / 256 ^ j := ⟨_, rfl⟩
      have hmb : m < 9223372036854775808 := by rw [hm]; exact Nat.lt_of_le_of_lt (Nat.div_le_self _ _) hn
      have e1 : n / 256 ^ (j + 1) = m / 256 := by rw [hm, Nat.pow_succ, Nat.div_div_eq_div_mul]
      have e2 : bs [UInt8.ofNat (m % 256)] ++ bs (be j n) = bs (be (j + 1) n) := by rw [hm]; exact be_succ_bs j n
      have hz : (bs (be j n)).size ≤ 8 := by rw [be_size]; omega
      have hz1 : (bs [UInt8.ofNat (m % 256)]).size ≤ 1 := by rw [bs_size]; exact Nat.le_refl _
      rw [← hm]
      have E1 : Hid _ := e1
      have E2 : Hid _ := e2
      clear hm e1 e2
      go_wp2_with (go_at_call 36; refine (byte_int _ (m % 256) _ (by omega) (by omega)).mono ?_; rintro e w1 ⟨rfl, hb1⟩)
      go_roundw
      case rel => exact ⟨j + 1, by omega, by go_num, by rw [E1.out]; go_num, by rw [← E2.out], hb.trans (hb1.mono hb.size)⟩
      case measure => simp [intOf]; omega
    · obtain rfl : j = k := by omega
      go_wp2
      go_ret
      exact ⟨rfl, hb⟩

theorem big4 (n : Nat) (w : World) (hn : n < 9223372036854775808) : Calls Tryd.prog 18 #[.int .i64 n, .int .i64 4] w fun e w' => e = .returned (.string (bs (be 4 n))) ∧ Below w.heap.size w w' := big_any n 4 w hn (by decide)
theorem big8 (n : Nat) (w : World) (hn : n < 9223372036854775808) : Calls Tryd.prog 18 #[.int .i64 n, .int .i64 8] w fun e w' => e = .returned (.string (bs (be 8 n))) ∧ Below w.heap.size w w' := big_any n 8 w hn (by decide)

set_option maxHeartbeats 400000 in
theorem item_any (s : ByteArray) (w : World) (hs : s.size ≤ 5000) :
    Calls Tryd.prog 19 #[.string s] w fun e w' => e = .returned (.string (itemS s)) ∧ Below w.heap.size w w' := by
  have HI : Hid (itemS s = bs (be 4 s.size) ++ s ++ bs (be (fillN s.size) 0)) := rfl
  have hf4 := fillN_lt s.size
  have hff : (s.size + fillN s.size) % 4 = 0 := by unfold fillN; omega
  go_enter Tryd.func19, Tryd.ntmps19
  go_wp2
  go_loop [3] (fun i => ∃ j : Nat, j ≤ fillN s.size ∧ i = .int .i64 j) (fun i => 4 - (intOf i).toNat)
  case atStart => exact ⟨0, Nat.zero_le _, rfl⟩
  case round =>
    obtain ⟨j, hj, rfl⟩ := hrel
    by_cases hlt : j < fillN s.size
    · have hm : 0 < (s.size + j) % 4 := by have : fillN s.size = (4 - s.size % 4) % 4 := rfl
                                           omega
      go_wp2
      go_round
      case rel => exact ⟨j + 1, by omega, by go_num⟩
      case measure => simp [intOf]; omega
    · obtain rfl : j = fillN s.size := by omega
      have hz4 : (bs (be 4 s.size)).size ≤ 4 := by rw [bs_size, be_length]; exact Nat.le_refl _
      have hz0 : (bs (be (fillN s.size) 0)).size ≤ 4 := by rw [bs_size, be_length]; omega
      have hz1 : (bs (be 4 s.size) ++ s).size ≤ 5004 := by rw [ByteArray.size_append]; omega
      go_wp2_with (first
        | (go_at_call 18; refine (big4 s.size _ (by omega)).mono ?_; rintro e w1 ⟨rfl, hb1⟩)
        | (go_at_call 37; refine (zeros_any (fillN s.size) _ (by omega)).mono ?_; rintro e w2 ⟨rfl, hb2⟩))
      go_ret
      exact ⟨by rw [HI.out]; rfl, hb1.trans (hb2.mono hb1.size)⟩
end Go.Proofs.YtigcbdcgfloggaaDoor
