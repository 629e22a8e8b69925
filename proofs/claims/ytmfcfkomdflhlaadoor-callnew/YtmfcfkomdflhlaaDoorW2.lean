/- The writer's functions: their contracts. -/
import Derived.Test.YtmfcfkomdflhlaaDoorW1
import Derived.Deep.RegionWith
namespace Go.Proofs.YtmfcfkomdflhlaaDoor
open Go Go.RowKit Go.Deep

/-- A number of four bytes. -/
def intB (n : Int) : Bool := decide (0 ≤ n ∧ n ≤ 4294967295)

theorem isInt_yes (n : Int) (w : World) (_h0 : 0 ≤ n) (_h1 : n ≤ 4294967295) : Calls Tryd.prog 27 #[.int .i64 n] w fun e w' => e = .returned (.bool true) ∧ w = w' := by
  go_enter Tryd.func27, Tryd.ntmps27
  go_wp2
  go_ret
  exact ⟨rfl, rfl⟩

theorem isInt_no (n : Int) (w : World) (h : n < 0 ∨ 4294967295 < n) : Calls Tryd.prog 27 #[.int .i64 n] w fun e w' => e = .returned (.bool false) ∧ w = w' := by
  rcases h with h | h
  · go_enter Tryd.func27, Tryd.ntmps27
    go_wp2
    go_ret
    exact ⟨rfl, rfl⟩
  · have h0 : 0 ≤ n := by omega
    have h1 : decide (n ≤ 4294967295) = false := decide_eq_false (by omega)
    go_enter Tryd.func27, Tryd.ntmps27
    go_wp2
    go_ret
    exact ⟨rfl, rfl⟩

/-- How many bytes 0 stand behind so many bytes. -/
def fillN (n : Nat) : Nat := (4 - n % 4) % 4
theorem fillN_lt (n : Nat) : fillN n < 4 := by unfold fillN; omega

theorem filling_any (n : Nat) (w : World) (_h : n < 9223372036854775000) : Calls Tryd.prog 28 #[.int .i64 n] w fun e w' => e = .returned (.int .i64 (fillN n)) ∧ w = w' := by
  have e : ((fillN n : Nat) : Int) = (4 - (n : Int) % 4) % 4 := by unfold fillN; omega
  rw [e]
  go_enter Tryd.func28, Tryd.ntmps28
  go_wp2
  go_ret
  exact ⟨rfl, rfl⟩

theorem hasRoom_any (b : Nat) (t : ByteArray) (n : Nat) (w : World) (hc : w.cell? ⟨b, 0, none⟩ = some (.string t)) (_ht : t.size ≤ 4000) :
    Calls Tryd.prog 29 #[.pointer (some ⟨b, 0, none⟩), .int .i64 n] w fun e w' => e = .returned (.bool (decide (n + t.size ≤ 4000))) ∧ w = w' := by
  have e : decide (n + t.size ≤ 4000) = decide ((n : Int) ≤ 4000 - (t.size : Int)) := by
    rw [decide_eq_decide]; omega
  rw [e]
  go_enter Tryd.func29, Tryd.ntmps29
  go_wp2
  go_ret
  exact ⟨rfl, rfl⟩

theorem number_full (b : Nat) (t : ByteArray) (n : Int) (k : Nat) (E : Value) (w : World) (hc : w.cell? ⟨b, 0, none⟩ = some (.string t)) (ht : t.size ≤ 4000) (hE : w.cell? ⟨1, 0, none⟩ = some E) (h : 4000 < k + t.size) :
    Calls Tryd.prog 26 #[.pointer (some ⟨b, 0, none⟩), .int .i64 n, .int .i64 k] w fun e w' => e = .returned E ∧ w = w' := by
  have hd : decide (k + t.size ≤ 4000) = false := decide_eq_false (by omega)
  go_enter Tryd.func26, Tryd.ntmps26
  go_wp2_with (go_at_call 29; refine (hasRoom_any b t k _ hc ht).mono ?_; rintro e w' ⟨rfl, rfl⟩; rw [hd])
  go_ret
  exact ⟨rfl, rfl⟩

set_option maxHeartbeats 800000 in
theorem number_ok (b : Nat) (t : ByteArray) (n k : Nat) (w : World) (hc : w.cell? ⟨b, 0, none⟩ = some (.string t)) (hf : w.frozen? ⟨b, 0, none⟩ = false) (ht : t.size ≤ 4000) (hn : n < 9223372036854775808) (hk : k ≤ 8) (h : k + t.size ≤ 4000) :
    Calls Tryd.prog 26 #[.pointer (some ⟨b, 0, none⟩), .int .i64 n, .int .i64 k] w fun e w' => e = .returned .nilIface ∧ Below w.heap.size (w.setCell ⟨b, 0, none⟩ (.string (t ++ bs (be k n)))) w' := by
  have hd : decide (k + t.size ≤ 4000) = true := decide_eq_true h
  go_enter Tryd.func26, Tryd.ntmps26
  go_wp2_with (go_at_call 29; refine (hasRoom_any b t k _ hc ht).mono ?_; rintro e w' ⟨rfl, rfl⟩; rw [hd])
  have hlt : b < w.heap.size := lt_of_cell hc
  have hs : (bs (be k n)).size = k := by rw [bs_size, be_length]
  have HS : Hid ((bs (be k n)).size = k) := hs
  clear hs
  have hs8 : (bs (be k n)).size ≤ 8 := by rw [HS.out]; exact hk
  go_region_with (go_at_call 30; refine (digits_any n k _ hn hk).mono ?_; rintro e w1 ⟨rfl, hb⟩; have k1 : w1.cell? ⟨b, 0, none⟩ = some (.string t) := (hb.cell (p := ⟨b, 0, none⟩) hlt).trans hc; have k2 : w1.frozen? ⟨b, 0, none⟩ = false := (hb.frozen (p := ⟨b, 0, none⟩) hlt).trans hf)
  all_goals
    go_wp2
    go_ret
    exact ⟨rfl, below_set (below_from_drew hb) _ _⟩

/-! ### what a caller meets -/
theorem number4_ok (b : Nat) (t : ByteArray) (n : Nat) (w : World) (hc : w.cell? ⟨b, 0, none⟩ = some (.string t)) (hf : w.frozen? ⟨b, 0, none⟩ = false) (ht : t.size ≤ 4000) (hn : n < 9223372036854775808) (h : 4 + t.size ≤ 4000) :
    Calls Tryd.prog 26 #[.pointer (some ⟨b, 0, none⟩), .int .i64 n, .int .i64 4] w fun e w' => e = .returned .nilIface ∧ Below w.heap.size (w.setCell ⟨b, 0, none⟩ (.string (t ++ bs (be 4 n)))) w' :=
  number_ok b t n 4 w hc hf ht hn (by decide) h
theorem number8_ok (b : Nat) (t : ByteArray) (n : Nat) (w : World) (hc : w.cell? ⟨b, 0, none⟩ = some (.string t)) (hf : w.frozen? ⟨b, 0, none⟩ = false) (ht : t.size ≤ 4000) (hn : n < 9223372036854775808) (h : 8 + t.size ≤ 4000) :
    Calls Tryd.prog 26 #[.pointer (some ⟨b, 0, none⟩), .int .i64 n, .int .i64 8] w fun e w' => e = .returned .nilIface ∧ Below w.heap.size (w.setCell ⟨b, 0, none⟩ (.string (t ++ bs (be 8 n)))) w' :=
  number_ok b t n 8 w hc hf ht hn (by decide) h
theorem number4_full (b : Nat) (t : ByteArray) (n : Int) (E : Value) (w : World) (hc : w.cell? ⟨b, 0, none⟩ = some (.string t)) (ht : t.size ≤ 4000) (hE : w.cell? ⟨1, 0, none⟩ = some E) (h : 4000 < 4 + t.size) :
    Calls Tryd.prog 26 #[.pointer (some ⟨b, 0, none⟩), .int .i64 n, .int .i64 4] w fun e w' => e = .returned E ∧ w = w' := number_full b t n 4 E w hc ht hE h
theorem number8_full (b : Nat) (t : ByteArray) (n : Int) (E : Value) (w : World) (hc : w.cell? ⟨b, 0, none⟩ = some (.string t)) (ht : t.size ≤ 4000) (hE : w.cell? ⟨1, 0, none⟩ = some E) (h : 4000 < 8 + t.size) :
    Calls Tryd.prog 26 #[.pointer (some ⟨b, 0, none⟩), .int .i64 n, .int .i64 8] w fun e w' => e = .returned E ∧ w = w' := number_full b t n 8 E w hc ht hE h

theorem long_bound (b : Nat) (n : Int) (E : Value) (w : World) (hE : w.cell? ⟨4, 0, none⟩ = some E) (h : n < 0) :
    Calls Tryd.prog 16 #[.pointer (some ⟨b, 0, none⟩), .int .i64 n] w fun e w' => e = .returned E ∧ w = w' := by
  go_enter Tryd.func16, Tryd.ntmps16
  go_wp2
  go_ret
  exact ⟨rfl, rfl⟩
theorem long_full (b : Nat) (t : ByteArray) (n : Int) (E : Value) (w : World) (hc : w.cell? ⟨b, 0, none⟩ = some (.string t)) (ht : t.size ≤ 4000) (hE : w.cell? ⟨1, 0, none⟩ = some E) (h0 : 0 ≤ n) (h : 4000 < 8 + t.size) :
    Calls Tryd.prog 16 #[.pointer (some ⟨b, 0, none⟩), .int .i64 n] w fun e w' => e = .returned E ∧ w = w' := by
  go_enter Tryd.func16, Tryd.ntmps16
  go_wp2_with (go_at_call 26; refine (number8_full b t n E _ hc ht hE h).mono ?_; rintro e w' ⟨rfl, rfl⟩)
  go_ret
  exact ⟨rfl, rfl⟩
theorem long_ok (b : Nat) (t : ByteArray) (n : Nat) (w : World) (hc : w.cell? ⟨b, 0, none⟩ = some (.string t)) (hf : w.frozen? ⟨b, 0, none⟩ = false) (ht : t.size ≤ 4000) (h1 : n < 9223372036854775808) (h : 8 + t.size ≤ 4000) :
    Calls Tryd.prog 16 #[.pointer (some ⟨b, 0, none⟩), .int .i64 n] w fun e w' => e = .returned .nilIface ∧ Below w.heap.size (w.setCell ⟨b, 0, none⟩ (.string (t ++ bs (be 8 n)))) w' := by
  go_enter Tryd.func16, Tryd.ntmps16
  go_wp2_with (go_at_call 26; refine (number8_ok b t n _ hc hf ht h1 h).mono ?_; rintro e w' ⟨rfl, hb⟩)
  go_ret
  exact ⟨rfl, hb⟩

theorem text_any (b : Nat) (t : ByteArray) (w : World) (hc : w.cell? ⟨b, 0, none⟩ = some (.string t)) :
    Calls Tryd.prog 18 #[.pointer (some ⟨b, 0, none⟩)] w fun e w' => e = .returned (.string t) ∧ w = w' := by
  go_enter Tryd.func18, Tryd.ntmps18
  go_wp2
  go_ret
  exact ⟨rfl, rfl⟩
end Go.Proofs.YtmfcfkomdflhlaaDoor
