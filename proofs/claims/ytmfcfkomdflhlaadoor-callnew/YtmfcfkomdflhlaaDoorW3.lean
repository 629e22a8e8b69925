/- Writer.Bytes: its contracts. -/
import Derived.Test.YtmfcfkomdflhlaaDoorW2
namespace Go.Proofs.YtmfcfkomdflhlaaDoor
open Go Go.RowKit Go.Deep

/-- What Bytes writes of s. -/
def itemS (s : ByteArray) : ByteArray := bs (be 4 s.size) ++ s ++ bs (be (fillN s.size) 0)
theorem itemS_size (s : ByteArray) : (itemS s).size = 4 + s.size + fillN s.size := by
  simp [itemS, ByteArray.size_append, bs_size, be_length]

theorem digits_len (n : Nat) (w : World) (hn : n < 9223372036854775808) :
    Calls Tryd.prog 30 #[.int .i64 n, .int .i64 4] w fun e w' => e = .returned (.string (bs (be 4 n))) ∧ Below w.heap.size w w' := digits_any n 4 w hn (by decide)
theorem digits_zero (k : Nat) (w : World) (hk : k ≤ 8) :
    Calls Tryd.prog 30 #[.int .i64 0, .int .i64 k] w fun e w' => e = .returned (.string (bs (be k 0))) ∧ Below w.heap.size w w' := digits_any 0 k w (by decide) hk

theorem bytes_full (b : Nat) (t s : ByteArray) (E : Value) (w : World) (hc : w.cell? ⟨b, 0, none⟩ = some (.string t)) (ht : t.size ≤ 4000) (hE : w.cell? ⟨1, 0, none⟩ = some E) (hs : s.size ≤ 5000) (h : 4000 < (itemS s).size + t.size) :
    Calls Tryd.prog 17 #[.pointer (some ⟨b, 0, none⟩), .string s] w fun e w' => e = .returned E ∧ w = w' := by
  rw [itemS_size] at h
  have hz := fillN_lt s.size
  have hr := hasRoom_any b t (4 + s.size + fillN s.size) w hc ht
  rw [show decide (4 + s.size + fillN s.size + t.size ≤ 4000) = false from decide_eq_false (by omega), show ((4 + s.size + fillN s.size : Nat) : Int) = 4 + (s.size : Int) + (fillN s.size : Int) by omega] at hr
  have H : Hid _ := hr
  clear hr
  go_enter Tryd.func17, Tryd.ntmps17
  go_wp2_with (first
    | (go_at_call 27; refine (isInt_yes _ _ (by omega) (by omega)).mono ?_; rintro e w' ⟨rfl, rfl⟩)
    | (go_at_call 28; refine (filling_any s.size _ (by omega)).mono ?_; rintro e w' ⟨rfl, rfl⟩)
    | (go_at_call 29; refine Calls.mono H.out ?_; rintro e w' ⟨rfl, rfl⟩))
  go_ret
  exact ⟨rfl, rfl⟩

set_option maxHeartbeats 4000000 in
theorem bytes_ok (b : Nat) (t s : ByteArray) (w : World) (hc : w.cell? ⟨b, 0, none⟩ = some (.string t)) (hf : w.frozen? ⟨b, 0, none⟩ = false) (ht : t.size ≤ 4000) (hs : s.size ≤ 5000) (h : (itemS s).size + t.size ≤ 4000) :
    Calls Tryd.prog 17 #[.pointer (some ⟨b, 0, none⟩), .string s] w fun e w' => e = .returned .nilIface ∧ Below w.heap.size (w.setCell ⟨b, 0, none⟩ (.string (t ++ itemS s))) w' := by
  have HI : Hid (itemS s = bs (be 4 s.size) ++ s ++ bs (be (fillN s.size) 0)) := rfl
  rw [itemS_size] at h
  have hz := fillN_lt s.size
  have hr := hasRoom_any b t (4 + s.size + fillN s.size) w hc ht
  rw [show decide (4 + s.size + fillN s.size + t.size ≤ 4000) = true from decide_eq_true (by omega), show ((4 + s.size + fillN s.size : Nat) : Int) = 4 + (s.size : Int) + (fillN s.size : Int) by omega] at hr
  have H : Hid _ := hr
  clear hr
  have hlt : b < w.heap.size := lt_of_cell hc
  have hz4 : (bs (be 4 s.size)).size ≤ 4 := by rw [bs_size, be_length]; exact Nat.le_refl _
  have hz0 : (bs (be (fillN s.size) 0)).size ≤ 4 := by rw [bs_size, be_length]; omega
  have hz1 : (bs (be 4 s.size) ++ s).size ≤ 5004 := by rw [ByteArray.size_append]; omega
  have hz2 : (bs (be 4 s.size) ++ s ++ bs (be (fillN s.size) 0)).size ≤ 5008 := by rw [ByteArray.size_append]; omega
  go_enter Tryd.func17, Tryd.ntmps17
  go_wp2_with (first
    | (go_at_call 27; refine (isInt_yes _ _ (by omega) (by omega)).mono ?_; rintro e w' ⟨rfl, rfl⟩)
    | (go_at_call 28; refine (filling_any s.size _ (by omega)).mono ?_; rintro e w' ⟨rfl, rfl⟩)
    | (go_at_call 29; refine Calls.mono H.out ?_; rintro e w' ⟨rfl, rfl⟩))
  go_region_with (first
    | (go_at_call_of 30 (Value.int IntKind.i64 (4 : Int)); refine (digits_len s.size _ (by omega)).mono ?_; rintro e w1 ⟨rfl, hb⟩; have k1 : w1.cell? ⟨b, 0, none⟩ = some (.string t) := (hb.cell (p := ⟨b, 0, none⟩) hlt).trans hc; have k2 : w1.frozen? ⟨b, 0, none⟩ = false := (hb.frozen (p := ⟨b, 0, none⟩) hlt).trans hf; have hl1 : b < w1.heap.size := Nat.lt_of_lt_of_le hlt hb.size)
    | (go_at_call_of 30 (Value.int IntKind.i64 (0 : Int)); refine (digits_zero (fillN s.size) _ (by omega)).mono ?_; rintro e w2 ⟨rfl, hb2⟩; have k3 : w2.cell? ⟨b, 0, none⟩ = some (.string t) := (hb2.cell (p := ⟨b, 0, none⟩) hl1).trans k1; have k4 : w2.frozen? ⟨b, 0, none⟩ = false := (hb2.frozen (p := ⟨b, 0, none⟩) hl1).trans k2; clear k1 k2))
  all_goals
    go_wp2
    go_ret
    exact ⟨rfl, HI.out ▸ below_set ((below_from_drew hb).trans (hb2.mono hb.size)) _ _⟩
end Go.Proofs.YtmfcfkomdflhlaaDoor
