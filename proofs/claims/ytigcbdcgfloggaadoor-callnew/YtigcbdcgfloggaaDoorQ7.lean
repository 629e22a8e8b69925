/- The reader's functions: their contracts. -/
import Derived.Test.YtigcbdcgfloggaaDoorR1
import Derived.Test.YtigcbdcgfloggaaDoorW2
import Derived.Lib.Strings
/- The reader's functions: their contracts. -/
namespace Go.Proofs.YtigcbdcgfloggaaDoor
open Go Go.RowKit Go.Deep

/-- The number of the first so many bytes. -/
def numAt (t : ByteArray) (k : Nat) : Nat := num (t.data.toList.take k)
theorem numAt_lt (t : ByteArray) (k : Nat) : numAt t k < 256 ^ k := num_take_lt _ _
/-- What is left behind the first so many bytes. -/
def cutAt (t : ByteArray) (k : Nat) : ByteArray := t.extract k t.size
theorem cutAt_size (t : ByteArray) (k : Nat) : (cutAt t k).size = t.size - k := by simp [cutAt, ByteArray.size_extract]

theorem next4_short (b : Nat) (t : ByteArray) (E : Value) (w : World) (hc : w.cell? ⟨b, 0, none⟩ = some (.string t)) (hE : w.cell? ⟨3, 0, none⟩ = some E) (h : t.size < 4) :
    Calls Tryd.prog 40 #[.pointer (some ⟨b, 0, none⟩), .int .i64 4] w fun e w' => e = .returned (.tuple #[.int .u64 0, E]) ∧ Below w.heap.size w w' := next_short b t 4 E w hc hE h (by decide)
theorem next8_short (b : Nat) (t : ByteArray) (E : Value) (w : World) (hc : w.cell? ⟨b, 0, none⟩ = some (.string t)) (hE : w.cell? ⟨3, 0, none⟩ = some E) (h : t.size < 8) :
    Calls Tryd.prog 40 #[.pointer (some ⟨b, 0, none⟩), .int .i64 8] w fun e w' => e = .returned (.tuple #[.int .u64 0, E]) ∧ Below w.heap.size w w' := next_short b t 8 E w hc hE h (by decide)
theorem next4_ok (b : Nat) (t : ByteArray) (w : World) (hc : w.cell? ⟨b, 0, none⟩ = some (.string t)) (h : 4 ≤ t.size) (ht : t.size ≤ 1000000) :
    Calls Tryd.prog 40 #[.pointer (some ⟨b, 0, none⟩), .int .i64 4] w fun e w' => e = .returned (.tuple #[.int .u64 (numAt t 4), .nilIface]) ∧ w = w' := next_ok b t 4 w hc h (by decide) ht
theorem next8_ok (b : Nat) (t : ByteArray) (w : World) (hc : w.cell? ⟨b, 0, none⟩ = some (.string t)) (h : 8 ≤ t.size) (ht : t.size ≤ 1000000) :
    Calls Tryd.prog 40 #[.pointer (some ⟨b, 0, none⟩), .int .i64 8] w fun e w' => e = .returned (.tuple #[.int .u64 (numAt t 8), .nilIface]) ∧ w = w' := next_ok b t 8 w hc h (by decide) ht
theorem skip4 (b : Nat) (t : ByteArray) (w : World) (hc : w.cell? ⟨b, 0, none⟩ = some (.string t)) (hf : w.frozen? ⟨b, 0, none⟩ = false) (h : 4 ≤ t.size) (ht : t.size ≤ 1000000) :
    Calls Tryd.prog 41 #[.pointer (some ⟨b, 0, none⟩), .int .i64 4] w fun e w' => e = .returned (.tuple #[]) ∧ w.setCell ⟨b, 0, none⟩ (.string (cutAt t 4)) = w' := skip_any b t 4 w hc hf h ht
theorem skip8 (b : Nat) (t : ByteArray) (w : World) (hc : w.cell? ⟨b, 0, none⟩ = some (.string t)) (hf : w.frozen? ⟨b, 0, none⟩ = false) (h : 8 ≤ t.size) (ht : t.size ≤ 1000000) :
    Calls Tryd.prog 41 #[.pointer (some ⟨b, 0, none⟩), .int .i64 8] w fun e w' => e = .returned (.tuple #[]) ∧ w.setCell ⟨b, 0, none⟩ (.string (cutAt t 8)) = w' := skip_any b t 8 w hc hf h ht

/-! A sentinel is no nil: E is '.iface T v'. -/
theorem rLong_short (b : Nat) (t : ByteArray) (T : TypeId) (v : Value) (w : World) (hc : w.cell? ⟨b, 0, none⟩ = some (.string t)) (hE : w.cell? ⟨3, 0, none⟩ = some (.iface T v)) (h : t.size < 8) :
    Calls Tryd.prog 22 #[.pointer (some ⟨b, 0, none⟩)] w fun e w' => e = .returned (.tuple #[.int .i64 0, .iface T v]) ∧ Below w.heap.size w w' := by
  go_enter Tryd.func22, Tryd.ntmps22
  go_wp2_with (go_at_call 40; refine (next8_short b t _ _ hc hE h).mono ?_; rintro e w1 ⟨rfl, hb⟩)
  go_ret2
  exact ⟨rfl, hb⟩
theorem rLong_great (b : Nat) (t : ByteArray) (T : TypeId) (v : Value) (w : World) (hc : w.cell? ⟨b, 0, none⟩ = some (.string t)) (hE : w.cell? ⟨3, 0, none⟩ = some (.iface T v)) (h : 8 ≤ t.size) (ht : t.size ≤ 1000000) (hg : 9223372036854775807 < numAt t 8) :
    Calls Tryd.prog 22 #[.pointer (some ⟨b, 0, none⟩)] w fun e w' => e = .returned (.tuple #[.int .i64 0, .iface T v]) ∧ Below w.heap.size w w' := by
  go_enter Tryd.func22, Tryd.ntmps22
  go_wp2_with (go_at_call 40; refine (next8_ok b t _ hc h ht).mono ?_; rintro e w1 ⟨rfl, rfl⟩)
  go_region
  all_goals
    go_wp2
    go_ret2
    exact ⟨rfl, (Below.refl _ _).drew⟩
theorem rLong_ok (b : Nat) (t : ByteArray) (w : World) (hc : w.cell? ⟨b, 0, none⟩ = some (.string t)) (hf : w.frozen? ⟨b, 0, none⟩ = false) (h : 8 ≤ t.size) (ht : t.size ≤ 1000000) (hg : numAt t 8 ≤ 9223372036854775807) :
    Calls Tryd.prog 22 #[.pointer (some ⟨b, 0, none⟩)] w fun e w' => e = .returned (.tuple #[.int .i64 (numAt t 8), .nilIface]) ∧ w.setCell ⟨b, 0, none⟩ (.string (cutAt t 8)) = w' := by
  go_enter Tryd.func22, Tryd.ntmps22
  go_wp2_with (first
    | (go_at_call 40; refine (next8_ok b t _ hc h ht).mono ?_; rintro e w1 ⟨rfl, rfl⟩)
    | (go_at_call 41; refine (skip8 b t _ hc hf h ht).mono ?_; rintro e w1 ⟨rfl, rfl⟩))
  go_ret2
  exact ⟨rfl, rfl⟩

theorem rEnd_some (b : Nat) (t : ByteArray) (E : Value) (w : World) (hc : w.cell? ⟨b, 0, none⟩ = some (.string t)) (hE : w.cell? ⟨3, 0, none⟩ = some E) (h : 0 < t.size) :
    Calls Tryd.prog 24 #[.pointer (some ⟨b, 0, none⟩)] w fun e w' => e = .returned E ∧ w = w' := by
  have hne : t.toList.isEmpty = false := by
    rw [ByteArray.toList_eq]
    cases hd : t.data.toList with
    | nil => rw [← bs_self t, hd] at h; exact absurd h (by decide)
    | cons _ _ => rfl
  go_enter Tryd.func24, Tryd.ntmps24
  go_wp2
  go_ret
  exact ⟨rfl, rfl⟩
theorem rEnd_none (b : Nat) (w : World) (hc : w.cell? ⟨b, 0, none⟩ = some (.string (bs []))) :
    Calls Tryd.prog 24 #[.pointer (some ⟨b, 0, none⟩)] w fun e w' => e = .returned .nilIface ∧ w = w' := by
  have hc' : w.cell? ⟨b, 0, none⟩ = some (.string ⟨#[]⟩) := hc
  clear hc
  go_enter Tryd.func24, Tryd.ntmps24
  go_wp2
  go_ret
  exact ⟨rfl, rfl⟩

theorem newReader_any (s : ByteArray) (w : World) :
    Calls Tryd.prog 21 #[.string s] w fun e w' => e = .returned (.pointer (some ⟨w.heap.size, 0, none⟩)) ∧ w.alloc (.cells #[.string s] 108) = w' := by
  go_enter Tryd.func21, Tryd.ntmps21
  go_wp2
  go_ret
  exact ⟨rfl, rfl⟩
end Go.Proofs.YtigcbdcgfloggaaDoor
/- Reader.Bytes: its contracts. -/
namespace Go.Proofs.YtigcbdcgfloggaaDoor
open Go Go.RowKit Go.Deep

theorem skip_int (b : Nat) (t : ByteArray) (n : Int) (k : Nat) (w : World) (hn : n = (k : Int)) (hc : w.cell? ⟨b, 0, none⟩ = some (.string t)) (hf : w.frozen? ⟨b, 0, none⟩ = false) (h : k ≤ t.size) (ht : t.size ≤ 1000000) :
    Calls Tryd.prog 41 #[.pointer (some ⟨b, 0, none⟩), .int .i64 n] w fun e w' => e = .returned (.tuple #[]) ∧ w.setCell ⟨b, 0, none⟩ (.string (cutAt t k)) = w' := by
  subst hn; exact skip_any b t k w hc hf h ht

theorem rBytes_short (b : Nat) (t : ByteArray) (m : Int) (T : TypeId) (v : Value) (w : World) (hc : w.cell? ⟨b, 0, none⟩ = some (.string t)) (hE : w.cell? ⟨3, 0, none⟩ = some (.iface T v)) (h : t.size < 4) :
    Calls Tryd.prog 23 #[.pointer (some ⟨b, 0, none⟩), .int .i64 m] w fun e w' => e = .returned (.tuple #[.string (bs []), .iface T v]) ∧ Below w.heap.size w w' := by
  go_enter Tryd.func23, Tryd.ntmps23
  go_wp2_with (go_at_call 40; refine (next4_short b t _ _ hc hE h).mono ?_; rintro e w1 ⟨rfl, hb⟩)
  go_ret2
  exact ⟨rfl, hb⟩

set_option maxHeartbeats 1000000 in
theorem rBytes_many (b : Nat) (t : ByteArray) (m : Int) (T : TypeId) (v : Value) (w : World) (hc : w.cell? ⟨b, 0, none⟩ = some (.string t)) (hE : w.cell? ⟨3, 0, none⟩ = some (.iface T v)) (h : 4 ≤ t.size) (ht : t.size ≤ 1000000) (hm : m < (numAt t 4 : Int)) :
    Calls Tryd.prog 23 #[.pointer (some ⟨b, 0, none⟩), .int .i64 m] w fun e w' => e = .returned (.tuple #[.string (bs []), .iface T v]) ∧ Below w.heap.size w w' := by
  have hl : numAt t 4 < 4294967296 := numAt_lt t 4
  have hz := fillN_lt (numAt t 4)
  go_enter Tryd.func23, Tryd.ntmps23
  go_wp2_with (first
    | (go_at_call 40; refine (next4_ok b t _ hc h ht).mono ?_; rintro e w1 ⟨rfl, rfl⟩)
    | (go_at_call 33; refine (filling_any (numAt t 4) _ (by omega)).mono ?_; rintro e w1 ⟨rfl, rfl⟩))
  go_region
  all_goals
    go_wp2
    go_ret2
    exact ⟨rfl, (Below.refl _ _).drew⟩

set_option maxHeartbeats 1000000 in
theorem rBytes_few (b : Nat) (t : ByteArray) (m : Int) (T : TypeId) (v : Value) (w : World) (hc : w.cell? ⟨b, 0, none⟩ = some (.string t)) (hE : w.cell? ⟨3, 0, none⟩ = some (.iface T v)) (h : 4 ≤ t.size) (ht : t.size ≤ 1000000) (hm : (numAt t 4 : Int) ≤ m) (hs : t.size < 4 + numAt t 4 + fillN (numAt t 4)) :
    Calls Tryd.prog 23 #[.pointer (some ⟨b, 0, none⟩), .int .i64 m] w fun e w' => e = .returned (.tuple #[.string (bs []), .iface T v]) ∧ Below w.heap.size w w' := by
  have hl : numAt t 4 < 4294967296 := numAt_lt t 4
  have hz := fillN_lt (numAt t 4)
  have hd1 : decide (m < (numAt t 4 : Int)) = false := decide_eq_false (by omega)
  have hd2 : decide ((t.size : Int) < 4 + (numAt t 4 : Int) + (fillN (numAt t 4) : Int)) = true := decide_eq_true (by omega)
  go_enter Tryd.func23, Tryd.ntmps23
  go_wp2_with (first
    | (go_at_call 40; refine (next4_ok b t _ hc h ht).mono ?_; rintro e w1 ⟨rfl, rfl⟩)
    | (go_at_call 33; refine (filling_any (numAt t 4) _ (by omega)).mono ?_; rintro e w1 ⟨rfl, rfl⟩))
  go_region
  all_goals
    go_wp2
    go_ret2
    exact ⟨rfl, (Below.refl _ _).drew⟩

set_option maxHeartbeats 1000000 in
theorem rBytes_fill (b : Nat) (t : ByteArray) (m : Int) (T : TypeId) (v : Value) (w : World) (hc : w.cell? ⟨b, 0, none⟩ = some (.string t)) (hE : w.cell? ⟨3, 0, none⟩ = some (.iface T v)) (h : 4 ≤ t.size) (ht : t.size ≤ 1000000) (hm : (numAt t 4 : Int) ≤ m) (hs : 4 + numAt t 4 + fillN (numAt t 4) ≤ t.size)
    (hzz : zerosB (t.extract (4 + numAt t 4) (4 + numAt t 4 + fillN (numAt t 4))) = false) :
    Calls Tryd.prog 23 #[.pointer (some ⟨b, 0, none⟩), .int .i64 m] w fun e w' => e = .returned (.tuple #[.string (bs []), .iface T v]) ∧ Below w.heap.size w w' := by
  have hl : numAt t 4 < 4294967296 := numAt_lt t 4
  have hz := fillN_lt (numAt t 4)
  have hd1 : decide (m < (numAt t 4 : Int)) = false := decide_eq_false (by omega)
  have hd2 : decide ((t.size : Int) < 4 + (numAt t 4 : Int) + (fillN (numAt t 4) : Int)) = false := decide_eq_false (by omega)
  go_enter Tryd.func23, Tryd.ntmps23
  go_wp2_with (first
    | (go_at_call 40; refine (next4_ok b t _ hc h ht).mono ?_; rintro e w1 ⟨rfl, rfl⟩)
    | (go_at_call 33; refine (filling_any (numAt t 4) _ (by omega)).mono ?_; rintro e w1 ⟨rfl, rfl⟩)
    | (go_at_call 42; refine (isZeros_any _ _ (by simp only [ByteArray.size_extract]; omega)).mono ?_; rintro e w1 ⟨rfl, rfl⟩; rw [hzz]))
  go_region
  all_goals
    go_wp2
    go_ret2
    exact ⟨rfl, (Below.refl _ _).drew⟩

set_option maxHeartbeats 1000000 in
theorem rBytes_ok (b : Nat) (t : ByteArray) (m : Int) (w : World) (hc : w.cell? ⟨b, 0, none⟩ = some (.string t)) (hf : w.frozen? ⟨b, 0, none⟩ = false) (h : 4 ≤ t.size) (ht : t.size ≤ 1000000) (hm : (numAt t 4 : Int) ≤ m) (hs : 4 + numAt t 4 + fillN (numAt t 4) ≤ t.size)
    (hzz : zerosB (t.extract (4 + numAt t 4) (4 + numAt t 4 + fillN (numAt t 4))) = true) :
    Calls Tryd.prog 23 #[.pointer (some ⟨b, 0, none⟩), .int .i64 m] w fun e w' => e = .returned (.tuple #[.string (t.extract 4 (4 + numAt t 4)), .nilIface]) ∧ w.setCell ⟨b, 0, none⟩ (.string (cutAt t (4 + numAt t 4 + fillN (numAt t 4)))) = w' := by
  have hl : numAt t 4 < 4294967296 := numAt_lt t 4
  have hz := fillN_lt (numAt t 4)
  have hd1 : decide (m < (numAt t 4 : Int)) = false := decide_eq_false (by omega)
  have hd2 : decide ((t.size : Int) < 4 + (numAt t 4 : Int) + (fillN (numAt t 4) : Int)) = false := decide_eq_false (by omega)
  go_enter Tryd.func23, Tryd.ntmps23
  go_wp2_with (first
    | (go_at_call 40; refine (next4_ok b t _ hc h ht).mono ?_; rintro e w1 ⟨rfl, rfl⟩)
    | (go_at_call 33; refine (filling_any (numAt t 4) _ (by omega)).mono ?_; rintro e w1 ⟨rfl, rfl⟩)
    | (go_at_call 42; refine (isZeros_any _ _ (by simp only [ByteArray.size_extract]; omega)).mono ?_; rintro e w1 ⟨rfl, rfl⟩; rw [hzz])
    | (go_at_call 41; refine (skip_int b t _ (4 + numAt t 4 + fillN (numAt t 4)) _ (by omega) hc hf hs ht).mono ?_; rintro e w1 ⟨rfl, rfl⟩))
  go_ret2
  exact ⟨rfl, rfl⟩
end Go.Proofs.YtigcbdcgfloggaaDoor
