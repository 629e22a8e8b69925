/- Reader.Bytes: its contracts. -/
import Derived.Test.YtigcbdcgfloggaaDoorR2
namespace Go.Proofs.YtigcbdcgfloggaaDoor
open Go Go.RowKit Go.Deep

theorem skip_int (b : Nat) (t : ByteArray) (n : Int) (k : Nat) (w : World) (hn : n = (k : Int)) (hc : w.cell? ⟨b, 0, none⟩ = some (.string t)) (hf : w.frozen? ⟨b, 0, none⟩ = false) (h : k ≤ t.size) (ht : t.size ≤ 1000000) :
    Calls Tryd.prog 41 #[.pointer (some ⟨b, 0, none⟩), .int .i64 n] w fun e w' => e = .returned (.tuple #[]) ∧ w.setCell ⟨b, 0, none⟩ (.string (cutAt t k)) = w' := by
  subst hn; exact skip_any b t k w hc hf h ht

theorem rBytes_short (b : Nat) (t : ByteArray) (m : Int) (T : TypeId) (v : Value) (w : World) (hc : w.cell? ⟨b, 0, none⟩ = some (.string t)) (hE : w.cell? ⟨3, 0, none⟩ = some (.iface T v)) (h : t.size < 4) :
    Calls Tryd.prog 23 #[.pointer (some ⟨b, 0, none⟩), .int .i64 m] w fun e w' => e = .returned (.tuple #[.string (bs []), .iface T v]) ∧ Below w.heap.size w w' := by
  go_enter Tryd.func23, Tryd.ntmps23
  go_wp2_with (go_at_call 40; refine (next4_short b t _ _ hc hE h).mono ?_; rintro e w1 ⟨rfl, hb⟩)
  go_ret2
  exact ⟨rfl, hb⟩

set_option maxHeartbeats 1000000 in
theorem rBytes_many (b : Nat) (t : ByteArray) (m : Int) (T : TypeId) (v : Value) (w : World) (hc : w.cell? ⟨b, 0, none⟩ = some (.string t)) (hE : w.cell? ⟨3, 0, none⟩ = some (.iface T v)) (h : 4 ≤ t.size) (ht : t.size ≤ 1000000) (hm : m < (numAt t 4 : Int)) :
    Calls Tryd.prog 23 #[.pointer (some ⟨b, 0, none⟩), .int .i64 m] w fun e w' => e = .returned (.tuple #[.string (bs []), .iface T v]) ∧ Below w.heap.size w w' := by
  have hl : numAt t 4 < 4294967296 := numAt_lt t 4
  have hz := fillN_lt (numAt t 4)
  go_enter Tryd.func23, Tryd.ntmps23
  go_wp2_with (first
    | (go_at_call 40; refine (next4_ok b t _ hc h ht).mono ?_; rintro e w1 ⟨rfl, rfl⟩)
    | (go_at_call 33; refine (filling_any (numAt t 4) _ (by omega)).mono ?_; rintro e w1 ⟨rfl, rfl⟩))
  go_region
  all_goals
    go_wp2
    go_ret2
    exact ⟨rfl, (Below.refl _ _).drew⟩

set_option maxHeartbeats 1000000 in
theorem rBytes_few (b : Nat) (t : ByteArray) (m : Int) (T : TypeId) (v : Value) (w : World) (hc : w.cell? ⟨b, 0, none⟩ = some (.string t)) (hE : w.cell? ⟨3, 0, none⟩ = some (.iface T v)) (h : 4 ≤ t.size) (ht : t.size ≤ 1000000) (hm : (numAt t 4 : Int) ≤ m) (hs : t.size < 4 + numAt t 4 + fillN (numAt t 4)) :
    Calls Tryd.prog 23 #[.pointer (some ⟨b, 0, none⟩), .int .i64 m] w fun e w' => e = .returned (.tuple #[.string (bs []), .iface T v]) ∧ Below w.heap.size w w' := by
  have hl : numAt t 4 < 4294967296 := numAt_lt t 4
  have hz := fillN_lt (numAt t 4)
  have hd1 : decide (m < (numAt t 4 : Int)) = false := decide_eq_false (by omega)
  have hd2 : decide ((t.size : Int) < 4 + (numAt t 4 : Int) + (fillN (numAt t 4) : Int)) = true := decide_eq_true (by omega)
  go_enter Tryd.func23, Tryd.ntmps23
  go_wp2_with (first
    | (go_at_call 40; refine (next4_ok b t _ hc h ht).mono ?_; rintro e w1 ⟨rfl, rfl⟩)
    | (go_at_call 33; refine (filling_any (numAt t 4) _ (by omega)).mono ?_; rintro e w1 ⟨rfl, rfl⟩))
  go_region
  all_goals
    go_wp2
    go_ret2
    exact ⟨rfl, (Below.refl _ _).drew⟩

set_option maxHeartbeats 1000000 in
theorem rBytes_fill (b : Nat) (t : ByteArray) (m : Int) (T : TypeId) (v : Value) (w : World) (hc : w.cell? ⟨b, 0, none⟩ = some (.string t)) (hE : w.cell? ⟨3, 0, none⟩ = some (.iface T v)) (h : 4 ≤ t.size) (ht : t.size ≤ 1000000) (hm : (numAt t 4 : Int) ≤ m) (hs : 4 + numAt t 4 + fillN (numAt t 4) ≤ t.size)
    (hzz : zerosB (t.extract (4 + numAt t 4) (4 + numAt t 4 + fillN (numAt t 4))) = false) :
    Calls Tryd.prog 23 #[.pointer (some ⟨b, 0, none⟩), .int .i64 m] w fun e w' => e = .returned (.tuple #[.string (bs []), .iface T v]) ∧ Below w.heap.size w w' := by
  have hl : numAt t 4 < 4294967296 := numAt_lt t 4
  have hz := fillN_lt (numAt t 4)
  have hd1 : decide (m < (numAt t 4 : Int)) = false := decide_eq_false (by omega)
  have hd2 : decide ((t.size : Int) < 4 + (numAt t 4 : Int) + (fillN (numAt t 4) : Int)) = false := decide_eq_false (by omega)
  go_enter Tryd.func23, Tryd.ntmps23
  go_wp2_with (first
    | (go_at_call 40; refine (next4_ok b t _ hc h ht).mono ?_; rintro e w1 ⟨rfl, rfl⟩)
    | (go_at_call 33; refine (filling_any (numAt t 4) _ (by omega)).mono ?_; rintro e w1 ⟨rfl, rfl⟩)
    | (go_at_call 42; refine (isZeros_any _ _ (by simp only [ByteArray.size_extract]; omega)).mono ?_; rintro e w1 ⟨rfl, rfl⟩; rw [hzz]))
  go_region
  all_goals
    go_wp2
    go_ret2
    exact ⟨rfl, (Below.refl _ _).drew⟩

set_option maxHeartbeats 1000000 in
theorem rBytes_ok (b : Nat) (t : ByteArray) (m : Int) (w : World) (hc : w.cell? ⟨b, 0, none⟩ = some (.string t)) (hf : w.frozen? ⟨b, 0, none⟩ = false) (h : 4 ≤ t.size) (ht : t.size ≤ 1000000) (hm : (numAt t 4 : Int) ≤ m) (hs : 4 + numAt t 4 + fillN (numAt t 4) ≤ t.size)
    (hzz : zerosB (t.extract (4 + numAt t 4) (4 + numAt t 4 + fillN (numAt t 4))) = true) :
    Calls Tryd.prog 23 #[.pointer (some ⟨b, 0, none⟩), .int .i64 m] w fun e w' => e = .returned (.tuple #[.string (t.extract 4 (4 + numAt t 4)), .nilIface]) ∧ w.setCell ⟨b, 0, none⟩ (.string (cutAt t (4 + numAt t 4 + fillN (numAt t 4)))) = w' := by
  have hl : numAt t 4 < 4294967296 := numAt_lt t 4
  have hz := fillN_lt (numAt t 4)
  have hd1 : decide (m < (numAt t 4 : Int)) = false := decide_eq_false (by omega)
  have hd2 : decide ((t.size : Int) < 4 + (numAt t 4 : Int) + (fillN (numAt t 4) : Int)) = false := decide_eq_false (by omega)
  go_enter Tryd.func23, Tryd.ntmps23
  go_wp2_with (first
    | (go_at_call 40; refine (next4_ok b t _ hc h ht).mono ?_; rintro e w1 ⟨rfl, rfl⟩)
    | (go_at_call 33; refine (filling_any (numAt t 4) _ (by omega)).mono ?_; rintro e w1 ⟨rfl, rfl⟩)
    | (go_at_call 42; refine (isZeros_any _ _ (by simp only [ByteArray.size_extract]; omega)).mono ?_; rintro e w1 ⟨rfl, rfl⟩; rw [hzz])
    | (go_at_call 41; refine (skip_int b t _ (4 + numAt t 4 + fillN (numAt t 4)) _ (by omega) hc hf hs ht).mono ?_; rintro e w1 ⟨rfl, rfl⟩))
  go_ret2
  exact ⟨rfl, rfl⟩
end Go.Proofs.YtigcbdcgfloggaaDoor
