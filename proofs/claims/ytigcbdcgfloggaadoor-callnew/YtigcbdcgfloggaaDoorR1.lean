/- The reader's small functions: their contracts. -/
import Derived.Test.YtigcbdcgfloggaaDoorW1
import Derived.Deep.RegionWith
import Derived.BigQuiet
import Derived.Laws.Bits64b
namespace Go.Proofs.YtigcbdcgfloggaaDoor
open Go Go.RowKit Go.Deep

theorem or_step (a c : Nat) (ha : a < 72057594037927936) (hc : c < 256) : bits BinOp.or IntKind.u64 ((a : Int) * 256) (IntKind.u64.wrap (c : Int)) = ((a * 256 + c : Nat) : Int) := by
  have e : IntKind.u64.wrap (c : Int) = (c : Int) := by
    simp [IntKind.wrap, IntKind.signed, IntKind.bits]; omega
  rw [e, show (a : Int) * 256 = ((a * 256 : Nat) : Int) by omega, bits_or_u64_nat _ _ (by omega) (by omega)]
  have h2 := Nat.two_pow_add_eq_or_of_lt (i := 8) hc a
  rw [show a * 256 = 2 ^ 8 * a by omega, ← h2]

theorem next_short (b : Nat) (t : ByteArray) (k : Nat) (E : Value) (w : World) (hc : w.cell? ⟨b, 0, none⟩ = some (.string t)) (hE : w.cell? ⟨3, 0, none⟩ = some E) (h : t.size < k) (_hk : k ≤ 8) :
    Calls Tryd.prog 40 #[.pointer (some ⟨b, 0, none⟩), .int .i64 k] w fun e w' => e = .returned (.tuple #[.int .u64 0, E]) ∧ Below w.heap.size w w' := by
  go_enter Tryd.func40, Tryd.ntmps40
  go_wp2
  go_region
  all_goals
    go_wp2
    go_ret2
    exact ⟨rfl, (Below.refl _ _).drew⟩

set_option maxHeartbeats 400000 in
theorem next_ok (b : Nat) (t : ByteArray) (k : Nat) (w : World) (hc : w.cell? ⟨b, 0, none⟩ = some (.string t)) (h : k ≤ t.size) (hk : k ≤ 8) (ht : t.size ≤ 1000000) :
    Calls Tryd.prog 40 #[.pointer (some ⟨b, 0, none⟩), .int .i64 k] w fun e w' => e = .returned (.tuple #[.int .u64 (num (t.data.toList.take k)), .nilIface]) ∧ w = w' := by
  go_enter Tryd.func40, Tryd.ntmps40
  go_wp2
  go_loop [6, 17] (fun n i => ∃ j : Nat, j ≤ k ∧ i = .int .i64 j ∧ n = .int .u64 (num (t.data.toList.take j))) (fun _ i => k - (intOf i).toNat)
  case atStart => exact ⟨0, Nat.zero_le _, rfl, rfl⟩
  case round =>
    obtain ⟨j, hj, rfl, rfl⟩ := hrel
    by_cases hlt : j < k
    · have hjt : j < t.size := by omega
      have hb1 : num (t.data.toList.take j) < 72057594037927936 := Nat.lt_of_lt_of_le (num_take_lt _ _) (Nat.le_trans (Nat.pow_le_pow_right (by decide) (show j ≤ 7 by omega)) (by decide))
      have HS : Hid (num (t.data.toList.take (j + 1)) = num (t.data.toList.take j) * 256 + t[j].toNat) := num_take_succ t.data.toList j (by simpa using hjt)
      have HO : Hid _ := or_step (num (t.data.toList.take j)) t[j].toNat hb1 t[j].toNat_lt
      go_wp2
      go_round
      case rel => exact ⟨j + 1, by omega, by go_num, by rw [HS.out]; exact congrArg _ HO.out⟩
      case measure => simp [intOf]; omega
    · obtain rfl : j = k := by omega
      go_wp2
      go_ret2
      exact ⟨rfl, rfl⟩

/-- skip: what is left is cut. -/
theorem skip_any (b : Nat) (t : ByteArray) (k : Nat) (w : World) (hc : w.cell? ⟨b, 0, none⟩ = some (.string t)) (hf : w.frozen? ⟨b, 0, none⟩ = false) (h : k ≤ t.size) (_ht : t.size ≤ 1000000) :
    Calls Tryd.prog 41 #[.pointer (some ⟨b, 0, none⟩), .int .i64 k] w fun e w' => e = .returned (.tuple #[]) ∧ w.setCell ⟨b, 0, none⟩ (.string (t.extract k t.size)) = w' := by
  go_enter Tryd.func41, Tryd.ntmps41
  go_wp2
  go_end0
  exact ⟨rfl, rfl⟩

def zerosB (s : ByteArray) : Bool := s.data.toList.all (· == 0)
theorem zeros_no {s : ByteArray} {j : Nat} (hj : j < s.size) (h : ((s[j].toNat : Int) != 0) = true) : zerosB s = false := by
  unfold zerosB
  rw [List.all_eq_false]
  refine ⟨s[j], List.getElem_mem (l := s.data.toList) (by simpa using hj), ?_⟩
  intro e
  rw [beq_iff_eq] at e
  rw [e] at h
  simp at h
theorem zeros_yes {s : ByteArray} (h : ∀ x, (hx : x < s.size) → s[x] = 0) : zerosB s = true := by
  unfold zerosB
  rw [List.all_eq_true]
  intro c hc
  obtain ⟨i, hi, rfl⟩ := List.getElem_of_mem hc
  rw [beq_iff_eq]
  exact h i (by simpa using hi)
theorem zero_of {c : UInt8} (h : ((c.toNat : Int) != 0) = false) : c = 0 := by
  have : c.toNat = 0 := by simpa using h
  exact UInt8.toNat_inj.1 this

set_option maxHeartbeats 400000 in
theorem isZeros_any (s : ByteArray) (w : World) (hs : s.size ≤ 1000000) :
    Calls Tryd.prog 42 #[.string s] w fun e w' => e = .returned (.bool (zerosB s)) ∧ w = w' := by
  go_enter Tryd.func42, Tryd.ntmps42
  go_wp2
  go_loop [6] (fun i => ∃ j : Nat, j ≤ s.size ∧ i = .int .i64 j ∧ ∀ x, (hx : x < s.size) → x < j → s[x] = 0) (fun i => s.size - (intOf i).toNat)
  case atStart => exact ⟨0, Nat.zero_le _, rfl, fun x _ h => absurd h (Nat.not_lt_zero _)⟩
  case round =>
    obtain ⟨j, hj, rfl, hall⟩ := hrel
    have HA : Hid (∀ x, (hx : x < s.size) → x < j → s[x] = 0) := hall
    clear hall
    by_cases hlt : j < s.size
    · go_wp2
      · have hz : zerosB s = false := zeros_no hlt (by assumption)
        go_ret
        exact ⟨by rw [hz]; rfl, rfl⟩
      · have hz : s[j] = 0 := zero_of (by assumption)
        have HZ : Hid (s[j] = 0) := hz
        clear hz
        go_round
        case rel => exact ⟨j + 1, by omega, by go_num, fun x hx hxj => by
          rcases Nat.lt_or_ge x j with h1 | h1
          · exact HA.out x hx h1
          · obtain rfl : x = j := by omega
            exact HZ.out⟩
        case measure => simp [intOf]; omega
    · have hz : zerosB s = true := zeros_yes fun x hx => HA.out x hx (by omega)
      go_wp2
      go_ret
      exact ⟨rfl, rfl⟩
end Go.Proofs.YtigcbdcgfloggaaDoor
