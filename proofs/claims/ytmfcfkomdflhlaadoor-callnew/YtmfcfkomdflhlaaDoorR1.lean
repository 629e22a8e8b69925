/- The reader's small functions: their contracts. -/
import Derived.Test.YtmfcfkomdflhlaaDoorW1
import Derived.Deep.RegionWith
import Derived.BigQuiet
import Derived.Laws.Bits64b
namespace Go.Proofs.YtmfcfkomdflhlaaDoor
open Go Go.RowKit Go.Deep

theorem or_step (a c : Nat) (ha : a < 72057594037927936) (hc : c < 256) : bits BinOp.or IntKind.u64 ((a : Int) * 256) (IntKind.u64.wrap (c : Int)) = ((a * 256 + c : Nat) : Int) := by
  have e : IntKind.u64.wrap (c : Int) = (c : Int) := by
    simp [IntKind.wrap, IntKind.signed, IntKind.bits]; omega
  rw [e, show (a : Int) * 256 = ((a * 256 : Nat) : Int) by omega, bits_or_u64_nat _ _ (by omega) (by omega)]
  have h2 := Nat.two_pow_add_eq_or_of_lt (i := 8) hc a
  rw [show a * 256 = 2 ^ 8 * a by omega, ← h2]

def zerosB (s : ByteArray) : Bool := s.data.toList.all (· == 0)
theorem zeros_no {s : ByteArray} {j : Nat} (hj : j < s.size) (h : ((s[j].toNat : Int) != 0) = true) : zerosB s = false := by
  unfold zerosB
  rw [List.all_eq_false]
  refine ⟨s[j], List.getElem_mem (l := s.data.toList) (by simpa using hj), ?_⟩
  intro e
  rw [beq_iff_eq] at e
  rw [e] at h
  simp at h
theorem zeros_yes {s : ByteArray} (h : ∀ x, (hx : x < s.size) → s[x] = 0) : zerosB s = true := by
  unfold zerosB
  rw [List.all_eq_true]
  intro c hc
  obtain ⟨i, hi, rfl⟩ := List.getElem_of_mem hc
  rw [beq_iff_eq]
  exact h i (by simpa using hi)
theorem zero_of {c : UInt8} (h : ((c.toNat : Int) != 0) = false) : c = 0 := by
  have : c.toNat = 0 := by simpa using h
  exact UInt8.toNat_inj.1 this

end Go.Proofs.YtmfcfkomdflhlaaDoor
