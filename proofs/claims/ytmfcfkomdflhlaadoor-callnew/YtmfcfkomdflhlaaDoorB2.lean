/- The document's answer for reading from the wire: Cut and CutItem by their contracts. -/
import Derived.Test.YtmfcfkomdflhlaaDoorB1
namespace Go.Proofs.YtmfcfkomdflhlaaDoor
open Go Go.RowKit Go.Deep

theorem numAt_head (s : ByteArray) (h : 8 ≤ s.size) : ∃ r, r < 72057594037927936 ∧ numAt s 8 = (s[0]'(by omega)).toNat * 72057594037927936 + r := by
  have key : ∀ (l : List UInt8) (hl : 8 ≤ l.length), ∃ r, r < 72057594037927936 ∧ num (l.take 8) = (l[0]'(by omega)).toNat * 72057594037927936 + r := by
    intro l hl
    cases l with
    | nil => simp at hl
    | cons c l =>
    have h7 : (l.take 7).length = 7 := by rw [List.length_take]; simp at hl; omega
    refine ⟨num (l.take 7), ?_, ?_⟩
    · have := num_lt (l.take 7)
      rw [h7] at this
      exact this
    · show num (c :: l.take 7) = _
      rw [num_cons, h7]
      rfl
  exact key s.data.toList h

/-! ### an item -/
/-- Bytes with how many they are, at most m, stand at the head of s. -/
def ItemOk (s : ByteArray) (m : Int) : Prop := 4 ≤ s.size ∧ (numAt s 4 : Int) ≤ m ∧ 4 + numAt s 4 + fillN (numAt s 4) ≤ s.size ∧ zerosB (s.extract (4 + numAt s 4) (4 + numAt s 4 + fillN (numAt s 4))) = true

theorem zeros_iff {s : ByteArray} : zerosB s = true ↔ ∀ x, (hx : x < s.size) → s[x] = 0 := by
  constructor
  · intro h x hx
    unfold zerosB at h
    have := List.all_eq_true.1 h s[x] (List.getElem_mem (l := s.data.toList) (by simpa using hx))
    simpa using this
  · exact zeros_yes

/-- The filling, byte by byte of what stands behind the number. -/
theorem fill_iff (s : ByteArray) (c f : Nat) (hs : 4 + c + f ≤ s.size) : zerosB (s.extract (4 + c) (4 + c + f)) = true ↔ ∀ x, (hx : c + x < (cutAt s 4).size) → x < f → (cutAt s 4)[c + x] = 0 := by
  have hsz : (s.extract (4 + c) (4 + c + f)).size = f := by rw [ByteArray.size_extract]; omega
  have hcs := cutAt_size s 4
  have key : ∀ x, (h1 : x < (s.extract (4 + c) (4 + c + f)).size) → (h2 : c + x < (cutAt s 4).size) → (s.extract (4 + c) (4 + c + f))[x] = (cutAt s 4)[c + x] := fun x h1 h2 => by
    have e1 : (s.extract (4 + c) (4 + c + f))[x] = s[4 + c + x]'(by omega) := ByteArray.getElem_extract ..
    have h2' : c + x < (s.extract 4 s.size).size := h2
    have e2 : (s.extract 4 s.size)[c + x] = s[4 + (c + x)]'(by omega) := ByteArray.getElem_extract ..
    refine e1.trans (Eq.trans ?_ e2.symm)
    congr 1
    omega
  rw [zeros_iff]
  constructor
  · intro h x hx hf
    rw [← key x (by omega) hx]
    exact h x (by omega)
  · intro h x hx
    rw [key x hx (by omega)]
    exact h x (by omega) (by omega)

theorem item_bytes (s : ByteArray) (c : Nat) : (cutAt s 4).extract 0 c = s.extract 4 (4 + c) := by
  apply data_inj
  rw [Lib.extract_data, Lib.extract_data, cutAt_data]
  simp
theorem item_rest (s : ByteArray) (c : Nat) : (cutAt s 4).extract c (cutAt s 4).size = cutAt s (4 + c) := by
  apply data_inj
  show (cutAt (cutAt s 4) c).data.toList = _
  rw [cutAt_data, cutAt_data, cutAt_data, List.drop_drop]
end Go.Proofs.YtmfcfkomdflhlaaDoor
