/- The document's answer for reading from the wire: Cut and CutItem by their contracts. -/
import Derived.Test.YtigcbdcgfloggaaDoorB1
namespace Go.Proofs.YtigcbdcgfloggaaDoor
open Go Go.RowKit Go.Deep

theorem cut4_short (s : ByteArray) (w : World) (h : s.size < 4) : Calls Tryd.prog 25 #[.string s, .int .i64 4] w fun e w' => e = .returned (.tuple #[.int .i64 (-1), .string s]) ∧ w = w' := by
  go_enter Tryd.func25, Tryd.ntmps25
  go_wp2
  go_ret2
  exact ⟨rfl, rfl⟩
theorem cut8_short (s : ByteArray) (w : World) (h : s.size < 8) : Calls Tryd.prog 25 #[.string s, .int .i64 8] w fun e w' => e = .returned (.tuple #[.int .i64 (-1), .string s]) ∧ w = w' := by
  go_enter Tryd.func25, Tryd.ntmps25
  go_wp2
  go_ret2
  exact ⟨rfl, rfl⟩

theorem numAt_head (s : ByteArray) (h : 8 ≤ s.size) : ∃ r, r < 72057594037927936 ∧ numAt s 8 = (s[0]'(by omega)).toNat * 72057594037927936 + r := by
  have key : ∀ (l : List UInt8) (hl : 8 ≤ l.length), ∃ r, r < 72057594037927936 ∧ num (l.take 8) = (l[0]'(by omega)).toNat * 72057594037927936 + r := by
    intro l hl
    cases l with
    | nil => simp at hl
    | cons c l =>
    have h7 : (l.take 7).length = 7 := by rw [List.length_take]; simp at hl; omega
    refine ⟨num (l.take 7), ?_, ?_⟩
    · have := num_lt (l.take 7)
      rw [h7] at this
      exact this
    · show num (c :: l.take 7) = _
      rw [num_cons, h7]
      rfl
  exact key s.data.toList h

set_option maxHeartbeats 400000 in
theorem cut4_ok (s : ByteArray) (w : World) (h : 4 ≤ s.size) (hs : s.size ≤ 5000) : Calls Tryd.prog 25 #[.string s, .int .i64 4] w fun e w' => e = .returned (.tuple #[.int .i64 (numAt s 4), .string (cutAt s 4)]) ∧ Below w.heap.size w w' := by
  go_enter Tryd.func25, Tryd.ntmps25
  go_wp2
  go_loop [6, 7] (fun n i => ∃ j : Nat, j ≤ 4 ∧ i = .int .i64 j ∧ n = .int .i64 (num (s.data.toList.take j))) (fun _ i => 4 - (intOf i).toNat)
  case atStart => exact ⟨0, by omega, rfl, rfl⟩
  case round =>
    obtain ⟨j, hj, rfl, rfl⟩ := hrel
    by_cases hlt : j < 4
    · have hjt : j < s.size := by omega
      have hb1 : num (s.data.toList.take j) < 16777216 := Nat.lt_of_lt_of_le (num_take_lt _ _) (Nat.le_trans (Nat.pow_le_pow_right (by decide) (show j ≤ 3 by omega)) (by decide))
      have hc : s[j].toNat < 256 := s[j].toNat_lt
      have HS : Hid (num (s.data.toList.take (j + 1)) = num (s.data.toList.take j) * 256 + s[j].toNat) := num_take_succ s.data.toList j (by simpa using hjt)
      go_wp2
      go_round
      case rel => exact ⟨j + 1, by omega, by go_num, by rw [HS.out]; go_num⟩
      case measure => simp [intOf]; omega
    · obtain rfl : j = 4 := by omega
      go_wp2
      go_region
      all_goals
        go_wp2
        go_ret2
        exact ⟨rfl, (Below.refl _ _).drew⟩

theorem cut8_great (s : ByteArray) (w : World) (h : 8 ≤ s.size) (_hs : s.size ≤ 5000) (hg : 9223372036854775807 < numAt s 8) : Calls Tryd.prog 25 #[.string s, .int .i64 8] w fun e w' => e = .returned (.tuple #[.int .i64 (-1), .string s]) ∧ w = w' := by
  obtain ⟨r, hr, e⟩ := numAt_head s h
  have h0 : 0 < s.size := by omega
  have h127 : 127 < s[0].toNat := by omega
  clear hg hr e
  go_enter Tryd.func25, Tryd.ntmps25
  go_wp2
  go_ret2
  exact ⟨rfl, rfl⟩

set_option maxHeartbeats 400000 in
theorem cut8_ok (s : ByteArray) (w : World) (h : 8 ≤ s.size) (hs : s.size ≤ 5000) (hg : numAt s 8 ≤ 9223372036854775807) : Calls Tryd.prog 25 #[.string s, .int .i64 8] w fun e w' => e = .returned (.tuple #[.int .i64 (numAt s 8), .string (cutAt s 8)]) ∧ Below w.heap.size w w' := by
  obtain ⟨r, hr, e⟩ := numAt_head s h
  have h0 : 0 < s.size := by omega
  have h127 : s[0].toNat ≤ 127 := by omega
  have HG : Hid (numAt s 8 ≤ 9223372036854775807) := hg
  clear hg hr e
  go_enter Tryd.func25, Tryd.ntmps25
  go_wp2
  go_loop [6, 7] (fun n i => ∃ j : Nat, j ≤ 8 ∧ i = .int .i64 j ∧ n = .int .i64 (num (s.data.toList.take j))) (fun _ i => 8 - (intOf i).toNat)
  case atStart => exact ⟨0, by omega, rfl, rfl⟩
  case round =>
    obtain ⟨j, hj, rfl, rfl⟩ := hrel
    by_cases hlt : j < 8
    · have hjt : j < s.size := by omega
      have hc : s[j].toNat < 256 := s[j].toNat_lt
      have HS : Hid (num (s.data.toList.take (j + 1)) = num (s.data.toList.take j) * 256 + s[j].toNat) := num_take_succ s.data.toList j (by simpa using hjt)
      have hb2 : num (s.data.toList.take j) * 256 + s[j].toNat ≤ 9223372036854775807 := by
        rw [← HS.out]
        rcases Nat.lt_or_ge (j + 1) 8 with h1 | h1
        · exact Nat.le_of_lt (Nat.lt_of_lt_of_le (num_take_lt _ _) (Nat.le_trans (Nat.pow_le_pow_right (by decide) (show j + 1 ≤ 7 by omega)) (by decide)))
        · obtain rfl : j = 7 := by omega
          exact HG.out
      go_wp2
      go_round
      case rel => exact ⟨j + 1, by omega, by go_num, by rw [HS.out]; go_num⟩
      case measure => simp [intOf]; omega
    · obtain rfl : j = 8 := by omega
      go_wp2
      go_region
      all_goals
        go_wp2
        go_ret2
        exact ⟨rfl, (Below.refl _ _).drew⟩

/-! ### an item -/
/-- Bytes with how many they are, at most m, stand at the head of s. -/
def ItemOk (s : ByteArray) (m : Int) : Prop := 4 ≤ s.size ∧ (numAt s 4 : Int) ≤ m ∧ 4 + numAt s 4 + fillN (numAt s 4) ≤ s.size ∧ zerosB (s.extract (4 + numAt s 4) (4 + numAt s 4 + fillN (numAt s 4))) = true

theorem rBytes_ends (b : Nat) (t : ByteArray) (m : Int) (T : TypeId) (v : Value) (w : World) (hc : w.cell? ⟨b, 0, none⟩ = some (.string t)) (hf : w.frozen? ⟨b, 0, none⟩ = false) (hE : w.cell? ⟨3, 0, none⟩ = some (.iface T v)) (ht : t.size ≤ 15000) :
    Calls Tryd.prog 23 #[.pointer (some ⟨b, 0, none⟩), .int .i64 m] w fun e w' =>
      (ItemOk t m ∧ e = .returned (.tuple #[.string (t.extract 4 (4 + numAt t 4)), .nilIface]) ∧ w.setCell ⟨b, 0, none⟩ (.string (cutAt t (4 + numAt t 4 + fillN (numAt t 4)))) = w') ∨
      (¬ ItemOk t m ∧ e = .returned (.tuple #[.string (bs []), .iface T v]) ∧ Below w.heap.size w w') := by
  by_cases h4 : 4 ≤ t.size
  · by_cases hm : (numAt t 4 : Int) ≤ m
    · by_cases hs : 4 + numAt t 4 + fillN (numAt t 4) ≤ t.size
      · cases hz : zerosB (t.extract (4 + numAt t 4) (4 + numAt t 4 + fillN (numAt t 4)))
        · exact (rBytes_fill b t m T v w hc hE h4 (by omega) hm hs hz).mono fun e w' h => Or.inr ⟨fun k => Bool.noConfusion (hz.symm.trans k.2.2.2), h⟩
        · exact (rBytes_ok b t m w hc hf h4 (by omega) hm hs hz).mono fun e w' h => Or.inl ⟨⟨h4, hm, hs, hz⟩, h⟩
      · exact (rBytes_few b t m T v w hc hE h4 (by omega) hm (by omega)).mono fun e w' h => Or.inr ⟨fun k => hs k.2.2.1, h⟩
    · exact (rBytes_many b t m T v w hc hE h4 (by omega) (by omega)).mono fun e w' h => Or.inr ⟨fun k => hm k.2.1, h⟩
  · exact (rBytes_short b t m T v w hc hE (by omega)).mono fun e w' h => Or.inr ⟨fun k => h4 k.1, h⟩

theorem zeros_iff {s : ByteArray} : zerosB s = true ↔ ∀ x, (hx : x < s.size) → s[x] = 0 := by
  constructor
  · intro h x hx
    unfold zerosB at h
    have := List.all_eq_true.1 h s[x] (List.getElem_mem (l := s.data.toList) (by simpa using hx))
    simpa using this
  · exact zeros_yes

/-- The filling, byte by byte of what stands behind the number. -/
theorem fill_iff (s : ByteArray) (c f : Nat) (hs : 4 + c + f ≤ s.size) : zerosB (s.extract (4 + c) (4 + c + f)) = true ↔ ∀ x, (hx : c + x < (cutAt s 4).size) → x < f → (cutAt s 4)[c + x] = 0 := by
  have hsz : (s.extract (4 + c) (4 + c + f)).size = f := by rw [ByteArray.size_extract]; omega
  have hcs := cutAt_size s 4
  have key : ∀ x, (h1 : x < (s.extract (4 + c) (4 + c + f)).size) → (h2 : c + x < (cutAt s 4).size) → (s.extract (4 + c) (4 + c + f))[x] = (cutAt s 4)[c + x] := fun x h1 h2 => by
    have e1 : (s.extract (4 + c) (4 + c + f))[x] = s[4 + c + x]'(by omega) := ByteArray.getElem_extract ..
    have h2' : c + x < (s.extract 4 s.size).size := h2
    have e2 : (s.extract 4 s.size)[c + x] = s[4 + (c + x)]'(by omega) := ByteArray.getElem_extract ..
    refine e1.trans (Eq.trans ?_ e2.symm)
    congr 1
    omega
  rw [zeros_iff]
  constructor
  · intro h x hx hf
    rw [← key x (by omega) hx]
    exact h x (by omega)
  · intro h x hx
    rw [key x hx (by omega)]
    exact h x (by omega) (by omega)

theorem item_bytes (s : ByteArray) (c : Nat) : (cutAt s 4).extract 0 c = s.extract 4 (4 + c) := by
  apply data_inj
  rw [Lib.extract_data, Lib.extract_data, cutAt_data]
  simp
theorem item_rest (s : ByteArray) (c : Nat) : (cutAt s 4).extract c (cutAt s 4).size = cutAt s (4 + c) := by
  apply data_inj
  show (cutAt (cutAt s 4) c).data.toList = _
  rw [cutAt_data, cutAt_data, cutAt_data, List.drop_drop]
end Go.Proofs.YtigcbdcgfloggaaDoor
