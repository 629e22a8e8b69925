/- What an input of the statements on texts names, what is written of it, and how it is read again. -/
import Derived.Test.YtmfcfkomdflhlaaDoorF1
import Derived.Test.YtmfcfkomdflhlaaDoorW3
import Derived.Test.YtmfcfkomdflhlaaDoorQ7
namespace Go.Proofs.YtmfcfkomdflhlaaDoor
open Go Go.RowKit Go.Deep

/-- What an input names: kind, number, bytes. -/
structure PutM where
  K : ByteArray
  N : Int
  S : ByteArray

/-- The elements of a slice of Puts lie in memory. -/
def PutsAt (w : World) (ab ao len : Nat) (P : Nat → PutM) : Prop :=
  ∀ i, i < len → w.cell? ⟨ab, ao + i * 3, none⟩ = some (.string (P i).K) ∧ w.cell? ⟨ab, ao + i * 3 + 1, none⟩ = some (.int .i64 (P i).N) ∧ w.cell? ⟨ab, ao + i * 3 + 2, none⟩ = some (.string (P i).S)

def encInt (n : Int) : Option ByteArray := if 0 ≤ n ∧ n ≤ 4294967295 then some (bs (be 4 n.toNat)) else none
def encLong (n : Int) : Option ByteArray := if 0 ≤ n then some (bs (be 8 n.toNat)) else none
def encBool (b : Bool) : ByteArray := bs (be 4 b.toNat)

/-- What is written of an input, if it can be. -/
def encP (p : PutM) : Option ByteArray :=
  if p.K.toList == [105, 110, 116] then encInt p.N
  else if p.K.toList == [108, 111, 110, 103] then encLong p.N
  else if p.K.toList == [98, 111, 111, 108] then some (encBool (decide (0 < p.N)))
  else some (itemS p.S)

theorem encP_int {p : PutM} (h : (p.K.toList == [105, 110, 116]) = true) : encP p = encInt p.N := by simp only [encP, h, if_true]
theorem encP_long {p : PutM} (h0 : (p.K.toList == [105, 110, 116]) = false) (h : (p.K.toList == [108, 111, 110, 103]) = true) : encP p = encLong p.N := by simp [encP, h0, h]
theorem encP_bool {p : PutM} (h0 : (p.K.toList == [105, 110, 116]) = false) (h1 : (p.K.toList == [108, 111, 110, 103]) = false) (h : (p.K.toList == [98, 111, 111, 108]) = true) : encP p = some (encBool (decide (0 < p.N))) := by simp [encP, h0, h1, h]
theorem encP_bytes {p : PutM} (h0 : (p.K.toList == [105, 110, 116]) = false) (h1 : (p.K.toList == [108, 111, 110, 103]) = false) (h : (p.K.toList == [98, 111, 111, 108]) = false) : encP p = some (itemS p.S) := by simp [encP, h0, h1, h]

/-- How a call that writes x onto t ends: E1 a number is not so, E8 there is no room. -/
def PutEnds (w : World) (b : Nat) (t : ByteArray) (x : Option ByteArray) (E1 E8 : Value) (e : Ending) (w' : World) : Prop :=
  (∃ y, x = some y ∧ y.size + t.size ≤ 4000 ∧ e = .returned .nilIface ∧ Below w.heap.size (w.setCell ⟨b, 0, none⟩ (.string (t ++ y))) w') ∨
  (x = none ∧ e = .returned E1 ∧ w = w') ∨ (∃ y, x = some y ∧ 4000 < y.size + t.size ∧ e = .returned E8 ∧ w = w')

theorem be_size (k n : Nat) : (bs (be k n)).size = k := by rw [bs_size, be_length]

theorem long_put (b : Nat) (t : ByteArray) (n : Int) (E1 E8 : Value) (w : World) (hc : w.cell? ⟨b, 0, none⟩ = some (.string t)) (hf : w.frozen? ⟨b, 0, none⟩ = false) (ht : t.size ≤ 4000) (hn63 : n < 9223372036854775808) (h1 : w.cell? ⟨4, 0, none⟩ = some E1) (h8 : w.cell? ⟨1, 0, none⟩ = some E8) :
    Calls Tryd.prog 16 #[.pointer (some ⟨b, 0, none⟩), .int .i64 n] w fun e w' => PutEnds w b t (encLong n) E1 E8 e w' := by
  by_cases hn : 0 ≤ n
  · have en : encLong n = some (bs (be 8 n.toNat)) := if_pos hn
    by_cases hr : 8 + t.size ≤ 4000
    · have := long_ok b t n.toNat w hc hf ht (by omega) hr
      rw [Int.toNat_of_nonneg hn] at this
      exact this.mono fun e w' ⟨h, k⟩ => Or.inl ⟨_, en, by rw [be_size]; exact hr, h, k⟩
    · exact (long_full b t n E8 w hc ht h8 hn (by omega)).mono fun e w' ⟨h, k⟩ => Or.inr (Or.inr ⟨_, en, by rw [be_size]; omega, h, k⟩)
  · exact (long_bound b n E1 w h1 (by omega)).mono fun e w' ⟨h, k⟩ => Or.inr (Or.inl ⟨if_neg hn, h, k⟩)

theorem bytes_put (b : Nat) (t s : ByteArray) (E1 E8 : Value) (w : World) (hc : w.cell? ⟨b, 0, none⟩ = some (.string t)) (hf : w.frozen? ⟨b, 0, none⟩ = false) (ht : t.size ≤ 4000) (hs : s.size ≤ 5000) (h8 : w.cell? ⟨1, 0, none⟩ = some E8) :
    Calls Tryd.prog 17 #[.pointer (some ⟨b, 0, none⟩), .string s] w fun e w' => PutEnds w b t (some (itemS s)) E1 E8 e w' := by
  by_cases hr : (itemS s).size + t.size ≤ 4000
  · exact (bytes_ok b t s w hc hf ht hs hr).mono fun e w' ⟨h, k⟩ => Or.inl ⟨_, rfl, hr, h, k⟩
  · exact (bytes_full b t s E8 w hc ht h8 hs (by omega)).mono fun e w' ⟨h, k⟩ => Or.inr (Or.inr ⟨_, rfl, by omega, h, k⟩)

/-! ### the cells of a list of Puts -/
def cellsP (p : PutM) : List Value := [.string p.K, .int .i64 p.N, .string p.S]
def cellsOf (l : List PutM) : List Value := l.flatMap cellsP
theorem cellsOf_snoc (l : List PutM) (p : PutM) : cellsOf (l ++ [p]) = cellsOf l ++ cellsP p := by simp [cellsOf]
theorem cellsOf_get (l : List PutM) (k : Nat) (h : k < l.length) : (cellsOf l)[k * 3]? = some (.string l[k].K) ∧ (cellsOf l)[k * 3 + 1]? = some (.int .i64 l[k].N) ∧ (cellsOf l)[k * 3 + 2]? = some (.string l[k].S) := by
  induction l generalizing k with
  | nil => simp at h
  | cons p l ih =>
    have e : cellsOf (p :: l) = .string p.K :: .int .i64 p.N :: .string p.S :: cellsOf l := rfl
    rw [e]
    cases k with
    | zero => exact ⟨rfl, rfl, rfl⟩
    | succ k =>
      have := ih k (by simpa using h)
      rw [show (k + 1) * 3 = k * 3 + 1 + 1 + 1 by omega]
      exact this

/-! ### what was written, read again -/
/-- The bytes of all that was written. -/
def allOf (l : List PutM) : List UInt8 := l.flatMap fun p => ((encP p).getD (bs [])).data.toList
theorem allOf_snoc (l : List PutM) (p : PutM) (y : ByteArray) (h : encP p = some y) : allOf (l ++ [p]) = allOf l ++ y.data.toList := by simp [allOf, h]
theorem allOf_drop (l : List PutM) (k : Nat) (hk : k < l.length) (y : ByteArray) (h : encP l[k] = some y) : allOf (l.drop k) = y.data.toList ++ allOf (l.drop (k + 1)) := by
  unfold allOf
  rw [List.drop_eq_getElem_cons hk, List.flatMap_cons, h]
  rfl
theorem data_length (t : ByteArray) : t.data.toList.length = t.size := rfl
theorem cutAt_data (t : ByteArray) (k : Nat) : (cutAt t k).data.toList = t.data.toList.drop k := by
  unfold cutAt
  rw [Lib.extract_data]
  exact List.take_of_length_le (by rw [List.length_drop, data_length]; exact Nat.le_refl _)
theorem read_num (t : ByteArray) (k n : Nat) (rest : List UInt8) (h : t.data.toList = be k n ++ rest) (hn : n < 256 ^ k) : k ≤ t.size ∧ numAt t k = n ∧ (cutAt t k).data.toList = rest := by
  have hl : (be k n).length = k := be_length k n
  refine ⟨?_, ?_, ?_⟩
  · rw [← data_length, h, List.length_append]; omega
  · unfold numAt
    rw [h, List.take_append_of_le_length (by omega), List.take_of_length_le (by omega), num_be, Nat.mod_eq_of_lt hn]
  · rw [cutAt_data, h, List.drop_append_of_le_length (by omega), List.drop_of_length_le (by omega)]; rfl
theorem be_zero (k : Nat) : be k 0 = List.replicate k 0 := by
  induction k with
  | zero => rfl
  | succ k ih => rw [be, ih, List.replicate_succ]; simp
theorem itemS_data (s : ByteArray) : (itemS s).data.toList = be 4 s.size ++ (s.data.toList ++ be (fillN s.size) 0) := by
  simp [itemS, bs]
theorem zeros_of {s : ByteArray} {k : Nat} (h : s.data.toList = be k 0) : zerosB s = true := by
  unfold zerosB
  rw [h, be_zero]
  simp
theorem read_item (t s : ByteArray) (rest : List UInt8) (h : t.data.toList = (itemS s).data.toList ++ rest) (hs : s.size ≤ 5000) :
    4 ≤ t.size ∧ numAt t 4 = s.size ∧ 4 + s.size + fillN s.size ≤ t.size ∧ zerosB (t.extract (4 + s.size) (4 + s.size + fillN s.size)) = true ∧ t.extract 4 (4 + s.size) = s ∧ (cutAt t (4 + s.size + fillN s.size)).data.toList = rest := by
  rw [itemS_data] at h
  have h1 : t.data.toList = be 4 s.size ++ (s.data.toList ++ be (fillN s.size) 0 ++ rest) := by rw [h]; simp
  obtain ⟨a, b, c⟩ := read_num t 4 s.size _ h1 (by have : (256 : Nat) ^ 4 = 4294967296 := (by decide); omega)
  have c' : t.data.toList.drop 4 = s.data.toList ++ (be (fillN s.size) 0 ++ rest) := by rw [← cutAt_data, c]; simp
  have d1 : t.data.toList.drop (4 + s.size) = be (fillN s.size) 0 ++ rest := by
    rw [← List.drop_drop, c', List.drop_append_of_le_length (by rw [data_length]; omega), List.drop_of_length_le (by rw [data_length]; omega)]; rfl
  have d2 : t.data.toList.drop (4 + s.size + fillN s.size) = rest := by
    rw [← List.drop_drop, d1, List.drop_append_of_le_length (by rw [be_length]; omega), List.drop_of_length_le (by rw [be_length]; omega)]; rfl
  refine ⟨a, b, ?_, ?_, ?_, ?_⟩
  · have := congrArg List.length h1
    simp only [data_length, List.length_append, be_length] at this
    omega
  · apply zeros_of (k := fillN s.size)
    rw [Lib.extract_data, d1, List.take_append_of_le_length (by rw [be_length]; omega), List.take_of_length_le (by rw [be_length]; omega)]
  · apply data_inj
    rw [Lib.extract_data, c', List.take_append_of_le_length (by rw [data_length]; omega), List.take_of_length_le (by rw [data_length]; omega)]
  · rw [cutAt_data, d2]
end Go.Proofs.YtmfcfkomdflhlaaDoor
