/- Names: what a name is, what a path's names are, texts in memory: plain. -/
import Derived.Test.YtmfcfkomdflhlaaDoorProg
import Derived.Test.YtmfcfkomdflhlaaDoorMem
import Derived.Test.YtmfcfkomdflhlaaDoorMath
import Derived.WalkKit
import Derived.WalkSpells
import Derived.Deep.RegionWith
import Derived.Deep.OwnRows
import Derived.Lib.Strings
namespace Go.Proofs.YtmfcfkomdflhlaaDoor
open Go Go.RowKit Go.Deep

/-- A byte that may stand in a name. -/
def okC (c : Nat) : Bool := decide (97 ≤ c ∧ c ≤ 122 ∨ 65 ≤ c ∧ c ≤ 90 ∨ 48 ≤ c ∧ c ≤ 57 ∨ c = 46 ∨ c = 45 ∨ c = 95)
/-- A name. -/
def OkN (s : ByteArray) : Prop := 1 ≤ s.size ∧ s.size ≤ 24 ∧ (s.toList == [46]) = false ∧ (s.toList == [46, 46]) = false ∧ ∀ x, (hx : x < s.size) → okC s[x].toNat = true

theorem classes (c : Nat) : (okC c = true ∧ (97 ≤ c ∧ c ≤ 122 ∨ 65 ≤ c ∧ c ≤ 90 ∨ 48 ≤ c ∧ c ≤ 57 ∨ 46 ≤ c ∧ c ≤ 46 ∨ 45 ≤ c ∧ c ≤ 45 ∨ 95 ≤ c ∧ c ≤ 95)) ∨ (okC c = false ∧ (0 ≤ c ∧ c ≤ 44 ∨ 47 ≤ c ∧ c ≤ 47 ∨ 58 ≤ c ∧ c ≤ 64 ∨ 91 ≤ c ∧ c ≤ 94 ∨ 96 ≤ c ∧ c ≤ 96 ∨ 123 ≤ c ∧ 123 ≤ c)) := by
  by_cases h : 97 ≤ c ∧ c ≤ 122 ∨ 65 ≤ c ∧ c ≤ 90 ∨ 48 ≤ c ∧ c ≤ 57 ∨ c = 46 ∨ c = 45 ∨ c = 95
  · exact Or.inl ⟨decide_eq_true h, by omega⟩
  · exact Or.inr ⟨decide_eq_false h, by omega⟩

/-- A slice's address and length lead to the texts T. -/
def TextsIn (w : World) (a : Option Addr) (n : Nat) (T : Nat → ByteArray) : Prop :=
  n = 0 ∨ ∃ ab ao, a = some ⟨ab, ao, none⟩ ∧ ∀ i, i < n → w.cell? ⟨ab, ao + i, none⟩ = some (.string (T i))
theorem TextsIn.below {w w' : World} {a : Option Addr} {n B : Nat} {T : Nat → ByteArray} (h : TextsIn w a n T) (hb : Below B w w') (hB : w.heap.size ≤ B) : TextsIn w' a n T := by
  rcases h with h | ⟨ab, ao, ha, hc⟩
  · exact Or.inl h
  · exact Or.inr ⟨ab, ao, ha, fun i hi => (hb.cell (p := ⟨ab, ao + i, none⟩) (Nat.lt_of_lt_of_le (lt_of_cell (hc i hi)) hB)).trans (hc i hi)⟩

/-- What the document says of names as a path: an error's number and its place. -/
def PathIs (n : Nat) (T : Nat → ByteArray) (code place : Int) : Prop :=
  (∃ i, i < n ∧ ¬ OkN (T i) ∧ (∀ k, k < i → OkN (T k)) ∧ code = 4 ∧ place = (i : Int)) ∨ ((∀ k, k < n → OkN (T k)) ∧ 12 < n ∧ code = 2 ∧ place = -1) ∨ ((∀ k, k < n → OkN (T k)) ∧ n ≤ 12 ∧ code = 0 ∧ place = -1)

/-! ### the names of a path: plain -/
def sstep (st : List (List UInt8) × List UInt8) (c : UInt8) : List (List UInt8) × List UInt8 := if c.toNat = 47 then (st.1 ++ [st.2], []) else (st.1, st.2 ++ [c])
def scan (l : List UInt8) : List (List UInt8) × List UInt8 := l.foldl sstep ([], [])
/-- What stands between the strokes behind the first byte. -/
def wordsOf (l : List UInt8) : List (List UInt8) := (scan (l.drop 1)).1 ++ [(scan (l.drop 1)).2]
theorem scan_snoc (l : List UInt8) (c : UInt8) : scan (l ++ [c]) = sstep (scan l) c := by simp [scan, List.foldl_append]
/-- The state behind the first j bytes. -/
def scanAt (s : ByteArray) (j : Nat) : List (List UInt8) × List UInt8 := scan ((s.data.toList.take j).drop 1)
theorem scanAt_succ (s : ByteArray) (j : Nat) (h1 : 1 ≤ j) (hj : j < s.size) : scanAt s (j + 1) = sstep (scanAt s j) s[j] := by
  unfold scanAt
  have hl : j < s.data.toList.length := hj
  rw [List.take_succ_eq_append_getElem hl, List.drop_append_of_le_length (by rw [List.length_take]; omega), scan_snoc]
  rfl
theorem scanAt_end (s : ByteArray) : (scanAt s s.size).1 ++ [(scanAt s s.size).2] = wordsOf s.data.toList := by
  have e : s.data.toList.take s.size = s.data.toList := List.take_of_length_le (show s.data.toList.length ≤ s.size from Nat.le_refl _)
  unfold scanAt wordsOf
  rw [e]
theorem scan_len_from (l : List UInt8) (st : List (List UInt8) × List UInt8) : (l.foldl sstep st).1.length + (l.foldl sstep st).2.length ≤ st.1.length + st.2.length + l.length := by
  induction l generalizing st with
  | nil => simp
  | cons c l ih =>
    have := ih (sstep st c)
    simp only [List.foldl_cons, List.length_cons]
    have h2 : (sstep st c).1.length + (sstep st c).2.length ≤ st.1.length + st.2.length + 1 := by
      unfold sstep
      split <;> simp <;> omega
    omega
theorem scan_len (l : List UInt8) : (scan l).1.length + (scan l).2.length ≤ l.length := by
  have := scan_len_from l ([], [])
  simpa [scan] using this
theorem scanAt_len (s : ByteArray) (j : Nat) : (scanAt s j).1.length + (scanAt s j).2.length ≤ j := by
  have := scan_len ((s.data.toList.take j).drop 1)
  unfold scanAt
  rw [List.length_drop, List.length_take] at this
  omega
theorem word_more (s : ByteArray) (j : Nat) (wd : List UInt8) (hj : j < s.size) : bs wd ++ s.extract j (j + 1) = bs (wd ++ [s[j]]) := by
  have hl : j < s.data.toList.length := hj
  have : s.extract j (j + 1) = bs [s[j]] := by
    apply data_inj
    rw [Lib.extract_data, bs_data, List.drop_eq_getElem_cons hl, show j + 1 - j = 1 by omega]
    rfl
  rw [this, bs_append]
def cellsT (L : List (List UInt8)) : List Value := L.map fun p => .string (bs p)
theorem cellsT_snoc (L : List (List UInt8)) (p : List UInt8) : cellsT (L ++ [p]) = cellsT L ++ [.string (bs p)] := by simp [cellsT]

end Go.Proofs.YtmfcfkomdflhlaaDoor
