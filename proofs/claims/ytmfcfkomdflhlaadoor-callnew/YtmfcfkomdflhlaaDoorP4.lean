/- Data: plain: what reading, writing and resizing make of a text and of the list of holes. No program is named here. -/
import Derived.Test.YtmfcfkomdflhlaaDoorMath
namespace Go.Proofs.YtmfcfkomdflhlaaDoor
open Go

/-- What Read gives. -/
def readB (S : ByteArray) (a n : Int) : ByteArray × Bool × Int :=
  if a < 0 ∨ n < 0 then (⟨#[]⟩, false, 2) else if (S.size : Int) ≤ a then (⟨#[]⟩, true, 0) else if (S.size : Int) - a ≤ n then (S.extract a.toNat S.size, true, 0) else (S.extract a.toNat (a + n).toNat, false, 0)

/-- How many of the first k blocks are no holes. -/
def fullB (H : List Bool) (k : Nat) : Nat := ((H.take k).filter (!·)).length
theorem fullB_yes {H : List Bool} {k : Nat} (hk : k < H.length) (h : H[k] = false) : fullB H (k + 1) = fullB H k + 1 := by
  unfold fullB
  rw [List.take_succ_eq_append_getElem hk, List.filter_append, h]
  simp
theorem fullB_no {H : List Bool} {k : Nat} (hk : k < H.length) (h : H[k] = true) : fullB H (k + 1) = fullB H k := by
  unfold fullB
  rw [List.take_succ_eq_append_getElem hk, List.filter_append, h]
  simp
theorem fullB_le (H : List Bool) (k : Nat) : fullB H k ≤ H.length := by
  unfold fullB
  exact Nat.le_trans (List.length_filter_le _ _) (by rw [List.length_take]; omega)
theorem fullB_all (H : List Bool) : fullB H H.length = (H.filter (!·)).length := by
  unfold fullB
  rw [List.take_length]


def zer (k : Nat) : ByteArray := bs (List.replicate k 0)
theorem zer_size (k : Nat) : (zer k).size = k := by unfold zer; rw [bs_size]; simp

/-- The holes, when what lies from n on goes: of the first j blocks. -/
def shrinkTo (H : List Bool) (n j : Nat) : List Bool := H.mapIdx fun k x => if k < j then x || decide (n ≤ k * 64) else x
theorem shrinkTo_len (H : List Bool) (n j : Nat) : (shrinkTo H n j).length = H.length := by simp [shrinkTo]
theorem shrinkTo_zero (H : List Bool) (n : Nat) : shrinkTo H n 0 = H := by
  apply List.ext_getElem
  · simp [shrinkTo]
  · intro i h1 h2
    simp [shrinkTo]
theorem shrinkTo_yes (H : List Bool) (n j : Nat) (h : n ≤ j * 64) : (shrinkTo H n j).set j true = shrinkTo H n (j + 1) := by
  apply List.ext_getElem
  · simp [shrinkTo]
  · intro i h1 h2
    rw [List.getElem_set]
    by_cases e : j = i
    · subst e
      simp [shrinkTo, h]
    · rw [if_neg e]
      simp only [shrinkTo, List.getElem_mapIdx]
      by_cases k : i < j
      · rw [if_pos k, if_pos (by omega)]
      · rw [if_neg k, if_neg (by omega)]
theorem shrinkTo_no (H : List Bool) (n j : Nat) (h : j * 64 < n) : shrinkTo H n (j + 1) = shrinkTo H n j := by
  apply List.ext_getElem
  · simp [shrinkTo]
  · intro i h1 h2
    simp only [shrinkTo, List.getElem_mapIdx]
    by_cases e : i = j
    · subst e
      rw [if_pos (by omega), if_neg (by omega)]
      have : decide (n ≤ i * 64) = false := decide_eq_false (by omega)
      rw [this]
      simp
    · by_cases k : i < j
      · rw [if_pos k, if_pos (by omega)]
      · rw [if_neg k, if_neg (by omega)]


/-- What Resize leaves. -/
def resizeS (S : ByteArray) (n : Nat) : ByteArray := if S.size ≤ n then S ++ zer (n - S.size) else S.extract 0 n
def resizeH (S : ByteArray) (H : List Bool) (n : Nat) : List Bool := if S.size ≤ n then H else shrinkTo H n H.length

/-! ### plain -/
/-- The text, long enough that a write at a begins in it. -/
def padS (S : ByteArray) (a : Nat) : ByteArray := if S.size < a then S ++ zer (a - S.size) else S
def tailS (P : ByteArray) (k : Nat) : ByteArray := if k < P.size then P.extract k P.size else ⟨#[]⟩
def writeS (S : ByteArray) (a : Nat) (s : ByteArray) : ByteArray := (padS S a).extract 0 a ++ s ++ tailS (padS S a) (a + s.size)
theorem padS_size (S : ByteArray) (a : Nat) : a ≤ (padS S a).size ∧ (padS S a).size ≤ max S.size a := by
  unfold padS
  split
  · rw [ByteArray.size_append, zer_size]; omega
  · omega
/-- The list of holes, long enough for block k, with i more. -/
def moreH (H : List Bool) (i : Nat) : List Bool := H ++ List.replicate i true
theorem moreH_len (H : List Bool) (i : Nat) : (moreH H i).length = H.length + i := by simp [moreH]
theorem moreH_succ (H : List Bool) (i : Nat) : moreH H (i + 1) = moreH H i ++ [true] := by simp [moreH, List.replicate_succ']
/-- Block k is no hole any more. -/
def markH (H : List Bool) (k : Nat) : List Bool := (moreH H (k + 1 - H.length)).set k false
/-- The blocks from k on, so many. -/
def marksH (H : List Bool) (k : Nat) : Nat → List Bool
  | 0 => H
  | i + 1 => markH (marksH H k i) (k + i)
theorem markH_len (H : List Bool) (k : Nat) : (markH H k).length = max H.length (k + 1) := by simp [markH, moreH_len]; omega
theorem marksH_len (H : List Bool) (k i : Nat) : (marksH H k i).length ≤ max H.length (k + i) := by
  induction i with
  | zero => simp [marksH]; omega
  | succ i ih => rw [marksH, markH_len]; omega
end Go.Proofs.YtmfcfkomdflhlaaDoor
