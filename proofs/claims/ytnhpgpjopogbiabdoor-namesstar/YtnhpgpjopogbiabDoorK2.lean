/- Names: plain facts on patterns: a pattern without stars' help goes with itself; a star more goes with whatever stands in its place. -/
import Derived.Test.YtnhpgpjopogbiabDoorK1
namespace Go.Proofs.YtnhpgpjopogbiabDoor
open Go Go.RowKit

/-- What goes on, byte for byte, from a place where the two go together. -/
theorem pm_diag (P S : ByteArray) (p i n : Nat) (h : pm P S p i = true) (he : ∀ j, j < n → byteAt P (p + j) = byteAt S (i + j)) : pm P S (p + n) (i + n) = true := by
  induction n with
  | zero => exact h
  | succ n ih =>
    have h1 := ih fun j hj => he j (by omega)
    have h2 := he n (by omega)
    show pm P S ((p + n) + 1) ((i + n) + 1) = true
    by_cases h42 : byteAt P (p + n) = 42
    · rw [pm_star_succ P S _ _ h42]
      have h3 : pm P S (p + n + 1) (i + n) = true := by
        cases hi : i + n with
        | zero => rw [pm_star_zero P S _ h42, ← hi]; exact h1
        | succ k => rw [pm_star_succ P S _ _ h42, ← hi, h1]; rfl
      rw [h3, Bool.or_true]
    · by_cases h63 : byteAt P (p + n) = 63
      · rw [pm_any P S _ _ h42 h63]; exact h1
      · rw [pm_one P S _ _ h42 h63, h1, h2]
        simp
/-- A star goes with whatever stands behind. -/
theorem pm_run (P S : ByteArray) (p i n : Nat) (h : pm P S p i = true) (h42 : byteAt P p = 42) : pm P S (p + 1) (i + n) = true := by
  induction n with
  | zero =>
    show pm P S (p + 1) i = true
    cases i with
    | zero => rw [pm_star_zero P S _ h42]; exact h
    | succ k => rw [pm_star_succ P S _ _ h42, h]; rfl
  | succ n ih =>
    show pm P S (p + 1) (i + n + 1) = true
    rw [pm_star_succ P S _ _ h42, ih, Bool.or_true]

theorem byteAt_bs (l : List UInt8) (i : Nat) : byteAt (bs l) i = (l.getD i 0).toNat := by unfold byteAt; rw [bs_data]
theorem byteAt_left (a b : ByteArray) (i : Nat) (h : i < a.size) : byteAt (a ++ b) i = byteAt a i := by
  unfold byteAt
  have hl : i < a.data.toList.length := h
  rw [show (a ++ b).data.toList = a.data.toList ++ b.data.toList by simp]
  simp [List.getD, List.getElem?_append_left hl]
theorem byteAt_right (a b : ByteArray) (i : Nat) : byteAt (a ++ b) (a.size + i) = byteAt b i := by
  unfold byteAt
  rw [show (a ++ b).data.toList = a.data.toList ++ b.data.toList by simp]
  have hl : a.data.toList.length = a.size := rfl
  simp [List.getD, List.getElem?_append_right, hl]

theorem pm_self (a : ByteArray) : pm a a a.size a.size = true := by
  have := pm_diag a a 0 0 a.size (by rw [pm]) (fun j _ => rfl)
  simpa using this
/-- a*b goes with axb. -/
theorem pm_mid (a b x s : ByteArray) (hs1 : s.size = 1) (hs : byteAt s 0 = 42) : pm (a ++ s ++ b) (a ++ x ++ b) (a ++ s ++ b).size (a ++ x ++ b).size = true := by
  have h1 : pm (a ++ s ++ b) (a ++ x ++ b) a.size a.size = true := by
    have := pm_diag (a ++ s ++ b) (a ++ x ++ b) 0 0 a.size (by rw [pm]) (fun j hj => by
      rw [Nat.zero_add, byteAt_left _ _ _ (by rw [ByteArray.size_append]; omega), byteAt_left _ _ _ hj, byteAt_left _ _ _ (by rw [ByteArray.size_append]; omega), byteAt_left _ _ _ hj])
    simpa using this
  have h42 : byteAt (a ++ s ++ b) a.size = 42 := by
    rw [byteAt_left _ _ _ (by rw [ByteArray.size_append]; omega)]
    have := byteAt_right a s 0
    rw [Nat.add_zero] at this
    rw [this, hs]
  have h2 := pm_run _ _ _ _ x.size h1 h42
  have h3 := pm_diag _ _ _ _ b.size h2 (fun j _ => by
    have e1 := byteAt_right (a ++ s) b j
    have e2 := byteAt_right (a ++ x) b j
    rw [ByteArray.size_append, hs1] at e1
    rw [ByteArray.size_append] at e2
    rw [e1, e2])
  rw [ByteArray.size_append, ByteArray.size_append, ByteArray.size_append, ByteArray.size_append, hs1]
  exact h3
theorem pm_all (x s : ByteArray) (hs : byteAt s 0 = 42) : pm s x 1 x.size = true := by
  have := pm_run s x 0 0 x.size (by rw [pm]) hs
  simpa using this
theorem pm_sign (x s : ByteArray) (hs : byteAt s 0 = 63) : pm s x 1 1 = true := by
  rw [pm_any s x 0 0 (by omega) hs, pm]
end Go.Proofs.YtnhpgpjopogbiabDoor
