/- Names: patterns from the other end: what is left of a pattern goes with what is left of a text; the last star alone need be tried again. Plain. -/
import Derived.Test.YtnhpgpjopogbiabDoorK1
namespace Go.Proofs.YtnhpgpjopogbiabDoor
open Go Go.RowKit

/-- The sign at place p takes the text from i to j. -/
def Step (P S : ByteArray) (p i j : Nat) : Prop := (byteAt P p = 42 ∧ i ≤ j) ∨ (byteAt P p ≠ 42 ∧ j = i + 1 ∧ (byteAt P p = 63 ∨ byteAt S i = byteAt P p))
/-- The next k signs from p on take the text from i to its end. -/
def msk (P S : ByteArray) : Nat → Nat → Nat → Prop
  | 0, _, i => i = S.size
  | k + 1, p, i => ∃ j, Step P S p i j ∧ msk P S k (p + 1) j
/-- What is left of the pattern from p on goes with what is left of the text from i on. -/
def Ms (P S : ByteArray) (p i : Nat) : Prop := msk P S (P.size - p) p i

theorem pm_step (P S : ByteArray) (p j : Nat) : pm P S (p + 1) j = true ↔ ∃ i, pm P S p i = true ∧ Step P S p i j := by
  by_cases h : byteAt P p = 42
  · have key : pm P S (p + 1) j = true ↔ ∃ i, pm P S p i = true ∧ i ≤ j := by
      induction j with
      | zero =>
        rw [pm_star_zero P S p h]
        exact ⟨fun k => ⟨0, k, Nat.le_refl _⟩, fun ⟨i, k, hi⟩ => by obtain rfl := Nat.le_zero.1 hi; exact k⟩
      | succ j ih =>
        rw [pm_star_succ P S p j h, Bool.or_eq_true, ih]
        constructor
        · rintro (k | ⟨i, k, hi⟩)
          · exact ⟨_, k, Nat.le_refl _⟩
          · exact ⟨i, k, by omega⟩
        · rintro ⟨i, k, hi⟩
          by_cases e : i = j + 1
          · subst e; exact Or.inl k
          · exact Or.inr ⟨i, k, by omega⟩
    rw [key]
    refine ⟨fun ⟨i, k, hi⟩ => ⟨i, k, Or.inl ⟨h, hi⟩⟩, fun ⟨i, k, hi⟩ => ⟨i, k, ?_⟩⟩
    rcases hi with ⟨_, hi⟩ | ⟨hn, _⟩
    · exact hi
    · exact absurd h hn
  · cases j with
    | zero =>
      rw [pm_zero P S p h]
      refine ⟨fun k => Bool.noConfusion k, fun ⟨i, _, hi⟩ => ?_⟩
      rcases hi with ⟨k, _⟩ | ⟨_, k, _⟩
      · exact absurd k h
      · omega
    | succ j =>
      by_cases h2 : byteAt P p = 63
      · rw [pm_any P S p j h h2]
        refine ⟨fun k => ⟨j, k, Or.inr ⟨h, rfl, Or.inl h2⟩⟩, fun ⟨i, k, hi⟩ => ?_⟩
        rcases hi with ⟨k', _⟩ | ⟨_, k', _⟩
        · exact absurd k' h
        · obtain rfl : j = i := by omega
          exact k
      · rw [pm_one P S p j h h2, Bool.and_eq_true, decide_eq_true_eq]
        refine ⟨fun ⟨k, k'⟩ => ⟨j, k, Or.inr ⟨h, rfl, Or.inr k'⟩⟩, fun ⟨i, k, hi⟩ => ?_⟩
        rcases hi with ⟨k', _⟩ | ⟨_, k', k''⟩
        · exact absurd k' h
        · obtain rfl : j = i := by omega
          exact ⟨k, k''.resolve_left h2⟩
theorem meet (P S : ByteArray) (k p : Nat) : (∃ i, pm P S p i = true ∧ msk P S k p i) ↔ pm P S (p + k) S.size = true := by
  induction k generalizing p with
  | zero => exact ⟨fun ⟨i, h, e⟩ => by subst e; exact h, fun h => ⟨_, h, rfl⟩⟩
  | succ k ih =>
    rw [show p + (k + 1) = p + 1 + k by omega, ← ih (p + 1)]
    constructor
    · rintro ⟨i, h, j, hs, hm⟩
      exact ⟨j, (pm_step P S p j).2 ⟨i, h, hs⟩, hm⟩
    · rintro ⟨j, h, hm⟩
      obtain ⟨i, hi, hs⟩ := (pm_step P S p j).1 h
      exact ⟨i, hi, j, hs, hm⟩
theorem pm_ms (P S : ByteArray) : pm P S P.size S.size = true ↔ Ms P S 0 0 := by
  have h := meet P S P.size 0
  rw [Nat.zero_add] at h
  rw [← h]
  unfold Ms
  refine ⟨fun ⟨i, h1, h2⟩ => ?_, fun h2 => ⟨0, by rw [pm], h2⟩⟩
  cases i with
  | zero => exact h2
  | succ i => rw [pm] at h1; cases h1
theorem ms_step (P S : ByteArray) (p i : Nat) (h : p < P.size) : Ms P S p i ↔ ∃ j, Step P S p i j ∧ Ms P S (p + 1) j := by
  unfold Ms
  rw [show P.size - p = (P.size - (p + 1)) + 1 by omega]
  exact Iff.rfl
theorem ms_end (P S : ByteArray) (i : Nat) : Ms P S P.size i ↔ i = S.size := by
  unfold Ms
  rw [Nat.sub_self]
  exact Iff.rfl
theorem msk_le (P S : ByteArray) (k p i : Nat) (h : msk P S k p i) : i ≤ S.size := by
  induction k generalizing p i with
  | zero => exact Nat.le_of_eq h
  | succ k ih =>
    obtain ⟨j, hs, hm⟩ := h
    have := ih _ _ hm
    rcases hs with ⟨_, hs⟩ | ⟨_, hs, _⟩ <;> omega
theorem ms_le (P S : ByteArray) (p i : Nat) (h : Ms P S p i) : i ≤ S.size := msk_le P S _ p i h
theorem ms_star (P S : ByteArray) (p i : Nat) (h : p < P.size) (hs : byteAt P p = 42) : Ms P S p i ↔ ∃ j, i ≤ j ∧ Ms P S (p + 1) j := by
  rw [ms_step P S p i h]
  refine ⟨fun ⟨j, k, hm⟩ => ⟨j, ?_, hm⟩, fun ⟨j, k, hm⟩ => ⟨j, Or.inl ⟨hs, k⟩, hm⟩⟩
  rcases k with ⟨_, k⟩ | ⟨k, _⟩
  · exact k
  · exact absurd hs k
theorem ms_sign (P S : ByteArray) (p i : Nat) (h : p < P.size) (hn : byteAt P p ≠ 42) : Ms P S p i ↔ (byteAt P p = 63 ∨ byteAt S i = byteAt P p) ∧ Ms P S (p + 1) (i + 1) := by
  rw [ms_step P S p i h]
  refine ⟨fun ⟨j, k, hm⟩ => ?_, fun ⟨k, hm⟩ => ⟨i + 1, Or.inr ⟨hn, rfl, k⟩, hm⟩⟩
  rcases k with ⟨k, _⟩ | ⟨_, rfl, k⟩
  · exact absurd k hn
  · exact ⟨k, hm⟩
theorem ms_stars (P S : ByteArray) (p : Nat) (hp : p ≤ P.size) : Ms P S p S.size ↔ ∀ j, p ≤ j → j < P.size → byteAt P j = 42 := by
  obtain ⟨k, hk⟩ : ∃ k, P.size - p = k := ⟨_, rfl⟩
  induction k generalizing p with
  | zero =>
    obtain rfl : p = P.size := by omega
    rw [ms_end]
    exact ⟨fun _ j h1 h2 => absurd h2 (by omega), fun _ => rfl⟩
  | succ k ih =>
    have hlt : p < P.size := by omega
    by_cases h : byteAt P p = 42
    · rw [ms_star P S p _ hlt h]
      constructor
      · rintro ⟨j, h1, h2⟩
        obtain rfl : j = S.size := by have := ms_le P S _ _ h2; omega
        intro x hx1 hx2
        by_cases e : x = p
        · subst e; exact h
        · exact (ih (p + 1) hlt (by omega)).1 h2 x (by omega) hx2
      · intro hall
        exact ⟨_, Nat.le_refl _, (ih (p + 1) hlt (by omega)).2 fun j h1 h2 => hall j (by omega) h2⟩
    · rw [ms_sign P S p _ hlt h]
      refine ⟨fun ⟨_, hm⟩ => ?_, fun hall => absurd (hall p (Nat.le_refl _) hlt) h⟩
      have := ms_le P S _ _ hm
      omega

/-- Signs without a star take a byte each. -/
theorem ms_along (P S : ByteArray) (q i n : Nat) (hq : q + n ≤ P.size) (hn : ∀ j, j < n → byteAt P (q + j) ≠ 42) (h : Ms P S q i) : Ms P S (q + n) (i + n) := by
  induction n with
  | zero => exact h
  | succ n ih =>
    have := ih (by omega) fun j hj => hn j (by omega)
    exact ((ms_sign P S (q + n) (i + n) (by omega) (hn n (Nat.lt_succ_self _))).1 this).2
theorem ms_back (P S : ByteArray) (q i n : Nat) (hq : q + n ≤ P.size) (hn : ∀ j, j < n → byteAt P (q + j) ≠ 42 ∧ (byteAt P (q + j) = 63 ∨ byteAt S (i + j) = byteAt P (q + j))) (h : Ms P S (q + n) (i + n)) : Ms P S q i := by
  induction n with
  | zero => exact h
  | succ n ih =>
    have hk := hn n (Nat.lt_succ_self _)
    exact ih (by omega) (fun j hj => hn j (by omega)) ((ms_sign P S (q + n) (i + n) (by omega) hk.1).2 ⟨hk.2, h⟩)

/-- What holds ahead of each round: no star yet; or the last star at st, which takes the text up to e, and n signs behind it. -/
def Tries (P S : ByteArray) (p at' : Nat) (st : Int) (e : Nat) : Prop :=
  p ≤ P.size ∧ at' ≤ S.size ∧ e ≤ at' ∧
  ((st = -1 ∧ e = 0 ∧ (Ms P S 0 0 ↔ Ms P S p at')) ∨
   ∃ q n : Nat, st = (q : Int) ∧ p = q + 1 + n ∧ at' = e + n ∧ (∀ j, j < n → byteAt P (q + 1 + j) ≠ 42 ∧ (byteAt P (q + 1 + j) = 63 ∨ byteAt S (e + j) = byteAt P (q + 1 + j))) ∧ (Ms P S 0 0 ↔ ∃ x, e ≤ x ∧ Ms P S (q + 1) x))
theorem tries_start (P S : ByteArray) : Tries P S 0 0 (-1) 0 := ⟨Nat.zero_le _, Nat.zero_le _, Nat.le_refl _, Or.inl ⟨rfl, rfl, Iff.rfl⟩⟩
theorem tries_star {P S : ByteArray} {p a e : Nat} {st : Int} (h : Tries P S p a st e) (hp : p < P.size) (h42 : byteAt P p = 42) : Tries P S (p + 1) a (p : Int) a := by
  obtain ⟨h1, h2, h3, h4⟩ := h
  refine ⟨hp, h2, Nat.le_refl _, Or.inr ⟨p, 0, rfl, rfl, rfl, fun j hj => absurd hj (Nat.not_lt_zero _), ?_⟩⟩
  rcases h4 with ⟨_, _, h4⟩ | ⟨q, n, _, rfl, rfl, hs, h4⟩
  · rw [h4, ms_star P S p a hp h42]
  · rw [h4]
    constructor
    · rintro ⟨x, hx, hm⟩
      have := ms_along P S (q + 1) x n h1 (fun j hj => (hs j hj).1) hm
      obtain ⟨y, hy, hm'⟩ := (ms_star P S _ _ hp h42).1 this
      exact ⟨y, by omega, hm'⟩
    · rintro ⟨y, hy, hm⟩
      exact ⟨e, Nat.le_refl _, ms_back P S (q + 1) e n h1 hs ((ms_star P S _ _ hp h42).2 ⟨y, hy, hm⟩)⟩
theorem tries_sign {P S : ByteArray} {p a e : Nat} {st : Int} (h : Tries P S p a st e) (hp : p < P.size) (ha : a < S.size) (hn : byteAt P p ≠ 42) (hk : byteAt P p = 63 ∨ byteAt S a = byteAt P p) : Tries P S (p + 1) (a + 1) st e := by
  obtain ⟨h1, h2, h3, h4⟩ := h
  refine ⟨hp, ha, by omega, ?_⟩
  rcases h4 with ⟨h5, h6, h4⟩ | ⟨q, n, h5, rfl, rfl, hs, h4⟩
  · refine Or.inl ⟨h5, h6, h4.trans ((ms_sign P S p a hp hn).trans ⟨fun k => k.2, fun k => ⟨hk, k⟩⟩)⟩
  · refine Or.inr ⟨q, n + 1, h5, rfl, rfl, fun j hj => ?_, h4⟩
    rcases Nat.lt_or_ge j n with hj' | hj'
    · exact hs j hj'
    · obtain rfl : j = n := by omega
      exact ⟨hn, hk⟩
theorem ms_stop {P S : ByteArray} {p a : Nat} (h1 : p ≤ P.size) (ha : a < S.size) (hb : p < P.size → byteAt P p ≠ 42 ∧ ¬ (byteAt P p = 63 ∨ byteAt S a = byteAt P p)) : ¬ Ms P S p a := fun k => by
  rcases Nat.lt_or_ge p P.size with hp | hp
  · exact (hb hp).2 ((ms_sign P S p a hp (hb hp).1).1 k).1
  · obtain rfl : p = P.size := by omega
    have := (ms_end P S a).1 k
    omega
theorem tries_again {P S : ByteArray} {p a e q : Nat} (h : Tries P S p a (q : Int) e) (ha : a < S.size) (hb : p < P.size → byteAt P p ≠ 42 ∧ ¬ (byteAt P p = 63 ∨ byteAt S a = byteAt P p)) : Tries P S (q + 1) (e + 1) (q : Int) (e + 1) ∧ q + 1 ≤ P.size ∧ e + 1 ≤ S.size := by
  obtain ⟨h1, h2, h3, h4⟩ := h
  rcases h4 with ⟨h5, _⟩ | ⟨q', n, h5, rfl, rfl, hs, h4⟩
  · omega
  · obtain rfl : q = q' := by omega
    have hno : ¬ Ms P S (q + 1) e := fun k => ms_stop h1 ha hb (ms_along P S (q + 1) e n h1 (fun j hj => (hs j hj).1) k)
    refine ⟨⟨by omega, by omega, Nat.le_refl _, Or.inr ⟨q, 0, rfl, rfl, rfl, fun j hj => absurd hj (Nat.not_lt_zero _), ?_⟩⟩, by omega, by omega⟩
    rw [h4]
    refine ⟨fun ⟨x, hx, hm⟩ => ⟨x, ?_, hm⟩, fun ⟨x, hx, hm⟩ => ⟨x, by omega, hm⟩⟩
    by_cases e' : x = e
    · subst e'; exact absurd hm hno
    · omega
theorem tries_no {P S : ByteArray} {p a e : Nat} {st : Int} (h : Tries P S p a st e) (hst : st < 0) (ha : a < S.size) (hb : p < P.size → byteAt P p ≠ 42 ∧ ¬ (byteAt P p = 63 ∨ byteAt S a = byteAt P p)) : pm P S P.size S.size = false := by
  obtain ⟨h1, h2, h3, h4⟩ := h
  rcases h4 with ⟨_, _, h4⟩ | ⟨q, n, h5, _⟩
  · rw [← Bool.not_eq_true, pm_ms, h4]
    exact ms_stop h1 ha hb
  · omega
theorem tries_all {P S : ByteArray} {p a e : Nat} {st : Int} (h : Tries P S p a st e) (ha : a = S.size) (hall : ∀ j, p ≤ j → j < P.size → byteAt P j = 42) : pm P S P.size S.size = true := by
  obtain ⟨h1, h2, h3, h4⟩ := h
  subst ha
  rw [pm_ms]
  have hm := (ms_stars P S p h1).2 hall
  rcases h4 with ⟨_, _, h4⟩ | ⟨q, n, _, rfl, hen, hs, h4⟩
  · exact h4.2 hm
  · rw [hen] at hm
    exact h4.2 ⟨e, Nat.le_refl _, ms_back P S (q + 1) e n h1 hs hm⟩
theorem tries_left {P S : ByteArray} {p a e : Nat} {st : Int} (h : Tries P S p a st e) (ha : a = S.size) (hall : ¬ ∀ j, p ≤ j → j < P.size → byteAt P j = 42) : pm P S P.size S.size = false := by
  obtain ⟨h1, h2, h3, h4⟩ := h
  subst ha
  rw [← Bool.not_eq_true, pm_ms]
  have hm : ¬ Ms P S p S.size := fun k => hall ((ms_stars P S p h1).1 k)
  rcases h4 with ⟨_, _, h4⟩ | ⟨q, n, _, rfl, hen, hs, h4⟩
  · rw [h4]
    exact hm
  · rw [h4]
    rintro ⟨x, hx, k⟩
    have k' := ms_along P S (q + 1) x n h1 (fun j hj => (hs j hj).1) k
    have := ms_le P S _ _ k'
    obtain rfl : x = e := by omega
    rw [← hen] at k'
    exact hm k'
end Go.Proofs.YtnhpgpjopogbiabDoor
