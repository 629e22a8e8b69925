/- Attributes: what a text says, by the document; the document's AttrFrom by its contract. -/
import Derived.Test.YtdafekhmjddkbabDoorA1
import Derived.Test.YtdafekhmjddkbabDoorB2
import Derived.BigRegion
namespace Go.Proofs.YtdafekhmjddkbabDoor
open Go Go.RowKit Go.Deep

/-- A number of so many bytes can be read. -/
def cutOk (s : ByteArray) (k : Nat) : Bool := decide (k ≤ s.size) && (k == 4 || decide (numAt s k ≤ 9223372036854775807))
/-- The first k numbers that a mask asks for, and what is left of the text. -/
def decA (m : Nat) (s : ByteArray) : Nat → Option ((Nat → Int) × ByteArray)
  | 0 => some (fun _ => 0, s)
  | k + 1 => match decA m s k with
    | none => none
    | some x => if asksA m k then (if cutOk x.2 (wideA k) then some (fun i => if i = k then (numAt x.2 (wideA k) : Int) else x.1 i, cutAt x.2 (wideA k)) else none) else some x
theorem decA_stop {m : Nat} {s : ByteArray} {j : Nat} (h : decA m s j = none) (k : Nat) (hk : j ≤ k) : decA m s k = none := by
  induction k with
  | zero => obtain rfl : j = 0 := by omega
            exact h
  | succ k ih =>
    by_cases e : j = k + 1
    · subst e; exact h
    · rw [decA, ih (by omega)]
theorem decA_no {m : Nat} {s : ByteArray} {j : Nat} {f : Nat → Int} {r : ByteArray} (h : decA m s j = some (f, r)) (ha : asksA m j = false) : decA m s (j + 1) = some (f, r) := by
  rw [decA, h]
  simp [ha]
theorem decA_yes {m : Nat} {s : ByteArray} {j : Nat} {f : Nat → Int} {r : ByteArray} (h : decA m s j = some (f, r)) (ha : asksA m j = true) (ho : cutOk r (wideA j) = true) : decA m s (j + 1) = some (fun i => if i = j then (numAt r (wideA j) : Int) else f i, cutAt r (wideA j)) := by
  rw [decA, h]
  simp [ha, ho]
theorem decA_bad {m : Nat} {s : ByteArray} {j : Nat} {f : Nat → Int} {r : ByteArray} (h : decA m s j = some (f, r)) (ha : asksA m j = true) (ho : cutOk r (wideA j) = false) : decA m s (j + 1) = none := by
  rw [decA, h]
  simp [ha, ho]
theorem decA_size {m : Nat} {s : ByteArray} {j : Nat} {f : Nat → Int} {r : ByteArray} (h : decA m s j = some (f, r)) : r.size ≤ s.size := by
  induction j generalizing f r with
  | zero => rw [decA] at h; cases h; exact Nat.le_refl _
  | succ j ih =>
    cases hj : decA m s j with
    | none => rw [decA, hj] at h; cases h
    | some x =>
      have := ih (f := x.1) (r := x.2) hj
      rw [decA, hj] at h
      simp only at h
      split at h
      · split at h
        · cases h
          rw [cutAt_size]
          omega
        · cases h
      · cases h
        exact this

theorem cut_ok (s : ByteArray) (k : Nat) (w : World) (hk : k = 4 ∨ k = 8) (hs : s.size ≤ 4000) (h : cutOk s k = true) : Calls Tryd.prog 35 #[.string s, .int .i64 k] w fun e w' => e = .returned (.tuple #[.int .i64 (numAt s k), .string (cutAt s k)]) ∧ Below w.heap.size w w' := by
  unfold cutOk at h
  simp only [Bool.and_eq_true, Bool.or_eq_true, decide_eq_true_eq, beq_iff_eq] at h
  rcases hk with rfl | rfl
  · exact cut4_ok s w h.1 hs
  · exact cut8_ok s w h.1 hs (h.2.resolve_left (by decide))
theorem cut_no (s : ByteArray) (k : Nat) (w : World) (hk : k = 4 ∨ k = 8) (hs : s.size ≤ 4000) (h : cutOk s k = false) : Calls Tryd.prog 35 #[.string s, .int .i64 k] w fun e w' => e = .returned (.tuple #[.int .i64 (-1), .string s]) ∧ w = w' := by
  rcases hk with rfl | rfl
  · refine cut4_short s w ?_
    rcases Nat.lt_or_ge s.size 4 with k | k
    · exact k
    · simp [cutOk, k] at h
  · rcases Nat.lt_or_ge s.size 8 with k | k
    · exact cut8_short s w k
    · refine cut8_great s w k hs ?_
      simp [cutOk, k] at h
      exact h

/-- What is no text of attributes. -/
def noA (s : ByteArray) : Prop := s.size < 4 ∨ 31 < numAt s 4 ∨ decA (numAt s 4) (cutAt s 4) 6 = none ∨ ∃ f r, decA (numAt s 4) (cutAt s 4) 6 = some (f, r) ∧ 0 < r.size
def AttrEnds (s : ByteArray) (w : World) (e : Ending) (w' : World) : Prop :=
  ((noA s ∧ e = .returned (.tuple #[aggA fun _ => 0, .int .i64 0, .bool false])) ∨
   (∃ f r, 4 ≤ s.size ∧ numAt s 4 ≤ 31 ∧ decA (numAt s 4) (cutAt s 4) 6 = some (f, r) ∧ r.size = 0 ∧ e = .returned (.tuple #[aggA f, .int .i64 (numAt s 4), .bool true]))) ∧ Below w.heap.size w w'

theorem attrFrom_short (s : ByteArray) (w : World) (h : s.size < 4) : Calls Tryd.prog 17 #[.string s] w (AttrEnds s w) := by
  have hq := cut4_short s (w.alloc (.cells #[.int .i64 0, .int .i64 0, .int .i64 0, .int .i64 0, .int .i64 0, .int .i64 0] 28)) h
  go_enter Tryd.func17, Tryd.ntmps17
  go_wp2_with (go_at_call 35; go_must (refine hq.mono ?_); rintro e w3 ⟨rfl, rfl⟩)
  refine bodyPost_ret (v := .tuple #[aggA fun _ => 0, .int .i64 0, .bool false]) (by simp [results, Tryd.results17, go_sem, aggA]) rfl ⟨Or.inl ⟨Or.inl h, rfl⟩, (Below.refl _ _).alloc (Nat.le_refl _) _⟩

theorem zero_row {w1 : World} {R : Nat} {w : World} {t : TypeId} (hR : R = w.heap.size) (hb : Below (w.alloc (.cells #[.int .i64 0, .int .i64 0, .int .i64 0, .int .i64 0, .int .i64 0, .int .i64 0] t)).heap.size (w.alloc (.cells #[.int .i64 0, .int .i64 0, .int .i64 0, .int .i64 0, .int .i64 0, .int .i64 0] t)) w1) : ∀ k, k < 6 → w1.cell? ⟨R, k, none⟩ = some (.int .i64 0) := fun k hk => by
  subst hR
  refine (hb.cell (p := ⟨w.heap.size, k, none⟩) (by simp)).trans ?_
  match k, hk with
  | 0, _ => simp
  | 1, _ => simp
  | 2, _ => simp
  | 3, _ => simp
  | 4, _ => simp
  | 5, _ => simp

theorem attrFrom_mask (s : ByteArray) (w : World) (h : 4 ≤ s.size) (hs : s.size ≤ 4000) (hm : 31 < numAt s 4) : Calls Tryd.prog 17 #[.string s] w (AttrEnds s w) := by
  have hq := cut4_ok s (w.alloc (.cells #[.int .i64 0, .int .i64 0, .int .i64 0, .int .i64 0, .int .i64 0, .int .i64 0] 28)) h hs
  have HA : Hid (noA s) := Or.inr (Or.inl hm)
  obtain ⟨n, hn⟩ : ∃ n, numAt s 4 = n := ⟨_, rfl⟩
  rw [hn] at hq hm
  clear hn
  have hd : decide ((n : Int) < 0) = false := decide_eq_false (by omega)
  have hd' : decide (31 < (n : Int)) = true := decide_eq_true (by omega)
  go_enter Tryd.func17, Tryd.ntmps17
  go_wp2_with fail
  refine hq.mono ?_
  rintro e w3 ⟨rfl, hb3⟩
  have z := zero_row rfl hb3
  have k0 := z 0 (by decide)
  have k1 := z 1 (by decide)
  have k2 := z 2 (by decide)
  have k3 := z 3 (by decide)
  have k4 := z 4 (by decide)
  have k5 := z 5 (by decide)
  have kf : ∀ o, w3.frozen? ⟨w.heap.size, o, none⟩ = false := fun o => (hb3.frozen (p := ⟨w.heap.size, o, none⟩) (by simp)).trans (by simp)
  have HB : Hid (Below w.heap.size w w3) := ((Below.refl _ _).alloc (Nat.le_refl _) _).trans (hb3.mono (by simp))
  clear z hb3 hq
  go_wp2
  refine bodyPost_ret (v := .tuple #[aggA fun _ => 0, .int .i64 0, .bool false]) (by simp [results, Tryd.results17, go_sem, aggA, k0, k1, k2, k3, k4, k5]) rfl ⟨Or.inl ⟨HA.out, rfl⟩, (((((HB.out.setCell (Nat.le_refl _) _).setCell (Nat.le_refl _) _).setCell (Nat.le_refl _) _).setCell (Nat.le_refl _) _).setCell (Nat.le_refl _) _).setCell (Nat.le_refl _) _⟩
end Go.Proofs.YtdafekhmjddkbabDoor
