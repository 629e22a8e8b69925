/- Attributes: what is encoded is decoded: plain. And what package attr is asked to do, as three sentences. -/
import Derived.Test.YtdafekhmjddkbabDoorA3
import Derived.Test.YtdafekhmjddkbabDoorA4
import Derived.Test.YtdafekhmjddkbabDoorE3
namespace Go.Proofs.YtdafekhmjddkbabDoor
open Go Go.RowKit Go.Deep

/-- Alike in what a mask asks for. -/
def sameA (m : Nat) (v u : Nat → Int) : Bool := (List.range 6).all fun i => !asksA m i || v i == u i
theorem sameA_of {m : Nat} {v u : Nat → Int} (h : ∀ i, i < 6 → asksA m i = true → v i = u i) : sameA m v u = true := by
  unfold sameA
  rw [List.all_eq_true]
  intro i hi
  cases ha : asksA m i
  · rfl
  · rw [h i (List.mem_range.1 hi) ha]
    simp

theorem enc_dec {m : Nat} {v : Nat → Int} (hv : ∀ i, i < 6 → v i < 9223372036854775808) (k : Nat) (hk : k ≤ 6) {l : List UInt8} (h : encA m v k = some l) :
    ∃ t, l = be 4 m ++ t ∧ ∀ rest, ∃ f, decA m (bs (t ++ rest)) k = some (f, bs rest) ∧ ∀ i, i < k → asksA m i = true → f i = v i := by
  induction k generalizing l with
  | zero =>
    rw [encA] at h
    cases h
    exact ⟨[], by simp, fun rest => ⟨fun _ => 0, by simp [decA], fun i hi => absurd hi (Nat.not_lt_zero _)⟩⟩
  | succ k ih =>
    cases hl : encA m v k with
    | none => rw [encA, hl] at h; cases h
    | some l0 =>
      obtain ⟨t, rfl, hd⟩ := ih (by omega) hl
      cases ha : asksA m k
      · have := encA_no hl ha
        rw [this] at h
        cases h
        refine ⟨t, rfl, fun rest => ?_⟩
        obtain ⟨f, h1, h2⟩ := hd rest
        refine ⟨f, decA_no h1 ha, fun i hi hia => ?_⟩
        by_cases e : i = k
        · subst e; rw [ha] at hia; cases hia
        · exact h2 i (by omega) hia
      · cases ho : okA k (v k)
        · rw [encA_bad hl ha ho] at h; cases h
        · rw [encA_yes hl ha ho] at h
          cases h
          have hvk := hv k (by omega)
          unfold okA at ho
          simp only [Bool.and_eq_true, Bool.or_eq_true, decide_eq_true_eq, beq_iff_eq] at ho
          have hn : (v k).toNat < 256 ^ wideA k := by
            unfold wideA
            split
            · have : (256 : Nat) ^ 8 = 18446744073709551616 := by decide
              omega
            · have : (256 : Nat) ^ 4 = 4294967296 := by decide
              omega
          refine ⟨t ++ be (wideA k) (v k).toNat, by simp, fun rest => ?_⟩
          obtain ⟨f, h1, h2⟩ := hd (be (wideA k) (v k).toNat ++ rest)
          obtain ⟨r1, r2, r3⟩ := read_num (bs (be (wideA k) (v k).toNat ++ rest)) (wideA k) (v k).toNat rest (bs_data _) hn
          have hc : cutOk (bs (be (wideA k) (v k).toNat ++ rest)) (wideA k) = true := by
            unfold cutOk
            rw [r2]
            simp only [Bool.and_eq_true, Bool.or_eq_true, decide_eq_true_eq, beq_iff_eq]
            exact ⟨r1, Or.inr (by omega)⟩
          refine ⟨_, by rw [List.append_assoc]; exact (decA_yes h1 ha hc).trans (by rw [show cutAt (bs (be (wideA k) (v k).toNat ++ rest)) (wideA k) = bs rest from data_inj (r3.trans (bs_data _).symm)]), fun i hi hia => ?_⟩
          by_cases e : i = k
          · subst e
            simp only [if_true]
            rw [r2]
            omega
          · simp only [if_neg e]
            exact h2 i (by omega) hia
/-- What is encoded is decoded. -/
theorem enc_dec_all {m : Nat} {v : Nat → Int} (hm : m ≤ 31) (hv : ∀ i, i < 6 → v i < 9223372036854775808) {l : List UInt8} (h : encA m v 6 = some l) :
    4 ≤ (bs l).size ∧ numAt (bs l) 4 = m ∧ ∃ f, decA m (cutAt (bs l) 4) 6 = some (f, bs []) ∧ sameA m v f = true := by
  obtain ⟨t, rfl, hd⟩ := enc_dec hv 6 (Nat.le_refl _) h
  obtain ⟨r1, r2, r3⟩ := read_num (bs (be 4 m ++ t)) 4 m t (bs_data _) (Nat.lt_of_le_of_lt hm (by decide))
  obtain ⟨f, h1, h2⟩ := hd []
  refine ⟨r1, r2, f, ?_, sameA_of fun i hi ha => (h2 i hi ha).symm⟩
  rw [show cutAt (bs (be 4 m ++ t)) 4 = bs (t ++ []) from data_inj (r3.trans (by rw [bs_data]; simp))]
  exact h1
end Go.Proofs.YtdafekhmjddkbabDoor
