/- Attributes: what the document asks: a mask's bits, the numbers that they ask for, as a text; the document's AttrOf by its contract. -/
import Derived.Test.YtdafekhmjddkbabDoorB1
import Derived.Laws.ResultCell
namespace Go.Proofs.YtdafekhmjddkbabDoor
open Go Go.RowKit Go.Deep

/-- The bit that asks for number i; and of how many bytes it is. -/
def bitA (i : Nat) : Nat := if i = 0 then 1 else if i = 1 then 2 else if i = 2 then 4 else if i = 3 then 8 else 16
def wideA (i : Nat) : Nat := if i = 1 ∨ i = 3 then 8 else 4
def asksA (m i : Nat) : Bool := m / bitA i % 2 == 1
def okA (i : Nat) (v : Int) : Bool := decide (0 ≤ v) && (i == 1 || i == 3 || decide (v ≤ 4294967295))
/-- The text of the first k numbers, behind the mask; none: one cannot be written. -/
def encA (m : Nat) (v : Nat → Int) : Nat → Option (List UInt8)
  | 0 => some (be 4 m)
  | k + 1 => match encA m v k with
    | none => none
    | some l => if asksA m k then (if okA k (v k) then some (l ++ be (wideA k) (v k).toNat) else none) else some l
theorem encA_stop {m : Nat} {v : Nat → Int} {j : Nat} (h : encA m v j = none) (k : Nat) (hk : j ≤ k) : encA m v k = none := by
  induction k with
  | zero => obtain rfl : j = 0 := by omega
            exact h
  | succ k ih =>
    by_cases e : j = k + 1
    · subst e; exact h
    · rw [encA, ih (by omega)]
theorem encA_no {m : Nat} {v : Nat → Int} {j : Nat} {l : List UInt8} (h : encA m v j = some l) (ha : asksA m j = false) : encA m v (j + 1) = some l := by
  rw [encA, h]
  simp [ha]
theorem encA_yes {m : Nat} {v : Nat → Int} {j : Nat} {l : List UInt8} (h : encA m v j = some l) (ha : asksA m j = true) (ho : okA j (v j) = true) : encA m v (j + 1) = some (l ++ be (wideA j) (v j).toNat) := by
  rw [encA, h]
  simp [ha, ho]
theorem encA_bad {m : Nat} {v : Nat → Int} {j : Nat} {l : List UInt8} (h : encA m v j = some l) (ha : asksA m j = true) (ho : okA j (v j) = false) : encA m v (j + 1) = none := by
  rw [encA, h]
  simp [ha, ho]
theorem encA_len {m : Nat} {v : Nat → Int} {j : Nat} {l : List UInt8} (h : encA m v j = some l) : l.length ≤ 4 + 8 * j := by
  induction j generalizing l with
  | zero =>
    rw [encA] at h
    cases h
    rw [be_length]
    omega
  | succ j ih =>
    cases hj : encA m v j with
    | none => rw [encA, hj] at h; cases h
    | some l' =>
      have := ih hj
      rw [encA, hj] at h
      simp only at h
      split at h
      · split at h
        · cases h
          rw [List.length_append, be_length]
          unfold wideA
          split <;> omega
        · cases h
      · cases h
        omega

theorem bitA_pos (j : Nat) : 1 ≤ bitA j := by unfold bitA; split <;> (try split) <;> (try split) <;> (try split) <;> omega
theorem ask_is {m j : Nat} (hm : m ≤ 31) : (wrap64 ((m : Int) / (bitA j : Int))).tmod 2 = ((m / bitA j % 2 : Nat) : Int) := by
  have h1 : (m : Int) / (bitA j : Int) = ((m / bitA j : Nat) : Int) := rfl
  have h2 : m / bitA j ≤ 31 := Nat.le_trans (Nat.div_le_self _ _) hm
  have h3 : wrap64 ((m / bitA j : Nat) : Int) = ((m / bitA j : Nat) : Int) := by
    have key : ∀ q : Nat, q ≤ 31 → wrap64 (q : Int) = (q : Int) := fun q hq => by unfold wrap64; omega
    exact key _ h2
  rw [h1, h3]
  rfl
theorem ask_no {m j : Nat} (hm : m ≤ 31) (h : asksA m j = false) : ((wrap64 ((m : Int) / (bitA j : Int))).tmod 2 == 0) = true := by
  rw [ask_is hm, beq_iff_eq]
  unfold asksA at h
  have : m / bitA j % 2 ≠ 1 := by simpa using h
  omega
theorem ask_yes {m j : Nat} (hm : m ≤ 31) (h : asksA m j = true) : ((wrap64 ((m : Int) / (bitA j : Int))).tmod 2 == 0) = false := by
  rw [ask_is hm, beq_eq_false_iff_ne]
  unfold asksA at h
  have : m / bitA j % 2 = 1 := by simpa using h
  omega

/-- A node's numbers as a value. -/
def aggA (v : Nat → Int) : Value := .agg #[.int .i64 (v 0), .int .i64 (v 1), .int .i64 (v 2), .int .i64 (v 3), .int .i64 (v 4), .int .i64 (v 5)]

theorem attrOf_bound (v : Nat → Int) (m : Int) (w : World) (h : m < 0 ∨ 31 < m) : Calls Tryd.prog 13 #[aggA v, .int .i64 m] w fun e w' => e = .returned (.tuple #[.string ⟨#[]⟩, .int .i64 2]) ∧ Below w.heap.size w w' := by
  unfold aggA
  rcases h with h | h
  · have hd : decide (m < 0) = true := decide_eq_true h
    go_enter Tryd.func13, Tryd.ntmps13
    go_wp2
    go_ret2
    exact ⟨rfl, (Below.refl _ _).alloc (Nat.le_refl _) _⟩
  · have hd : decide (m < 0) = false := decide_eq_false (by omega)
    have hd' : decide (31 < m) = true := decide_eq_true h
    go_enter Tryd.func13, Tryd.ntmps13
    go_wp2
    go_ret2
    exact ⟨rfl, (Below.refl _ _).alloc (Nat.le_refl _) _⟩

set_option maxHeartbeats 2000000 in
set_option maxRecDepth 100000 in
theorem attrOf_walk (v : Nat → Int) (m : Nat) (w : World) (hm : m ≤ 31) (hv : ∀ i, i < 6 → v i < 9223372036854775808) : Calls Tryd.prog 13 #[aggA v, .int .i64 m] w fun e w' => ((∃ l, encA m v 6 = some l ∧ e = .returned (.tuple #[.string (bs l), .int .i64 0])) ∨ (encA m v 6 = none ∧ e = .returned (.tuple #[.string ⟨#[]⟩, .int .i64 2]))) ∧ Below w.heap.size w w' := by
  unfold aggA
  have hd : decide ((m : Int) < 0) = false := decide_eq_false (by omega)
  have hd' : decide (31 < (m : Int)) = false := decide_eq_false (by omega)
  go_enter Tryd.func13, Tryd.ntmps13
  go_wp2_with fail
  refine (big4 m _ (by omega)).mono ?_
  rintro e w1 ⟨rfl, hb1⟩
  have c0 : w1.cell? ⟨w.heap.size, 0, none⟩ = some (.int .i64 (v 0)) := (hb1.cell (p := ⟨w.heap.size, 0, none⟩) (by simp)).trans (by simp)
  have c1 : w1.cell? ⟨w.heap.size, 1, none⟩ = some (.int .i64 (v 1)) := (hb1.cell (p := ⟨w.heap.size, 1, none⟩) (by simp)).trans (by simp)
  have c2 : w1.cell? ⟨w.heap.size, 2, none⟩ = some (.int .i64 (v 2)) := (hb1.cell (p := ⟨w.heap.size, 2, none⟩) (by simp)).trans (by simp)
  have c3 : w1.cell? ⟨w.heap.size, 3, none⟩ = some (.int .i64 (v 3)) := (hb1.cell (p := ⟨w.heap.size, 3, none⟩) (by simp)).trans (by simp)
  have c4 : w1.cell? ⟨w.heap.size, 4, none⟩ = some (.int .i64 (v 4)) := (hb1.cell (p := ⟨w.heap.size, 4, none⟩) (by simp)).trans (by simp)
  have c5 : w1.cell? ⟨w.heap.size, 5, none⟩ = some (.int .i64 (v 5)) := (hb1.cell (p := ⟨w.heap.size, 5, none⟩) (by simp)).trans (by simp)
  obtain ⟨B, hB⟩ : ∃ B, w1.heap.size = B := ⟨_, rfl⟩
  go_wp2
  have i0 : ∀ k, k < 6 → ((w1.alloc (.cells #[.int .i64 (v 0), .int .i64 (v 1), .int .i64 (v 2), .int .i64 (v 3), .int .i64 (v 4), .int .i64 (v 5)] 3)).alloc (.cells #[.int .i64 1, .int .i64 2, .int .i64 4, .int .i64 8, .int .i64 16, .int .i64 16] 3)).cell? ⟨B, k, none⟩ = some (.int .i64 (v k)) := fun k hk => by
    subst hB
    match k, hk with
    | 0, _ => simp
    | 1, _ => simp
    | 2, _ => simp
    | 3, _ => simp
    | 4, _ => simp
    | 5, _ => simp
  have i1 : ∀ k, k < 6 → ((w1.alloc (.cells #[.int .i64 (v 0), .int .i64 (v 1), .int .i64 (v 2), .int .i64 (v 3), .int .i64 (v 4), .int .i64 (v 5)] 3)).alloc (.cells #[.int .i64 1, .int .i64 2, .int .i64 4, .int .i64 8, .int .i64 16, .int .i64 16] 3)).cell? ⟨B + 1, k, none⟩ = some (.int .i64 (bitA k)) := fun k hk => by
    subst hB
    match k, hk with
    | 0, _ => simp [bitA]
    | 1, _ => simp [bitA]
    | 2, _ => simp [bitA]
    | 3, _ => simp [bitA]
    | 4, _ => simp [bitA]
    | 5, _ => simp [bitA]
  have hw : Below w.heap.size w ((w1.alloc (.cells #[.int .i64 (v 0), .int .i64 (v 1), .int .i64 (v 2), .int .i64 (v 3), .int .i64 (v 4), .int .i64 (v 5)] 3)).alloc (.cells #[.int .i64 1, .int .i64 2, .int .i64 4, .int .i64 8, .int .i64 16, .int .i64 16] 3)) := by
    have h1 : Below w.heap.size w w1 := ((Below.refl _ _).alloc (Nat.le_refl _) _).trans (hb1.mono (by simp))
    exact (h1.alloc h1.size _).alloc (by have := h1.size; simp; omega) _
  have HI0 : Hid _ := i0
  have HI1 : Hid _ := i1
  have HW : Hid _ := hw
  clear c0 c1 c2 c3 c4 c5 hb1 hd hd' i0 i1 hw
  go_loopw [6, 9] (fun o i wr => ∃ (j : Nat) (l : List UInt8), j ≤ 6 ∧ i = .int .i64 j ∧ o = .string (bs l) ∧ encA m v j = some l ∧ (∀ k, k < 6 → wr.cell? ⟨B, k, none⟩ = some (.int .i64 (v k))) ∧ (∀ k, k < 6 → wr.cell? ⟨B + 1, k, none⟩ = some (.int .i64 (bitA k))) ∧ Below w.heap.size w wr) (fun _ i _ => 6 - (intOf i).toNat)
  case atStart => exact ⟨0, be 4 m, by decide, rfl, rfl, rfl, HI0.out, HI1.out, HW.out⟩
  case round =>
    obtain ⟨j, l, hj, rfl, rfl, hl, q0, q1, hb⟩ := hrel
    clear HI0 HI1 HW hB
    have HL : Hid (encA m v j = some l) := hl
    have H0 : Hid (∀ k, k < 6 → wr.cell? ⟨B, k, none⟩ = some (.int .i64 (v k))) := q0
    have H1 : Hid (∀ k, k < 6 → wr.cell? ⟨B + 1, k, none⟩ = some (.int .i64 (bitA k))) := q1
    have HB : Hid (Below w.heap.size w wr) := hb
    clear hl q0 q1 hb
    have hll : (bs l).size ≤ 52 := by
      rw [bs_size]
      have := encA_len HL.out
      omega
    rcases (show j = 1 ∨ j = 3 ∨ (j ≠ 1 ∧ j ≠ 3 ∧ j < 6) ∨ j = 6 by omega) with rfl | rfl | ⟨hj1, hj3, hlt⟩ | rfl
    · clear hj
      have c0 := H0.out 1 (by decide)
      have c1 : wr.cell? ⟨B + 1, 1, none⟩ = some (.int .i64 2) := H1.out 1 (by decide)
      cases hA : asksA m 1
      · have ht : ((m : Int) / 2 % 2 == 0) = true := by
          have h1 : m / 2 % 2 ≠ 1 := by simpa [asksA, bitA] using hA
          rw [beq_iff_eq]
          omega
        have HN : Hid (encA m v 2 = some l) := encA_no HL.out hA
        clear hA
        go_wp2
        go_roundw
        case rel => exact ⟨2, l, by decide, by go_num, rfl, HN.out, H0.out, H1.out, HB.out⟩
        case measure => simp [intOf]
      · have ht : ((m : Int) / 2 % 2 == 0) = false := by
          have h1 : m / 2 % 2 = 1 := by simpa [asksA, bitA] using hA
          rw [beq_eq_false_iff_ne]
          omega
        by_cases hneg : v 1 < 0
        · have HN : Hid (encA m v 6 = none) := encA_stop (encA_bad HL.out hA (by simp [okA]; omega)) 6 (by decide)
          have hdn : decide (v 1 < 0) = true := decide_eq_true hneg
          clear hA
          go_wp2
          go_ret2
          exact ⟨Or.inr ⟨HN.out, rfl⟩, HB.out⟩
        · obtain ⟨n, hn⟩ : ∃ n : Nat, v 1 = (n : Int) := ⟨(v 1).toNat, by omega⟩
          have hnb : n < 9223372036854775808 := by have := hv 1 (by decide); omega
          have HN : Hid (encA m v 2 = some (l ++ be 8 n)) := by
            have h1 : encA m v 2 = some (l ++ be (wideA 1) (v 1).toNat) := encA_yes HL.out hA (by simp [okA]; omega)
            rw [hn] at h1
            exact h1
          rw [hn] at c0
          clear hA hneg hn
          have hq := big8 n wr hnb
          have hz : (bs (be 8 n)).size = 8 := be_size 8 n
          generalize hbe : bs (be 8 n) = Y at hq hz
          go_wp2_with (go_at_call 27; go_must (refine hq.mono ?_); rintro e w3 ⟨rfl, hb3⟩)
          have HB3 : Hid (Below w.heap.size w w3) := HB.out.trans (hb3.mono HB.out.size)
          have K0 : Hid (∀ k, k < 6 → w3.cell? ⟨B, k, none⟩ = some (.int .i64 (v k))) := fun k hk => (hb3.cell (p := ⟨B, k, none⟩) (lt_of_cell (H0.out k hk))).trans (H0.out k hk)
          have K1 : Hid (∀ k, k < 6 → w3.cell? ⟨B + 1, k, none⟩ = some (.int .i64 (bitA k))) := fun k hk => (hb3.cell (p := ⟨B + 1, k, none⟩) (lt_of_cell (H1.out k hk))).trans (H1.out k hk)
          go_roundw
          case rel => exact ⟨2, l ++ be 8 n, by decide, by go_num, by rw [← hbe, bs_append], HN.out, K0.out, K1.out, HB3.out⟩
          case measure => simp [intOf]
    · clear hj
      have c0 := H0.out 3 (by decide)
      have c1 : wr.cell? ⟨B + 1, 3, none⟩ = some (.int .i64 8) := H1.out 3 (by decide)
      cases hA : asksA m 3
      · have ht : ((m : Int) / 8 % 2 == 0) = true := by
          have h1 : m / 8 % 2 ≠ 1 := by simpa [asksA, bitA] using hA
          rw [beq_iff_eq]
          omega
        have HN : Hid (encA m v 4 = some l) := encA_no HL.out hA
        clear hA
        go_wp2
        go_roundw
        case rel => exact ⟨4, l, by decide, by go_num, rfl, HN.out, H0.out, H1.out, HB.out⟩
        case measure => simp [intOf]
      · have ht : ((m : Int) / 8 % 2 == 0) = false := by
          have h1 : m / 8 % 2 = 1 := by simpa [asksA, bitA] using hA
          rw [beq_eq_false_iff_ne]
          omega
        by_cases hneg : v 3 < 0
        · have HN : Hid (encA m v 6 = none) := encA_stop (encA_bad HL.out hA (by simp [okA]; omega)) 6 (by decide)
          have hdn : decide (v 3 < 0) = true := decide_eq_true hneg
          clear hA
          go_wp2
          go_ret2
          exact ⟨Or.inr ⟨HN.out, rfl⟩, HB.out⟩
        · obtain ⟨n, hn⟩ : ∃ n : Nat, v 3 = (n : Int) := ⟨(v 3).toNat, by omega⟩
          have hnb : n < 9223372036854775808 := by have := hv 3 (by decide); omega
          have HN : Hid (encA m v 4 = some (l ++ be 8 n)) := by
            have h1 : encA m v 4 = some (l ++ be (wideA 3) (v 3).toNat) := encA_yes HL.out hA (by simp [okA]; omega)
            rw [hn] at h1
            exact h1
          rw [hn] at c0
          clear hA hneg hn
          have hq := big8 n wr hnb
          have hz : (bs (be 8 n)).size = 8 := be_size 8 n
          generalize hbe : bs (be 8 n) = Y at hq hz
          go_wp2_with (go_at_call 27; go_must (refine hq.mono ?_); rintro e w3 ⟨rfl, hb3⟩)
          have HB3 : Hid (Below w.heap.size w w3) := HB.out.trans (hb3.mono HB.out.size)
          have K0 : Hid (∀ k, k < 6 → w3.cell? ⟨B, k, none⟩ = some (.int .i64 (v k))) := fun k hk => (hb3.cell (p := ⟨B, k, none⟩) (lt_of_cell (H0.out k hk))).trans (H0.out k hk)
          have K1 : Hid (∀ k, k < 6 → w3.cell? ⟨B + 1, k, none⟩ = some (.int .i64 (bitA k))) := fun k hk => (hb3.cell (p := ⟨B + 1, k, none⟩) (lt_of_cell (H1.out k hk))).trans (H1.out k hk)
          go_roundw
          case rel => exact ⟨4, l ++ be 8 n, by decide, by go_num, by rw [← hbe, bs_append], HN.out, K0.out, K1.out, HB3.out⟩
          case measure => simp [intOf]
    · have e1 : ((j : Int) == 1) = false := by rw [beq_eq_false_iff_ne]; omega
      have e3 : ((j : Int) == 3) = false := by rw [beq_eq_false_iff_ne]; omega
      have c0 := H0.out j hlt
      have c1 := H1.out j hlt
      have hbit : 1 ≤ bitA j := bitA_pos j
      have hwd : wideA j = 4 := if_neg (fun k => k.elim hj1 hj3)
      have hok : ∀ x, okA j x = (decide (0 ≤ x) && decide (x ≤ 4294967295)) := fun x => by unfold okA; rw [beq_eq_false_iff_ne.2 hj1, beq_eq_false_iff_ne.2 hj3]; rfl
      have HW : Hid (wideA j = 4 ∧ ∀ x, okA j x = (decide (0 ≤ x) && decide (x ≤ 4294967295))) := ⟨hwd, hok⟩
      clear hj1 hj3 hwd hok
      cases hA : asksA m j
      · have ht : ((wrap64 ((m : Int) / (bitA j : Int))).tmod 2 == 0) = true := ask_no hm hA
        have HN : Hid (encA m v (j + 1) = some l) := encA_no HL.out hA
        clear hA
        go_wp2
        go_roundw
        case rel => exact ⟨j + 1, l, by omega, by go_num, rfl, HN.out, H0.out, H1.out, HB.out⟩
        case measure => simp [intOf]; omega
      · have ht : ((wrap64 ((m : Int) / (bitA j : Int))).tmod 2 == 0) = false := ask_yes hm hA
        by_cases hneg : v j < 0
        · have HN : Hid (encA m v 6 = none) := encA_stop (encA_bad HL.out hA (by rw [HW.out.2]; simp; omega)) 6 (by omega)
          have hdn : decide (v j < 0) = true := decide_eq_true hneg
          clear hA
          go_wp2
          go_ret2
          exact ⟨Or.inr ⟨HN.out, rfl⟩, HB.out⟩
        · have hdn : decide (v j < 0) = false := decide_eq_false hneg
          by_cases hbig : 4294967295 < v j
          · have HN : Hid (encA m v 6 = none) := encA_stop (encA_bad HL.out hA (by rw [HW.out.2]; simp; omega)) 6 (by omega)
            have hq := refIsInt_no (v j) wr (Or.inr hbig)
            clear hA hbig hneg
            go_wp2_with (go_at_call 28; go_must (refine hq.mono ?_); rintro e w3 ⟨rfl, rfl⟩)
            go_ret2
            exact ⟨Or.inr ⟨HN.out, rfl⟩, HB.out⟩
          · obtain ⟨n, hn⟩ : ∃ n : Nat, v j = (n : Int) := ⟨(v j).toNat, by omega⟩
            have HN : Hid (encA m v (j + 1) = some (l ++ be 4 n)) := by
              have h1 : encA m v (j + 1) = some (l ++ be (wideA j) (v j).toNat) := encA_yes HL.out hA (by rw [HW.out.2]; simp; omega)
              rw [HW.out.1, hn] at h1
              exact h1
            have hq := refIsInt_yes (n : Int) wr (by omega) (by omega)
            have hg := big4 n wr (by omega)
            have hz : (bs (be 4 n)).size = 4 := be_size 4 n
            rw [hn] at c0 hdn
            clear hA hneg hn hbig
            generalize hbe : bs (be 4 n) = Y at hg hz
            go_wp2_with (first
              | (go_at_call 28; go_must (refine hq.mono ?_); rintro e w3 ⟨rfl, rfl⟩)
              | (go_at_call 27; go_must (refine hg.mono ?_); rintro e w3 ⟨rfl, hb3⟩))
            have HB3 : Hid (Below w.heap.size w w3) := HB.out.trans (hb3.mono HB.out.size)
            have K0 : Hid (∀ k, k < 6 → w3.cell? ⟨B, k, none⟩ = some (.int .i64 (v k))) := fun k hk => (hb3.cell (p := ⟨B, k, none⟩) (lt_of_cell (H0.out k hk))).trans (H0.out k hk)
            have K1 : Hid (∀ k, k < 6 → w3.cell? ⟨B + 1, k, none⟩ = some (.int .i64 (bitA k))) := fun k hk => (hb3.cell (p := ⟨B + 1, k, none⟩) (lt_of_cell (H1.out k hk))).trans (H1.out k hk)
            go_roundw
            case rel => exact ⟨j + 1, l ++ be 4 n, by omega, by go_num, by rw [← hbe, bs_append], HN.out, K0.out, K1.out, HB3.out⟩
            case measure => simp [intOf]; omega
    · go_wp2
      go_ret2
      exact ⟨Or.inl ⟨l, HL.out, rfl⟩, HB.out⟩
end Go.Proofs.YtdafekhmjddkbabDoor
