/- Attributes: Same: what the document asks of it, proved. -/
import Derived.Test.YtdafekhmjddkbabDoorA14
import Derived.Test.YtdafekhmjddkbabDoorA6
namespace Go.Proofs.YtdafekhmjddkbabDoor
open Go Go.RowKit Go.Deep

/-- Alike in one part. -/
def partSame (j : Nat) (v u : Nat → Int) : Bool := if j = 4 then (v 4 == u 4) && (v 5 == u 5) else v j == u j
theorem same0_any (v u : Nat → Int) (w : World) : Calls Tryd.prog 60 #[aggA v, aggA u] w fun e w' => e = .returned (.bool (partSame 0 v u)) ∧ Below w.heap.size w w' := by
  unfold aggA
  go_enter Tryd.func60, Tryd.ntmps60
  go_wp2
  go_ret
  exact ⟨rfl, ((Below.refl _ _).alloc (Nat.le_refl _) _).alloc (by simp) _⟩
theorem same1_any (v u : Nat → Int) (w : World) : Calls Tryd.prog 62 #[aggA v, aggA u] w fun e w' => e = .returned (.bool (partSame 1 v u)) ∧ Below w.heap.size w w' := by
  unfold aggA
  go_enter Tryd.func62, Tryd.ntmps62
  go_wp2
  go_ret
  exact ⟨rfl, ((Below.refl _ _).alloc (Nat.le_refl _) _).alloc (by simp) _⟩
theorem same2_any (v u : Nat → Int) (w : World) : Calls Tryd.prog 64 #[aggA v, aggA u] w fun e w' => e = .returned (.bool (partSame 2 v u)) ∧ Below w.heap.size w w' := by
  unfold aggA
  go_enter Tryd.func64, Tryd.ntmps64
  go_wp2
  go_ret
  exact ⟨rfl, ((Below.refl _ _).alloc (Nat.le_refl _) _).alloc (by simp) _⟩
theorem same3_any (v u : Nat → Int) (w : World) : Calls Tryd.prog 66 #[aggA v, aggA u] w fun e w' => e = .returned (.bool (partSame 3 v u)) ∧ Below w.heap.size w w' := by
  unfold aggA
  go_enter Tryd.func66, Tryd.ntmps66
  go_wp2
  go_ret
  exact ⟨rfl, ((Below.refl _ _).alloc (Nat.le_refl _) _).alloc (by simp) _⟩
theorem same4_any (v u : Nat → Int) (w : World) : Calls Tryd.prog 69 #[aggA v, aggA u] w fun e w' => e = .returned (.bool (partSame 4 v u)) ∧ Below w.heap.size w w' := by
  unfold aggA
  go_enter Tryd.func69, Tryd.ntmps69
  go_wp2
  all_goals
    go_ret
    exact ⟨by simp [partSame, *], ((Below.refl _ _).alloc (Nat.le_refl _) _).alloc (by simp) _⟩

/-- Alike in the first so many parts. -/
def alike (m : Nat) (v u : Nat → Int) (j : Nat) : Prop := ∀ k, k < (if j = 5 then 6 else j) → asksA m k = true → v k = u k
theorem alike_no {m : Nat} {v u : Nat → Int} {j : Nat} (h : alike m v u j) (hj : j < 5) (ha : asksA m j = false) : alike m v u (j + 1) := fun k hk hka => by
  rcases (show j < 4 ∨ j = 4 by omega) with h4 | rfl
  · rw [if_neg (by omega)] at hk
    by_cases e : k = j
    · subst e; rw [ha] at hka; cases hka
    · exact h k (by rw [if_neg (by omega)]; omega) hka
  · have hk' : k < 6 := hk
    by_cases e : k < 4
    · exact h k e hka
    · have ha5 : asksA m 5 = false := ha
      rcases (show k = 4 ∨ k = 5 by omega) with rfl | rfl
      · rw [ha] at hka; cases hka
      · rw [ha5] at hka; cases hka
theorem alike_yes {m : Nat} {v u : Nat → Int} {j : Nat} (h : alike m v u j) (hj : j < 5) (hs : partSame j v u = true) : alike m v u (j + 1) := fun k hk hka => by
  rcases (show j < 4 ∨ j = 4 by omega) with h4 | rfl
  · rw [if_neg (by omega)] at hk
    by_cases e : k = j
    · subst e
      unfold partSame at hs
      rw [if_neg (by omega)] at hs
      exact eq_of_beq hs
    · exact h k (by rw [if_neg (by omega)]; omega) hka
  · have hk' : k < 6 := hk
    have hs' : (v 4 = u 4) ∧ (v 5 = u 5) := by simpa [partSame] using hs
    by_cases e : k < 4
    · exact h k e hka
    · rcases (show k = 4 ∨ k = 5 by omega) with rfl | rfl
      · exact hs'.1
      · exact hs'.2
theorem unlike {m : Nat} {v u : Nat → Int} {j : Nat} (hj : j < 5) (ha : asksA m j = true) (hs : partSame j v u = false) : sameA m v u = false := by
  unfold sameA
  rw [List.all_eq_false]
  rcases (show j < 4 ∨ j = 4 by omega) with h4 | rfl
  · refine ⟨j, List.mem_range.2 (by omega), ?_⟩
    unfold partSame at hs
    rw [if_neg (by omega)] at hs
    simp [ha, hs]
  · have ha5 : asksA m 5 = true := ha
    by_cases e : v 4 = u 4
    · refine ⟨5, List.mem_range.2 (by omega), ?_⟩
      have : ¬ v 5 = u 5 := by simpa [partSame, e] using hs
      simp [ha5, this]
    · exact ⟨4, List.mem_range.2 (by omega), by simp [ha, e]⟩

theorem same_bound (v u : Nat → Int) (m : Int) (A : Nat → Addr) (w : World) (hE : Errs w A) (h : m < 0 ∨ 31 < m) : Calls Tryd.prog 16 #[aggA v, aggA u, .int .i64 m] w fun e w' => e = .returned (.tuple #[.bool false, .iface 162 (.pointer (some (A 1)))]) ∧ Below w.heap.size w w' := by
  have hd : decide (0 ≤ m ∧ m ≤ 31) = false := decide_eq_false (by omega)
  have hb : Below w.heap.size w ((w.alloc (.cells #[.int .i64 (v 0), .int .i64 (v 1), .int .i64 (v 2), .int .i64 (v 3), .int .i64 (v 4), .int .i64 (v 5)] 28)).alloc (.cells #[.int .i64 (u 0), .int .i64 (u 1), .int .i64 (u 2), .int .i64 (u 3), .int .i64 (u 4), .int .i64 (u 5)] 28)) := ((Below.refl _ _).alloc (Nat.le_refl _) _).alloc (by simp) _
  have ce := (hE.below hb (Nat.le_refl _)).cell 1 (by decide)
  have ce' : ((w.alloc (.cells #[.int .i64 (v 0), .int .i64 (v 1), .int .i64 (v 2), .int .i64 (v 3), .int .i64 (v 4), .int .i64 (v 5)] 28)).alloc (.cells #[.int .i64 (u 0), .int .i64 (u 1), .int .i64 (u 2), .int .i64 (u 3), .int .i64 (u 4), .int .i64 (u 5)] 28)).cell? ⟨0, 0, none⟩ = some (.iface 162 (.pointer (some (A 1)))) := ce
  have HB : Hid _ := hb
  clear hE hb ce
  unfold aggA
  go_enter Tryd.func16, Tryd.ntmps16
  go_wp2_with (go_at_call 22; go_must (refine (isMask_any m _).mono ?_); rintro e w1 ⟨rfl, rfl⟩; rw [hd])
  go_region
  all_goals
    go_wp2
    go_ret2
    exact ⟨rfl, HB.out.drew⟩

set_option maxHeartbeats 2000000 in
set_option maxRecDepth 100000 in
theorem same_walk (v u : Nat → Int) (m : Nat) (w : World) (hm : m ≤ 31) : Calls Tryd.prog 16 #[aggA v, aggA u, .int .i64 m] w fun e w' => e = .returned (.tuple #[.bool (sameA m v u), .nilIface]) ∧ Below w.heap.size w w' := by
  have hd : decide (0 ≤ (m : Int) ∧ (m : Int) ≤ 31) = true := decide_eq_true (by omega)
  have hb0 : Below w.heap.size w ((w.alloc (.cells #[.int .i64 (v 0), .int .i64 (v 1), .int .i64 (v 2), .int .i64 (v 3), .int .i64 (v 4), .int .i64 (v 5)] 28)).alloc (.cells #[.int .i64 (u 0), .int .i64 (u 1), .int .i64 (u 2), .int .i64 (u 3), .int .i64 (u 4), .int .i64 (u 5)] 28)) := ((Below.refl _ _).alloc (Nat.le_refl _) _).alloc (by simp) _
  have hv0 : sixAt ((w.alloc (.cells #[.int .i64 (v 0), .int .i64 (v 1), .int .i64 (v 2), .int .i64 (v 3), .int .i64 (v 4), .int .i64 (v 5)] 28)).alloc (.cells #[.int .i64 (u 0), .int .i64 (u 1), .int .i64 (u 2), .int .i64 (u 3), .int .i64 (u 4), .int .i64 (u 5)] 28)) w.heap.size v := (sixAt_new w v 28).later ((Below.refl _ _).alloc (Nat.le_refl _) _)
  have hu0 : sixAt ((w.alloc (.cells #[.int .i64 (v 0), .int .i64 (v 1), .int .i64 (v 2), .int .i64 (v 3), .int .i64 (v 4), .int .i64 (v 5)] 28)).alloc (.cells #[.int .i64 (u 0), .int .i64 (u 1), .int .i64 (u 2), .int .i64 (u 3), .int .i64 (u 4), .int .i64 (u 5)] 28)) (w.heap.size + 1) u := by
    have := sixAt_new (w.alloc (.cells #[.int .i64 (v 0), .int .i64 (v 1), .int .i64 (v 2), .int .i64 (v 3), .int .i64 (v 4), .int .i64 (v 5)] 28)) u 28
    simpa using this
  generalize hW : ((w.alloc (.cells #[.int .i64 (v 0), .int .i64 (v 1), .int .i64 (v 2), .int .i64 (v 3), .int .i64 (v 4), .int .i64 (v 5)] 28)).alloc (.cells #[.int .i64 (u 0), .int .i64 (u 1), .int .i64 (u 2), .int .i64 (u 3), .int .i64 (u 4), .int .i64 (u 5)] 28)) = W1 at hb0 hv0 hu0
  have HW : Hid (_ = W1) := hW
  have H0 : Hid (Below w.heap.size w W1 ∧ sixAt W1 w.heap.size v ∧ sixAt W1 (w.heap.size + 1) u) := ⟨hb0, hv0, hu0⟩
  have hq := parts_any W1
  clear hb0 hv0 hu0 hW
  unfold aggA
  go_enter Tryd.func16, Tryd.ntmps16
  go_wp2_with (go_at_call 22; go_must (refine (isMask_any m _).mono ?_); rintro e w1 ⟨rfl, rfl⟩; rw [hd])
  rw [HW.out]
  refine hq.mono ?_
  rintro e w1 ⟨rfl, hP1, hb1⟩
  have H1 : Hid (PartsAt w1 W1.heap.size ∧ sixAt w1 w.heap.size v ∧ sixAt w1 (w.heap.size + 1) u) := ⟨hP1, H0.out.2.1.later hb1, H0.out.2.2.later hb1⟩
  have HB1 : Hid (Below w.heap.size w w1) := H0.out.1.trans (hb1.mono H0.out.1.size)
  clear hP1 hb1 hq H0 HW
  obtain ⟨BP, hBP⟩ : ∃ B, W1.heap.size = B := ⟨_, rfl⟩
  obtain ⟨BA, hBA⟩ : ∃ B, w.heap.size = B := ⟨_, rfl⟩
  obtain ⟨BU, hBU⟩ : ∃ B, BA + 1 = B := ⟨_, rfl⟩
  rw [hBP, hBA, hBU] at H1
  rw [hBP, hBA, hBU]
  go_wp2
  go_loopw [16] (fun i wr => ∃ j : Nat, j ≤ 5 ∧ i = .int .i64 j ∧ alike m v u j ∧ PartsAt wr BP ∧ sixAt wr BA v ∧ sixAt wr BU u ∧ Below w.heap.size w wr) (fun i _ => 5 - (intOf i).toNat)
  case atStart => exact ⟨0, by decide, rfl, fun k hk => absurd hk (Nat.not_lt_zero _), H1.out.1, H1.out.2.1, H1.out.2.2, HB1.out⟩
  case round =>
    obtain ⟨j, hj, rfl, hS, hP, hC1, hC2, hO⟩ := hrel
    have HS : Hid (alike m v u j) := hS
    have HP : Hid (PartsAt wr BP) := hP
    have HC : Hid (sixAt wr BA v ∧ sixAt wr BU u) := ⟨hC1, hC2⟩
    have HO : Hid (Below w.heap.size w wr) := hO
    have HZ : Hid (w.heap.size ≤ wr.heap.size) := hO.size
    clear hS hP hC1 hC2 hO H1 HB1
    rcases (show j = 0 ∨ j = 1 ∨ j = 2 ∨ j = 3 ∨ j = 4 ∨ j = 5 by omega) with rfl | rfl | rfl | rfl | rfl | rfl
    · have c0 : wr.cell? ⟨BP, 0, none⟩ = some (.int .i64 1) := HP.out.bit 0 (by decide)
      have c1 : wr.cell? ⟨BP, 1, none⟩ = some (.func (.func 59) #[] #[]) := HP.out.pass 0 (by decide)
      have c2 : wr.cell? ⟨BP, 2, none⟩ = some (.func (.func 60) #[] #[]) := HP.out.same 0 (by decide)
      have hb0 : Below wr.heap.size wr (wr.alloc (.cells #[.int .i64 1, .func (.func 59) #[] #[], .func (.func 60) #[] #[]] 78)) := (Below.refl _ _).alloc (Nat.le_refl _) _
      have hq : Calls Tryd.prog 34 #[.agg #[.int .i64 1, .func (.func 59) #[] #[], .func (.func 60) #[] #[]], .int .i64 m] (wr.alloc (.cells #[.int .i64 1, .func (.func 59) #[] #[], .func (.func 60) #[] #[]] 78)) _ := isAsked_any m 0 _ _ hm (by decide) _
      have HB0 : Hid (Below wr.heap.size wr (wr.alloc (.cells #[.int .i64 1, .func (.func 59) #[] #[], .func (.func 60) #[] #[]] 78))) := hb0
      have d1 : (wr.alloc (.cells #[.int .i64 1, .func (.func 59) #[] #[], .func (.func 60) #[] #[]] 78)).cell? ⟨wr.heap.size, 2, none⟩ = some (.func (.func 60) #[] #[]) := by simp
      have D1 : Hid ((wr.alloc (.cells #[.int .i64 1, .func (.func 59) #[] #[], .func (.func 60) #[] #[]] 78)).cell? ⟨wr.heap.size, 2, none⟩ = some (.func (.func 60) #[] #[])) := d1
      clear hb0 d1
      cases hA : asksA m 0
      · rw [hA] at hq
        have HA : Hid (asksA m 0 = false) := hA
        clear hA
        go_wp2_with (go_at_call 34; go_must (refine hq.mono ?_); rintro e w1 ⟨rfl, hb1⟩)
        have hb2 : Below wr.heap.size wr w1 := HB0.out.trans (hb1.mono (by simp))
        go_roundw
        case rel => exact ⟨1, by decide, by go_num, alike_no HS.out (by decide) HA.out, HP.out.only (Only.of_below hb2 []) (by simp), HC.out.1.later hb2, HC.out.2.later hb2, HO.out.trans (hb2.mono HZ.out)⟩
        case measure => simp [intOf]
      · rw [hA] at hq
        have HA : Hid (asksA m 0 = true) := hA
        clear hA
        go_wp2_with (first
          | (go_at_call 34; go_must (refine hq.mono ?_); rintro e w1 ⟨rfl, hb1⟩; have hb2 : Below wr.heap.size wr w1 := HB0.out.trans (hb1.mono (by simp)); have d2 : w1.cell? ⟨wr.heap.size, 2, none⟩ = some (.func (.func 60) #[] #[]) := (hb1.cell (p := ⟨wr.heap.size, 2, none⟩) (by simp)).trans D1.out; obtain ⟨k0, k1, k2, k3, k4, k5⟩ := HC.out.1.later hb2; obtain ⟨g0, g1, g2, g3, g4, g5⟩ := HC.out.2.later hb2)
          | fail)
        have hqs : Calls Tryd.prog 60 #[.agg #[.int .i64 (v 0), .int .i64 (v 1), .int .i64 (v 2), .int .i64 (v 3), .int .i64 (v 4), .int .i64 (v 5)], .agg #[.int .i64 (u 0), .int .i64 (u 1), .int .i64 (u 2), .int .i64 (u 3), .int .i64 (u 4), .int .i64 (u 5)]] w1 _ := same0_any v u w1
        cases hY : partSame 0 v u
        · rw [hY] at hqs
          have HY : Hid (partSame 0 v u = false) := hY
          clear hY
          go_wp2_with (go_at_call 60; go_must (refine hqs.mono ?_); rintro e w3 ⟨rfl, hb3⟩)
          go_ret2
          exact ⟨by rw [unlike (by decide) HA.out HY.out]; rfl, HO.out.trans ((hb2.trans (hb3.mono hb2.size)).mono HZ.out)⟩
        · rw [hY] at hqs
          have HY : Hid (partSame 0 v u = true) := hY
          clear hY
          go_wp2_with (go_at_call 60; go_must (refine hqs.mono ?_); rintro e w3 ⟨rfl, hb3⟩)
          have hb4 : Below wr.heap.size wr w3 := hb2.trans (hb3.mono hb2.size)
          clear k0 k1 k2 k3 k4 k5 g0 g1 g2 g3 g4 g5
          go_roundw
          case rel => exact ⟨1, by decide, by go_num, alike_yes HS.out (by decide) HY.out, HP.out.only (Only.of_below hb4 []) (by simp), HC.out.1.later hb4, HC.out.2.later hb4, HO.out.trans (hb4.mono HZ.out)⟩
          case measure => simp [intOf]
    · have c0 : wr.cell? ⟨BP, 3, none⟩ = some (.int .i64 2) := HP.out.bit 1 (by decide)
      have c1 : wr.cell? ⟨BP, 4, none⟩ = some (.func (.func 61) #[] #[]) := HP.out.pass 1 (by decide)
      have c2 : wr.cell? ⟨BP, 5, none⟩ = some (.func (.func 62) #[] #[]) := HP.out.same 1 (by decide)
      have hb0 : Below wr.heap.size wr (wr.alloc (.cells #[.int .i64 2, .func (.func 61) #[] #[], .func (.func 62) #[] #[]] 78)) := (Below.refl _ _).alloc (Nat.le_refl _) _
      have hq : Calls Tryd.prog 34 #[.agg #[.int .i64 2, .func (.func 61) #[] #[], .func (.func 62) #[] #[]], .int .i64 m] (wr.alloc (.cells #[.int .i64 2, .func (.func 61) #[] #[], .func (.func 62) #[] #[]] 78)) _ := isAsked_any m 1 _ _ hm (by decide) _
      have HB0 : Hid (Below wr.heap.size wr (wr.alloc (.cells #[.int .i64 2, .func (.func 61) #[] #[], .func (.func 62) #[] #[]] 78))) := hb0
      have d1 : (wr.alloc (.cells #[.int .i64 2, .func (.func 61) #[] #[], .func (.func 62) #[] #[]] 78)).cell? ⟨wr.heap.size, 2, none⟩ = some (.func (.func 62) #[] #[]) := by simp
      have D1 : Hid ((wr.alloc (.cells #[.int .i64 2, .func (.func 61) #[] #[], .func (.func 62) #[] #[]] 78)).cell? ⟨wr.heap.size, 2, none⟩ = some (.func (.func 62) #[] #[])) := d1
      clear hb0 d1
      cases hA : asksA m 1
      · rw [hA] at hq
        have HA : Hid (asksA m 1 = false) := hA
        clear hA
        go_wp2_with (go_at_call 34; go_must (refine hq.mono ?_); rintro e w1 ⟨rfl, hb1⟩)
        have hb2 : Below wr.heap.size wr w1 := HB0.out.trans (hb1.mono (by simp))
        go_roundw
        case rel => exact ⟨2, by decide, by go_num, alike_no HS.out (by decide) HA.out, HP.out.only (Only.of_below hb2 []) (by simp), HC.out.1.later hb2, HC.out.2.later hb2, HO.out.trans (hb2.mono HZ.out)⟩
        case measure => simp [intOf]
      · rw [hA] at hq
        have HA : Hid (asksA m 1 = true) := hA
        clear hA
        go_wp2_with (first
          | (go_at_call 34; go_must (refine hq.mono ?_); rintro e w1 ⟨rfl, hb1⟩; have hb2 : Below wr.heap.size wr w1 := HB0.out.trans (hb1.mono (by simp)); have d2 : w1.cell? ⟨wr.heap.size, 2, none⟩ = some (.func (.func 62) #[] #[]) := (hb1.cell (p := ⟨wr.heap.size, 2, none⟩) (by simp)).trans D1.out; obtain ⟨k0, k1, k2, k3, k4, k5⟩ := HC.out.1.later hb2; obtain ⟨g0, g1, g2, g3, g4, g5⟩ := HC.out.2.later hb2)
          | fail)
        have hqs : Calls Tryd.prog 62 #[.agg #[.int .i64 (v 0), .int .i64 (v 1), .int .i64 (v 2), .int .i64 (v 3), .int .i64 (v 4), .int .i64 (v 5)], .agg #[.int .i64 (u 0), .int .i64 (u 1), .int .i64 (u 2), .int .i64 (u 3), .int .i64 (u 4), .int .i64 (u 5)]] w1 _ := same1_any v u w1
        cases hY : partSame 1 v u
        · rw [hY] at hqs
          have HY : Hid (partSame 1 v u = false) := hY
          clear hY
          go_wp2_with (go_at_call 62; go_must (refine hqs.mono ?_); rintro e w3 ⟨rfl, hb3⟩)
          go_ret2
          exact ⟨by rw [unlike (by decide) HA.out HY.out]; rfl, HO.out.trans ((hb2.trans (hb3.mono hb2.size)).mono HZ.out)⟩
        · rw [hY] at hqs
          have HY : Hid (partSame 1 v u = true) := hY
          clear hY
          go_wp2_with (go_at_call 62; go_must (refine hqs.mono ?_); rintro e w3 ⟨rfl, hb3⟩)
          have hb4 : Below wr.heap.size wr w3 := hb2.trans (hb3.mono hb2.size)
          clear k0 k1 k2 k3 k4 k5 g0 g1 g2 g3 g4 g5
          go_roundw
          case rel => exact ⟨2, by decide, by go_num, alike_yes HS.out (by decide) HY.out, HP.out.only (Only.of_below hb4 []) (by simp), HC.out.1.later hb4, HC.out.2.later hb4, HO.out.trans (hb4.mono HZ.out)⟩
          case measure => simp [intOf]
    · have c0 : wr.cell? ⟨BP, 6, none⟩ = some (.int .i64 4) := HP.out.bit 2 (by decide)
      have c1 : wr.cell? ⟨BP, 7, none⟩ = some (.func (.func 63) #[] #[]) := HP.out.pass 2 (by decide)
      have c2 : wr.cell? ⟨BP, 8, none⟩ = some (.func (.func 64) #[] #[]) := HP.out.same 2 (by decide)
      have hb0 : Below wr.heap.size wr (wr.alloc (.cells #[.int .i64 4, .func (.func 63) #[] #[], .func (.func 64) #[] #[]] 78)) := (Below.refl _ _).alloc (Nat.le_refl _) _
      have hq : Calls Tryd.prog 34 #[.agg #[.int .i64 4, .func (.func 63) #[] #[], .func (.func 64) #[] #[]], .int .i64 m] (wr.alloc (.cells #[.int .i64 4, .func (.func 63) #[] #[], .func (.func 64) #[] #[]] 78)) _ := isAsked_any m 2 _ _ hm (by decide) _
      have HB0 : Hid (Below wr.heap.size wr (wr.alloc (.cells #[.int .i64 4, .func (.func 63) #[] #[], .func (.func 64) #[] #[]] 78))) := hb0
      have d1 : (wr.alloc (.cells #[.int .i64 4, .func (.func 63) #[] #[], .func (.func 64) #[] #[]] 78)).cell? ⟨wr.heap.size, 2, none⟩ = some (.func (.func 64) #[] #[]) := by simp
      have D1 : Hid ((wr.alloc (.cells #[.int .i64 4, .func (.func 63) #[] #[], .func (.func 64) #[] #[]] 78)).cell? ⟨wr.heap.size, 2, none⟩ = some (.func (.func 64) #[] #[])) := d1
      clear hb0 d1
      cases hA : asksA m 2
      · rw [hA] at hq
        have HA : Hid (asksA m 2 = false) := hA
        clear hA
        go_wp2_with (go_at_call 34; go_must (refine hq.mono ?_); rintro e w1 ⟨rfl, hb1⟩)
        have hb2 : Below wr.heap.size wr w1 := HB0.out.trans (hb1.mono (by simp))
        go_roundw
        case rel => exact ⟨3, by decide, by go_num, alike_no HS.out (by decide) HA.out, HP.out.only (Only.of_below hb2 []) (by simp), HC.out.1.later hb2, HC.out.2.later hb2, HO.out.trans (hb2.mono HZ.out)⟩
        case measure => simp [intOf]
      · rw [hA] at hq
        have HA : Hid (asksA m 2 = true) := hA
        clear hA
        go_wp2_with (first
          | (go_at_call 34; go_must (refine hq.mono ?_); rintro e w1 ⟨rfl, hb1⟩; have hb2 : Below wr.heap.size wr w1 := HB0.out.trans (hb1.mono (by simp)); have d2 : w1.cell? ⟨wr.heap.size, 2, none⟩ = some (.func (.func 64) #[] #[]) := (hb1.cell (p := ⟨wr.heap.size, 2, none⟩) (by simp)).trans D1.out; obtain ⟨k0, k1, k2, k3, k4, k5⟩ := HC.out.1.later hb2; obtain ⟨g0, g1, g2, g3, g4, g5⟩ := HC.out.2.later hb2)
          | fail)
        have hqs : Calls Tryd.prog 64 #[.agg #[.int .i64 (v 0), .int .i64 (v 1), .int .i64 (v 2), .int .i64 (v 3), .int .i64 (v 4), .int .i64 (v 5)], .agg #[.int .i64 (u 0), .int .i64 (u 1), .int .i64 (u 2), .int .i64 (u 3), .int .i64 (u 4), .int .i64 (u 5)]] w1 _ := same2_any v u w1
        cases hY : partSame 2 v u
        · rw [hY] at hqs
          have HY : Hid (partSame 2 v u = false) := hY
          clear hY
          go_wp2_with (go_at_call 64; go_must (refine hqs.mono ?_); rintro e w3 ⟨rfl, hb3⟩)
          go_ret2
          exact ⟨by rw [unlike (by decide) HA.out HY.out]; rfl, HO.out.trans ((hb2.trans (hb3.mono hb2.size)).mono HZ.out)⟩
        · rw [hY] at hqs
          have HY : Hid (partSame 2 v u = true) := hY
          clear hY
          go_wp2_with (go_at_call 64; go_must (refine hqs.mono ?_); rintro e w3 ⟨rfl, hb3⟩)
          have hb4 : Below wr.heap.size wr w3 := hb2.trans (hb3.mono hb2.size)
          clear k0 k1 k2 k3 k4 k5 g0 g1 g2 g3 g4 g5
          go_roundw
          case rel => exact ⟨3, by decide, by go_num, alike_yes HS.out (by decide) HY.out, HP.out.only (Only.of_below hb4 []) (by simp), HC.out.1.later hb4, HC.out.2.later hb4, HO.out.trans (hb4.mono HZ.out)⟩
          case measure => simp [intOf]
    · have c0 : wr.cell? ⟨BP, 9, none⟩ = some (.int .i64 8) := HP.out.bit 3 (by decide)
      have c1 : wr.cell? ⟨BP, 10, none⟩ = some (.func (.func 65) #[] #[]) := HP.out.pass 3 (by decide)
      have c2 : wr.cell? ⟨BP, 11, none⟩ = some (.func (.func 66) #[] #[]) := HP.out.same 3 (by decide)
      have hb0 : Below wr.heap.size wr (wr.alloc (.cells #[.int .i64 8, .func (.func 65) #[] #[], .func (.func 66) #[] #[]] 78)) := (Below.refl _ _).alloc (Nat.le_refl _) _
      have hq : Calls Tryd.prog 34 #[.agg #[.int .i64 8, .func (.func 65) #[] #[], .func (.func 66) #[] #[]], .int .i64 m] (wr.alloc (.cells #[.int .i64 8, .func (.func 65) #[] #[], .func (.func 66) #[] #[]] 78)) _ := isAsked_any m 3 _ _ hm (by decide) _
      have HB0 : Hid (Below wr.heap.size wr (wr.alloc (.cells #[.int .i64 8, .func (.func 65) #[] #[], .func (.func 66) #[] #[]] 78))) := hb0
      have d1 : (wr.alloc (.cells #[.int .i64 8, .func (.func 65) #[] #[], .func (.func 66) #[] #[]] 78)).cell? ⟨wr.heap.size, 2, none⟩ = some (.func (.func 66) #[] #[]) := by simp
      have D1 : Hid ((wr.alloc (.cells #[.int .i64 8, .func (.func 65) #[] #[], .func (.func 66) #[] #[]] 78)).cell? ⟨wr.heap.size, 2, none⟩ = some (.func (.func 66) #[] #[])) := d1
      clear hb0 d1
      cases hA : asksA m 3
      · rw [hA] at hq
        have HA : Hid (asksA m 3 = false) := hA
        clear hA
        go_wp2_with (go_at_call 34; go_must (refine hq.mono ?_); rintro e w1 ⟨rfl, hb1⟩)
        have hb2 : Below wr.heap.size wr w1 := HB0.out.trans (hb1.mono (by simp))
        go_roundw
        case rel => exact ⟨4, by decide, by go_num, alike_no HS.out (by decide) HA.out, HP.out.only (Only.of_below hb2 []) (by simp), HC.out.1.later hb2, HC.out.2.later hb2, HO.out.trans (hb2.mono HZ.out)⟩
        case measure => simp [intOf]
      · rw [hA] at hq
        have HA : Hid (asksA m 3 = true) := hA
        clear hA
        go_wp2_with (first
          | (go_at_call 34; go_must (refine hq.mono ?_); rintro e w1 ⟨rfl, hb1⟩; have hb2 : Below wr.heap.size wr w1 := HB0.out.trans (hb1.mono (by simp)); have d2 : w1.cell? ⟨wr.heap.size, 2, none⟩ = some (.func (.func 66) #[] #[]) := (hb1.cell (p := ⟨wr.heap.size, 2, none⟩) (by simp)).trans D1.out; obtain ⟨k0, k1, k2, k3, k4, k5⟩ := HC.out.1.later hb2; obtain ⟨g0, g1, g2, g3, g4, g5⟩ := HC.out.2.later hb2)
          | fail)
        have hqs : Calls Tryd.prog 66 #[.agg #[.int .i64 (v 0), .int .i64 (v 1), .int .i64 (v 2), .int .i64 (v 3), .int .i64 (v 4), .int .i64 (v 5)], .agg #[.int .i64 (u 0), .int .i64 (u 1), .int .i64 (u 2), .int .i64 (u 3), .int .i64 (u 4), .int .i64 (u 5)]] w1 _ := same3_any v u w1
        cases hY : partSame 3 v u
        · rw [hY] at hqs
          have HY : Hid (partSame 3 v u = false) := hY
          clear hY
          go_wp2_with (go_at_call 66; go_must (refine hqs.mono ?_); rintro e w3 ⟨rfl, hb3⟩)
          go_ret2
          exact ⟨by rw [unlike (by decide) HA.out HY.out]; rfl, HO.out.trans ((hb2.trans (hb3.mono hb2.size)).mono HZ.out)⟩
        · rw [hY] at hqs
          have HY : Hid (partSame 3 v u = true) := hY
          clear hY
          go_wp2_with (go_at_call 66; go_must (refine hqs.mono ?_); rintro e w3 ⟨rfl, hb3⟩)
          have hb4 : Below wr.heap.size wr w3 := hb2.trans (hb3.mono hb2.size)
          clear k0 k1 k2 k3 k4 k5 g0 g1 g2 g3 g4 g5
          go_roundw
          case rel => exact ⟨4, by decide, by go_num, alike_yes HS.out (by decide) HY.out, HP.out.only (Only.of_below hb4 []) (by simp), HC.out.1.later hb4, HC.out.2.later hb4, HO.out.trans (hb4.mono HZ.out)⟩
          case measure => simp [intOf]
    · have c0 : wr.cell? ⟨BP, 12, none⟩ = some (.int .i64 16) := HP.out.bit 4 (by decide)
      have c1 : wr.cell? ⟨BP, 13, none⟩ = some (.func (.func 67) #[] #[]) := HP.out.pass 4 (by decide)
      have c2 : wr.cell? ⟨BP, 14, none⟩ = some (.func (.func 69) #[] #[]) := HP.out.same 4 (by decide)
      have hb0 : Below wr.heap.size wr (wr.alloc (.cells #[.int .i64 16, .func (.func 67) #[] #[], .func (.func 69) #[] #[]] 78)) := (Below.refl _ _).alloc (Nat.le_refl _) _
      have hq : Calls Tryd.prog 34 #[.agg #[.int .i64 16, .func (.func 67) #[] #[], .func (.func 69) #[] #[]], .int .i64 m] (wr.alloc (.cells #[.int .i64 16, .func (.func 67) #[] #[], .func (.func 69) #[] #[]] 78)) _ := isAsked_any m 4 _ _ hm (by decide) _
      have HB0 : Hid (Below wr.heap.size wr (wr.alloc (.cells #[.int .i64 16, .func (.func 67) #[] #[], .func (.func 69) #[] #[]] 78))) := hb0
      have d1 : (wr.alloc (.cells #[.int .i64 16, .func (.func 67) #[] #[], .func (.func 69) #[] #[]] 78)).cell? ⟨wr.heap.size, 2, none⟩ = some (.func (.func 69) #[] #[]) := by simp
      have D1 : Hid ((wr.alloc (.cells #[.int .i64 16, .func (.func 67) #[] #[], .func (.func 69) #[] #[]] 78)).cell? ⟨wr.heap.size, 2, none⟩ = some (.func (.func 69) #[] #[])) := d1
      clear hb0 d1
      cases hA : asksA m 4
      · rw [hA] at hq
        have HA : Hid (asksA m 4 = false) := hA
        clear hA
        go_wp2_with (go_at_call 34; go_must (refine hq.mono ?_); rintro e w1 ⟨rfl, hb1⟩)
        have hb2 : Below wr.heap.size wr w1 := HB0.out.trans (hb1.mono (by simp))
        go_roundw
        case rel => exact ⟨5, by decide, by go_num, alike_no HS.out (by decide) HA.out, HP.out.only (Only.of_below hb2 []) (by simp), HC.out.1.later hb2, HC.out.2.later hb2, HO.out.trans (hb2.mono HZ.out)⟩
        case measure => simp [intOf]
      · rw [hA] at hq
        have HA : Hid (asksA m 4 = true) := hA
        clear hA
        go_wp2_with (first
          | (go_at_call 34; go_must (refine hq.mono ?_); rintro e w1 ⟨rfl, hb1⟩; have hb2 : Below wr.heap.size wr w1 := HB0.out.trans (hb1.mono (by simp)); have d2 : w1.cell? ⟨wr.heap.size, 2, none⟩ = some (.func (.func 69) #[] #[]) := (hb1.cell (p := ⟨wr.heap.size, 2, none⟩) (by simp)).trans D1.out; obtain ⟨k0, k1, k2, k3, k4, k5⟩ := HC.out.1.later hb2; obtain ⟨g0, g1, g2, g3, g4, g5⟩ := HC.out.2.later hb2)
          | fail)
        have hqs : Calls Tryd.prog 69 #[.agg #[.int .i64 (v 0), .int .i64 (v 1), .int .i64 (v 2), .int .i64 (v 3), .int .i64 (v 4), .int .i64 (v 5)], .agg #[.int .i64 (u 0), .int .i64 (u 1), .int .i64 (u 2), .int .i64 (u 3), .int .i64 (u 4), .int .i64 (u 5)]] w1 _ := same4_any v u w1
        cases hY : partSame 4 v u
        · rw [hY] at hqs
          have HY : Hid (partSame 4 v u = false) := hY
          clear hY
          go_wp2_with (go_at_call 69; go_must (refine hqs.mono ?_); rintro e w3 ⟨rfl, hb3⟩)
          go_ret2
          exact ⟨by rw [unlike (by decide) HA.out HY.out]; rfl, HO.out.trans ((hb2.trans (hb3.mono hb2.size)).mono HZ.out)⟩
        · rw [hY] at hqs
          have HY : Hid (partSame 4 v u = true) := hY
          clear hY
          go_wp2_with (go_at_call 69; go_must (refine hqs.mono ?_); rintro e w3 ⟨rfl, hb3⟩)
          have hb4 : Below wr.heap.size wr w3 := hb2.trans (hb3.mono hb2.size)
          clear k0 k1 k2 k3 k4 k5 g0 g1 g2 g3 g4 g5
          go_roundw
          case rel => exact ⟨5, by decide, by go_num, alike_yes HS.out (by decide) HY.out, HP.out.only (Only.of_below hb4 []) (by simp), HC.out.1.later hb4, HC.out.2.later hb4, HO.out.trans (hb4.mono HZ.out)⟩
          case measure => simp [intOf]
    · go_wp2
      go_ret2
      exact ⟨by rw [sameA_of (fun i hi => HS.out i hi)]; rfl, HO.out⟩
theorem same_all : Sames := fun v u m A w hE => by
  by_cases h : m < 0 ∨ 31 < m
  · exact (same_bound v u m A w hE h).mono fun _ _ k => ⟨Or.inl ⟨h, k.1⟩, k.2⟩
  · obtain ⟨k, rfl⟩ : ∃ k : Nat, m = (k : Int) := ⟨m.toNat, by omega⟩
    exact (same_walk v u k w (by omega)).mono fun _ _ h' => ⟨Or.inr ⟨k, rfl, by omega, h'.1⟩, h'.2⟩
end Go.Proofs.YtdafekhmjddkbabDoor
