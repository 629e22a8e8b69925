/- AttrSame, over what package attr is asked to do. -/
import Derived.Test.YtdafekhmjddkbabDoorA6
import Derived.Deep.DeepCutAuto
namespace Go.Proofs.YtdafekhmjddkbabDoor
open Go Go.RowKit Go.Deep

/-- Number i is asked for and is not alike. -/
def unlikeA (m : Nat) (v u : Nat → Int) (i : Nat) : Bool := asksA m i && v i != u i
theorem sameA_is (m : Nat) (v u : Nat → Int) : sameA m v u = ((!asksA m 0 || v 0 == u 0) && !unlikeA m v u 1 && !unlikeA m v u 2 && !unlikeA m v u 3 && !(asksA m 4 && (v 4 != u 4 || v 5 != u 5))) := by
  have h5 : asksA m 5 = asksA m 4 := rfl
  have key : ∀ a e : Bool, (!(a && !e)) = (!a || e) := by decide
  have key2 : ∀ a e f : Bool, (!(a && (!e || !f))) = ((!a || e) && (!a || f)) := by decide
  unfold sameA unlikeA
  simp only [List.range, List.range.loop, List.all_cons, List.all_nil, Bool.and_true, h5, bne, key, key2, Bool.and_assoc]

set_option maxRecDepth 100000 in
theorem attrSame_bound (hEn : Encodes) (hSa : Sames) (v u : Nat → Int) (m : Int) (A : Nat → Addr) (w : World) (hm : m < 0 ∨ 31 < m) (hE : Errs w A) :
    Calls Tryd.prog 7 #[aggA v, aggA u, .int .i64 m] w fun e w' => e = .returned (.bool true) ∧ Below w.heap.size w w' := by
  have HE : Hid (Errs w A) := hE
  have hB0 : Below w.heap.size w ((w.alloc (.cells #[.int .i64 (v 0), .int .i64 (v 1), .int .i64 (v 2), .int .i64 (v 3), .int .i64 (v 4), .int .i64 (v 5)] 28)).alloc (.cells #[.int .i64 (u 0), .int .i64 (u 1), .int .i64 (u 2), .int .i64 (u 3), .int .i64 (u 4), .int .i64 (u 5)] 28)) := ((Below.refl _ _).alloc (Nat.le_refl _) _).alloc (by simp) _
  have hn := asked_any hEn A _ (hE.below hB0 (Nat.le_refl _))
  have HB0 : Hid _ := hB0
  have q0 := sixAt_new (w.alloc (.cells #[.int .i64 (v 0), .int .i64 (v 1), .int .i64 (v 2), .int .i64 (v 3), .int .i64 (v 4), .int .i64 (v 5)] 28)) u 28
  have p0 := (sixAt_new w v 28).later ((Below.refl _ _).alloc (Nat.le_refl _) (.cells #[.int .i64 (u 0), .int .i64 (u 1), .int .i64 (u 2), .int .i64 (u 3), .int .i64 (u 4), .int .i64 (u 5)] 28))
  clear hE hB0
  unfold aggA
  go_enter Tryd.func7, Tryd.ntmps7
  go_wp2_with fail
  refine hn.mono ?_
  rintro e w1 ⟨rfl, hb1⟩
  have q1 := q0.later hb1
  have p1 := p0.later hb1
  rw [show (w.alloc (.cells #[.int .i64 (v 0), .int .i64 (v 1), .int .i64 (v 2), .int .i64 (v 3), .int .i64 (v 4), .int .i64 (v 5)] 28)).heap.size = w.heap.size + 1 by simp] at q1
  have HB1 : Hid (Below w.heap.size w w1) := HB0.out.trans (hb1.mono HB0.out.size)
  obtain ⟨k0, k1, k2, k3, k4, k5⟩ := p1
  obtain ⟨l0, l1, l2, l3, l4, l5⟩ := q1
  have hsa := hSa v u m A w1 (HE.out.below HB1.out (Nat.le_refl _))
  unfold aggA at hsa
  clear hb1 hn q0 p0 HB0
  go_wp2_with fail
  refine hsa.mono ?_
  rintro e w2 ⟨⟨_, rfl⟩ | ⟨k, hk, _, _⟩, hb2⟩
  · have HB2 : Hid (Below w.heap.size w w2) := HB1.out.trans (hb2.mono HB1.out.size)
    have hc := coded_err A 1 (by decide) w2 (HE.out.below HB2.out (Nat.le_refl _))
    clear hsa hb2 k0 k1 k2 k3 k4 k5 l0 l1 l2 l3 l4 l5
    rcases hm with h | h
    · have hd : decide (m < 0) = true := decide_eq_true h
      go_wp2_with (go_at_call 14; go_must (refine hc.mono ?_); rintro e w4 ⟨rfl, hb4⟩)
      go_ret
      exact ⟨rfl, HB2.out.trans (hb4.mono HB2.out.size)⟩
    · have hd : decide (m < 0) = false := decide_eq_false (by omega)
      have hd' : decide (31 < m) = true := decide_eq_true h
      go_wp2_with (go_at_call 14; go_must (refine hc.mono ?_); rintro e w4 ⟨rfl, hb4⟩)
      go_ret
      exact ⟨rfl, HB2.out.trans (hb4.mono HB2.out.size)⟩
  · exfalso
    omega

set_option maxHeartbeats 1000000 in
set_option maxRecDepth 100000 in
theorem attrSame_walk (hEn : Encodes) (hSa : Sames) (v u : Nat → Int) (m : Nat) (A : Nat → Addr) (w : World) (hm : m ≤ 31) (hE : Errs w A) :
    Calls Tryd.prog 7 #[aggA v, aggA u, .int .i64 m] w fun e w' => e = .returned (.bool true) ∧ Below w.heap.size w w' := by
  have HE : Hid (Errs w A) := hE
  have hB0 : Below w.heap.size w ((w.alloc (.cells #[.int .i64 (v 0), .int .i64 (v 1), .int .i64 (v 2), .int .i64 (v 3), .int .i64 (v 4), .int .i64 (v 5)] 28)).alloc (.cells #[.int .i64 (u 0), .int .i64 (u 1), .int .i64 (u 2), .int .i64 (u 3), .int .i64 (u 4), .int .i64 (u 5)] 28)) := ((Below.refl _ _).alloc (Nat.le_refl _) _).alloc (by simp) _
  have hn := asked_any hEn A _ (hE.below hB0 (Nat.le_refl _))
  have HB0 : Hid _ := hB0
  have q0 := sixAt_new (w.alloc (.cells #[.int .i64 (v 0), .int .i64 (v 1), .int .i64 (v 2), .int .i64 (v 3), .int .i64 (v 4), .int .i64 (v 5)] 28)) u 28
  have p0 := (sixAt_new w v 28).later ((Below.refl _ _).alloc (Nat.le_refl _) (.cells #[.int .i64 (u 0), .int .i64 (u 1), .int .i64 (u 2), .int .i64 (u 3), .int .i64 (u 4), .int .i64 (u 5)] 28))
  have hd : decide ((m : Int) < 0) = false := decide_eq_false (by omega)
  have hd' : decide (31 < (m : Int)) = false := decide_eq_false (by omega)
  clear hE hB0
  unfold aggA
  go_enter Tryd.func7, Tryd.ntmps7
  go_wp2_with fail
  refine hn.mono ?_
  rintro e w1 ⟨rfl, hb1⟩
  have q1 := q0.later hb1
  have p1 := p0.later hb1
  rw [show (w.alloc (.cells #[.int .i64 (v 0), .int .i64 (v 1), .int .i64 (v 2), .int .i64 (v 3), .int .i64 (v 4), .int .i64 (v 5)] 28)).heap.size = w.heap.size + 1 by simp] at q1
  have HB1 : Hid (Below w.heap.size w w1) := HB0.out.trans (hb1.mono HB0.out.size)
  have Q1 : Hid (sixAt w1 (w.heap.size + 1) u) := q1
  have P1 : Hid (sixAt w1 w.heap.size v) := p1
  obtain ⟨k0, k1, k2, k3, k4, k5⟩ := p1
  obtain ⟨l0, l1, l2, l3, l4, l5⟩ := q1
  have hsa := hSa v u (m : Int) A w1 (HE.out.below HB1.out (Nat.le_refl _))
  unfold aggA at hsa
  clear hb1 hn q0 p0 HB0
  go_wp2_with fail
  refine hsa.mono ?_
  rintro e w2 ⟨⟨hbad, _⟩ | ⟨k, hk, _, rfl⟩, hb2⟩
  · exfalso
    omega
  obtain rfl : m = k := by omega
  have HB2 : Hid (Below w.heap.size w w2) := HB1.out.trans (hb2.mono HB1.out.size)
  have q2 := Q1.out.later hb2
  have p2 := P1.out.later hb2
  clear k0 k1 k2 k3 k4 k5 l0 l1 l2 l3 l4 l5 hsa hk hb2
  obtain ⟨k0, k1, k2, k3, k4, k5⟩ := p2
  obtain ⟨l0, l1, l2, l3, l4, l5⟩ := q2
  rw [sameA_is]
  obtain ⟨W0, hW0⟩ : ∃ W0, (!asksA m 0 || v 0 == u 0) = W0 := ⟨_, rfl⟩
  obtain ⟨B1, hB1⟩ : ∃ B1, unlikeA m v u 1 = B1 := ⟨_, rfl⟩
  obtain ⟨B2, hB2⟩ : ∃ B2, unlikeA m v u 2 = B2 := ⟨_, rfl⟩
  obtain ⟨B3, hB3⟩ : ∃ B3, unlikeA m v u 3 = B3 := ⟨_, rfl⟩
  obtain ⟨B4, hB4⟩ : ∃ B4, (asksA m 4 && (v 4 != u 4 || v 5 != u 5)) = B4 := ⟨_, rfl⟩
  rw [hW0, hB1, hB2, hB3, hB4]
  have HW0 : Hid ((!asksA m 0 || v 0 == u 0) = W0) := hW0
  have HB1' : Hid (unlikeA m v u 1 = B1) := hB1
  have HB2' : Hid (unlikeA m v u 2 = B2) := hB2
  have HB3' : Hid (unlikeA m v u 3 = B3) := hB3
  have HB4' : Hid ((asksA m 4 && (v 4 != u 4 || v 5 != u 5)) = B4) := hB4
  clear hW0 hB1 hB2 hB3 hB4
  go_upto_region 7 with fail
  go_cut [10] (fun c wx => c = .bool W0 ∧ w2 = wx)
  case first =>
    cases hA : asksA m 0
    · have ht : ((m : Int) % 2 == 0) = true := by
        have h1 : m % 2 ≠ 1 := by simpa [asksA, bitA] using hA
        rw [beq_iff_eq]
        omega
      have hv : W0 = true := by rw [← HW0.out, hA]; rfl
      clear hA
      go_wp2
      go_meet
      exact ⟨by rw [hv], rfl⟩
    · have ht : ((m : Int) % 2 == 0) = false := by
        have h1 : m % 2 = 1 := by simpa [asksA, bitA] using hA
        rw [beq_eq_false_iff_ne]
        omega
      cases he : (v 0 == u 0)
      · have hv : W0 = false := by rw [← HW0.out, hA, he]; rfl
        clear hA
        go_wp2
        go_meet
        exact ⟨by rw [hv], rfl⟩
      · have hv : W0 = true := by rw [← HW0.out, hA, he]; rfl
        clear hA
        go_wp2
        go_meet
        exact ⟨by rw [hv], rfl⟩
  case rest =>
  obtain ⟨rfl, rfl⟩ := hcut
  go_upto_region 8 with fail
  go_cut [53] (fun c wx => c = .bool B1 ∧ w2 = wx)
  case first =>
    cases hA : asksA m 1
    · have ht : ((m : Int) / 2 % 2 == 1) = false := by
        have h1 : m / 2 % 2 ≠ 1 := by simpa [asksA, bitA] using hA
        rw [beq_eq_false_iff_ne]
        omega
      have hv : B1 = false := by rw [← HB1'.out, unlikeA, hA]; rfl
      clear hA
      go_wp2
      go_meet
      exact ⟨by rw [hv], rfl⟩
    · have ht : ((m : Int) / 2 % 2 == 1) = true := by
        have h1 : m / 2 % 2 = 1 := by simpa [asksA, bitA] using hA
        rw [beq_iff_eq]
        omega
      cases he : (v 1 != u 1)
      · have hv : B1 = false := by rw [← HB1'.out, unlikeA, hA, he]; rfl
        clear hA
        go_wp2
        go_meet
        exact ⟨by rw [hv], rfl⟩
      · have hv : B1 = true := by rw [← HB1'.out, unlikeA, hA, he]; rfl
        clear hA
        go_wp2
        go_meet
        exact ⟨by rw [hv], rfl⟩
  case rest =>
  obtain ⟨rfl, rfl⟩ := hcut
  go_upto_if 53 with fail
  go_cut [10] (fun c wx => c = .bool (W0 && !B1) ∧ w2 = wx)
  case first =>
    cases B1
    · go_wp2
      go_meet
      exact ⟨by simp, rfl⟩
    · go_wp2
      go_meet
      exact ⟨by simp, rfl⟩
  case rest =>
  obtain ⟨rfl, rfl⟩ := hcut
  go_upto_region 10 with fail
  go_cut [64] (fun c wx => c = .bool B2 ∧ w2 = wx)
  case first =>
    cases hA : asksA m 2
    · have ht : ((m : Int) / 4 % 2 == 1) = false := by
        have h1 : m / 4 % 2 ≠ 1 := by simpa [asksA, bitA] using hA
        rw [beq_eq_false_iff_ne]
        omega
      have hv : B2 = false := by rw [← HB2'.out, unlikeA, hA]; rfl
      clear hA
      go_wp2
      go_meet
      exact ⟨by rw [hv], rfl⟩
    · have ht : ((m : Int) / 4 % 2 == 1) = true := by
        have h1 : m / 4 % 2 = 1 := by simpa [asksA, bitA] using hA
        rw [beq_iff_eq]
        omega
      cases he : (v 2 != u 2)
      · have hv : B2 = false := by rw [← HB2'.out, unlikeA, hA, he]; rfl
        clear hA
        go_wp2
        go_meet
        exact ⟨by rw [hv], rfl⟩
      · have hv : B2 = true := by rw [← HB2'.out, unlikeA, hA, he]; rfl
        clear hA
        go_wp2
        go_meet
        exact ⟨by rw [hv], rfl⟩
  case rest =>
  obtain ⟨rfl, rfl⟩ := hcut
  go_upto_if 64 with fail
  go_cut [10] (fun c wx => c = .bool (W0 && !B1 && !B2) ∧ w2 = wx)
  case first =>
    cases B2
    · go_wp2
      go_meet
      exact ⟨by simp, rfl⟩
    · go_wp2
      go_meet
      exact ⟨by simp, rfl⟩
  case rest =>
  obtain ⟨rfl, rfl⟩ := hcut
  go_upto_region 12 with fail
  go_cut [75] (fun c wx => c = .bool B3 ∧ w2 = wx)
  case first =>
    cases hA : asksA m 3
    · have ht : ((m : Int) / 8 % 2 == 1) = false := by
        have h1 : m / 8 % 2 ≠ 1 := by simpa [asksA, bitA] using hA
        rw [beq_eq_false_iff_ne]
        omega
      have hv : B3 = false := by rw [← HB3'.out, unlikeA, hA]; rfl
      clear hA
      go_wp2
      go_meet
      exact ⟨by rw [hv], rfl⟩
    · have ht : ((m : Int) / 8 % 2 == 1) = true := by
        have h1 : m / 8 % 2 = 1 := by simpa [asksA, bitA] using hA
        rw [beq_iff_eq]
        omega
      cases he : (v 3 != u 3)
      · have hv : B3 = false := by rw [← HB3'.out, unlikeA, hA, he]; rfl
        clear hA
        go_wp2
        go_meet
        exact ⟨by rw [hv], rfl⟩
      · have hv : B3 = true := by rw [← HB3'.out, unlikeA, hA, he]; rfl
        clear hA
        go_wp2
        go_meet
        exact ⟨by rw [hv], rfl⟩
  case rest =>
  obtain ⟨rfl, rfl⟩ := hcut
  go_upto_if 75 with fail
  go_cut [10] (fun c wx => c = .bool (W0 && !B1 && !B2 && !B3) ∧ w2 = wx)
  case first =>
    cases B3
    · go_wp2
      go_meet
      exact ⟨by simp, rfl⟩
    · go_wp2
      go_meet
      exact ⟨by simp, rfl⟩
  case rest =>
  obtain ⟨rfl, rfl⟩ := hcut
  go_upto_region 14 with fail
  go_cut [85] (fun c wx => c = .bool B4 ∧ w2 = wx)
  case first =>
    cases hA : asksA m 4
    · have ht : ((m : Int) / 16 == 1) = false := by
        have h1 : m / 16 % 2 ≠ 1 := by simpa [asksA, bitA] using hA
        rw [beq_eq_false_iff_ne]
        omega
      have hv : B4 = false := by rw [← HB4'.out, hA]; rfl
      clear hA
      go_wp2
      go_meet
      exact ⟨by rw [hv], rfl⟩
    · have ht : ((m : Int) / 16 == 1) = true := by
        have h1 : m / 16 % 2 = 1 := by simpa [asksA, bitA] using hA
        rw [beq_iff_eq]
        omega
      cases he : (v 4 == u 4)
      · have hv : B4 = true := by rw [← HB4'.out, hA, bne, he]; rfl
        clear hA
        go_wp2
        go_meet
        exact ⟨by rw [hv], rfl⟩
      · cases he5 : (v 5 == u 5)
        · have hv : B4 = true := by rw [← HB4'.out, hA, bne, bne, he, he5]; rfl
          clear hA
          go_wp2
          go_meet
          exact ⟨by rw [hv], rfl⟩
        · have hv : B4 = false := by rw [← HB4'.out, hA, bne, bne, he, he5]; rfl
          clear hA
          go_wp2
          go_meet
          exact ⟨by rw [hv], rfl⟩
  case rest =>
  obtain ⟨rfl, rfl⟩ := hcut
  go_upto_if 85 with fail
  go_cut [10] (fun c wx => c = .bool (W0 && !B1 && !B2 && !B3 && !B4) ∧ w2 = wx)
  case first =>
    cases B4
    · go_wp2
      go_meet
      exact ⟨by simp, rfl⟩
    · go_wp2
      go_meet
      exact ⟨by simp, rfl⟩
  case rest =>
  obtain ⟨rfl, rfl⟩ := hcut
  generalize (W0 && !B1 && !B2 && !B3 && !B4) = S
  go_wp2
  go_ret
  exact ⟨by cases S <;> rfl, HB2.out⟩
theorem attrSame_any (hEn : Encodes) (hSa : Sames) (v u : Nat → Int) (m : Int) (A : Nat → Addr) (w : World) (hE : Errs w A) :
    Calls Tryd.prog 7 #[aggA v, aggA u, .int .i64 m] w fun e w' => e = .returned (.bool true) ∧ Below w.heap.size w w' := by
  by_cases h : m < 0 ∨ 31 < m
  · exact attrSame_bound hEn hSa v u m A w h hE
  · obtain ⟨k, rfl⟩ : ∃ k : Nat, m = (k : Int) := ⟨m.toNat, by omega⟩
    exact attrSame_walk hEn hSa v u k A w (by omega) hE
end Go.Proofs.YtdafekhmjddkbabDoor
