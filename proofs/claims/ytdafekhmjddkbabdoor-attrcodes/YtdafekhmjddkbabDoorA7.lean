/- AttrCodes, over what package attr is asked to do. -/
import Derived.Test.YtdafekhmjddkbabDoorA6
namespace Go.Proofs.YtdafekhmjddkbabDoor
open Go Go.RowKit Go.Deep

/-- The document's answer, for any mask. -/
theorem attrOf_any (v : Nat → Int) (m : Int) (w : World) (hv : ∀ i, i < 6 → -9223372036854775808 ≤ v i ∧ v i < 9223372036854775808) : Calls Tryd.prog 13 #[aggA v, .int .i64 m] w fun e w' => ((∃ (k : Nat) (l : List UInt8), m = (k : Int) ∧ k ≤ 31 ∧ encA k v 6 = some l ∧ e = .returned (.tuple #[.string (bs l), .int .i64 0])) ∨
    ((m < 0 ∨ 31 < m ∨ ∃ k : Nat, m = (k : Int) ∧ k ≤ 31 ∧ encA k v 6 = none) ∧ e = .returned (.tuple #[.string ⟨#[]⟩, .int .i64 2]))) ∧ Below w.heap.size w w' := by
  by_cases h : m < 0 ∨ 31 < m
  · exact (attrOf_bound v m w h).mono fun _ _ k => ⟨Or.inr ⟨h.elim Or.inl (fun k => Or.inr (Or.inl k)), k.1⟩, k.2⟩
  · obtain ⟨k, rfl⟩ : ∃ k : Nat, m = (k : Int) := ⟨m.toNat, by omega⟩
    refine (attrOf_walk v k w (by omega) fun i hi => (hv i hi).2).mono ?_
    rintro e w' ⟨⟨l, hl, he⟩ | ⟨hl, he⟩, hb⟩
    · exact ⟨Or.inl ⟨k, l, rfl, by omega, hl, he⟩, hb⟩
    · exact ⟨Or.inr ⟨Or.inr (Or.inr ⟨k, rfl, by omega, hl⟩), he⟩, hb⟩

set_option maxRecDepth 100000 in
theorem attrCodes_any (hEn : Encodes) (hDe : Decodes) (hSa : Sames) (v : Nat → Int) (m : Int) (A : Nat → Addr) (w : World) (hv : ∀ i, i < 6 → -9223372036854775808 ≤ v i ∧ v i < 9223372036854775808) (hE : Errs w A) :
    Calls Tryd.prog 5 #[aggA v, .int .i64 m] w fun e w' => e = .returned (.bool true) ∧ Below w.heap.size w w' := by
  have HE : Hid (Errs w A) := hE
  have hB0 : Below w.heap.size w (w.alloc (.cells #[.int .i64 (v 0), .int .i64 (v 1), .int .i64 (v 2), .int .i64 (v 3), .int .i64 (v 4), .int .i64 (v 5)] 28)) := (Below.refl _ _).alloc (Nat.le_refl _) _
  have hn := asked_any hEn A _ (hE.below hB0 (Nat.le_refl _))
  have HB0 : Hid _ := hB0
  have HV : Hid (∀ i, i < 6 → -9223372036854775808 ≤ v i ∧ v i < 9223372036854775808) := hv
  have q0 := sixAt_new w v 28
  have Q0 : Hid (sixAt (w.alloc (.cells #[.int .i64 (v 0), .int .i64 (v 1), .int .i64 (v 2), .int .i64 (v 3), .int .i64 (v 4), .int .i64 (v 5)] 28)) w.heap.size v) := q0
  clear hE hB0 hv q0
  unfold aggA
  go_enter Tryd.func5, Tryd.ntmps5
  go_wp2_with fail
  refine hn.mono ?_
  rintro e w1 ⟨rfl, hb1⟩
  have Q1 : Hid (sixAt w1 w.heap.size v) := Q0.out.later hb1
  obtain ⟨k0, k1, k2, k3, k4, k5⟩ := Q1.out
  have HB1 : Hid (Below w.heap.size w w1) := HB0.out.trans (hb1.mono (by simp))
  have henc := hEn v m A w1 HV.out (HE.out.below HB1.out (Nat.le_refl _))
  unfold aggA at henc
  clear hb1 hn
  go_wp2_with fail
  refine henc.mono ?_
  intro e w2 hr
  have hb2 := hr.2
  have Q2 : Hid (sixAt w2 w.heap.size v) := Q1.out.later hb2
  have HB2 : Hid (Below w.heap.size w w2) := HB1.out.trans (hb2.mono HB1.out.size)
  have hof := attrOf_any v m w2 HV.out
  unfold aggA at hof
  clear henc k0 k1 k2 k3 k4 k5
  obtain ⟨k0, k1, k2, k3, k4, k5⟩ := Q2.out
  rcases hr.1 with ⟨k, l, rfl, h31, hl, rfl⟩ | ⟨hbad, rfl⟩
  · clear hr hb2
    have hl2 := hl
    go_wp2_with fail
    refine hof.mono ?_
    rintro e w3 ⟨⟨k', l', hk', _, hl', rfl⟩ | ⟨hb', _⟩, hb3⟩
    · obtain rfl : k = k' := by omega
      obtain rfl : l = l' := by rw [hl] at hl'; cases hl'; rfl
      have hlen : (bs l).size ≤ 100 := by
        rw [bs_size]
        have := encA_len hl
        omega
      obtain ⟨d4, dn, f, hdec, hsame⟩ := enc_dec_all h31 (fun i hi => (HV.out i hi).2) hl
      have Q3 : Hid (sixAt w3 w.heap.size v) := Q2.out.later hb3
      have HB3 : Hid (Below w.heap.size w w3) := HB2.out.trans (hb3.mono HB2.out.size)
      have hde := hDe (bs l) A w3 (by omega) (HE.out.below HB3.out (Nat.le_refl _))
      clear hof hb3 hl' hk' k0 k1 k2 k3 k4 k5
      generalize bs l = L at hde d4 dn hdec
      go_wp2_with fail
      refine hde.mono ?_
      rintro e w4 ⟨⟨hno, _⟩ | ⟨f', r', _, _, hd', _, rfl⟩, hb4⟩
      · exact (noA_not hno d4 (by omega) (by rw [dn]; exact hdec) (by decide)).elim
      · rw [dn, hdec] at hd'
        obtain rfl : f = f' := by cases hd'; rfl
        rw [dn]
        have hb5 : Below w4.heap.size w4 (w4.alloc (.cells #[.int .i64 (f 0), .int .i64 (f 1), .int .i64 (f 2), .int .i64 (f 3), .int .i64 (f 4), .int .i64 (f 5)] 28)) := (Below.refl _ _).alloc (Nat.le_refl _) _
        obtain ⟨k0, k1, k2, k3, k4, k5⟩ := (Q3.out.later hb4).later hb5
        have HB5 : Hid (Below w.heap.size w (w4.alloc (.cells #[.int .i64 (f 0), .int .i64 (f 1), .int .i64 (f 2), .int .i64 (f 3), .int .i64 (f 4), .int .i64 (f 5)] 28))) := (HB3.out.trans (hb4.mono HB3.out.size)).trans (hb5.mono (HB3.out.trans (hb4.mono HB3.out.size)).size)
        have hsa := hSa v f (k : Int) A _ (HE.out.below HB5.out (Nat.le_refl _))
        unfold aggA at hsa ⊢
        clear hd' hb4 hb5 hde d4 dn hdec
        go_wp2_with fail
        refine hsa.mono ?_
        rintro e w6 ⟨⟨hm6, _⟩ | ⟨k6, hk6, _, rfl⟩, hb6⟩
        · exfalso
          omega
        · obtain rfl : k = k6 := by omega
          rw [hsame]
          have HB6 : Hid (Below w.heap.size w w6) := HB5.out.trans (hb6.mono HB5.out.size)
          clear hb6 hk6 hsa
          go_wp2
          go_ret
          exact ⟨rfl, HB6.out⟩
    · exfalso
      rcases hb' with h | h | ⟨k', hk', _, hn'⟩
      · omega
      · omega
      · obtain rfl : k = k' := by omega
        rw [hl] at hn'
        cases hn'
  · clear hr hb2
    go_wp2_with fail
    refine hof.mono ?_
    rintro e w3 ⟨⟨k', l', hk', h31', hl', _⟩ | ⟨_, rfl⟩, hb3⟩
    · exfalso
      rcases hbad with h | h | ⟨k, hk, _, hn'⟩
      · omega
      · omega
      · obtain rfl : k = k' := by omega
        rw [hn'] at hl'
        cases hl'
    · have HB3 : Hid (Below w.heap.size w w3) := HB2.out.trans (hb3.mono HB2.out.size)
      have hc := coded_err A 1 (by decide) w3 (HE.out.below HB3.out (Nat.le_refl _))
      clear hb3 hof
      go_wp2_with (go_at_call 14; go_must (refine hc.mono ?_); rintro e w4 ⟨rfl, hb4⟩)
      go_ret
      exact ⟨rfl, HB3.out.trans (hb4.mono HB3.out.size)⟩
end Go.Proofs.YtdafekhmjddkbabDoor
