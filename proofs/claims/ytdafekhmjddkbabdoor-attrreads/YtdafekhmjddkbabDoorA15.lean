/- Attributes: Encode, Decode: what the document asks of them, proved. -/
import Derived.Test.YtdafekhmjddkbabDoorA14
import Derived.Test.YtdafekhmjddkbabDoorA6
namespace Go.Proofs.YtdafekhmjddkbabDoor
open Go Go.RowKit Go.Deep

/-- What stands in the text behind so many parts. -/
def encAt (m : Nat) (v : Nat → Int) (j : Nat) : Option (List UInt8) := encA m v (if j = 5 then 6 else j)
def StW (b p q ab m : Nat) (E : Value) (v : Nat → Int) (j : Nat) (w : World) : Prop := ∃ l, encAt m v j = some l ∧ Wr w b p q ab E v (bs l)
theorem asks_five {m : Nat} : asksA m 5 = asksA m 4 := rfl

theorem encode_pass (b p q ab m : Nat) (T : TypeId) (x : Value) (v : Nat → Int) (hv : ∀ i, i < 6 → v i < 9223372036854775808) (j : Nat) (hj : j < 5) (ha : asksA m j = true) (w : World) (h : StW b p q ab m (.iface T x) v j w) :
    Calls Tryd.prog (passF j) #[.agg #[fromV p, fromV q], .pointer (some ⟨ab, 0, none⟩)] w fun e w' => ∃ r, e = .returned r ∧ Only [b] w w' ∧ ((r = .nilIface ∧ StW b p q ab m (.iface T x) v (j + 1) w') ∨ (encA m v 6 = none ∧ r = .iface T x)) := by
  obtain ⟨l, hl, hW⟩ := h
  have hlen : (bs l).size ≤ 52 := by
    rw [bs_size]
    have := encA_len hl
    split at this <;> omega
  have hbad : ∀ k, k < 4 → j = k → okA k (v k) = false → encA m v 6 = none := fun k hk e hn => by
    subst e
    have hl' : encA m v j = some l := by unfold encAt at hl; rwa [if_neg (by omega)] at hl
    exact encA_stop (encA_bad hl' ha hn) 6 (by omega)
  have hgood : ∀ k, k < 4 → j = k → okA k (v k) = true → ∀ w', Wr w' b p q ab (.iface T x) v (bs l ++ bs (be (wideA k) (v k).toNat)) → StW b p q ab m (.iface T x) v (j + 1) w' := fun k hk e hy w' hw' => by
    subst e
    have hl' : encA m v j = some l := by unfold encAt at hl; rwa [if_neg (by omega)] at hl
    refine ⟨l ++ be (wideA j) (v j).toNat, ?_, ?_⟩
    · unfold encAt
      rw [if_neg (by omega)]
      exact encA_yes hl' ha hy
    · rwa [← bs_append]
  have wrap : ∀ k, k < 4 → j = k → ∀ (e : Ending) (w' : World), (∃ r, e = .returned r ∧ WrEnds b p q ab (.iface T x) v (bs l) k w r w') → ∃ r, e = .returned r ∧ Only [b] w w' ∧ ((r = .nilIface ∧ StW b p q ab m (.iface T x) v (j + 1) w') ∨ (encA m v 6 = none ∧ r = .iface T x)) := by
    rintro k hk e _ w' ⟨r, rfl, ho, ⟨hy, hr, hw'⟩ | ⟨hn, hr⟩⟩
    · exact ⟨r, rfl, ho, Or.inl ⟨hr, hgood k hk e hy w' hw'⟩⟩
    · exact ⟨r, rfl, ho, Or.inr ⟨hbad k hk e hn, hr⟩⟩
  rcases (show j = 0 ∨ j = 1 ∨ j = 2 ∨ j = 3 ∨ j = 4 by omega) with rfl | rfl | rfl | rfl | rfl
  · exact (put1 b p q ab T x v _ w hW hv (by omega)).mono (wrap 0 (by decide) rfl)
  · exact (put3 b p q ab T x v _ w hW hv (by omega)).mono (wrap 1 (by decide) rfl)
  · exact (put5 b p q ab T x v _ w hW hv (by omega)).mono (wrap 2 (by decide) rfl)
  · exact (put7 b p q ab T x v _ w hW hv (by omega)).mono (wrap 3 (by decide) rfl)
  · refine (put9 b p q ab T x v _ w hW hv (by omega)).mono ?_
    rintro _ w' ⟨r, rfl, ho, ⟨h4, h5, hr, hw'⟩ | ⟨hn, hr⟩⟩
    · refine ⟨r, rfl, ho, Or.inl ⟨hr, l ++ be 4 (v 4).toNat ++ be 4 (v 5).toNat, ?_, ?_⟩⟩
      · exact encA_yes (j := 5) (encA_yes (j := 4) hl ha h4) ha h5
      · rwa [← bs_append, ← bs_append]
    · refine ⟨r, rfl, ho, Or.inr ⟨?_, hr⟩⟩
      rcases hn with hn | ⟨h4, h5⟩
      · exact encA_stop (encA_bad (j := 4) hl ha hn) 6 (by omega)
      · exact encA_bad (j := 5) (encA_yes (j := 4) hl ha h4) ha h5

theorem encode_skip (b p q ab m : Nat) (E : Value) (v : Nat → Int) (j : Nat) (w : World) (hj : j < 5) (ha : asksA m j = false) (h : StW b p q ab m E v j w) : StW b p q ab m E v (j + 1) w := by
  obtain ⟨l, hl, hW⟩ := h
  refine ⟨l, ?_, hW⟩
  rcases (show j < 4 ∨ j = 4 by omega) with k | rfl
  · unfold encAt at hl ⊢
    rw [if_neg (by omega)] at hl ⊢
    exact encA_no hl ha
  · exact encA_no (j := 5) (encA_no (j := 4) hl ha) ha

theorem encode_bound (v : Nat → Int) (m : Int) (A : Nat → Addr) (w : World) (hE : Errs w A) (h : m < 0 ∨ 31 < m) : Calls Tryd.prog 12 #[aggA v, .int .i64 m] w fun e w' => e = .returned (.tuple #[.string ⟨#[]⟩, .iface 162 (.pointer (some (A 1)))]) ∧ Below w.heap.size w w' := by
  have hd : decide (0 ≤ m ∧ m ≤ 31) = false := decide_eq_false (by omega)
  have hb : Below w.heap.size w (w.alloc (.cells #[.int .i64 (v 0), .int .i64 (v 1), .int .i64 (v 2), .int .i64 (v 3), .int .i64 (v 4), .int .i64 (v 5)] 28)) := (Below.refl _ _).alloc (Nat.le_refl _) _
  have ce : (w.alloc (.cells #[.int .i64 (v 0), .int .i64 (v 1), .int .i64 (v 2), .int .i64 (v 3), .int .i64 (v 4), .int .i64 (v 5)] 28)).cell? ⟨0, 0, none⟩ = some (.iface 162 (.pointer (some (A 1)))) := (hE.below hb (Nat.le_refl _)).cell 1 (by decide)
  have HB : Hid _ := hb
  clear hE hb
  unfold aggA
  go_enter Tryd.func12, Tryd.ntmps12
  go_wp2_with (go_at_call 22; go_must (refine (isMask_any m _).mono ?_); rintro e w1 ⟨rfl, rfl⟩; rw [hd])
  go_region
  all_goals
    go_wp2
    go_ret2
    exact ⟨rfl, HB.out.drew⟩
theorem encode_walk (v : Nat → Int) (m : Nat) (A : Nat → Addr) (w : World) (hv : ∀ i, i < 6 → v i < 9223372036854775808) (hE : Errs w A) (h : m ≤ 31) : Calls Tryd.prog 12 #[aggA v, .int .i64 m] w fun e w' => ((∃ l, encA m v 6 = some l ∧ e = .returned (.tuple #[.string (bs l), .nilIface])) ∨ (encA m v 6 = none ∧ e = .returned (.tuple #[.string ⟨#[]⟩, .iface 162 (.pointer (some (A 1)))]))) ∧ Below w.heap.size w w' := by
  have hd : decide (0 ≤ (m : Int) ∧ (m : Int) ≤ 31) = true := decide_eq_true (by omega)
  have hb : Below w.heap.size w ((w.alloc (.cells #[.int .i64 (v 0), .int .i64 (v 1), .int .i64 (v 2), .int .i64 (v 3), .int .i64 (v 4), .int .i64 (v 5)] 28)).alloc (.cells #[.string ⟨#[]⟩] 55)) := ((Below.refl _ _).alloc (Nat.le_refl _) _).alloc (by simp) _
  have HLT : Hid (0 < w.heap.size) := lt_of_cell (hE.cell 1 (by decide))
  have ce := (hE.below hb (Nat.le_refl _)).cell 1 (by decide)
  have ct : ((w.alloc (.cells #[.int .i64 (v 0), .int .i64 (v 1), .int .i64 (v 2), .int .i64 (v 3), .int .i64 (v 4), .int .i64 (v 5)] 28)).alloc (.cells #[.string ⟨#[]⟩] 55)).cell? ⟨w.heap.size + 1, 0, none⟩ = some (.string ⟨#[]⟩) := by simp
  have cf : ((w.alloc (.cells #[.int .i64 (v 0), .int .i64 (v 1), .int .i64 (v 2), .int .i64 (v 3), .int .i64 (v 4), .int .i64 (v 5)] 28)).alloc (.cells #[.string ⟨#[]⟩] 55)).frozen? ⟨w.heap.size + 1, 0, none⟩ = false := World.frozen?_alloc_at _ _ _ _ (by simp)
  have q0 := (sixAt_new w v 28).later (W' := ((w.alloc (.cells #[.int .i64 (v 0), .int .i64 (v 1), .int .i64 (v 2), .int .i64 (v 3), .int .i64 (v 4), .int .i64 (v 5)] 28)).alloc (.cells #[.string ⟨#[]⟩] 55))) ((Below.refl _ _).alloc (Nat.le_refl _) _)
  generalize hW : ((w.alloc (.cells #[.int .i64 (v 0), .int .i64 (v 1), .int .i64 (v 2), .int .i64 (v 3), .int .i64 (v 4), .int .i64 (v 5)] 28)).alloc (.cells #[.string ⟨#[]⟩] 55)) = W1 at hb ce ct cf q0
  have hq1 := int_ok (w.heap.size + 1) ⟨#[]⟩ m W1 ct cf (by decide) (by omega) (by decide)
  have HH : Hid (Below w.heap.size w W1 ∧ W1.cell? ⟨w.heap.size + 1, 0, none⟩ = some (.string ⟨#[]⟩) ∧ W1.frozen? ⟨w.heap.size + 1, 0, none⟩ = false ∧ sixAt W1 w.heap.size v) := ⟨hb, ct, cf, q0⟩
  have HE : Hid (W1.cell? ⟨0, 0, none⟩ = some (.iface 162 (.pointer (some (A 1))))) := ce
  have HV : Hid (∀ i, i < 6 → v i < 9223372036854775808) := hv
  have HW : Hid (_ = W1) := hW
  clear hE hb ce ct cf q0 hv hW
  unfold aggA
  go_enter Tryd.func12, Tryd.ntmps12
  go_wp2_with (first
    | (go_at_call 22; go_must (refine (isMask_any m _).mono ?_); rintro e w1 ⟨rfl, rfl⟩; rw [hd])
    | fail)
  rw [HW.out]
  refine hq1.mono ?_
  rintro e w2 ⟨rfl, hb2⟩
  have ho2 := only_put hb2
  have hlt : w.heap.size < W1.heap.size := lt_of_cell HH.out.2.2.2.1
  have hlt1 : w.heap.size + 1 < W1.heap.size := lt_of_cell HH.out.2.1
  have he0 : 0 < w.heap.size := HLT.out
  have t2 : w2.cell? ⟨w.heap.size + 1, 0, none⟩ = some (.string (bs (be 4 m))) := put_cell hb2 HH.out.2.1
  have f2 : w2.frozen? ⟨w.heap.size + 1, 0, none⟩ = false := (put_frozen hb2 HH.out.2.1).trans HH.out.2.2.1
  have e2 : w2.cell? ⟨0, 0, none⟩ = some (.iface 162 (.pointer (some (A 1)))) := (ho2.cell (p := ⟨0, 0, none⟩) (by show 0 < W1.heap.size; omega) (by simp)).trans HE.out
  have q2 : sixAt w2 w.heap.size v := by
    obtain ⟨k0, k1, k2, k3, k4, k5⟩ := HH.out.2.2.2
    have g : ∀ i x, W1.cell? ⟨w.heap.size, i, none⟩ = some x → w2.cell? ⟨w.heap.size, i, none⟩ = some x := fun i x hx => (ho2.cell (p := ⟨w.heap.size, i, none⟩) hlt (by simp)).trans hx
    exact ⟨g _ _ k0, g _ _ k1, g _ _ k2, g _ _ k3, g _ _ k4, g _ _ k5⟩
  have B2 : Below w.heap.size w w2 := HH.out.1.trans (ho2.to_below (by omega) (by simp))
  have H2 : Hid (w2.cell? ⟨w.heap.size + 1, 0, none⟩ = some (.string (bs (be 4 m))) ∧ w2.frozen? ⟨w.heap.size + 1, 0, none⟩ = false ∧ w2.cell? ⟨0, 0, none⟩ = some (.iface 162 (.pointer (some (A 1)))) ∧ sixAt w2 w.heap.size v ∧ Below w.heap.size w w2) := ⟨t2, f2, e2, q2, B2⟩
  clear hb2 ho2 t2 f2 e2 q2 B2 hq1 hlt hlt1 he0 HW HH HE
  go_wp2_with fail
  refine (writing_any (w.heap.size + 1) w2).mono ?_
  rintro e w3 ⟨p, q, rfl, hb3, hp, hq⟩
  have hS : StW (w.heap.size + 1) p q w.heap.size m (.iface 162 (.pointer (some (A 1)))) v 0 w3 := by
    obtain ⟨t2, f2, e2, q2, B2⟩ := H2.out
    obtain ⟨k0, k1, k2, k3, k4, k5⟩ := q2.later hb3
    refine ⟨be 4 m, rfl, (hb3.cell (p := ⟨w.heap.size + 1, 0, none⟩) (lt_of_cell t2)).trans t2, (hb3.frozen (p := ⟨w.heap.size + 1, 0, none⟩) (lt_of_cell t2)).trans f2, hp, hq, ?_, (hb3.cell (p := ⟨0, 0, none⟩) (lt_of_cell e2)).trans e2⟩
    intro i hi
    match i, hi with
    | 0, _ => exact k0
    | 1, _ => exact k1
    | 2, _ => exact k2
    | 3, _ => exact k3
    | 4, _ => exact k4
    | 5, _ => exact k5
  have B3 : Below w.heap.size w w3 := H2.out.2.2.2.2.trans (hb3.mono H2.out.2.2.2.2.size)
  have hlt3 : w.heap.size + 1 < w3.heap.size := by
    obtain ⟨l, _, hW⟩ := hS
    exact lt_of_cell hW.txt
  have hq4 := passAsked_any 80 p q w.heap.size m h 162 (.pointer (some (A 1))) [w.heap.size + 1] (StW (w.heap.size + 1) p q w.heap.size m (.iface 162 (.pointer (some (A 1)))) v) (fun _ => encA m v 6 = none)
    (fun j a c k hb => by obtain ⟨l, hl, hW⟩ := k; exact ⟨l, hl, hW.later hb⟩) (fun j a hj ha k => encode_skip _ _ _ _ _ _ _ j a hj ha k) (fun j a k i hi => by obtain ⟨l, hl, hW⟩ := k; obtain rfl : i = w.heap.size + 1 := (by simpa using hi); exact lt_of_cell hW.txt)
    (fun j hj ha a k => encode_pass _ _ _ _ _ _ _ _ HV.out j hj ha a k) w3 hS
  have H3 : Hid (Below w.heap.size w w3 ∧ w.heap.size + 1 < w3.heap.size) := ⟨B3, hlt3⟩
  unfold fromV
  clear hb3 hp hq hS B3 hlt3
  go_wp2_with fail
  refine hq4.mono ?_
  rintro e w4 ⟨r, rfl, ho4, ⟨rfl, l, hl, hW4⟩ | ⟨hbad, rfl⟩⟩
  · have B4 : Below w.heap.size w w4 := H3.out.1.trans (ho4.to_below (by have := H3.out.2; omega) (by simp))
    have HB4 : Hid (Below w.heap.size w w4) := B4
    have hq5 := text_any (w.heap.size + 1) (bs l) w4 hW4.txt
    have HL : Hid (encA m v 6 = some l) := hl
    clear ho4 hl hW4 B4 hq4
    go_wp2_with (go_at_call 26; go_must (refine hq5.mono ?_); rintro e w5 ⟨rfl, rfl⟩)
    go_ret2
    exact ⟨Or.inl ⟨l, HL.out, rfl⟩, HB4.out⟩
  · have B4 : Below w.heap.size w w4 := H3.out.1.trans (ho4.to_below (by have := H3.out.2; omega) (by simp))
    have HB4 : Hid (Below w.heap.size w w4) := B4
    have HL : Hid (encA m v 6 = none) := hbad
    clear ho4 hbad B4 hq4
    go_wp2
    go_ret2
    exact ⟨Or.inr ⟨HL.out, rfl⟩, HB4.out⟩
theorem encode_all : Encodes := fun v m A w hv hE => by
  by_cases h : m < 0 ∨ 31 < m
  · exact (encode_bound v m A w hE h).mono fun _ _ k => ⟨Or.inr ⟨h.elim Or.inl (fun k => Or.inr (Or.inl k)), k.1⟩, k.2⟩
  · obtain ⟨k, rfl⟩ : ∃ k : Nat, m = (k : Int) := ⟨m.toNat, by omega⟩
    refine (encode_walk v k A w (fun i hi => (hv i hi).2) hE (by omega)).mono ?_
    rintro e w' ⟨⟨l, hl, he⟩ | ⟨hl, he⟩, hb⟩
    · exact ⟨Or.inl ⟨k, l, rfl, by omega, hl, he⟩, hb⟩
    · exact ⟨Or.inr ⟨Or.inr (Or.inr ⟨k, rfl, by omega, hl⟩), he⟩, hb⟩
end Go.Proofs.YtdafekhmjddkbabDoor
