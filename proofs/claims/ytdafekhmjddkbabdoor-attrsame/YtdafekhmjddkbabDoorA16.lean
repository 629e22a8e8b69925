/- Attributes: Decode: what the document asks of it, proved. -/
import Derived.Test.YtdafekhmjddkbabDoorA15
namespace Go.Proofs.YtdafekhmjddkbabDoor
open Go Go.RowKit Go.Deep

/-- What is read, and left, behind so many parts. -/
def decAt (m : Nat) (s : ByteArray) (j : Nat) : Option ((Nat → Int) × ByteArray) := decA m s (if j = 5 then 6 else j)
def StR (b p q ab m : Nat) (E : Value) (s : ByteArray) (j : Nat) (w : World) : Prop := ∃ f t, decAt m s j = some (f, t) ∧ Rd w b p q ab E f t
def BadR (b p q ab m : Nat) (E : Value) (s : ByteArray) (w : World) : Prop := decA m s 6 = none ∧ ∃ f t, Rd w b p q ab E f t

theorem decode_pass (b p q ab m : Nat) (T : TypeId) (x : Value) (s : ByteArray) (hs : s.size ≤ 4000) (j : Nat) (hj : j < 5) (ha : asksA m j = true) (w : World) (h : StR b p q ab m (.iface T x) s j w) :
    Calls Tryd.prog (passF j) #[.agg #[toV p, toV q], .pointer (some ⟨ab, 0, none⟩)] w fun e w' => ∃ r, e = .returned r ∧ Only [b, ab] w w' ∧ ((r = .nilIface ∧ StR b p q ab m (.iface T x) s (j + 1) w') ∨ (BadR b p q ab m (.iface T x) s w' ∧ r = .iface T x)) := by
  obtain ⟨f, t, hl, hW⟩ := h
  have hlen : t.size ≤ 4000 := Nat.le_trans (decA_size hl) hs
  have wrap : ∀ k, k < 4 → j = k → ∀ (e : Ending) (w' : World), (∃ r, e = .returned r ∧ RdEnds b p q ab (.iface T x) f t k w r w') → ∃ r, e = .returned r ∧ Only [b, ab] w w' ∧ ((r = .nilIface ∧ StR b p q ab m (.iface T x) s (j + 1) w') ∨ (BadR b p q ab m (.iface T x) s w' ∧ r = .iface T x)) := by
    rintro k hk rfl _ w' ⟨r, rfl, ho, ⟨hy, hr, hw'⟩ | ⟨hn, hr, hX⟩⟩
    · have hl' : decA m s j = some (f, t) := by unfold decAt at hl; rwa [if_neg (by omega)] at hl
      refine ⟨r, rfl, ho, Or.inl ⟨hr, _, _, ?_, hw'⟩⟩
      unfold decAt
      rw [if_neg (by omega)]
      exact decA_yes hl' ha hy
    · have hl' : decA m s j = some (f, t) := by unfold decAt at hl; rwa [if_neg (by omega)] at hl
      exact ⟨r, rfl, ho, Or.inr ⟨⟨decA_stop (decA_bad hl' ha hn) 6 (by omega), hX⟩, hr⟩⟩
  rcases (show j = 0 ∨ j = 1 ∨ j = 2 ∨ j = 3 ∨ j = 4 by omega) with rfl | rfl | rfl | rfl | rfl
  · exact (get1 b p q ab T x f _ w hW hlen).mono (wrap 0 (by decide) rfl)
  · exact (get3 b p q ab T x f _ w hW hlen).mono (wrap 1 (by decide) rfl)
  · exact (get5 b p q ab T x f _ w hW hlen).mono (wrap 2 (by decide) rfl)
  · exact (get7 b p q ab T x f _ w hW hlen).mono (wrap 3 (by decide) rfl)
  · refine (get9 b p q ab T x f _ w hW hlen).mono ?_
    rintro _ w' ⟨r, rfl, ho, ⟨h4, h5, hr, hw'⟩ | ⟨hn, hr, hX⟩⟩
    · exact ⟨r, rfl, ho, Or.inl ⟨hr, _, _, decA_yes (j := 5) (decA_yes (j := 4) hl ha h4) ha h5, hw'⟩⟩
    · refine ⟨r, rfl, ho, Or.inr ⟨⟨?_, hX⟩, hr⟩⟩
      rcases hn with hn | ⟨h4, h5⟩
      · exact decA_stop (decA_bad (j := 4) hl ha hn) 6 (by omega)
      · exact decA_bad (j := 5) (decA_yes (j := 4) hl ha h4) ha h5
theorem decode_skip (b p q ab m : Nat) (E : Value) (s : ByteArray) (j : Nat) (w : World) (hj : j < 5) (ha : asksA m j = false) (h : StR b p q ab m E s j w) : StR b p q ab m E s (j + 1) w := by
  obtain ⟨f, t, hl, hW⟩ := h
  refine ⟨f, t, ?_, hW⟩
  rcases (show j < 4 ∨ j = 4 by omega) with k | rfl
  · unfold decAt at hl ⊢
    rw [if_neg (by omega)] at hl ⊢
    exact decA_no hl ha
  · exact decA_no (j := 5) (decA_no (j := 4) hl ha) ha

/-- A node's numbers lie in memory, to be written. -/
structure SixW (w : World) (ab : Nat) (f : Nat → Int) : Prop where
  num : ∀ i, i < 6 → w.cell? ⟨ab, i, none⟩ = some (.int .i64 (f i))
  free : ∀ i, i < 6 → w.frozen? ⟨ab, i, none⟩ = false
theorem SixW.later {w w' : World} {ab : Nat} {f : Nat → Int} (h : SixW w ab f) (hb : Below w.heap.size w w') : SixW w' ab f :=
  ⟨fun i hi => (hb.cell (p := ⟨ab, i, none⟩) (lt_of_cell (h.num i hi))).trans (h.num i hi), fun i hi => (hb.frozen (p := ⟨ab, i, none⟩) (lt_of_cell (h.num i hi))).trans (h.free i hi)⟩

/-- How what is behind the mask is read. -/
def AskEnds (b ab : Nat) (m : Nat) (E : Value) (s : ByteArray) (w : World) (r : Value) (w' : World) : Prop :=
  Only [b, ab] w w' ∧ ((m ≤ 31 ∧ r = .nilIface ∧ ∃ f t, decA m s 6 = some (f, t) ∧ t.size = 0 ∧ SixW w' ab f) ∨ ((31 < m ∨ decA m s 6 = none ∨ ∃ f t, decA m s 6 = some (f, t) ∧ 0 < t.size) ∧ r = E ∧ ∃ f, SixW w' ab f))

theorem readAsked_any (b ab m : Nat) (T : TypeId) (x : Value) (s : ByteArray) (w : World) (hs : s.size ≤ 4000) (hm : m < 4294967296) (ht : w.cell? ⟨b, 0, none⟩ = some (.string s)) (hf : w.frozen? ⟨b, 0, none⟩ = false) (hsix : SixW w ab fun _ => 0) (hE : w.cell? ⟨1, 0, none⟩ = some (.iface T x)) :
    Calls Tryd.prog 32 #[.pointer (some ⟨b, 0, none⟩), .pointer (some ⟨ab, 0, none⟩), .int .i64 m] w fun e w' => ∃ r, e = .returned r ∧ AskEnds b ab m (.iface T x) s w r w' := by
  rcases Nat.lt_or_ge 31 m with h | h
  · have hd : decide (0 ≤ (m : Int) ∧ (m : Int) ≤ 31) = false := decide_eq_false (by omega)
    have H6 : Hid (SixW w ab fun _ => 0) := hsix
    clear hsix
    go_enter Tryd.func32, Tryd.ntmps32
    go_wp2_with (go_at_call 22; go_must (refine (isMask_any m _).mono ?_); rintro e w1 ⟨rfl, rfl⟩; rw [hd])
    go_ret
    exact ⟨_, rfl, Only.refl _ _, Or.inr ⟨Or.inl h, rfl, _, H6.out⟩⟩
  · have hd : decide (0 ≤ (m : Int) ∧ (m : Int) ≤ 31) = true := decide_eq_true (by omega)
    have H0 : Hid (w.cell? ⟨b, 0, none⟩ = some (.string s) ∧ w.frozen? ⟨b, 0, none⟩ = false ∧ w.cell? ⟨1, 0, none⟩ = some (.iface T x) ∧ SixW w ab fun _ => 0) := ⟨ht, hf, hE, hsix⟩
    clear ht hf hE hsix
    go_enter Tryd.func32, Tryd.ntmps32
    go_wp2_with (go_at_call 22; go_must (refine (isMask_any m _).mono ?_); rintro e w1 ⟨rfl, rfl⟩; rw [hd])
    refine (reading_any b w).mono ?_
    rintro e w3 ⟨p, q, rfl, hb3, hp, hq⟩
    have hS : StR b p q ab m (.iface T x) s 0 w3 := by
      obtain ⟨t2, f2, e2, q2⟩ := H0.out
      have q3 := q2.later hb3
      exact ⟨_, s, rfl, (hb3.cell (p := ⟨b, 0, none⟩) (lt_of_cell t2)).trans t2, (hb3.frozen (p := ⟨b, 0, none⟩) (lt_of_cell t2)).trans f2, hp, hq, q3.num, q3.free, (hb3.cell (p := ⟨1, 0, none⟩) (lt_of_cell e2)).trans e2⟩
    have hq4 := passAsked_any 99 p q ab m h T x [b, ab] (StR b p q ab m (.iface T x) s) (BadR b p q ab m (.iface T x) s)
      (fun j a c k hb => by obtain ⟨f, t, hl, hW⟩ := k; exact ⟨f, t, hl, hW.later hb⟩) (fun j a hj ha k => decode_skip _ _ _ _ _ _ _ j a hj ha k)
      (fun j a k i hi => by
        obtain ⟨f, t, hl, hW⟩ := k
        rcases (show i = b ∨ i = ab by simpa using hi) with rfl | rfl
        · exact lt_of_cell hW.txt
        · exact lt_of_cell (hW.num 0 (by decide)))
      (fun j hj ha a k => decode_pass _ _ _ _ _ _ _ _ hs j hj ha a k) w3 hS
    have H3 : Hid (Only [b, ab] w w3) := Only.of_below hb3 _
    unfold toV
    clear hb3 hp hq hS
    go_wp2_with fail
    refine hq4.mono ?_
    rintro e w4 ⟨r, rfl, ho4, ⟨rfl, f, t, hl, hW4⟩ | ⟨⟨hbad, f, t, hW4⟩, rfl⟩⟩
    · have H4 : Hid (Only [b, ab] w w4) := H3.out.trans ho4 (fun _ k => Or.inl k)
      have HL : Hid (decA m s 6 = some (f, t)) := hl
      have H6 : Hid (SixW w4 ab f) := ⟨hW4.num, hW4.free⟩
      rcases Nat.eq_zero_or_pos t.size with hz | hz
      · obtain rfl : t = ⟨#[]⟩ := data_inj (List.eq_nil_of_length_eq_zero hz)
        have hq5 := rEnd_none b w4 hW4.txt
        clear hq4 ho4 hl hW4
        go_wp2_with (go_at_call 58; go_must (refine hq5.mono ?_); rintro e w5 ⟨rfl, rfl⟩)
        go_ret
        exact ⟨_, rfl, H4.out, Or.inl ⟨h, rfl, f, _, HL.out, rfl, H6.out⟩⟩
      · have hq5 := rEnd_some b t _ w4 hW4.txt hW4.err hz
        clear hq4 ho4 hl hW4
        go_wp2_with (go_at_call 58; go_must (refine hq5.mono ?_); rintro e w5 ⟨rfl, rfl⟩)
        go_ret
        exact ⟨_, rfl, H4.out, Or.inr ⟨Or.inr (Or.inr ⟨f, t, HL.out, hz⟩), rfl, f, H6.out⟩⟩
    · have H4 : Hid (Only [b, ab] w w4) := H3.out.trans ho4 (fun _ k => Or.inl k)
      have H6 : Hid (SixW w4 ab f) := ⟨hW4.num, hW4.free⟩
      have HL : Hid (decA m s 6 = none) := hbad
      clear hq4 ho4 hbad hW4
      go_wp2
      go_ret
      exact ⟨_, rfl, H4.out, Or.inr ⟨Or.inr (Or.inl HL.out), rfl, f, H6.out⟩⟩
end Go.Proofs.YtdafekhmjddkbabDoor
