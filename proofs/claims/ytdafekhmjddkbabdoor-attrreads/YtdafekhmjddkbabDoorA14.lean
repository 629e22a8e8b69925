/- Attributes: is a part asked for? What is asked passes, part by part. -/
import Derived.Test.YtdafekhmjddkbabDoorA13
namespace Go.Proofs.YtdafekhmjddkbabDoor
open Go Go.RowKit Go.Deep

theorem and_asks : ∀ j, j < 5 → ∀ m, m < 32 → (bits BinOp.and IntKind.i64 ((m : Nat) : Int) ((bitA j : Nat) : Int) != 0) = asksA m j := by decide +kernel
theorem isAsked_any (m j : Nat) (f g : Value) (hm : m ≤ 31) (hj : j < 5) (w : World) : Calls Tryd.prog 34 #[.agg #[.int .i64 (bitA j), f, g], .int .i64 m] w fun e w' => e = .returned (.bool (asksA m j)) ∧ Below w.heap.size w w' := by
  go_enter Tryd.func34, Tryd.ntmps34
  go_wp2
  go_ret
  rw [← and_asks j hj m (by omega)]
  exact ⟨rfl, (Below.refl _ _).alloc (Nat.le_refl _) _⟩

set_option maxHeartbeats 2000000 in
set_option maxRecDepth 100000 in
/-- What is asked passes: for whatever the parts do, one behind the other. -/
theorem passAsked_any (F p q ab m : Nat) (hm : m ≤ 31) (T : TypeId) (x : Value) (L : List Nat) (St : Nat → World → Prop) (Bad : World → Prop)
    (hlater : ∀ j w w', St j w → Below w.heap.size w w' → St j w') (hskip : ∀ j w, j < 5 → asksA m j = false → St j w → St (j + 1) w) (hL : ∀ j w, St j w → ∀ k ∈ L, k < w.heap.size)
    (hpass : ∀ j, j < 5 → asksA m j = true → ∀ w, St j w → Calls Tryd.prog (passF j) #[.agg #[.func (.func F) #[] #[.pointer (some ⟨p, 0, none⟩)], .func (.func F) #[] #[.pointer (some ⟨q, 0, none⟩)]], .pointer (some ⟨ab, 0, none⟩)] w fun e w' => ∃ r, e = .returned r ∧ Only L w w' ∧ ((r = .nilIface ∧ St (j + 1) w') ∨ (Bad w' ∧ r = .iface T x)))
    (w : World) (h : St 0 w) :
    Calls Tryd.prog 24 #[.agg #[.func (.func F) #[] #[.pointer (some ⟨p, 0, none⟩)], .func (.func F) #[] #[.pointer (some ⟨q, 0, none⟩)]], .pointer (some ⟨ab, 0, none⟩), .int .i64 m] w fun e w' => ∃ r, e = .returned r ∧ Only L w w' ∧ ((r = .nilIface ∧ St 5 w') ∨ (Bad w' ∧ r = .iface T x)) := by
  have HT : Hid (∀ j w w', St j w → Below w.heap.size w w' → St j w') := hlater
  have HK : Hid (∀ j w, j < 5 → asksA m j = false → St j w → St (j + 1) w) := hskip
  have HQ : Hid (∀ j, j < 5 → asksA m j = true → ∀ w, St j w → Calls Tryd.prog (passF j) #[.agg #[.func (.func F) #[] #[.pointer (some ⟨p, 0, none⟩)], .func (.func F) #[] #[.pointer (some ⟨q, 0, none⟩)]], .pointer (some ⟨ab, 0, none⟩)] w fun e w' => ∃ r, e = .returned r ∧ Only L w w' ∧ ((r = .nilIface ∧ St (j + 1) w') ∨ (Bad w' ∧ r = .iface T x))) := hpass
  have HS0 : Hid (St 0 w) := h
  have HL : Hid (∀ k ∈ L, k < w.heap.size) := hL 0 w h
  clear hlater hskip hpass h hL
  have hb0 : Below w.heap.size w (w.alloc (.cells #[.func (.func F) #[] #[.pointer (some ⟨p, 0, none⟩)], .func (.func F) #[] #[.pointer (some ⟨q, 0, none⟩)]] 60)) := (Below.refl _ _).alloc (Nat.le_refl _) _
  have HB0 : Hid _ := hb0
  have e0 : (w.alloc (.cells #[.func (.func F) #[] #[.pointer (some ⟨p, 0, none⟩)], .func (.func F) #[] #[.pointer (some ⟨q, 0, none⟩)]] 60)).cell? ⟨w.heap.size, 0, none⟩ = some (.func (.func F) #[] #[.pointer (some ⟨p, 0, none⟩)]) := by simp
  have e1 : (w.alloc (.cells #[.func (.func F) #[] #[.pointer (some ⟨p, 0, none⟩)], .func (.func F) #[] #[.pointer (some ⟨q, 0, none⟩)]] 60)).cell? ⟨w.heap.size, 1, none⟩ = some (.func (.func F) #[] #[.pointer (some ⟨q, 0, none⟩)]) := by simp
  have E01 : Hid (_ ∧ _) := ⟨e0, e1⟩
  have hq := parts_any (w.alloc (.cells #[.func (.func F) #[] #[.pointer (some ⟨p, 0, none⟩)], .func (.func F) #[] #[.pointer (some ⟨q, 0, none⟩)]] 60))
  clear hb0 e0 e1
  go_enter Tryd.func24, Tryd.ntmps24
  go_wp2_with (go_at_call 33; go_must (refine hq.mono ?_); rintro e w1 ⟨rfl, hP1, hb1⟩)
  have hP1' : PartsAt w1 (w.heap.size + 1) := by simpa using hP1
  have HP1 : Hid (PartsAt w1 (w.heap.size + 1)) := hP1'
  have hc1 : w1.cell? ⟨w.heap.size, 0, none⟩ = some (.func (.func F) #[] #[.pointer (some ⟨p, 0, none⟩)]) := (hb1.cell (p := ⟨w.heap.size, 0, none⟩) (by simp)).trans E01.out.1
  have hc2 : w1.cell? ⟨w.heap.size, 1, none⟩ = some (.func (.func F) #[] #[.pointer (some ⟨q, 0, none⟩)]) := (hb1.cell (p := ⟨w.heap.size, 1, none⟩) (by simp)).trans E01.out.2
  have hb2 : Below w.heap.size w w1 := HB0.out.trans (hb1.mono (by simp))
  have HC1 : Hid (_ ∧ _) := ⟨hc1, hc2⟩
  have HB2 : Hid (Below w.heap.size w w1) := hb2
  have HN : Hid (w.heap.size ∉ L ∧ w.heap.size + 1 ∉ L) := ⟨fun k => absurd (HL.out _ k) (by omega), fun k => absurd (HL.out _ k) (by omega)⟩
  clear hP1 hP1' hc1 hc2 hb1 hb2 hq
  obtain ⟨BC, hBC⟩ : ∃ B, w.heap.size = B := ⟨_, rfl⟩
  obtain ⟨BP, hBP⟩ : ∃ B, BC + 1 = B := ⟨_, rfl⟩
  rw [hBC] at HP1 HC1 HN ⊢
  rw [hBP] at HP1 HN ⊢
  go_loopw [12] (fun i wr => ∃ j : Nat, j ≤ 5 ∧ i = .int .i64 j ∧ St j wr ∧ PartsAt wr BP ∧ wr.cell? ⟨BC, 0, none⟩ = some (.func (.func F) #[] #[.pointer (some ⟨p, 0, none⟩)]) ∧ wr.cell? ⟨BC, 1, none⟩ = some (.func (.func F) #[] #[.pointer (some ⟨q, 0, none⟩)]) ∧ Only L w wr) (fun i _ => 5 - (intOf i).toNat)
  case atStart => exact ⟨0, by decide, rfl, HT.out _ _ _ HS0.out HB2.out, HP1.out, HC1.out.1, HC1.out.2, Only.of_below HB2.out L⟩
  case round =>
    obtain ⟨j, hj, rfl, hS, hP, hC1, hC2, hO⟩ := hrel
    have HS : Hid (St j wr) := hS
    have HP : Hid (PartsAt wr BP) := hP
    have HC : Hid (wr.cell? ⟨BC, 0, none⟩ = some (.func (.func F) #[] #[.pointer (some ⟨p, 0, none⟩)]) ∧ wr.cell? ⟨BC, 1, none⟩ = some (.func (.func F) #[] #[.pointer (some ⟨q, 0, none⟩)])) := ⟨hC1, hC2⟩
    have HO : Hid (Only L w wr) := hO
    clear hS hP hC1 hC2 hO HP1 HC1 HB2 HS0 HB0 E01
    rcases (show j = 0 ∨ j = 1 ∨ j = 2 ∨ j = 3 ∨ j = 4 ∨ j = 5 by omega) with rfl | rfl | rfl | rfl | rfl | rfl
    · have c0 : wr.cell? ⟨BP, 0, none⟩ = some (.int .i64 1) := HP.out.bit 0 (by decide)
      have c1 : wr.cell? ⟨BP, 1, none⟩ = some (.func (.func 59) #[] #[]) := HP.out.pass 0 (by decide)
      have c2 : wr.cell? ⟨BP, 2, none⟩ = some (.func (.func 60) #[] #[]) := HP.out.same 0 (by decide)
      have hb0 : Below wr.heap.size wr (wr.alloc (.cells #[.int .i64 1, .func (.func 59) #[] #[], .func (.func 60) #[] #[]] 78)) := (Below.refl _ _).alloc (Nat.le_refl _) _
      have hq : Calls Tryd.prog 34 #[.agg #[.int .i64 1, .func (.func 59) #[] #[], .func (.func 60) #[] #[]], .int .i64 m] (wr.alloc (.cells #[.int .i64 1, .func (.func 59) #[] #[], .func (.func 60) #[] #[]] 78)) _ := isAsked_any m 0 _ _ hm (by decide) _
      have HB0 : Hid (Below wr.heap.size wr (wr.alloc (.cells #[.int .i64 1, .func (.func 59) #[] #[], .func (.func 60) #[] #[]] 78))) := hb0
      have d1 : (wr.alloc (.cells #[.int .i64 1, .func (.func 59) #[] #[], .func (.func 60) #[] #[]] 78)).cell? ⟨wr.heap.size, 1, none⟩ = some (.func (.func 59) #[] #[]) := by simp
      have D1 : Hid ((wr.alloc (.cells #[.int .i64 1, .func (.func 59) #[] #[], .func (.func 60) #[] #[]] 78)).cell? ⟨wr.heap.size, 1, none⟩ = some (.func (.func 59) #[] #[])) := d1
      clear hb0 d1
      cases hA : asksA m 0
      · rw [hA] at hq
        have HA : Hid (asksA m 0 = false) := hA
        clear hA
        go_wp2_with (go_at_call 34; go_must (refine hq.mono ?_); rintro e w1 ⟨rfl, hb1⟩)
        have hb2 : Below wr.heap.size wr w1 := HB0.out.trans (hb1.mono (by simp))
        go_roundw
        case rel => exact ⟨1, by decide, by go_num, HK.out _ _ (by decide) HA.out (HT.out _ _ _ HS.out hb2), HP.out.only (Only.of_below hb2 []) (by simp), (hb2.cell (p := ⟨BC, 0, none⟩) (lt_of_cell HC.out.1)).trans HC.out.1, (hb2.cell (p := ⟨BC, 1, none⟩) (lt_of_cell HC.out.2)).trans HC.out.2, HO.out.trans (Only.of_below hb2 []) (fun _ k => by cases k)⟩
        case measure => simp [intOf]
      · rw [hA] at hq
        have HA : Hid (asksA m 0 = true) := hA
        clear hA
        go_wp2_with (first
          | (go_at_call 34; go_must (refine hq.mono ?_); rintro e w1 ⟨rfl, hb1⟩; have hb2 : Below wr.heap.size wr w1 := HB0.out.trans (hb1.mono (by simp)); have d2 : w1.cell? ⟨wr.heap.size, 1, none⟩ = some (.func (.func 59) #[] #[]) := (hb1.cell (p := ⟨wr.heap.size, 1, none⟩) (by simp)).trans D1.out; have d3 := (hb2.cell (p := ⟨BC, 0, none⟩) (lt_of_cell HC.out.1)).trans HC.out.1; have d4 := (hb2.cell (p := ⟨BC, 1, none⟩) (lt_of_cell HC.out.2)).trans HC.out.2)
          | (go_at_call 59; go_must (refine (HQ.out 0 (by decide) HA.out w1 (HT.out _ _ _ HS.out hb2)).mono ?_); rintro e w3 ⟨r, rfl, ho3, ⟨rfl, hS3⟩ | ⟨hbad, rfl⟩⟩))
        · have HS3 : Hid (St 1 w3) := hS3
          have HO3 : Hid (Only L wr w3) := (Only.of_below hb2 L).trans ho3 (fun _ k => Or.inl k)
          clear hS3 ho3
          go_roundw
          case rel => exact ⟨1, by decide, by go_num, HS3.out, HP.out.only HO3.out (HN.out.2), (HO3.out.cell (p := ⟨BC, 0, none⟩) (lt_of_cell HC.out.1) HN.out.1).trans HC.out.1, (HO3.out.cell (p := ⟨BC, 1, none⟩) (lt_of_cell HC.out.2) HN.out.1).trans HC.out.2, HO.out.trans HO3.out (fun _ k => Or.inl k)⟩
          case measure => simp [intOf]
        · have HO3 : Hid (Only L wr w3) := (Only.of_below hb2 L).trans ho3 (fun _ k => Or.inl k)
          go_ret
          exact ⟨_, rfl, HO.out.trans HO3.out (fun _ k => Or.inl k), Or.inr ⟨hbad, rfl⟩⟩
    · have c0 : wr.cell? ⟨BP, 3, none⟩ = some (.int .i64 2) := HP.out.bit 1 (by decide)
      have c1 : wr.cell? ⟨BP, 4, none⟩ = some (.func (.func 61) #[] #[]) := HP.out.pass 1 (by decide)
      have c2 : wr.cell? ⟨BP, 5, none⟩ = some (.func (.func 62) #[] #[]) := HP.out.same 1 (by decide)
      have hb0 : Below wr.heap.size wr (wr.alloc (.cells #[.int .i64 2, .func (.func 61) #[] #[], .func (.func 62) #[] #[]] 78)) := (Below.refl _ _).alloc (Nat.le_refl _) _
      have hq : Calls Tryd.prog 34 #[.agg #[.int .i64 2, .func (.func 61) #[] #[], .func (.func 62) #[] #[]], .int .i64 m] (wr.alloc (.cells #[.int .i64 2, .func (.func 61) #[] #[], .func (.func 62) #[] #[]] 78)) _ := isAsked_any m 1 _ _ hm (by decide) _
      have HB0 : Hid (Below wr.heap.size wr (wr.alloc (.cells #[.int .i64 2, .func (.func 61) #[] #[], .func (.func 62) #[] #[]] 78))) := hb0
      have d1 : (wr.alloc (.cells #[.int .i64 2, .func (.func 61) #[] #[], .func (.func 62) #[] #[]] 78)).cell? ⟨wr.heap.size, 1, none⟩ = some (.func (.func 61) #[] #[]) := by simp
      have D1 : Hid ((wr.alloc (.cells #[.int .i64 2, .func (.func 61) #[] #[], .func (.func 62) #[] #[]] 78)).cell? ⟨wr.heap.size, 1, none⟩ = some (.func (.func 61) #[] #[])) := d1
      clear hb0 d1
      cases hA : asksA m 1
      · rw [hA] at hq
        have HA : Hid (asksA m 1 = false) := hA
        clear hA
        go_wp2_with (go_at_call 34; go_must (refine hq.mono ?_); rintro e w1 ⟨rfl, hb1⟩)
        have hb2 : Below wr.heap.size wr w1 := HB0.out.trans (hb1.mono (by simp))
        go_roundw
        case rel => exact ⟨2, by decide, by go_num, HK.out _ _ (by decide) HA.out (HT.out _ _ _ HS.out hb2), HP.out.only (Only.of_below hb2 []) (by simp), (hb2.cell (p := ⟨BC, 0, none⟩) (lt_of_cell HC.out.1)).trans HC.out.1, (hb2.cell (p := ⟨BC, 1, none⟩) (lt_of_cell HC.out.2)).trans HC.out.2, HO.out.trans (Only.of_below hb2 []) (fun _ k => by cases k)⟩
        case measure => simp [intOf]
      · rw [hA] at hq
        have HA : Hid (asksA m 1 = true) := hA
        clear hA
        go_wp2_with (first
          | (go_at_call 34; go_must (refine hq.mono ?_); rintro e w1 ⟨rfl, hb1⟩; have hb2 : Below wr.heap.size wr w1 := HB0.out.trans (hb1.mono (by simp)); have d2 : w1.cell? ⟨wr.heap.size, 1, none⟩ = some (.func (.func 61) #[] #[]) := (hb1.cell (p := ⟨wr.heap.size, 1, none⟩) (by simp)).trans D1.out; have d3 := (hb2.cell (p := ⟨BC, 0, none⟩) (lt_of_cell HC.out.1)).trans HC.out.1; have d4 := (hb2.cell (p := ⟨BC, 1, none⟩) (lt_of_cell HC.out.2)).trans HC.out.2)
          | (go_at_call 61; go_must (refine (HQ.out 1 (by decide) HA.out w1 (HT.out _ _ _ HS.out hb2)).mono ?_); rintro e w3 ⟨r, rfl, ho3, ⟨rfl, hS3⟩ | ⟨hbad, rfl⟩⟩))
        · have HS3 : Hid (St 2 w3) := hS3
          have HO3 : Hid (Only L wr w3) := (Only.of_below hb2 L).trans ho3 (fun _ k => Or.inl k)
          clear hS3 ho3
          go_roundw
          case rel => exact ⟨2, by decide, by go_num, HS3.out, HP.out.only HO3.out (HN.out.2), (HO3.out.cell (p := ⟨BC, 0, none⟩) (lt_of_cell HC.out.1) HN.out.1).trans HC.out.1, (HO3.out.cell (p := ⟨BC, 1, none⟩) (lt_of_cell HC.out.2) HN.out.1).trans HC.out.2, HO.out.trans HO3.out (fun _ k => Or.inl k)⟩
          case measure => simp [intOf]
        · have HO3 : Hid (Only L wr w3) := (Only.of_below hb2 L).trans ho3 (fun _ k => Or.inl k)
          go_ret
          exact ⟨_, rfl, HO.out.trans HO3.out (fun _ k => Or.inl k), Or.inr ⟨hbad, rfl⟩⟩
    · have c0 : wr.cell? ⟨BP, 6, none⟩ = some (.int .i64 4) := HP.out.bit 2 (by decide)
      have c1 : wr.cell? ⟨BP, 7, none⟩ = some (.func (.func 63) #[] #[]) := HP.out.pass 2 (by decide)
      have c2 : wr.cell? ⟨BP, 8, none⟩ = some (.func (.func 64) #[] #[]) := HP.out.same 2 (by decide)
      have hb0 : Below wr.heap.size wr (wr.alloc (.cells #[.int .i64 4, .func (.func 63) #[] #[], .func (.func 64) #[] #[]] 78)) := (Below.refl _ _).alloc (Nat.le_refl _) _
      have hq : Calls Tryd.prog 34 #[.agg #[.int .i64 4, .func (.func 63) #[] #[], .func (.func 64) #[] #[]], .int .i64 m] (wr.alloc (.cells #[.int .i64 4, .func (.func 63) #[] #[], .func (.func 64) #[] #[]] 78)) _ := isAsked_any m 2 _ _ hm (by decide) _
      have HB0 : Hid (Below wr.heap.size wr (wr.alloc (.cells #[.int .i64 4, .func (.func 63) #[] #[], .func (.func 64) #[] #[]] 78))) := hb0
      have d1 : (wr.alloc (.cells #[.int .i64 4, .func (.func 63) #[] #[], .func (.func 64) #[] #[]] 78)).cell? ⟨wr.heap.size, 1, none⟩ = some (.func (.func 63) #[] #[]) := by simp
      have D1 : Hid ((wr.alloc (.cells #[.int .i64 4, .func (.func 63) #[] #[], .func (.func 64) #[] #[]] 78)).cell? ⟨wr.heap.size, 1, none⟩ = some (.func (.func 63) #[] #[])) := d1
      clear hb0 d1
      cases hA : asksA m 2
      · rw [hA] at hq
        have HA : Hid (asksA m 2 = false) := hA
        clear hA
        go_wp2_with (go_at_call 34; go_must (refine hq.mono ?_); rintro e w1 ⟨rfl, hb1⟩)
        have hb2 : Below wr.heap.size wr w1 := HB0.out.trans (hb1.mono (by simp))
        go_roundw
        case rel => exact ⟨3, by decide, by go_num, HK.out _ _ (by decide) HA.out (HT.out _ _ _ HS.out hb2), HP.out.only (Only.of_below hb2 []) (by simp), (hb2.cell (p := ⟨BC, 0, none⟩) (lt_of_cell HC.out.1)).trans HC.out.1, (hb2.cell (p := ⟨BC, 1, none⟩) (lt_of_cell HC.out.2)).trans HC.out.2, HO.out.trans (Only.of_below hb2 []) (fun _ k => by cases k)⟩
        case measure => simp [intOf]
      · rw [hA] at hq
        have HA : Hid (asksA m 2 = true) := hA
        clear hA
        go_wp2_with (first
          | (go_at_call 34; go_must (refine hq.mono ?_); rintro e w1 ⟨rfl, hb1⟩; have hb2 : Below wr.heap.size wr w1 := HB0.out.trans (hb1.mono (by simp)); have d2 : w1.cell? ⟨wr.heap.size, 1, none⟩ = some (.func (.func 63) #[] #[]) := (hb1.cell (p := ⟨wr.heap.size, 1, none⟩) (by simp)).trans D1.out; have d3 := (hb2.cell (p := ⟨BC, 0, none⟩) (lt_of_cell HC.out.1)).trans HC.out.1; have d4 := (hb2.cell (p := ⟨BC, 1, none⟩) (lt_of_cell HC.out.2)).trans HC.out.2)
          | (go_at_call 63; go_must (refine (HQ.out 2 (by decide) HA.out w1 (HT.out _ _ _ HS.out hb2)).mono ?_); rintro e w3 ⟨r, rfl, ho3, ⟨rfl, hS3⟩ | ⟨hbad, rfl⟩⟩))
        · have HS3 : Hid (St 3 w3) := hS3
          have HO3 : Hid (Only L wr w3) := (Only.of_below hb2 L).trans ho3 (fun _ k => Or.inl k)
          clear hS3 ho3
          go_roundw
          case rel => exact ⟨3, by decide, by go_num, HS3.out, HP.out.only HO3.out (HN.out.2), (HO3.out.cell (p := ⟨BC, 0, none⟩) (lt_of_cell HC.out.1) HN.out.1).trans HC.out.1, (HO3.out.cell (p := ⟨BC, 1, none⟩) (lt_of_cell HC.out.2) HN.out.1).trans HC.out.2, HO.out.trans HO3.out (fun _ k => Or.inl k)⟩
          case measure => simp [intOf]
        · have HO3 : Hid (Only L wr w3) := (Only.of_below hb2 L).trans ho3 (fun _ k => Or.inl k)
          go_ret
          exact ⟨_, rfl, HO.out.trans HO3.out (fun _ k => Or.inl k), Or.inr ⟨hbad, rfl⟩⟩
    · have c0 : wr.cell? ⟨BP, 9, none⟩ = some (.int .i64 8) := HP.out.bit 3 (by decide)
      have c1 : wr.cell? ⟨BP, 10, none⟩ = some (.func (.func 65) #[] #[]) := HP.out.pass 3 (by decide)
      have c2 : wr.cell? ⟨BP, 11, none⟩ = some (.func (.func 66) #[] #[]) := HP.out.same 3 (by decide)
      have hb0 : Below wr.heap.size wr (wr.alloc (.cells #[.int .i64 8, .func (.func 65) #[] #[], .func (.func 66) #[] #[]] 78)) := (Below.refl _ _).alloc (Nat.le_refl _) _
      have hq : Calls Tryd.prog 34 #[.agg #[.int .i64 8, .func (.func 65) #[] #[], .func (.func 66) #[] #[]], .int .i64 m] (wr.alloc (.cells #[.int .i64 8, .func (.func 65) #[] #[], .func (.func 66) #[] #[]] 78)) _ := isAsked_any m 3 _ _ hm (by decide) _
      have HB0 : Hid (Below wr.heap.size wr (wr.alloc (.cells #[.int .i64 8, .func (.func 65) #[] #[], .func (.func 66) #[] #[]] 78))) := hb0
      have d1 : (wr.alloc (.cells #[.int .i64 8, .func (.func 65) #[] #[], .func (.func 66) #[] #[]] 78)).cell? ⟨wr.heap.size, 1, none⟩ = some (.func (.func 65) #[] #[]) := by simp
      have D1 : Hid ((wr.alloc (.cells #[.int .i64 8, .func (.func 65) #[] #[], .func (.func 66) #[] #[]] 78)).cell? ⟨wr.heap.size, 1, none⟩ = some (.func (.func 65) #[] #[])) := d1
      clear hb0 d1
      cases hA : asksA m 3
      · rw [hA] at hq
        have HA : Hid (asksA m 3 = false) := hA
        clear hA
        go_wp2_with (go_at_call 34; go_must (refine hq.mono ?_); rintro e w1 ⟨rfl, hb1⟩)
        have hb2 : Below wr.heap.size wr w1 := HB0.out.trans (hb1.mono (by simp))
        go_roundw
        case rel => exact ⟨4, by decide, by go_num, HK.out _ _ (by decide) HA.out (HT.out _ _ _ HS.out hb2), HP.out.only (Only.of_below hb2 []) (by simp), (hb2.cell (p := ⟨BC, 0, none⟩) (lt_of_cell HC.out.1)).trans HC.out.1, (hb2.cell (p := ⟨BC, 1, none⟩) (lt_of_cell HC.out.2)).trans HC.out.2, HO.out.trans (Only.of_below hb2 []) (fun _ k => by cases k)⟩
        case measure => simp [intOf]
      · rw [hA] at hq
        have HA : Hid (asksA m 3 = true) := hA
        clear hA
        go_wp2_with (first
          | (go_at_call 34; go_must (refine hq.mono ?_); rintro e w1 ⟨rfl, hb1⟩; have hb2 : Below wr.heap.size wr w1 := HB0.out.trans (hb1.mono (by simp)); have d2 : w1.cell? ⟨wr.heap.size, 1, none⟩ = some (.func (.func 65) #[] #[]) := (hb1.cell (p := ⟨wr.heap.size, 1, none⟩) (by simp)).trans D1.out; have d3 := (hb2.cell (p := ⟨BC, 0, none⟩) (lt_of_cell HC.out.1)).trans HC.out.1; have d4 := (hb2.cell (p := ⟨BC, 1, none⟩) (lt_of_cell HC.out.2)).trans HC.out.2)
          | (go_at_call 65; go_must (refine (HQ.out 3 (by decide) HA.out w1 (HT.out _ _ _ HS.out hb2)).mono ?_); rintro e w3 ⟨r, rfl, ho3, ⟨rfl, hS3⟩ | ⟨hbad, rfl⟩⟩))
        · have HS3 : Hid (St 4 w3) := hS3
          have HO3 : Hid (Only L wr w3) := (Only.of_below hb2 L).trans ho3 (fun _ k => Or.inl k)
          clear hS3 ho3
          go_roundw
          case rel => exact ⟨4, by decide, by go_num, HS3.out, HP.out.only HO3.out (HN.out.2), (HO3.out.cell (p := ⟨BC, 0, none⟩) (lt_of_cell HC.out.1) HN.out.1).trans HC.out.1, (HO3.out.cell (p := ⟨BC, 1, none⟩) (lt_of_cell HC.out.2) HN.out.1).trans HC.out.2, HO.out.trans HO3.out (fun _ k => Or.inl k)⟩
          case measure => simp [intOf]
        · have HO3 : Hid (Only L wr w3) := (Only.of_below hb2 L).trans ho3 (fun _ k => Or.inl k)
          go_ret
          exact ⟨_, rfl, HO.out.trans HO3.out (fun _ k => Or.inl k), Or.inr ⟨hbad, rfl⟩⟩
    · have c0 : wr.cell? ⟨BP, 12, none⟩ = some (.int .i64 16) := HP.out.bit 4 (by decide)
      have c1 : wr.cell? ⟨BP, 13, none⟩ = some (.func (.func 67) #[] #[]) := HP.out.pass 4 (by decide)
      have c2 : wr.cell? ⟨BP, 14, none⟩ = some (.func (.func 69) #[] #[]) := HP.out.same 4 (by decide)
      have hb0 : Below wr.heap.size wr (wr.alloc (.cells #[.int .i64 16, .func (.func 67) #[] #[], .func (.func 69) #[] #[]] 78)) := (Below.refl _ _).alloc (Nat.le_refl _) _
      have hq : Calls Tryd.prog 34 #[.agg #[.int .i64 16, .func (.func 67) #[] #[], .func (.func 69) #[] #[]], .int .i64 m] (wr.alloc (.cells #[.int .i64 16, .func (.func 67) #[] #[], .func (.func 69) #[] #[]] 78)) _ := isAsked_any m 4 _ _ hm (by decide) _
      have HB0 : Hid (Below wr.heap.size wr (wr.alloc (.cells #[.int .i64 16, .func (.func 67) #[] #[], .func (.func 69) #[] #[]] 78))) := hb0
      have d1 : (wr.alloc (.cells #[.int .i64 16, .func (.func 67) #[] #[], .func (.func 69) #[] #[]] 78)).cell? ⟨wr.heap.size, 1, none⟩ = some (.func (.func 67) #[] #[]) := by simp
      have D1 : Hid ((wr.alloc (.cells #[.int .i64 16, .func (.func 67) #[] #[], .func (.func 69) #[] #[]] 78)).cell? ⟨wr.heap.size, 1, none⟩ = some (.func (.func 67) #[] #[])) := d1
      clear hb0 d1
      cases hA : asksA m 4
      · rw [hA] at hq
        have HA : Hid (asksA m 4 = false) := hA
        clear hA
        go_wp2_with (go_at_call 34; go_must (refine hq.mono ?_); rintro e w1 ⟨rfl, hb1⟩)
        have hb2 : Below wr.heap.size wr w1 := HB0.out.trans (hb1.mono (by simp))
        go_roundw
        case rel => exact ⟨5, by decide, by go_num, HK.out _ _ (by decide) HA.out (HT.out _ _ _ HS.out hb2), HP.out.only (Only.of_below hb2 []) (by simp), (hb2.cell (p := ⟨BC, 0, none⟩) (lt_of_cell HC.out.1)).trans HC.out.1, (hb2.cell (p := ⟨BC, 1, none⟩) (lt_of_cell HC.out.2)).trans HC.out.2, HO.out.trans (Only.of_below hb2 []) (fun _ k => by cases k)⟩
        case measure => simp [intOf]
      · rw [hA] at hq
        have HA : Hid (asksA m 4 = true) := hA
        clear hA
        go_wp2_with (first
          | (go_at_call 34; go_must (refine hq.mono ?_); rintro e w1 ⟨rfl, hb1⟩; have hb2 : Below wr.heap.size wr w1 := HB0.out.trans (hb1.mono (by simp)); have d2 : w1.cell? ⟨wr.heap.size, 1, none⟩ = some (.func (.func 67) #[] #[]) := (hb1.cell (p := ⟨wr.heap.size, 1, none⟩) (by simp)).trans D1.out; have d3 := (hb2.cell (p := ⟨BC, 0, none⟩) (lt_of_cell HC.out.1)).trans HC.out.1; have d4 := (hb2.cell (p := ⟨BC, 1, none⟩) (lt_of_cell HC.out.2)).trans HC.out.2)
          | (go_at_call 67; go_must (refine (HQ.out 4 (by decide) HA.out w1 (HT.out _ _ _ HS.out hb2)).mono ?_); rintro e w3 ⟨r, rfl, ho3, ⟨rfl, hS3⟩ | ⟨hbad, rfl⟩⟩))
        · have HS3 : Hid (St 5 w3) := hS3
          have HO3 : Hid (Only L wr w3) := (Only.of_below hb2 L).trans ho3 (fun _ k => Or.inl k)
          clear hS3 ho3
          go_roundw
          case rel => exact ⟨5, by decide, by go_num, HS3.out, HP.out.only HO3.out (HN.out.2), (HO3.out.cell (p := ⟨BC, 0, none⟩) (lt_of_cell HC.out.1) HN.out.1).trans HC.out.1, (HO3.out.cell (p := ⟨BC, 1, none⟩) (lt_of_cell HC.out.2) HN.out.1).trans HC.out.2, HO.out.trans HO3.out (fun _ k => Or.inl k)⟩
          case measure => simp [intOf]
        · have HO3 : Hid (Only L wr w3) := (Only.of_below hb2 L).trans ho3 (fun _ k => Or.inl k)
          go_ret
          exact ⟨_, rfl, HO.out.trans HO3.out (fun _ k => Or.inl k), Or.inr ⟨hbad, rfl⟩⟩
    · go_wp2
      go_ret
      exact ⟨_, rfl, HO.out, Or.inl ⟨rfl, HS.out⟩⟩
end Go.Proofs.YtdafekhmjddkbabDoor
