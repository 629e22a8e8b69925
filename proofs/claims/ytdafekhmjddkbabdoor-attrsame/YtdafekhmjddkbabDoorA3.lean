/- Attributes: the document's AttrFrom: the walk. -/
import Derived.Test.YtdafekhmjddkbabDoorA2
import Derived.Lib.Strings
namespace Go.Proofs.YtdafekhmjddkbabDoor
open Go Go.RowKit Go.Deep

/-- The numbers while they are read: ints at B, bits behind them, the result's own place. -/
structure InvA (w wr : World) (B : Nat) (f : Nat → Int) : Prop where
  ints : ∀ k, k < 6 → wr.cell? ⟨B, k, none⟩ = some (.int .i64 (f k))
  fz : ∀ o, wr.frozen? ⟨B, o, none⟩ = false
  bits : ∀ k, k < 6 → wr.cell? ⟨B + 1, k, none⟩ = some (.int .i64 (bitA k))
  res : ∀ k, k < 6 → wr.cell? ⟨w.heap.size, k, none⟩ = some (.int .i64 0)
  rfz : ∀ o, wr.frozen? ⟨w.heap.size, o, none⟩ = false
  below : Below w.heap.size w wr
  lt : w.heap.size < B
theorem InvA.later {w wr w3 : World} {B : Nat} {f : Nat → Int} (h : InvA w wr B f) (hb : Below wr.heap.size wr w3) : InvA w w3 B f :=
  ⟨fun k hk => (hb.cell (p := ⟨B, k, none⟩) (lt_of_cell (h.ints k hk))).trans (h.ints k hk),
   fun o => (hb.frozen (p := ⟨B, o, none⟩) (show B < wr.heap.size from lt_of_cell (h.ints 0 (by decide)))).trans (h.fz o),
   fun k hk => (hb.cell (p := ⟨B + 1, k, none⟩) (lt_of_cell (h.bits k hk))).trans (h.bits k hk),
   fun k hk => (hb.cell (p := ⟨w.heap.size, k, none⟩) (lt_of_cell (h.res k hk))).trans (h.res k hk),
   fun o => (hb.frozen (p := ⟨w.heap.size, o, none⟩) (show w.heap.size < wr.heap.size from lt_of_cell (h.res 0 (by decide)))).trans (h.rfz o),
   h.below.trans (hb.mono h.below.size), h.lt⟩
theorem InvA.set {w wr : World} {B : Nat} {f : Nat → Int} (h : InvA w wr B f) (j : Nat) (n : Int) : InvA w (wr.setCell ⟨B, j, none⟩ (.int .i64 n)) B (fun i => if i = j then n else f i) := by
  refine ⟨fun k hk => ?_, fun o => ?_, fun k hk => ?_, fun k hk => ?_, fun o => ?_, h.below.setCell (Nat.le_of_lt h.lt) _, h.lt⟩
  · by_cases e : k = j
    · subst e
      rw [World.cell?_setCell_same _ _ _ (h.ints k hk), if_pos rfl]
    · rw [World.cell?_setCell_other _ _ _ _ (fun k => e (congrArg Addr.off k).symm), if_neg e]
      exact h.ints k hk
  · have := h.fz o
    simpa using this
  · rw [World.cell?_setCell_other _ _ _ _ (by simp)]
    exact h.bits k hk
  · have := h.lt
    rw [World.cell?_setCell_other _ _ _ _ (fun k => by have := congrArg Addr.block k; simp at this; omega)]
    exact h.res k hk
  · have := h.rfz o
    simpa using this
theorem Tryd.infoI : (Tryd.prog.info? 3).map (fun i => (i.zero, i.size, i.bytes)) = some (some (.int .i64 0), 1, 8) := by kernel_rfl
theorem six_made : madeCells #[Value.int .i64 0] 6 = #[Value.int .i64 0, .int .i64 0, .int .i64 0, .int .i64 0, .int .i64 0, .int .i64 0] := by
  apply Array.ext
  · simp [madeCells]
  · intro i h1 h2
    have h3 : i < 6 := by simpa using h2
    match i, h3 with
    | 0, _ => simp [madeCells]
    | 1, _ => simp [madeCells]
    | 2, _ => simp [madeCells]
    | 3, _ => simp [madeCells]
    | 4, _ => simp [madeCells]
    | 5, _ => simp [madeCells]
theorem six_below {w w3 : World} {a b c d e f : Value} (h : Below w.heap.size w w3) : Below w.heap.size w ((((((w3.setCell ⟨w.heap.size, 0, none⟩ a).setCell ⟨w.heap.size, 1, none⟩ b).setCell ⟨w.heap.size, 2, none⟩ c).setCell ⟨w.heap.size, 3, none⟩ d).setCell ⟨w.heap.size, 4, none⟩ e).setCell ⟨w.heap.size, 5, none⟩ f) :=
  (((((h.setCell (Nat.le_refl _) _).setCell (Nat.le_refl _) _).setCell (Nat.le_refl _) _).setCell (Nat.le_refl _) _).setCell (Nat.le_refl _) _).setCell (Nat.le_refl _) _

set_option maxHeartbeats 4000000 in
set_option maxRecDepth 100000 in
theorem attrFrom_walk (s : ByteArray) (w : World) (h : 4 ≤ s.size) (hs : s.size ≤ 4000) (hm' : numAt s 4 ≤ 31) : Calls Tryd.prog 17 #[.string s] w (AttrEnds s w) := by
  have hq := cut4_ok s (w.alloc (.cells #[.int .i64 0, .int .i64 0, .int .i64 0, .int .i64 0, .int .i64 0, .int .i64 0] 28)) h hs
  have HE : Hid ((decA (numAt s 4) (cutAt s 4) 6 = none → noA s) ∧ ∀ f r, decA (numAt s 4) (cutAt s 4) 6 = some (f, r) → (0 < r.size → noA s) ∧ (r.size = 0 → ∀ e w', e = .returned (.tuple #[aggA f, .int .i64 (numAt s 4), .bool true]) → Below w.heap.size w w' → AttrEnds s w e w')) :=
    ⟨fun k => Or.inr (Or.inr (Or.inl k)), fun f r k => ⟨fun k' => Or.inr (Or.inr (Or.inr ⟨f, r, k, k'⟩)), fun k' e w' he hb => ⟨Or.inr ⟨f, r, h, hm', k, k', he⟩, hb⟩⟩⟩
  have hS : (cutAt s 4).size ≤ 4000 := by rw [cutAt_size]; omega
  obtain ⟨m, hn⟩ : ∃ n, numAt s 4 = n := ⟨_, rfl⟩
  obtain ⟨S, hSS⟩ : ∃ S, cutAt s 4 = S := ⟨_, rfl⟩
  rw [hn] at hq hm' HE
  rw [hSS] at hq HE hS
  clear hn hSS
  have hmk : ∀ W : World, (Instr.makeSlice 65 (.int .i64 6) (.int .i64 6)).run Tryd.prog W = .ok (.slice (some ⟨W.heap.size, 0, none⟩) 6 6) (W.alloc (.cells #[.int .i64 0, .int .i64 0, .int .i64 0, .int .i64 0, .int .i64 0, .int .i64 0] 3)) := fun W => by
    have h := run_make_row' (P := Tryd.prog) 65 3 (.int .i64 0) 8 Tryd.underlying65 Tryd.infoI rfl .i64 .i64 6 (by decide) (by decide) W
    rw [six_made] at h
    exact h
  have hd : decide ((m : Int) < 0) = false := decide_eq_false (by omega)
  have hd' : decide (31 < (m : Int)) = false := decide_eq_false (by omega)
  go_enter Tryd.func17, Tryd.ntmps17
  go_wp2_with fail
  refine hq.mono ?_
  rintro e w3 ⟨rfl, hb3⟩
  have z := zero_row rfl hb3
  have kf : ∀ o, w3.frozen? ⟨w.heap.size, o, none⟩ = false := fun o => (hb3.frozen (p := ⟨w.heap.size, o, none⟩) (by simp)).trans (by simp)
  have hb03 : Below w.heap.size w w3 := ((Below.refl _ _).alloc (Nat.le_refl _) _).trans (hb3.mono (by simp))
  have hlt3 : w.heap.size < w3.heap.size := Nat.lt_of_lt_of_le (by simp) hb3.size
  have Z : Hid (∀ k, k < 6 → w3.cell? ⟨w.heap.size, k, none⟩ = some (.int .i64 0)) := z
  have KF : Hid (∀ o, w3.frozen? ⟨w.heap.size, o, none⟩ = false) := kf
  have HB3 : Hid (Below w.heap.size w w3) := hb03
  clear z kf hb3 hb03 hq
  obtain ⟨B, hB⟩ : ∃ B, w3.heap.size = B := ⟨_, rfl⟩
  go_wp2
  have HI0 : Hid (InvA w ((w3.alloc (.cells #[.int .i64 0, .int .i64 0, .int .i64 0, .int .i64 0, .int .i64 0, .int .i64 0] 3)).alloc (.cells #[.int .i64 1, .int .i64 2, .int .i64 4, .int .i64 8, .int .i64 16, .int .i64 16] 3)) B fun _ => 0) := by
    subst hB
    refine ⟨fun k hk => ?_, fun o => by simp, fun k hk => ?_, fun k hk => ?_, fun o => ?_, (HB3.out.alloc HB3.out.size _).alloc (by have := HB3.out.size; simp; omega) _, hlt3⟩
    · match k, hk with
      | 0, _ => simp
      | 1, _ => simp
      | 2, _ => simp
      | 3, _ => simp
      | 4, _ => simp
      | 5, _ => simp
    · match k, hk with
      | 0, _ => simp [bitA]
      | 1, _ => simp [bitA]
      | 2, _ => simp [bitA]
      | 3, _ => simp [bitA]
      | 4, _ => simp [bitA]
      | 5, _ => simp [bitA]
    · have hl := lt_of_cell (Z.out k hk)
      rw [World.cell?_alloc_lt _ _ ⟨w.heap.size, k, none⟩ (by simp; omega), World.cell?_alloc_lt _ _ ⟨w.heap.size, k, none⟩ hl]
      exact Z.out k hk
    · have hl : w.heap.size < w3.heap.size := hlt3
      have := KF.out o
      rw [← this]
      have hb2 : Below w3.heap.size w3 ((w3.alloc (.cells #[.int .i64 0, .int .i64 0, .int .i64 0, .int .i64 0, .int .i64 0, .int .i64 0] 3)).alloc (.cells #[.int .i64 1, .int .i64 2, .int .i64 4, .int .i64 8, .int .i64 16, .int .i64 16] 3)) := ((Below.refl _ _).alloc (Nat.le_refl _) _).alloc (by simp) _
      exact hb2.frozen (p := ⟨w.heap.size, o, none⟩) hl
  clear Z KF HB3 hmk hd hd' hlt3
  go_loopw [0, 8] (fun o i wr => ∃ (j : Nat) (f : Nat → Int) (r : ByteArray), j ≤ 6 ∧ i = .int .i64 j ∧ o = .string r ∧ decA m S j = some (f, r) ∧ InvA w wr B f) (fun _ i _ => 6 - (intOf i).toNat)
  case atStart => exact ⟨0, fun _ => 0, S, by decide, rfl, rfl, rfl, HI0.out⟩
  case round =>
    obtain ⟨j, f, r, hj, rfl, rfl, hl, I⟩ := hrel
    clear HI0 hB
    have HL : Hid (decA m S j = some (f, r)) := hl
    have HI : Hid (InvA w wr B f) := I
    have hrs : r.size ≤ 4000 := Nat.le_trans (decA_size hl) hS
    clear hl
    rcases (show j = 1 ∨ j = 3 ∨ (j ≠ 1 ∧ j ≠ 3 ∧ j < 6) ∨ j = 6 by omega) with rfl | rfl | ⟨hj1, hj3, hlt⟩ | rfl
    · clear hj
      have c1 : wr.cell? ⟨B + 1, 1, none⟩ = some (.int .i64 2) := I.bits 1 (by decide)
      have c0 := I.ints 1 (by decide)
      have cf := I.fz 1
      cases hA : asksA m 1
      · have ht : ((m : Int) / 2 % 2 == 0) = true := by
          have h1 : m / 2 % 2 ≠ 1 := by simpa [asksA, bitA] using hA
          rw [beq_iff_eq]
          omega
        have HN : Hid (decA m S 2 = some (f, r)) := decA_no HL.out hA
        clear hA c0 cf
        go_wp2
        go_roundw
        case rel => exact ⟨2, f, r, by decide, by go_num, rfl, HN.out, HI.out⟩
        case measure => simp [intOf]
      · have ht : ((m : Int) / 2 % 2 == 0) = false := by
          have h1 : m / 2 % 2 = 1 := by simpa [asksA, bitA] using hA
          rw [beq_eq_false_iff_ne]
          omega
        cases hc : cutOk r 8
        · have HN : Hid (decA m S 6 = none) := decA_stop (decA_bad HL.out hA hc) 6 (by decide)
          have hq := cut_no r 8 wr (by decide) (by omega) hc
          have k0 := I.res 0 (by decide)
          have k1 := I.res 1 (by decide)
          have k2 := I.res 2 (by decide)
          have k3 := I.res 3 (by decide)
          have k4 := I.res 4 (by decide)
          have k5 := I.res 5 (by decide)
          have kf := I.rfz
          clear hA hc c0 cf
          go_wp2_with (go_at_call 35; go_must (refine hq.mono ?_); rintro e w3 ⟨rfl, rfl⟩)
          refine bodyPost_ret (v := .tuple #[aggA fun _ => 0, .int .i64 0, .bool false]) (by simp [results, Tryd.results17, go_sem, aggA, k0, k1, k2, k3, k4, k5]) rfl ⟨Or.inl ⟨HE.out.1 HN.out, rfl⟩, six_below HI.out.below⟩
        · have HN : Hid (decA m S 2 = some (fun i => if i = 1 then (numAt r 8 : Int) else f i, cutAt r 8)) := decA_yes HL.out hA hc
          have hq := cut_ok r 8 wr (by decide) (by omega) hc
          obtain ⟨n, hn⟩ : ∃ n, numAt r 8 = n := ⟨_, rfl⟩
          have hnn : decide ((n : Int) < 0) = false := decide_eq_false (by omega)
          rw [hn] at hq HN
          clear hA hc hn c0 cf
          go_wp2_with fail
          refine hq.mono ?_
          rintro e w3 ⟨rfl, hb3⟩
          have I3 := HI.out.later hb3
          have c0 := I3.ints 1 (by decide)
          have cf := I3.fz 1
          have HI3 : Hid (InvA w (w3.setCell ⟨B, 1, none⟩ (.int .i64 n)) B fun i => if i = 1 then (n : Int) else f i) := I3.set 1 n
          clear I3 hb3
          go_wp2
          go_roundw
          case rel => exact ⟨2, _, _, by decide, by go_num, rfl, HN.out, HI3.out⟩
          case measure => simp [intOf]
    · clear hj
      have c1 : wr.cell? ⟨B + 1, 3, none⟩ = some (.int .i64 8) := I.bits 3 (by decide)
      have c0 := I.ints 3 (by decide)
      have cf := I.fz 3
      cases hA : asksA m 3
      · have ht : ((m : Int) / 8 % 2 == 0) = true := by
          have h1 : m / 8 % 2 ≠ 1 := by simpa [asksA, bitA] using hA
          rw [beq_iff_eq]
          omega
        have HN : Hid (decA m S 4 = some (f, r)) := decA_no HL.out hA
        clear hA c0 cf
        go_wp2
        go_roundw
        case rel => exact ⟨4, f, r, by decide, by go_num, rfl, HN.out, HI.out⟩
        case measure => simp [intOf]
      · have ht : ((m : Int) / 8 % 2 == 0) = false := by
          have h1 : m / 8 % 2 = 1 := by simpa [asksA, bitA] using hA
          rw [beq_eq_false_iff_ne]
          omega
        cases hc : cutOk r 8
        · have HN : Hid (decA m S 6 = none) := decA_stop (decA_bad HL.out hA hc) 6 (by decide)
          have hq := cut_no r 8 wr (by decide) (by omega) hc
          have k0 := I.res 0 (by decide)
          have k1 := I.res 1 (by decide)
          have k2 := I.res 2 (by decide)
          have k3 := I.res 3 (by decide)
          have k4 := I.res 4 (by decide)
          have k5 := I.res 5 (by decide)
          have kf := I.rfz
          clear hA hc c0 cf
          go_wp2_with (go_at_call 35; go_must (refine hq.mono ?_); rintro e w3 ⟨rfl, rfl⟩)
          refine bodyPost_ret (v := .tuple #[aggA fun _ => 0, .int .i64 0, .bool false]) (by simp [results, Tryd.results17, go_sem, aggA, k0, k1, k2, k3, k4, k5]) rfl ⟨Or.inl ⟨HE.out.1 HN.out, rfl⟩, six_below HI.out.below⟩
        · have HN : Hid (decA m S 4 = some (fun i => if i = 3 then (numAt r 8 : Int) else f i, cutAt r 8)) := decA_yes HL.out hA hc
          have hq := cut_ok r 8 wr (by decide) (by omega) hc
          obtain ⟨n, hn⟩ : ∃ n, numAt r 8 = n := ⟨_, rfl⟩
          have hnn : decide ((n : Int) < 0) = false := decide_eq_false (by omega)
          rw [hn] at hq HN
          clear hA hc hn c0 cf
          go_wp2_with fail
          refine hq.mono ?_
          rintro e w3 ⟨rfl, hb3⟩
          have I3 := HI.out.later hb3
          have c0 := I3.ints 3 (by decide)
          have cf := I3.fz 3
          have HI3 : Hid (InvA w (w3.setCell ⟨B, 3, none⟩ (.int .i64 n)) B fun i => if i = 3 then (n : Int) else f i) := I3.set 3 n
          clear I3 hb3
          go_wp2
          go_roundw
          case rel => exact ⟨4, _, _, by decide, by go_num, rfl, HN.out, HI3.out⟩
          case measure => simp [intOf]
    · have e1 : ((j : Int) == 1) = false := by rw [beq_eq_false_iff_ne]; omega
      have e3 : ((j : Int) == 3) = false := by rw [beq_eq_false_iff_ne]; omega
      have c1 := I.bits j hlt
      have hbit : 1 ≤ bitA j := bitA_pos j
      have hwd : wideA j = 4 := if_neg (fun k => k.elim hj1 hj3)
      cases hA : asksA m j
      · have ht : ((wrap64 ((m : Int) / (bitA j : Int))).tmod 2 == 0) = true := ask_no hm' hA
        have HN : Hid (decA m S (j + 1) = some (f, r)) := decA_no HL.out hA
        clear hA hj1 hj3 hwd I
        go_wp2
        go_roundw
        case rel => exact ⟨j + 1, f, r, by omega, by go_num, rfl, HN.out, HI.out⟩
        case measure => simp [intOf]; omega
      · have ht : ((wrap64 ((m : Int) / (bitA j : Int))).tmod 2 == 0) = false := ask_yes hm' hA
        cases hc : cutOk r 4
        · have HN : Hid (decA m S 6 = none) := decA_stop (decA_bad HL.out hA (by rw [hwd]; exact hc)) 6 (by omega)
          have hq := cut_no r 4 wr (by decide) hrs hc
          have k0 := I.res 0 (by decide)
          have k1 := I.res 1 (by decide)
          have k2 := I.res 2 (by decide)
          have k3 := I.res 3 (by decide)
          have k4 := I.res 4 (by decide)
          have k5 := I.res 5 (by decide)
          have kf := I.rfz
          clear hA hc hj1 hj3 hwd I
          go_wp2_with (go_at_call 35; go_must (refine hq.mono ?_); rintro e w3 ⟨rfl, rfl⟩)
          refine bodyPost_ret (v := .tuple #[aggA fun _ => 0, .int .i64 0, .bool false]) (by simp [results, Tryd.results17, go_sem, aggA, k0, k1, k2, k3, k4, k5]) rfl ⟨Or.inl ⟨HE.out.1 HN.out, rfl⟩, six_below HI.out.below⟩
        · have HN : Hid (decA m S (j + 1) = some (fun i => if i = j then (numAt r 4 : Int) else f i, cutAt r 4)) := by
            have h1 := decA_yes HL.out hA (by rw [hwd]; exact hc)
            rw [hwd] at h1
            exact h1
          have hq := cut_ok r 4 wr (by decide) hrs hc
          obtain ⟨n, hn⟩ : ∃ n, numAt r 4 = n := ⟨_, rfl⟩
          have hnn : decide ((n : Int) < 0) = false := decide_eq_false (by omega)
          rw [hn] at hq HN
          clear hA hc hn hj1 hj3 hwd I
          go_wp2_with fail
          refine hq.mono ?_
          rintro e w3 ⟨rfl, hb3⟩
          have I3 := HI.out.later hb3
          have c0 := I3.ints j hlt
          have cf := I3.fz j
          have HI3 : Hid (InvA w (w3.setCell ⟨B, j, none⟩ (.int .i64 n)) B fun i => if i = j then (n : Int) else f i) := I3.set j n
          clear I3 hb3
          go_wp2
          go_roundw
          case rel => exact ⟨j + 1, _, _, by omega, by go_num, rfl, HN.out, HI3.out⟩
          case measure => simp [intOf]; omega
    · have k0 := I.res 0 (by decide)
      have k1 := I.res 1 (by decide)
      have k2 := I.res 2 (by decide)
      have k3 := I.res 3 (by decide)
      have k4 := I.res 4 (by decide)
      have k5 := I.res 5 (by decide)
      have kf := I.rfz
      have i0 := I.ints 0 (by decide)
      have i1 := I.ints 1 (by decide)
      have i2 := I.ints 2 (by decide)
      have i3 := I.ints 3 (by decide)
      have i4 := I.ints 4 (by decide)
      have i5 := I.ints 5 (by decide)
      have hEr := HE.out.2 f r HL.out
      rcases Nat.eq_zero_or_pos r.size with hz | hz
      · have hD : Hid (∀ e w', e = .returned (.tuple #[aggA f, .int .i64 m, .bool true]) → Below w.heap.size w w' → AttrEnds s w e w') := hEr.2 hz
        obtain rfl : r = ⟨#[]⟩ := data_inj (List.eq_nil_of_length_eq_zero hz)
        clear hEr hz I
        go_wp2
        go_region
        go_wp2
        exact bodyPost_ret (v := .tuple #[aggA f, .int .i64 m, .bool true]) (by simp [results, Tryd.results17, go_sem, aggA, k0, k1, k2, k3, k4, k5]) rfl (hD.out _ _ rfl (six_below HI.out.below).drew)
      · have hD : Hid (noA s) := hEr.1 hz
        have ht : (r.toList == []) = false := by
          rw [Lib.toList_data, beq_eq_false_iff_ne]
          intro k
          have : r.data.toList.length = r.size := rfl
          rw [k] at this
          simp at this
          omega
        clear hEr hz I
        go_wp2
        refine bodyPost_ret (v := .tuple #[aggA fun _ => 0, .int .i64 0, .bool false]) (by simp [results, Tryd.results17, go_sem, aggA, k0, k1, k2, k3, k4, k5]) rfl ⟨Or.inl ⟨hD.out, rfl⟩, six_below HI.out.below⟩
theorem attrFrom_any (s : ByteArray) (w : World) (hs : s.size ≤ 4000) : Calls Tryd.prog 17 #[.string s] w (AttrEnds s w) := by
  rcases Nat.lt_or_ge s.size 4 with h | h
  · exact attrFrom_short s w h
  rcases Nat.lt_or_ge 31 (numAt s 4) with hm | hm
  · exact attrFrom_mask s w h hs hm
  · exact attrFrom_walk s w h hs hm
end Go.Proofs.YtdafekhmjddkbabDoor
