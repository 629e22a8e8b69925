/- LockFull: her walk. -/
import Derived.Test.YtfnniphemlnanaaDoorLk18
namespace Go.Proofs.YtfnniphemlnanaaDoor
open Go Go.RowKit Go.Deep

theorem full_list {w w3 : World} {t n : Nat} {l : List Lk} (h : LkW w w3 t l) (hn : l.length = n) : Calls Tryd.prog 19 #[.pointer (some ⟨t, 0, none⟩)] w3 fun e w' => ∃ ad cp, e = .returned (.slice ad n cp) ∧ Below w.heap.size w w' := h.list.mono fun e w' hh => by
  obtain ⟨v, he, hl, ho⟩ := hh
  obtain ⟨ad, cp, rfl, _⟩ := row_form hl
  rw [hn] at he
  exact ⟨ad, cp, he, (h.only ho).below⟩
set_option maxRecDepth 100000 in
set_option maxHeartbeats 4000000 in
theorem full_in (n c : Nat) (A : Nat → Addr) (w : World) (hE : Errs w A) (hn : n ≤ 70) (hc : c ≤ 100) : Calls Tryd.prog 5 #[.int .i64 n, .int .i64 c] w fun e w' => e = .returned (.bool true) ∧ Below w.heap.size w w' := by
  have hh := held_any A w hE.three
  have HE : Hid (Errs w A) := hE
  have HE3 : Hid (Err3 w A) := hE.three
  have g1 : decide ((n : Int) < 0) = false := decide_eq_false (by omega)
  have g2 : decide (70 < (n : Int)) = false := decide_eq_false (by omega)
  have g3 : decide ((c : Int) < 0) = false := decide_eq_false (by omega)
  have g4 : decide (100 < (c : Int)) = false := decide_eq_false (by omega)
  clear hE
  go_enter Tryd.func5, Tryd.ntmps5
  go_wp2_with (go_at_call 7; refine hh.mono ?_; rintro e w1 ⟨rfl, hb1⟩; have HW1 : Hid (LkW w (w1.alloc (.cells #[.slice none 0 0] 27)) w1.heap.size []) := LkW.fresh hb1; clear hh hb1)
  have HW2 : Hid (LkW w ((w1.alloc (.cells #[.slice none 0 0] 27)).alloc (.cells #[.int .i64 1, .int .i64 0] 33)) w1.heap.size []) := HW1.out.only ((Only.refl [] _).alloc _)
  have HC2 : Hid (((w1.alloc (.cells #[.slice none 0 0] 27)).alloc (.cells #[.int .i64 1, .int .i64 0] 33)).cell? ⟨w1.heap.size + 1, 0, none⟩ = some (.int .i64 1) ∧ ((w1.alloc (.cells #[.slice none 0 0] 27)).alloc (.cells #[.int .i64 1, .int .i64 0] 33)).cell? ⟨w1.heap.size + 1, 1, none⟩ = some (.int .i64 0)) := by
    have := two_own (B := w1.heap.size + 1) (Only.refl [] ((w1.alloc (.cells #[.slice none 0 0] 27)).alloc (.cells #[.int .i64 1, .int .i64 0] 33))) (by simp)
    exact ⟨this.1, this.2.1⟩
  generalize (w1.alloc (.cells #[.slice none 0 0] 27)).alloc (.cells #[.int .i64 1, .int .i64 0] 33) = w2 at HW2 HC2 ⊢
  clear HW1
  generalize w1.heap.size = t at HW2 HC2 ⊢
  clear g1 g2 g3 g4
  go_loopw [8, 9, 10, 11] (fun i _a _b _c wr => ∃ (j : Nat) (l : List Lk), i = .int .i64 j ∧ j ≤ n ∧ LkW w wr t l ∧ FullAt (min j 60) l ∧ wr.cell? ⟨t + 1, 0, none⟩ = some (.int .i64 1) ∧ wr.cell? ⟨t + 1, 1, none⟩ = some (.int .i64 0)) (fun i _ _ _ _ => n - (intOf i).toNat)
  case atStart => exact ⟨0, [], rfl, Nat.zero_le _, HW2.out, List.Perm.nil, HC2.out⟩
  case round =>
    obtain ⟨j, l, rfl, hj, hW, hF, hcc⟩ := hrel
    have HW : Hid (LkW w wr t l) := hW
    have HFU : Hid (FullAt (min j 60) l) := hF
    have HC : Hid (wr.cell? ⟨t + 1, 0, none⟩ = some (.int .i64 1) ∧ wr.cell? ⟨t + 1, 1, none⟩ = some (.int .i64 0)) := hcc
    obtain ⟨c0, c1⟩ := hcc
    have hcl := lt_of_cell c0
    clear hW hF
    by_cases hlt : j < n
    · have hj2 : (j : Int) < n := by omega
      have hmul : IntKind.i64.wrap (10 * (j : Int)) = 10 * (j : Int) := by simp [IntKind.wrap, IntKind.bits, IntKind.signed]; omega
      by_cases h60 : 60 ≤ j
      · have hd : decide (60 ≤ (j : Int)) = true := decide_eq_true (by omega)
        have HLOC : Hid (Calls Tryd.prog 8 #[.pointer (some ⟨t, 0, none⟩), .agg #[.int .i64 1, .int .i64 0], .int .i64 1, .agg #[.int .i64 (10 * (j : Int)), .int .i64 5], .bool false] wr fun e w' => ∃ (r : Value) (res : Lk) (l' : List Lk), e = .returned (.tuple #[.agg #[.int .i64 res.N, .int .i64 res.G, .int .i64 res.O, .int .i64 res.A, .int .i64 res.S, .bool res.W], r]) ∧ Told A 9 r ∧ FullAt (min (j + 1) 60) l' ∧ LkW w w' t l' ∧ Only [t] wr w') := (HW.out.lock HE3.out 1 0 1 (10 * (j : Int)) 5 false).mono fun e w' hh => by
          obtain ⟨c, r, res, l', he, hr, hw, ho⟩ := hh
          obtain ⟨rfl, hf⟩ := HFU.out.lock (by omega) hr
          refine ⟨r, res, l', he, ?_, hf, hw, ho⟩
          have := hr.told
          rw [if_pos h60] at this
          exact this
        go_wp2_with (first
          | (go_at_call 8; refine HLOC.out.mono ?_; rintro e w3 ⟨r3, res3, l3, rfl, hT3, hF3, hW3, ho3⟩; have HT3 : Hid (Told A 9 r3) := hT3; have HF3 : Hid (FullAt (min (j + 1) 60) l3) := hF3; have HW3 : Hid (LkW w w3 t l3) := hW3; have HO3 : Hid (Only [t] wr w3) := ho3; clear hT3 hF3 hW3 ho3 c0 c1)
          | (go_at_call 10; refine (coded2_any A 9 _ _ (HE.out.below (HW3.out.only ((Only.refl [] _).alloc _)).below (Nat.le_refl _)) HT3.out).mono ?_; rintro e w4 ⟨rfl, hb4⟩; have HO4 : Hid (Only [] w3 w4) := only_nil ((Only.refl [] w3).alloc _) (Only.of_below hb4 []); clear hb4))
        go_roundw
        case rel => exact ⟨j + 1, l3, by go_num, by omega, HW3.out.only HO4.out, HF3.out, (HO4.out.cell (p := ⟨t + 1, 0, none⟩) (Nat.lt_of_lt_of_le (lt_of_cell HC.out.1) HO3.out.size) (by simp)).trans ((HO3.out.cell (p := ⟨t + 1, 0, none⟩) (lt_of_cell HC.out.1) (by simp)).trans HC.out.1), (HO4.out.cell (p := ⟨t + 1, 1, none⟩) (Nat.lt_of_lt_of_le (lt_of_cell HC.out.2) HO3.out.size) (by simp)).trans ((HO3.out.cell (p := ⟨t + 1, 1, none⟩) (lt_of_cell HC.out.2) (by simp)).trans HC.out.2)⟩
        case measure => simp [intOf]; omega
      · have hd : decide (60 ≤ (j : Int)) = false := decide_eq_false (by omega)
        have HLOC : Hid (Calls Tryd.prog 8 #[.pointer (some ⟨t, 0, none⟩), .agg #[.int .i64 1, .int .i64 0], .int .i64 1, .agg #[.int .i64 (10 * (j : Int)), .int .i64 5], .bool false] wr fun e w' => ∃ (r : Value) (res : Lk) (l' : List Lk), e = .returned (.tuple #[.agg #[.int .i64 res.N, .int .i64 res.G, .int .i64 res.O, .int .i64 res.A, .int .i64 res.S, .bool res.W], r]) ∧ Told A 0 r ∧ FullAt (min (j + 1) 60) l' ∧ LkW w w' t l' ∧ Only [t] wr w') := (HW.out.lock HE3.out 1 0 1 (10 * (j : Int)) 5 false).mono fun e w' hh => by
          obtain ⟨c, r, res, l', he, hr, hw, ho⟩ := hh
          obtain ⟨rfl, hf⟩ := HFU.out.lock (by omega) hr
          refine ⟨r, res, l', he, ?_, hf, hw, ho⟩
          have := hr.told
          rw [if_neg h60] at this
          exact this
        go_wp2_with (first
          | (go_at_call 8; refine HLOC.out.mono ?_; rintro e w3 ⟨r3, res3, l3, rfl, hT3, hF3, hW3, ho3⟩; have HT3 : Hid (Told A 0 r3) := hT3; have HF3 : Hid (FullAt (min (j + 1) 60) l3) := hF3; have HW3 : Hid (LkW w w3 t l3) := hW3; have HO3 : Hid (Only [t] wr w3) := ho3; clear hT3 hF3 hW3 ho3 c0 c1)
          | (go_at_call 10; refine (coded2_any A 0 _ _ (HE.out.below (HW3.out.only ((Only.refl [] _).alloc _)).below (Nat.le_refl _)) HT3.out).mono ?_; rintro e w4 ⟨rfl, hb4⟩; have HO4 : Hid (Only [] w3 w4) := only_nil ((Only.refl [] w3).alloc _) (Only.of_below hb4 []); clear hb4))
        go_roundw
        case rel => exact ⟨j + 1, l3, by go_num, by omega, HW3.out.only HO4.out, HF3.out, (HO4.out.cell (p := ⟨t + 1, 0, none⟩) (Nat.lt_of_lt_of_le (lt_of_cell HC.out.1) HO3.out.size) (by simp)).trans ((HO3.out.cell (p := ⟨t + 1, 0, none⟩) (lt_of_cell HC.out.1) (by simp)).trans HC.out.1), (HO4.out.cell (p := ⟨t + 1, 1, none⟩) (Nat.lt_of_lt_of_le (lt_of_cell HC.out.2) HO3.out.size) (by simp)).trans ((HO3.out.cell (p := ⟨t + 1, 1, none⟩) (lt_of_cell HC.out.2) (by simp)).trans HC.out.2)⟩
        case measure => simp [intOf]; omega
    · obtain rfl : j = n := by omega
      have hj2 : decide ((j : Int) < j) = false := decide_eq_false (by omega)
      by_cases hbig : 60 < j
      · have hd : decide (60 < (j : Int)) = true := decide_eq_true (by omega)
        have HFM : Hid (FullAt 60 l) := by show FullAt 60 l; have hh := HFU.out; rw [show min j 60 = 60 by omega] at hh; exact hh
        by_cases hcm : 60 ≤ c
        · have hd2 : decide (60 ≤ (c : Int)) = true := decide_eq_true (by omega)
          have hli := full_list HW.out HFM.out.len
          go_wp2_with (go_at_call 19; refine hli.mono ?_; rintro e w3 ⟨ad, cp, rfl, hb3⟩; have HB3 : Hid (Below w.heap.size w w3) := hb3; clear hli hb3)
          go_ret
          exact ⟨by simp, HB3.out⟩
        · have hd2 : decide (60 ≤ (c : Int)) = false := decide_eq_false (by omega)
          have hmul : IntKind.i64.wrap (10 * (c : Int)) = 10 * (c : Int) := by simp [IntKind.wrap, IntKind.bits, IntKind.signed]; omega
          have hadd : IntKind.i64.wrap (10 * (c : Int) + 2) = 10 * (c : Int) + 2 := by simp [IntKind.wrap, IntKind.bits, IntKind.signed]; omega
          have HUN : Hid (Calls Tryd.prog 14 #[.pointer (some ⟨t, 0, none⟩), .agg #[.int .i64 1, .int .i64 0], .int .i64 1, .agg #[.int .i64 (10 * (c : Int) + 2), .int .i64 1]] wr fun e w' => ∃ (r : Value) (l' : List Lk), e = .returned r ∧ Told A 9 r ∧ l'.length = 60 ∧ LkW w w' t l') := (HW.out.unlock HE3.out 1 0 1 (10 * (c : Int) + 2) 1).mono fun e w' hh => by
            obtain ⟨c9, r, l', he, hr, hw, ho⟩ := hh
            have hu := HFM.out.unlock (by omega) (by omega) hr
            obtain ⟨rfl, hl⟩ := hu.1 rfl
            exact ⟨r, l', he, hr.told, hl, hw⟩
          go_wp2_with (first
            | (go_at_call 14; refine HUN.out.mono ?_; rintro e w3 ⟨r3, l3, rfl, hT3, hl3, hW3⟩; have HT3 : Hid (Told A 9 r3) := hT3; have HW3 : Hid (LkW w w3 t l3) := hW3; have HL3 : Hid (l3.length = 60) := hl3; clear hT3 hl3 hW3 c0 c1)
            | (go_at_call 10; refine (coded2_any A 9 _ _ (HE.out.below HW3.out.below (Nat.le_refl _)) HT3.out).mono ?_; rintro e w4 ⟨rfl, hb4⟩; have HW4 : Hid (LkW w w4 t l3) := HW3.out.only (Only.of_below hb4 []); have hli := full_list HW4.out HL3.out; clear hb4)
            | (go_at_call 19; refine hli.mono ?_; rintro e w5 ⟨ad, cp, rfl, hb5⟩; have HB5 : Hid (Below w.heap.size w w5) := hb5; clear hli hb5))
          go_ret
          exact ⟨by simp, HB5.out⟩
      · have hd : decide (60 < (j : Int)) = false := decide_eq_false (by omega)
        have HFM : Hid (FullAt j l) := by show FullAt j l; have hh := HFU.out; rw [show min j 60 = j by omega] at hh; exact hh
        by_cases hcm : j ≤ c
        · have hd2 : decide ((j : Int) ≤ (c : Int)) = true := decide_eq_true (by omega)
          have hli := full_list HW.out HFM.out.len
          go_wp2_with (go_at_call 19; refine hli.mono ?_; rintro e w3 ⟨ad, cp, rfl, hb3⟩; have HB3 : Hid (Below w.heap.size w w3) := hb3; clear hli hb3)
          go_ret
          exact ⟨by simp, HB3.out⟩
        · have hd2 : decide ((j : Int) ≤ (c : Int)) = false := decide_eq_false (by omega)
          have hmul : IntKind.i64.wrap (10 * (c : Int)) = 10 * (c : Int) := by simp [IntKind.wrap, IntKind.bits, IntKind.signed]; omega
          have hadd : IntKind.i64.wrap (10 * (c : Int) + 2) = 10 * (c : Int) + 2 := by simp [IntKind.wrap, IntKind.bits, IntKind.signed]; omega
          by_cases h60 : j = 60
          · subst h60
            have HUN : Hid (Calls Tryd.prog 14 #[.pointer (some ⟨t, 0, none⟩), .agg #[.int .i64 1, .int .i64 0], .int .i64 1, .agg #[.int .i64 (10 * (c : Int) + 2), .int .i64 1]] wr fun e w' => ∃ (r : Value) (l' : List Lk), e = .returned r ∧ Told A 9 r ∧ l'.length = 60 ∧ LkW w w' t l') := (HW.out.unlock HE3.out 1 0 1 (10 * (c : Int) + 2) 1).mono fun e w' hh => by
              obtain ⟨c9, r, l', he, hr, hw, ho⟩ := hh
              have hu := HFM.out.unlock (by omega) (by omega) hr
              obtain ⟨rfl, hl⟩ := hu.1 rfl
              exact ⟨r, l', he, hr.told, hl, hw⟩
            go_wp2_with (first
              | (go_at_call 14; refine HUN.out.mono ?_; rintro e w3 ⟨r3, l3, rfl, hT3, hl3, hW3⟩; have HT3 : Hid (Told A 9 r3) := hT3; have HW3 : Hid (LkW w w3 t l3) := hW3; have HL3 : Hid (l3.length = 60) := hl3; clear hT3 hl3 hW3 c0 c1)
              | (go_at_call 10; refine (coded2_any A 9 _ _ (HE.out.below HW3.out.below (Nat.le_refl _)) HT3.out).mono ?_; rintro e w4 ⟨rfl, hb4⟩; have HW4 : Hid (LkW w w4 t l3) := HW3.out.only (Only.of_below hb4 []); have hli := full_list HW4.out HL3.out; clear hb4)
              | (go_at_call 19; refine hli.mono ?_; rintro e w5 ⟨ad, cp, rfl, hb5⟩; have HB5 : Hid (Below w.heap.size w w5) := hb5; clear hli hb5))
            go_ret
            exact ⟨by simp, HB5.out⟩
          · have hd6 : ((j : Int) == 60) = false := beq_eq_false_iff_ne.2 (by omega)
            have hadd1 : IntKind.i64.wrap ((j : Int) + 1) = (j : Int) + 1 := by simp [IntKind.wrap, IntKind.bits, IntKind.signed]; omega
            have HUN : Hid (Calls Tryd.prog 14 #[.pointer (some ⟨t, 0, none⟩), .agg #[.int .i64 1, .int .i64 0], .int .i64 1, .agg #[.int .i64 (10 * (c : Int) + 2), .int .i64 1]] wr fun e w' => ∃ (r : Value) (l' : List Lk), e = .returned r ∧ r = .nilIface ∧ l'.length = j + 1 ∧ LkW w w' t l') := (HW.out.unlock HE3.out 1 0 1 (10 * (c : Int) + 2) 1).mono fun e w' hh => by
              obtain ⟨c9, r, l', he, hr, hw, ho⟩ := hh
              have hu := HFM.out.unlock (by omega) (by omega) hr
              obtain ⟨hr0, hl⟩ := hu.2 h60
              exact ⟨r, l', he, hr0, hl, hw⟩
            go_wp2_with (first
              | (go_at_call 14; refine HUN.out.mono ?_; rintro e w3 ⟨r3, l3, rfl, hT3, hl3, hW3⟩; subst hT3; have HW3 : Hid (LkW w w3 t l3) := hW3; have hli := full_list hW3 hl3; clear hl3 hW3 c0 c1)
              | (go_at_call 19; refine hli.mono ?_; rintro e w5 ⟨ad, cp, rfl, hb5⟩; have HB5 : Hid (Below w.heap.size w w5) := hb5; clear hli hb5))
            go_ret
            exact ⟨by simp, HB5.out⟩
end Go.Proofs.YtfnniphemlnanaaDoor
