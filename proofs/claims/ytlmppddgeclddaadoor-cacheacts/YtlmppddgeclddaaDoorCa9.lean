/- CacheActs: the walk. -/
import Derived.Test.YtlmppddgeclddaaDoorCa8
import Derived.Deep.Cut
import Derived.Deep.DeepCutAuto
namespace Go.Proofs.YtlmppddgeclddaaDoor
open Go Go.RowKit Go.Deep Go.Maps

def KActsAt (w : World) (ab ao len : Nat) (P : Nat → KAct) : Prop :=
  ∀ i, i < len → w.cell? ⟨ab, ao + i * 5, none⟩ = some (.bool (P i).K) ∧ w.cell? ⟨ab, ao + i * 5 + 1, none⟩ = some (.string (P i).C) ∧ w.cell? ⟨ab, ao + i * 5 + 2, none⟩ = some (.string (P i).T) ∧ w.cell? ⟨ab, ao + i * 5 + 3, none⟩ = some (.string (P i).R) ∧ w.cell? ⟨ab, ao + i * 5 + 4, none⟩ = some (.int .i64 (P i).I) ∧ OkQ ((P i).C, (P i).I)
def IsKActs (w : World) (a : Option Addr) (len : Nat) : Prop := len = 0 ∨ ∃ ab ao P, a = some ⟨ab, ao, none⟩ ∧ KActsAt w ab ao len P
def Good13 (W w : World) (t m most : Nat) : Prop := ∃ L, M2 W w t m most L L
set_option maxRecDepth 100000 in
set_option maxHeartbeats 8000000 in
theorem kacts_walk (most : Nat) (ad0 : Option Addr) (len cap : Nat) (A : Nat → Addr) (w : World) (hP : IsKActs w ad0 len) (hE : Errs w A) (hl : len ≤ 80) (h1 : 1 ≤ most) (h2 : most ≤ 20) : Calls Tryd.prog 3 #[.int .i64 (most : Nat), .slice ad0 len cap] w fun e w' => e = .returned (.bool true) ∧ Below w.heap.size w w' := by
  have HP : Hid (IsKActs w ad0 len) := hP
  have HE : Hid (Errs w A) := hE
  have hh := kept_any A w hE.four
  have g1 : decide (80 < (len : Int)) = false := decide_eq_false (by omega)
  have g2 : decide ((most : Int) < 1) = false := decide_eq_false (by omega)
  have g3 : decide ((20 : Int) < most) = false := decide_eq_false (by omega)
  have HNEW : Hid (∀ W, Calls Tryd.prog 6 #[.int .i64 (most : Nat)] W fun e w' => NewR W w' most e) := fun W => new_ok W most h1 h2
  clear hP hE h1 h2
  go_enter Tryd.func3, Tryd.ntmps3
  go_wp2_with (first
    | (go_at_call 5; refine hh.mono ?_; rintro e w1 ⟨rfl, hb1⟩; have HB1 : Hid (Below w.heap.size w w1) := hb1; clear hh hb1)
    | (go_at_call 6; refine (HNEW.out w1).mono ?_; rintro e w2 hN; obtain ⟨t, rfl, hc2⟩ := CaW.new HB1.out hN; have HG0 : Hid (Good13 w (w2.alloc (.cells #[.int .i64 (most : Nat), .slice none 0 0] 33)) t w2.heap.size most) := ⟨[], M2.fresh hc2⟩; clear hN hc2)
    | go_in)
  generalize w2.alloc (.cells #[.int .i64 (most : Nat), .slice none 0 0] 33) = w0 at HG0 ⊢
  generalize w2.heap.size = m at HG0 ⊢
  clear g1 g2 g3
  go_loopw [9] (fun i wr => ∃ j : Nat, i = .int .i64 (j : Nat) ∧ j ≤ len ∧ Good13 w wr t m most) (fun i _ => len - (intOf i).toNat)
  case atStart => exact ⟨0, rfl, Nat.zero_le _, HG0.out⟩
  case round =>
    obtain ⟨j, rfl, hj, L, hM⟩ := hrel
    clear HG0
    have HBE : Hid (Below w.heap.size w wr) := hM.below
    by_cases hlt : j < len
    · have hj2 : (j : Int) < len := by omega
      obtain ⟨ab, ao, Q, rfl, hPP⟩ := HP.out.resolve_left (by omega)
      obtain ⟨x, hx⟩ : ∃ x, Q j = x := ⟨_, rfl⟩
      obtain ⟨p0, p1, p2, p3, p4, p5⟩ := hPP j hlt
      rw [hx] at p0 p1 p2 p3 p4 p5
      have k : ∀ (o : Nat) (u : Value), w.cell? ⟨ab, o, none⟩ = some u → wr.cell? ⟨ab, o, none⟩ = some u := fun o u hc => (hM.below.cell (p := ⟨ab, o, none⟩) (lt_of_cell hc)).trans hc
      have c0 := k _ _ p0
      have c1 := k _ _ p1
      have c2 := k _ _ p2
      have c3 := k _ _ p3
      have c4 := k _ _ p4
      have HQ : Hid (OkQ (x.C, x.I)) := p5
      clear p0 p1 p2 p3 p4 p5 k hPP hx
      have HM0 : Hid (M2 w wr t m most L L) := hM
      have HTI : Hid (KInv most L) := hM.inv
      clear hM
      by_cases hbg : (1000 : Int) < wrap64 (wrap64 ((x.T.size : Int) + (x.R.size : Int)) + (x.C.size : Int))
      · have hbd : decide ((1000 : Int) < wrap64 (wrap64 ((x.T.size : Int) + (x.R.size : Int)) + (x.C.size : Int))) = true := decide_eq_true hbg
        go_wp2
        go_ret
        exact ⟨rfl, HBE.out.alloc HBE.out.size _⟩
      · have hbd : decide ((1000 : Int) < wrap64 (wrap64 ((x.T.size : Int) + (x.R.size : Int)) + (x.C.size : Int))) = false := decide_eq_false hbg
        go_upto_region 16 with fail
        have HM1 : Hid (M2 w (wr.alloc (.cells #[.bool x.K, .string x.C, .string x.T, .string x.R, .int .i64 x.I] 35)) t m most L L) := HM0.out.only ((Only.refl [] wr).alloc _)
        have HBX : Hid (BxK (wr.alloc (.cells #[.bool x.K, .string x.C, .string x.T, .string x.R, .int .i64 x.I] 35)) wr.heap.size x) := heap_alloc_last wr _
        clear c0 c1 c2 c3 c4
        generalize wr.alloc (.cells #[.bool x.K, .string x.C, .string x.T, .string x.R, .int .i64 x.I] 35) = wb at HM1 HBX ⊢
        generalize wr.heap.size = b at HBX ⊢
        have HCOD : Hid (∀ W c, Below w.heap.size w W → c ≤ 15 → Calls Tryd.prog 7 #[errN A c, .int .i64 ((c : Nat) : Int)] W fun e w' => e = .returned (.bool true) ∧ Only [] W w') := fun W c hb hc => (coded3_any A c _ W (HE.out.below hb (Nat.le_refl _)) (told_errN A hc)).mono fun e w' hh => ⟨hh.1, Only.of_below hh.2 []⟩
        obtain ⟨y0, y1, y2, y3, y4⟩ := bxK_cells HBX.out
        clear hbg hbd HM0 HBE
        cases hK : x.K with
        | false =>
          rw [hK] at y0
          clear hK
          obtain ⟨c, hc⟩ : ∃ c, (lookK L (x.C, x.I) x.T).1 = c := ⟨_, rfl⟩
          obtain ⟨is, his⟩ : ∃ is, (lookK L (x.C, x.I) x.T).2.1 = is := ⟨_, rfl⟩
          obtain ⟨rp, hrp⟩ : ∃ rp, (lookK L (x.C, x.I) x.T).2.2 = rp := ⟨_, rfl⟩
          have HBP : Hid (Calls Tryd.prog 10 #[.pointer (some ⟨t, 0, none⟩), .string x.C, .int .i64 x.I, .string x.T] wb fun e w' => e = .returned (.tuple #[.string rp, .bool is, errN A c]) ∧ Only [] wb w') := by
            have := HM1.out.lookP HE.out (s := x.T) HQ.out
            unfold lookV at this
            rw [hc, his, hrp] at this
            exact this
          have HBD : Hid (∀ W, Only [] wb W → Calls Tryd.prog 11 #[.pointer (some ⟨m, 0, none⟩), .string x.C, .int .i64 x.I, .string x.T] W fun e w' => e = .returned (.tuple #[.string rp, .bool is, .int .i64 (c : Nat)]) ∧ W = w') := fun W ho => by
            have := (HM1.out.only ho).lookD (by have := HTI.out.len; have := HTI.out.most2; omega) (k := (x.C, x.I)) (s := x.T)
            unfold rlookV at this
            rw [hc, his, hrp] at this
            exact this
          have HC15 : Hid (c ≤ 15) := by show _ ≤ _; rw [← hc]; exact lookK_le L _ _
          have hbb : (rp.toList == rp.toList) = true := by simp
          clear hc his hrp
          go_upto_region 23 with (first
            | (go_at_call 10; refine HBP.out.mono ?_; rintro e w3 ⟨rfl, ho3⟩; have HO3 : Hid (Only [] wb w3) := ho3; have hbd := HBD.out w3 ho3; clear ho3 y0 y1 y2 y3 y4; obtain ⟨y0, y1, y2, y3, y4⟩ := bxK_cells (HBX.out.only HO3.out); generalize hern : errN A c = er; have HER : Hid (errN A c = er) := hern; clear hern)
            | (go_at_call 11; refine hbd.mono ?_; rintro e w4 ⟨rfl, rfl⟩; have hcod := HCOD.out w3 c (HM1.out.only HO3.out).below HC15.out; rw [HER.out] at hcod; clear hbd)
            | (go_at_call 7; refine hcod.mono ?_; rintro e w5 ⟨rfl, ho5⟩; have HN5 : Hid (M2 w w5 t m most L L) := (HM1.out.only HO3.out).only ho5; clear hcod ho5)
            | go_in)
          have HM9 : Hid (M2 w w5.drew t m most L L) := HN5.out.only (Only.refl [] w5).drew
          obtain ⟨ad9, cap9, k9, kl9⟩ := HM9.out.row
          have hcnt := HM9.out.count
          have HG9 : Hid (Good13 w w5.drew t m most) := ⟨L, HM9.out⟩
          generalize (L).length = n9 at k9 hcnt
          go_region_held3 (fun W => W.cell? ⟨m, 1, none⟩ = some (.slice ad9 n9 cap9)) (with_reducible exact k9)
            (first | (go_at_call 12; refine hcnt.mono ?_; rintro e w9 ⟨rfl, rfl⟩))
          go_wp2
          go_roundw
          case rel => exact ⟨j + 1, by go_num, by omega, HG9.out⟩
          case measure => simp [intOf]; omega
        | true =>
          rw [hK] at y0
          clear hK
          go_upto_region 17 with fail
          have HMD : Hid (M2 w wb.drew t m most L L) := HM1.out.only (Only.refl [] wb).drew
          have HXD : Hid (BxK wb.drew b x) := HBX.out.only (Only.refl [] wb).drew
          have HS0 : Hid (wb.drew.cell? ⟨b, 1, none⟩ = some (.string x.C) ∧ wb.drew.cell? ⟨b, 2, none⟩ = some (.string x.T) ∧ wb.drew.cell? ⟨b, 3, none⟩ = some (.string x.R) ∧ wb.drew.cell? ⟨b, 4, none⟩ = some (.int .i64 x.I)) := (bxK_cells HXD.out).2
          have HEP : Hid (∀ _u : Unit, Calls Tryd.prog 8 #[.pointer (some ⟨t, 0, none⟩), .string x.C, .int .i64 x.I, .string x.T, .string x.R] wb.drew fun e w' => e = .returned (errN A (keepK most L x.kp).1) ∧ M2 w w' t m most (keepK most L x.kp).2 L ∧ ∀ d x, BxK wb.drew d x → BxK w' d x) := fun _ => HMD.out.keepP HE.out x.kp HQ.out
          have HC5 : Hid ((keepK most L x.kp).1 ≤ 15) := keepK_le most L x.kp
          have HED : Hid (∀ W Lp, M2 w W t m most Lp L → Calls Tryd.prog 9 #[.pointer (some ⟨m, 0, none⟩), .string x.C, .int .i64 x.I, .string x.T, .string x.R] W fun e w' => e = .returned (.int .i64 ((keepK most L x.kp).1 : Nat)) ∧ M2 w w' t m most Lp (keepK most L x.kp).2 ∧ ∀ d x, BxK W d x → BxK w' d x) := fun W Lp h => h.keepD HTI.out x.kp
          clear y0 y1 y2 y3 y4
          generalize (keepK most L x.kp).1 = c2 at HEP HED HC5
          generalize (keepK most L x.kp).2 = L2 at HEP HED
          go_region_held3 (fun W => W.cell? ⟨b, 1, none⟩ = some (.string x.C) ∧ W.cell? ⟨b, 2, none⟩ = some (.string x.T) ∧ W.cell? ⟨b, 3, none⟩ = some (.string x.R) ∧ W.cell? ⟨b, 4, none⟩ = some (.int .i64 x.I)) (with_reducible first | exact HS0.out | exact HS3.out | exact HS4.out | exact HS5.out)
            (first
              | (go_at_call 8; refine (HEP.out ()).mono ?_; rintro e w3 ⟨rfl, hT, hB⟩; have HN3 : Hid (M2 w w3 t m most L2 L) := hT; have HB3 : Hid (BxK w3 b x) := hB b x HXD.out; have HS3 : Hid (w3.cell? ⟨b, 1, none⟩ = some (.string x.C) ∧ w3.cell? ⟨b, 2, none⟩ = some (.string x.T) ∧ w3.cell? ⟨b, 3, none⟩ = some (.string x.R) ∧ w3.cell? ⟨b, 4, none⟩ = some (.int .i64 x.I)) := (bxK_cells HB3.out).2; clear hT hB)
              | (go_at_call 9; refine (HED.out w3 L2 HN3.out).mono ?_; rintro e w4 ⟨rfl, hT2, hB2⟩; have HB4 : Hid (BxK w4 b x) := hB2 b x HB3.out; have HS4 : Hid (w4.cell? ⟨b, 1, none⟩ = some (.string x.C) ∧ w4.cell? ⟨b, 2, none⟩ = some (.string x.T) ∧ w4.cell? ⟨b, 3, none⟩ = some (.string x.R) ∧ w4.cell? ⟨b, 4, none⟩ = some (.int .i64 x.I)) := (bxK_cells HB4.out).2; have HN4 : Hid (M2 w w4 t m most L2 L2) := hT2; clear hT2 hB2)
              | (go_at_call 7; refine (HCOD.out w4 c2 HN4.out.below HC5.out).mono ?_; rintro e w5 ⟨rfl, ho5⟩; have HN5 : Hid (M2 w w5 t m most L2 L2) := HN4.out.only ho5; have HS5 : Hid (w5.cell? ⟨b, 1, none⟩ = some (.string x.C) ∧ w5.cell? ⟨b, 2, none⟩ = some (.string x.T) ∧ w5.cell? ⟨b, 3, none⟩ = some (.string x.R) ∧ w5.cell? ⟨b, 4, none⟩ = some (.int .i64 x.I)) := (bxK_cells (HB4.out.only ho5)).2; clear ho5))
          go_wp2_with fail
          have HM9 : Hid (M2 w w5.drew t m most L2 L2) := HN5.out.only (Only.refl [] w5).drew
          obtain ⟨ad9, cap9, k9, kl9⟩ := HM9.out.row
          have hcnt := HM9.out.count
          have HG9 : Hid (Good13 w w5.drew t m most) := ⟨L2, HM9.out⟩
          generalize (L2).length = n9 at k9 hcnt
          go_region_held3 (fun W => W.cell? ⟨m, 1, none⟩ = some (.slice ad9 n9 cap9)) (with_reducible exact k9)
            (first | (go_at_call 12; refine hcnt.mono ?_; rintro e w9 ⟨rfl, rfl⟩))
          go_wp2
          go_roundw
          case rel => exact ⟨j + 1, by go_num, by omega, HG9.out⟩
          case measure => simp [intOf]; omega
    · obtain rfl : j = len := by omega
      have hj2 : decide ((j : Int) < j) = false := decide_eq_false (by omega)
      go_wp2
      go_ret
      exact ⟨rfl, HBE.out⟩
/-! ### a number that is none -/
set_option maxRecDepth 100000 in
set_option maxHeartbeats 2000000 in
theorem kacts_bad (mo : Int) (ad0 : Option Addr) (len cap : Nat) (A : Nat → Addr) (w : World) (hE : Errs w A) (hl : len ≤ 80) (hm : mo < 1 ∨ 20 < mo) : Calls Tryd.prog 3 #[.int .i64 mo, .slice ad0 len cap] w fun e w' => e = .returned (.bool true) ∧ Below w.heap.size w w' := by
  have HE : Hid (Errs w A) := hE
  have hh := kept_any A w hE.four
  have g1 : decide (80 < (len : Int)) = false := decide_eq_false (by omega)
  have HNEW : Hid (∀ W, Below w.heap.size w W → Calls Tryd.prog 6 #[.int .i64 mo] W fun e w' => e = .returned (.tuple #[.pointer none, .iface 97 (.pointer (some (A 1)))]) ∧ Only [] W w') := fun W hb => new_bad A W mo (HE.out.four.below hb) hm
  have HCOD : Hid (∀ W, Below w.heap.size w W → Calls Tryd.prog 7 #[.iface 97 (.pointer (some (A 1))), .int .i64 2] W fun e w' => e = .returned (.bool true) ∧ Below W.heap.size W w') := fun W hb => coded3_any A 2 _ W (HE.out.below hb (Nat.le_refl _)) (Or.inr ⟨1, by omega, rfl, rfl⟩)
  clear hE
  by_cases h1 : mo < 1
  · have g2 : decide (mo < 1) = true := decide_eq_true h1
    clear hm
    go_enter Tryd.func3, Tryd.ntmps3
    go_wp2_with (first
      | (go_at_call 5; refine hh.mono ?_; rintro e w1 ⟨rfl, hb1⟩; have HB1 : Hid (Below w.heap.size w w1) := hb1; have hnew := HNEW.out w1 hb1; clear hh hb1)
      | (go_at_call 6; refine hnew.mono ?_; rintro e w2 ⟨rfl, ho2⟩; have HB2 : Hid (Below w.heap.size w w2) := HB1.out.trans (ho2.to_below HB1.out.size (fun _ hk => by cases hk)); have hcod := HCOD.out w2 HB2.out; clear hnew ho2)
      | (go_at_call 7; refine hcod.mono ?_; rintro e w3 ⟨rfl, hb3⟩; have HB3 : Hid (Below w.heap.size w w3) := HB2.out.trans (hb3.mono HB2.out.size); clear hcod hb3)
      | go_in)
    go_ret
    exact ⟨rfl, HB3.out⟩
  · have g2 : decide (mo < 1) = false := decide_eq_false h1
    have g3 : decide (20 < mo) = true := decide_eq_true (by omega)
    clear hm
    go_enter Tryd.func3, Tryd.ntmps3
    go_wp2_with (first
      | (go_at_call 5; refine hh.mono ?_; rintro e w1 ⟨rfl, hb1⟩; have HB1 : Hid (Below w.heap.size w w1) := hb1; have hnew := HNEW.out w1 hb1; clear hh hb1)
      | (go_at_call 6; refine hnew.mono ?_; rintro e w2 ⟨rfl, ho2⟩; have HB2 : Hid (Below w.heap.size w w2) := HB1.out.trans (ho2.to_below HB1.out.size (fun _ hk => by cases hk)); have hcod := HCOD.out w2 HB2.out; clear hnew ho2)
      | (go_at_call 7; refine hcod.mono ?_; rintro e w3 ⟨rfl, hb3⟩; have HB3 : Hid (Below w.heap.size w w3) := HB2.out.trans (hb3.mono HB2.out.size); clear hcod hb3)
      | go_in)
    go_ret
    exact ⟨rfl, HB3.out⟩
set_option maxRecDepth 100000 in
set_option maxHeartbeats 1000000 in
theorem kacts_long (mo : Int) (a : Option Addr) (len cap : Nat) (A : Nat → Addr) (w : World) (hE : Errs w A) (hl : 80 < len) : Calls Tryd.prog 3 #[.int .i64 mo, .slice a len cap] w fun e w' => e = .returned (.bool true) ∧ Below w.heap.size w w' := by
  have hh := kept_any A w hE.four
  have g1 : decide (80 < (len : Int)) = true := decide_eq_true (by omega)
  clear hE
  go_enter Tryd.func3, Tryd.ntmps3
  go_wp2_with (go_at_call 5; refine hh.mono ?_; rintro e w1 ⟨rfl, hb1⟩; have HB : Hid (Below w.heap.size w w1) := hb1; clear hh hb1)
  go_ret
  exact ⟨rfl, HB.out⟩
theorem kacts_all (mo : Int) (a : Option Addr) (len cap : Nat) (A : Nat → Addr) (w : World) (hP : IsKActs w a len) (hE : Errs w A) : Calls Tryd.prog 3 #[.int .i64 mo, .slice a len cap] w fun e w' => e = .returned (.bool true) ∧ Below w.heap.size w w' := by
  by_cases hl : 80 < len
  · exact kacts_long mo a len cap A w hE hl
  · by_cases hm : mo < 1 ∨ 20 < mo
    · exact kacts_bad mo a len cap A w hE (by omega) hm
    · obtain ⟨k, rfl⟩ : ∃ k : Nat, mo = (k : Int) := ⟨mo.toNat, by omega⟩
      exact kacts_walk k a len cap A w hP hE (by omega) (by omega) (by omega)
end Go.Proofs.YtlmppddgeclddaaDoor
