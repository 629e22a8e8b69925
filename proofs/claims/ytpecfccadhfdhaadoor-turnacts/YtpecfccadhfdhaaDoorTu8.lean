/- TurnActs: the walk. -/
import Derived.Test.YtpecfccadhfdhaaDoorTu7
import Derived.Deep.Cut
import Derived.Deep.DeepCutAuto
namespace Go.Proofs.YtpecfccadhfdhaaDoor
open Go Go.RowKit Go.Deep Go.Maps

def TActsAt (w : World) (ab ao len : Nat) (P : Nat → TuAct) : Prop :=
  ∀ i, i < len → w.cell? ⟨ab, ao + i * 4, none⟩ = some (.string (P i).K) ∧ w.cell? ⟨ab, ao + i * 4 + 1, none⟩ = some (.string (P i).R) ∧ w.cell? ⟨ab, ao + i * 4 + 2, none⟩ = some (.int .i64 (P i).O) ∧ w.cell? ⟨ab, ao + i * 4 + 3, none⟩ = some (.int .i64 (P i).Q) ∧ I64 (P i).O
def IsTActs (w : World) (a : Option Addr) (len : Nat) : Prop := len = 0 ∨ ∃ ab ao P, a = some ⟨ab, ao, none⟩ ∧ TActsAt w ab ao len P
def Good10 (W w : World) (t m : Nat) : Prop := ∃ L, M2 W w t m L L ∧ TInv L
set_option maxRecDepth 100000 in
set_option maxHeartbeats 8000000 in
theorem tacts_walk (ad0 : Option Addr) (len cap : Nat) (A : Nat → Addr) (w : World) (hP : IsTActs w ad0 len) (hE : Errs w A) (hl : len ≤ 100) : Calls Tryd.prog 3 #[.slice ad0 len cap] w fun e w' => e = .returned (.bool true) ∧ Below w.heap.size w w' := by
  have HP : Hid (IsTActs w ad0 len) := hP
  have HE : Hid (Errs w A) := hE
  have hh := turned_any A w hE.four
  have g1 : decide (100 < (len : Int)) = false := decide_eq_false (by omega)
  clear hP hE
  go_enter Tryd.func3, Tryd.ntmps3
  go_wp2_with (first
    | (go_at_call 5; refine hh.mono ?_; rintro e w1 ⟨rfl, hb1⟩; have HG0 : Hid (Good10 w ((w1.alloc (.cells #[.map none] 27)).alloc (.cells #[.slice none 0 0] 31)) w1.heap.size (w1.heap.size + 1)) := ⟨[], M2.fresh hb1, TInv.nil⟩; clear hh hb1)
    | go_in)
  generalize (w1.alloc (.cells #[.map none] 27)).alloc (.cells #[.slice none 0 0] 31) = w0 at HG0 ⊢
  generalize w1.heap.size + 1 = m at HG0 ⊢
  generalize w1.heap.size = t at HG0 ⊢
  clear g1
  go_loopw [6] (fun i wr => ∃ j : Nat, i = .int .i64 (j : Nat) ∧ j ≤ len ∧ Good10 w wr t m) (fun i _ => len - (intOf i).toNat)
  case atStart => exact ⟨0, rfl, Nat.zero_le _, HG0.out⟩
  case round =>
    obtain ⟨j, rfl, hj, L, hM, hI⟩ := hrel
    clear HG0
    have HBE : Hid (Below w.heap.size w wr) := hM.below
    by_cases hlt : j < len
    · have hj2 : (j : Int) < len := by omega
      obtain ⟨ab, ao, Q, rfl, hPP⟩ := HP.out.resolve_left (by omega)
      obtain ⟨x, hx⟩ : ∃ x, Q j = x := ⟨_, rfl⟩
      obtain ⟨p0, p1, p2, p3, p4⟩ := hPP j hlt
      rw [hx] at p0 p1 p2 p3 p4
      have k : ∀ (o : Nat) (u : Value), w.cell? ⟨ab, o, none⟩ = some u → wr.cell? ⟨ab, o, none⟩ = some u := fun o u hc => (hM.below.cell (p := ⟨ab, o, none⟩) (lt_of_cell hc)).trans hc
      have c0 := k _ _ p0
      have c1 := k _ _ p1
      have c2 := k _ _ p2
      have c3 := k _ _ p3
      have HI64 : Hid (I64 x.O) := p4
      clear p0 p1 p2 p3 p4 k hPP hx
      have HM0 : Hid (M2 w wr t m L L) := hM
      have HTI : Hid (TInv L) := hI
      clear hM hI
      by_cases hbig : 1000 < x.R.size
      · go_wp2
        go_ret
        exact ⟨rfl, HBE.out.alloc HBE.out.size _⟩
      · go_upto_region 12 with fail
        have HM1 : Hid (M2 w (wr.alloc (.cells #[.string x.K, .string x.R, .int .i64 x.O, .int .i64 x.Q] 33)) t m L L) := HM0.out.only ((Only.refl [] wr).alloc _)
        have HBX : Hid (BxT (wr.alloc (.cells #[.string x.K, .string x.R, .int .i64 x.O, .int .i64 x.Q] 33)) wr.heap.size x) := heap_alloc_last wr _
        clear c0 c1 c2 c3
        generalize wr.alloc (.cells #[.string x.K, .string x.R, .int .i64 x.O, .int .i64 x.Q] 33) = wb at HM1 HBX ⊢
        generalize wr.heap.size = b at HBX ⊢
        have HCOD : Hid (∀ W c, Below w.heap.size w W → c ≤ 15 → Calls Tryd.prog 8 #[errN A c, .int .i64 ((c : Nat) : Int)] W fun e w' => e = .returned (.bool true) ∧ Only [] W w') := fun W c hb hc => (coded2_any A c _ W (HE.out.below hb (Nat.le_refl _)) (told_errN A hc)).mono fun e w' hh => ⟨hh.1, Only.of_below hh.2 []⟩
        obtain ⟨y0, y1, y2, y3⟩ := bxT_cells HBX.out
        clear hbig HM0 HBE
        obtain ⟨c, hc⟩ : ∃ c, (begT L x.O x.Q).1 = c := ⟨_, rfl⟩
        obtain ⟨ag, hag⟩ : ∃ ag, (begT L x.O x.Q).2.1 = ag := ⟨_, rfl⟩
        obtain ⟨rp, hrp⟩ : ∃ rp, (begT L x.O x.Q).2.2 = rp := ⟨_, rfl⟩
        have HBP : Hid (Calls Tryd.prog 6 #[.pointer (some ⟨t, 0, none⟩), .int .i64 x.O, .int .i64 x.Q] wb fun e w' => e = .returned (.tuple #[.string rp, .bool ag, errN A c]) ∧ Only [] wb w') := by
          have := HM1.out.begP HE.out (q := x.Q) HI64.out
          unfold begV at this
          rw [hc, hag, hrp] at this
          exact this
        have HBD : Hid (∀ W, Only [] wb W → Calls Tryd.prog 7 #[.pointer (some ⟨m, 0, none⟩), .int .i64 x.O, .int .i64 x.Q] W fun e w' => e = .returned (.tuple #[.string rp, .bool ag, .int .i64 (c : Nat)]) ∧ W = w') := fun W ho => by
          have := (HM1.out.only ho).begD HTI.out (o := x.O) (q := x.Q)
          unfold rbegV at this
          rw [hc, hag, hrp] at this
          exact this
        have HC15 : Hid (c ≤ 15) := by show _ ≤ _; rw [← hc]; exact begT_le L x.O x.Q
        clear hc hag hrp
        go_wp2_with (first
          | (go_at_call 6; refine HBP.out.mono ?_; rintro e w3 ⟨rfl, ho3⟩; have HO3 : Hid (Only [] wb w3) := ho3; have hbd := HBD.out w3 ho3; clear ho3 y0 y1 y2 y3; obtain ⟨y0, y1, y2, y3⟩ := bxT_cells (HBX.out.only HO3.out); generalize hern : errN A c = er; have HER : Hid (errN A c = er) := hern; clear hern)
          | (go_at_call 7; refine hbd.mono ?_; rintro e w4 ⟨rfl, rfl⟩; have hcod := HCOD.out w3 c (HM1.out.only HO3.out).below HC15.out; rw [HER.out] at hcod; clear hbd)
          | (go_at_call 8; refine hcod.mono ?_; rintro e w5 ⟨rfl, ho5⟩; have HN5 : Hid (M2 w w5 t m L L) := (HM1.out.only HO3.out).only ho5; have HTI5 : Hid (TInv L) := HTI.out; clear hcod ho5)
          | go_in)
        · have HM9 : Hid (M2 w w5.drew t m L L) := HN5.out.only (Only.refl [] w5).drew
          obtain ⟨ad9, cap9, k9, kl9⟩ := HM9.out.row
          have hcnt := HM9.out.count
          have HG9 : Hid (Good10 w w5.drew t m) := ⟨L, HM9.out, HTI5.out⟩
          generalize (L).length = n9 at k9 hcnt
          go_region_held3 (fun W => W.cell? ⟨m, 0, none⟩ = some (.slice ad9 n9 cap9)) (with_reducible exact k9)
            (first | (go_at_call 13; refine hcnt.mono ?_; rintro e w9 ⟨rfl, rfl⟩))
          go_wp2
          go_roundw
          case rel => exact ⟨j + 1, by go_num, by omega, HG9.out⟩
          case measure => simp [intOf]; omega
        · have HMD : Hid (M2 w wb.drew t m L L) := HM1.out.only (Only.refl [] wb).drew
          have HXD : Hid (BxT wb.drew b x) := HBX.out.only (Only.refl [] wb).drew
          have HS0 : Hid (wb.drew.cell? ⟨b, 1, none⟩ = some (.string x.R) ∧ wb.drew.cell? ⟨b, 2, none⟩ = some (.int .i64 x.O) ∧ wb.drew.cell? ⟨b, 3, none⟩ = some (.int .i64 x.Q)) := (bxT_cells HXD.out).2
          have HEP : Hid (∀ _u : Unit, Calls Tryd.prog 9 #[.pointer (some ⟨t, 0, none⟩), .int .i64 x.O, .int .i64 x.Q, .string x.R] wb.drew fun e w' => e = .returned (errN A (endT L x.O x.Q x.R).1) ∧ M2 w w' t m (endT L x.O x.Q x.R).2 L ∧ ∀ b x, BxT wb.drew b x → BxT w' b x) := fun _ => HMD.out.endP HE.out HI64.out
          have HTI5 : Hid (TInv (endT L x.O x.Q x.R).2) := HTI.out.end x.O x.Q x.R
          have HC5 : Hid ((endT L x.O x.Q x.R).1 ≤ 15) := endT_le L x.O x.Q x.R
          have HED : Hid (∀ W Lp, M2 w W t m Lp L → Calls Tryd.prog 10 #[.pointer (some ⟨m, 0, none⟩), .int .i64 x.O, .int .i64 x.Q, .string x.R] W fun e w' => e = .returned (.int .i64 ((endT L x.O x.Q x.R).1 : Nat)) ∧ M2 w w' t m Lp (endT L x.O x.Q x.R).2 ∧ ∀ b x, BxT W b x → BxT w' b x) := fun W Lp h => h.endD HTI.out
          clear y0 y1 y2 y3
          generalize (endT L x.O x.Q x.R).1 = c2 at HEP HED HC5
          generalize (endT L x.O x.Q x.R).2 = L2 at HEP HED HTI5
          go_region_held3 (fun W => W.cell? ⟨b, 1, none⟩ = some (.string x.R) ∧ W.cell? ⟨b, 2, none⟩ = some (.int .i64 x.O) ∧ W.cell? ⟨b, 3, none⟩ = some (.int .i64 x.Q)) (with_reducible first | exact HS0.out | exact HS3.out | exact HS4.out | exact HS5.out)
            (first
              | (go_at_call 9; refine (HEP.out ()).mono ?_; rintro e w3 ⟨rfl, hT, hB⟩; have HN3 : Hid (M2 w w3 t m L2 L) := hT; have HB3 : Hid (BxT w3 b x) := hB b x HXD.out; have HS3 : Hid (w3.cell? ⟨b, 1, none⟩ = some (.string x.R) ∧ w3.cell? ⟨b, 2, none⟩ = some (.int .i64 x.O) ∧ w3.cell? ⟨b, 3, none⟩ = some (.int .i64 x.Q)) := (bxT_cells HB3.out).2; clear hT hB)
              | (go_at_call 10; refine (HED.out w3 L2 HN3.out).mono ?_; rintro e w4 ⟨rfl, hT2, hB2⟩; have HB4 : Hid (BxT w4 b x) := hB2 b x HB3.out; have HS4 : Hid (w4.cell? ⟨b, 1, none⟩ = some (.string x.R) ∧ w4.cell? ⟨b, 2, none⟩ = some (.int .i64 x.O) ∧ w4.cell? ⟨b, 3, none⟩ = some (.int .i64 x.Q)) := (bxT_cells HB4.out).2; have HN4 : Hid (M2 w w4 t m L2 L2) := hT2; clear hT2 hB2)
              | (go_at_call 8; refine (HCOD.out w4 c2 HN4.out.below HC5.out).mono ?_; rintro e w5 ⟨rfl, ho5⟩; have HN5 : Hid (M2 w w5 t m L2 L2) := HN4.out.only ho5; have HS5 : Hid (w5.cell? ⟨b, 1, none⟩ = some (.string x.R) ∧ w5.cell? ⟨b, 2, none⟩ = some (.int .i64 x.O) ∧ w5.cell? ⟨b, 3, none⟩ = some (.int .i64 x.Q)) := (bxT_cells (HB4.out.only ho5)).2; clear ho5))
          go_wp2_with fail
          have HM9 : Hid (M2 w w5.drew t m L2 L2) := HN5.out.only (Only.refl [] w5).drew
          obtain ⟨ad9, cap9, k9, kl9⟩ := HM9.out.row
          have hcnt := HM9.out.count
          have HG9 : Hid (Good10 w w5.drew t m) := ⟨L2, HM9.out, HTI5.out⟩
          generalize (L2).length = n9 at k9 hcnt
          go_region_held3 (fun W => W.cell? ⟨m, 0, none⟩ = some (.slice ad9 n9 cap9)) (with_reducible exact k9)
            (first | (go_at_call 13; refine hcnt.mono ?_; rintro e w9 ⟨rfl, rfl⟩))
          go_wp2
          go_roundw
          case rel => exact ⟨j + 1, by go_num, by omega, HG9.out⟩
          case measure => simp [intOf]; omega
        · have HMD : Hid (M2 w wb.drew t m L L) := HM1.out.only (Only.refl [] wb).drew
          have HXD : Hid (BxT wb.drew b x) := HBX.out.only (Only.refl [] wb).drew
          have HS0 : Hid (wb.drew.cell? ⟨b, 2, none⟩ = some (.int .i64 x.O)) := (bxT_cells HXD.out).2.2.1
          have HEP : Hid (∀ _u : Unit, Calls Tryd.prog 11 #[.pointer (some ⟨t, 0, none⟩), .int .i64 x.O] wb.drew fun e w' => e = .returned (errN A (remT L x.O).1) ∧ M2 w w' t m (remT L x.O).2 L ∧ ∀ b x, BxT wb.drew b x → BxT w' b x) := fun _ => HMD.out.dropP HE.out HI64.out
          have HTI5 : Hid (TInv (remT L x.O).2) := HTI.out.rem x.O
          have HC5 : Hid ((remT L x.O).1 ≤ 15) := remT_le L x.O
          have HED : Hid (∀ W Lp, M2 w W t m Lp L → Calls Tryd.prog 12 #[.pointer (some ⟨m, 0, none⟩), .int .i64 x.O] W fun e w' => e = .returned (.int .i64 ((remT L x.O).1 : Nat)) ∧ M2 w w' t m Lp (remT L x.O).2 ∧ ∀ b x, BxT W b x → BxT w' b x) := fun W Lp h => h.dropD HTI.out
          clear y0 y1 y2 y3
          generalize (remT L x.O).1 = c2 at HEP HED HC5
          generalize (remT L x.O).2 = L2 at HEP HED HTI5
          go_region_held3 (fun W => W.cell? ⟨b, 2, none⟩ = some (.int .i64 x.O)) (with_reducible first | exact HS0.out | exact HS3.out | exact HS4.out | exact HS5.out)
            (first
              | (go_at_call 11; refine (HEP.out ()).mono ?_; rintro e w3 ⟨rfl, hT, hB⟩; have HN3 : Hid (M2 w w3 t m L2 L) := hT; have HB3 : Hid (BxT w3 b x) := hB b x HXD.out; have HS3 : Hid (w3.cell? ⟨b, 2, none⟩ = some (.int .i64 x.O)) := (bxT_cells HB3.out).2.2.1; clear hT hB)
              | (go_at_call 12; refine (HED.out w3 L2 HN3.out).mono ?_; rintro e w4 ⟨rfl, hT2, hB2⟩; have HB4 : Hid (BxT w4 b x) := hB2 b x HB3.out; have HS4 : Hid (w4.cell? ⟨b, 2, none⟩ = some (.int .i64 x.O)) := (bxT_cells HB4.out).2.2.1; have HN4 : Hid (M2 w w4 t m L2 L2) := hT2; clear hT2 hB2)
              | (go_at_call 8; refine (HCOD.out w4 c2 HN4.out.below HC5.out).mono ?_; rintro e w5 ⟨rfl, ho5⟩; have HN5 : Hid (M2 w w5 t m L2 L2) := HN4.out.only ho5; have HS5 : Hid (w5.cell? ⟨b, 2, none⟩ = some (.int .i64 x.O)) := (bxT_cells (HB4.out.only ho5)).2.2.1; clear ho5))
          go_wp2_with fail
          have HM9 : Hid (M2 w w5.drew t m L2 L2) := HN5.out.only (Only.refl [] w5).drew
          obtain ⟨ad9, cap9, k9, kl9⟩ := HM9.out.row
          have hcnt := HM9.out.count
          have HG9 : Hid (Good10 w w5.drew t m) := ⟨L2, HM9.out, HTI5.out⟩
          generalize (L2).length = n9 at k9 hcnt
          go_region_held3 (fun W => W.cell? ⟨m, 0, none⟩ = some (.slice ad9 n9 cap9)) (with_reducible exact k9)
            (first | (go_at_call 13; refine hcnt.mono ?_; rintro e w9 ⟨rfl, rfl⟩))
          go_wp2
          go_roundw
          case rel => exact ⟨j + 1, by go_num, by omega, HG9.out⟩
          case measure => simp [intOf]; omega
    · obtain rfl : j = len := by omega
      have hj2 : decide ((j : Int) < j) = false := decide_eq_false (by omega)
      go_wp2
      go_ret
      exact ⟨rfl, HBE.out⟩
end Go.Proofs.YtpecfccadhfdhaaDoor
