/- LogKeeps: the law's walk, its loop. -/
import Derived.Test.YtlcloahkeamdkaaDoorG7
namespace Go.Proofs.YtlcloahkeamdkaaDoor
open Go Go.RowKit Go.Deep Go.Maps

theorem wordN_app (a b : List Rc) : wordN (a ++ b) = wordN a + wordN b := by simp only [wordN, List.map_append, List.sum_append]
set_option maxRecDepth 100000 in
set_option maxHeartbeats 8000000 in
theorem lkeeps_main (A : Nat → Addr) (w : World) (N : Nat) (ad : Option Addr) (cap : Nat) (L : List Rc) (hE : Errs w A) (hI : RcsIn w ad L) (hL : L.length ≤ 1048576) (hc0 : wordN L ≤ 500) (hN1 : 8 ≤ N) (hN2 : N ≤ 400) :
    Calls Tryd.prog 3 #[.int .i64 (N : Nat), .slice ad L.length cap] w fun e w' => e = .returned (.bool true) ∧ Below w.heap.size w w' := by
  have HSP : Hid (Calls Tryd.prog 6 #[] w fun e w' => e = .returned (.bool true) ∧ Below w.heap.size w w') := logged_ok A w hE.five
  have HBK : Hid (∀ W, Below w.heap.size w W → Calls Tryd.prog 7 #[.slice ad L.length cap] W fun e w' => e = .returned (.bool false) ∧ w' = W) := fun W hb => by
    have := wordy_ok W ad cap L (hI.below hb) hL
    rwa [decide_eq_false (by omega)] at this
  have HNW : Hid (∀ W, Below w.heap.size w W → Calls Tryd.prog 8 #[.int .i64 (N : Nat)] W fun e w' => ∃ g : Dv, e = .returned (.tuple #[.pointer (some ⟨g.t, 0, none⟩), .nilIface]) ∧ Ds g w' ⟨none, List.replicate N zeroS, []⟩ ∧ g.W0 = w ∧ g.A = A) := fun W hb => new_dv A w W hE.five hb N (by omega) (by omega)
  have HFM : Hid (∀ g W, Ds g W ⟨none, List.replicate N zeroS, []⟩ → Calls Tryd.prog 9 #[.pointer (some ⟨g.t, 0, none⟩)] W fun e w' => ∃ l, e = .returned (.tuple #[.pointer (some ⟨l, 0, none⟩), .nilIface]) ∧ Lk g l w' (.slice none 0 0) [] 0 ⟨none, newSec N, []⟩) := fun g W hW => (format_new hW rfl hN1 rfl rfl).mono fun e w' q => by
    obtain ⟨l, a, b, c, _⟩ := q
    exact ⟨l, a, b, c, World.ownsRow_nil _ _ _ _, newSec_log hN1 (by omega), rfl⟩
  have HCD : Hid (∀ (g : Dv) W, Below w.heap.size w W → g.A = A → Calls Tryd.prog 10 #[.iface 154 (.pointer (some (g.A 8))), .int .i64 9] W fun e w' => e = .returned (.bool true) ∧ Only [] W w') := fun g W hb e => by
    rw [e]
    exact coded5_err A 8 (by decide) 9 W (hE.below hb (Nat.le_refl _))
  have HIN : Hid (RcsIn w ad L) := hI
  have e1 : decide ((N : Int) < 1) = false := decide_eq_false (by omega)
  have e2 : decide ((400 : Int) < (N : Int)) = false := decide_eq_false (by omega)
  have e3 : decide ((N : Int) < 8) = false := decide_eq_false (by omega)
  obtain ⟨len, hlen⟩ : ∃ len, L.length = len := ⟨_, rfl⟩
  have HLN : Hid (L.length = len) := hlen
  have HWN : Hid (∀ j, wordN (L.take j) ≤ 500) := fun j => by
    have h1 : wordN L = wordN (L.take j) + wordN (L.drop j) := by
      conv => lhs; rw [← List.take_append_drop j L]
      exact wordN_app _ _
    show _ ≤ _
    omega
  rw [hlen] at HBK hL ⊢
  clear hE hI hlen hc0
  go_enter Tryd.func3, Tryd.ntmps3
  go_upto_region 15 with (first
    | (go_at_call 6; refine HSP.out.mono ?_; rintro e w1 ⟨rfl, hb⟩; have B1 : Hid (Below w.heap.size w w1) := hb; clear hb)
    | (go_at_call 7; refine (HBK.out w1 B1.out).mono ?_; rintro e w2 ⟨rfl, h0⟩; have h1 := h0.symm; subst h1; clear h0)
    | (go_at_call 8; refine (HNW.out w1 B1.out).mono ?_; rintro e w3 ⟨g, rfl, h1, h2, h3⟩; have HD3 : Hid (Ds g w3 ⟨none, List.replicate N zeroS, []⟩ ∧ g.W0 = w ∧ g.A = A) := ⟨h1, h2, h3⟩; clear h1 h2 h3)
    | (go_at_call 9; refine (HFM.out g w3 HD3.out.1).mono ?_; rintro e w4 ⟨l, rfl, h1⟩; have HK4 : Hid (Lk g l w4 (.slice none 0 0) [] 0 ⟨none, newSec N, []⟩) := h1; clear h1))
  have HG : Hid (g.W0 = w ∧ g.A = A) := HD3.out.2
  have HBW : Hid (∀ W s, Ds g W s → Below w.heap.size w W) := fun W s h => by have := h.bel; rw [HG.out.1] at this; exact this
  clear HD3 B1 HSP HBK HNW HFM e1 e2 e3
  go_loopw [9, 10, 11] (fun v a i wr => ∃ (j n : Nat) (R : List (List UInt8)) (s : DSt) (v' : Value), v' = v ∧ i = .int .i64 (j : Nat) ∧ j ≤ len ∧ a = .int .i64 (n : Nat) ∧ n ≤ j ∧ Lk g l wr v' R n s ∧ s.pw = none ∧ s.sec.length = N ∧ wgt R ≤ 25 * wordN (L.take j)) (fun _ _ i _ => len - (intOf i).toNat)
  case atStart => exact ⟨0, 0, [], ⟨none, newSec N, []⟩, _, rfl, rfl, Nat.zero_le _, rfl, Nat.le_refl _, HK4.out, rfl, by simp [newSec], by simp [wgt]⟩
  case round =>
    clear HK4
    obtain ⟨j, n, R, s, v, hv, rfl, hj, rfl, hnj, hK, hpw, hsl, hwg⟩ := hrel
    subst hv
    have HK : Hid (Lk g l wr v R n s) := hK
    have HPW : Hid (s.pw = none) := hpw
    have HSL : Hid (s.sec.length = N) := hsl
    have hwj := HWN.out j
    have hRl : R.length ≤ 1000000 := by have := (wgt_len R).1; omega
    by_cases hlt : j < len
    · have hl : decide ((j : Int) < (len : Int)) = true := decide_eq_true (by omega)
      obtain ⟨x, hx⟩ : ∃ x, L[j]? = some x := ⟨L[j]'(by have := HLN.out; omega), List.getElem?_eq_getElem _⟩
      have hw1 := HWN.out (j + 1)
      rw [take_snoc hx, wordN_snoc] at hw1
      have hrx := wgt_recN x.L
      have hxl : x.L.length ≤ 1000000 := by omega
      have hxw : wgt x.L < 4000000000 := by omega
      have HWX : Hid (wgt (nxt R x.C x.L) ≤ 25 * wordN (L.take (j + 1))) := by
        have h1 := nxt_wgt R x.C x.L
        rw [take_snoc hx, wordN_snoc]
        show _ ≤ _
        omega
      have HWR : Hid (wgt R ≤ 25 * wordN (L.take (j + 1))) := by
        rw [take_snoc hx, wordN_snoc]
        show _ ≤ _
        omega
      have HRC : Hid (∀ W s', Ds g W s' → ∃ b o, ad = some ⟨b, o, none⟩ ∧ b < W.heap.size ∧ RcIn W b (o + j * 2) x) := fun W s' h => (HIN.out.below (HBW.out W s' h)) j x hx
      have hnl : (nxt R x.C x.L).length ≤ 1000000 := by have h1 := (wgt_len (nxt R x.C x.L)).1; have h2 := nxt_wgt R x.C x.L; omega
      have hnw : wgt (nxt R x.C x.L) < 1000000000 := by have h2 := nxt_wgt R x.C x.L; omega
      have HNX : Hid (∀ W, Only [] wr W → Calls Tryd.prog 11 #[v, .agg #[.bool x.C, .slice x.ad x.L.length x.cap]] W fun e w' => ∃ v', e = .returned v' ∧ w'.ownsRow g.base 9 1 v' (nxt R x.C x.L).length ((nxt R x.C x.L).map txv) ∧ Only [] wr w') := fun W ho => by
        have hk2 := HK.out.keep ho
        obtain ⟨b, o, _, _, hr⟩ := HRC.out W s hk2.ds
        refine (hk2.next x.C x.ad x.cap x.L hr.tx hxl hRl).mono fun e w' q => ?_
        obtain ⟨v', a1, a2, a3⟩ := q
        exact ⟨v', a1, a2, ho.trans a3 (fun _ h => by cases h)⟩
      have HAC : Hid (∀ W, Lk g l W v R n s → Calls Tryd.prog 12 #[.pointer (some ⟨l, 0, none⟩), .agg #[.bool x.C, .slice x.ad x.L.length x.cap]] W fun e w' => ActR g W w' l s R (nxt R x.C x.L) n (nxn n x.C) (roomS s.sec x.C x.L) e) := fun W hk2 => by
        obtain ⟨b, o, _, _, hr⟩ := HRC.out W s hk2.ds
        exact act_lit hk2.ds hk2.lg hk2.wt hk2.ok x.C x.ad x.cap x.L hr.tx hxl hxw
      have HFU : Hid (¬ roomS s.sec x.C x.L → ¬ 64 + 64 * nxn n x.C + wgt (nxt R x.C x.L) ≤ s.sec.length * 64 / 3) := hK.ok.fulln
      obtain ⟨b, o, rfl, hb, hR⟩ := HRC.out wr s hK.ds
      have c0 := hR.c
      have c1 := hR.l
      have b1 : (j : Int) < (len : Int) := by omega
      have hnn : nxn n x.C ≤ j + 1 := by unfold nxn; split <;> omega
      have hj2 : j ≤ 1048576 := by omega
      clear hK hpw hsl hwg hx hR hrx hw1 hxw
      obtain ⟨au, cu, rfl⟩ := own_slice HK.out.row
      have HCC : Hid (∀ W s', Ds g W s' → W.cell? ⟨b, o + j * 2, none⟩ = some (.bool x.C) ∧ W.cell? ⟨b, o + j * 2 + 1, none⟩ = some (.slice x.ad x.L.length x.cap) ∧ b < W.heap.size) := fun W s' h => by
        obtain ⟨b', o', e, h1, h2⟩ := HRC.out W s' h
        cases e
        exact ⟨h2.c, h2.l, h1⟩
      generalize hRn : nxt R x.C x.L = Rn at HNX HAC HWX HFU hnl hnw
      generalize hnn2 : nxn n x.C = nn at HAC HFU hnn
      generalize x.L.length = xl at c1 HNX HAC HCC
      generalize x.C = xc at c0 HNX HAC HFU HCC hRn hnn2
      have HNN : Hid (nxn n xc = nn) := hnn2
      clear hRn hnn2
      go_upto_region 18 with (go_at_call 11; refine (HNX.out _ (Only.refl _ _)).mono ?_; rintro e w5 ⟨v5, rfl, h1, h2⟩; have H5 : Hid (w5.ownsRow g.base 9 1 v5 Rn.length (Rn.map txv) ∧ Lk g l w5 (.slice au R.length cu) R n s) := ⟨h1, HK.out.keep h2⟩; clear h1 h2)
      obtain ⟨a5, c5, rfl⟩ := own_slice H5.out.1
      obtain ⟨k0, k1, k2⟩ := HCC.out w5 s H5.out.2.ds
      clear c0 c1 hb HK HNX
      cases xc with
      | true =>
        obtain rfl : 0 = nn := HNN.out
        clear HNN
        by_cases hrm : roomS s.sec true x.L
        · have HA : Hid (Calls Tryd.prog 12 #[.pointer (some ⟨l, 0, none⟩), .agg #[.bool true, .slice x.ad xl x.cap]] w5 fun e w' => e = .returned .nilIface ∧ ∃ s', Lk g l w' (.slice a5 Rn.length c5) Rn (0) s' ∧ s'.pw = none ∧ s'.sec.length = N) := (HAC.out w5 H5.out.2).mono fun e w' q => by
            obtain ⟨a1, s', a2, a3, a4, a6, a7, a8, a9⟩ := q.go HPW.out hrm
            exact ⟨a1, s', ⟨a2, a8, a9.owns H5.out.1, a4, a3⟩, a7, a6.trans HSL.out⟩
          have HOP : Hid (∀ W s', Lk g l W (.slice a5 Rn.length c5) Rn (0) s' → Calls Tryd.prog 14 #[.pointer (some ⟨g.t, 0, none⟩)] W fun e w' => ∃ l2 a2 c2, e = .returned (.tuple #[.pointer (some ⟨l2, 0, none⟩), .slice a2 Rn.length c2, .nilIface]) ∧ Lk g l w' (.slice a5 Rn.length c5) Rn (0) s' ∧ w'.ownsRow g.base 9 1 (.slice a2 Rn.length c2) Rn.length (Rn.map txv)) := fun W s' hk => (hk.ds.opens hk.wt hk.ok.opens).mono fun e w' q => by
            obtain ⟨l2, v2, a1, a2, a3, a4⟩ := q
            obtain ⟨p1, p2, rfl⟩ := own_slice a3
            exact ⟨l2, p1, p2, a1, hk.keep a4, a3⟩
          clear HAC hrm HFU
          go_wp2_with (first
            | (go_at_call 12; refine HA.out.mono ?_; rintro e w6 ⟨rfl, s6, h1, h2, h3⟩; have H6 : Hid (Lk g l w6 (.slice a5 Rn.length c5) Rn (0) s6 ∧ s6.pw = none ∧ s6.sec.length = N) := ⟨h1, h2, h3⟩; clear h1 h2 h3)
            | (go_at_call 14; refine (HOP.out w6 s6 H6.out.1).mono ?_; rintro e w7 ⟨l7, a7, c7, rfl, h1, h2⟩; have H7 : Hid (Lk g l w7 (.slice a5 Rn.length c5) Rn (0) s6) := h1; have HSM : Hid (Calls Tryd.prog 15 #[.slice a7 Rn.length c7, .slice a5 Rn.length c5] w7 fun e w' => e = .returned (.bool true) ∧ Only [] w7 w') := (by have := same_rows h2 h1.row (by omega) (by omega); rwa [decide_eq_true rfl] at this); clear h1 h2)
            | (go_at_call 15; refine HSM.out.mono ?_; rintro e w8 ⟨rfl, h1⟩; have H8 : Hid (Lk g l w8 (.slice a5 Rn.length c5) Rn (0) s6) := H7.out.keep h1; clear h1))
          go_roundw
          case rel => exact ⟨j + 1, 0, Rn, s6, _, rfl, by go_num, by omega, by go_num, by omega, H8.out, H6.out.2.1, H6.out.2.2, HWX.out⟩
          case measure => simp [intOf]; omega
        · have HA : Hid (Calls Tryd.prog 12 #[.pointer (some ⟨l, 0, none⟩), .agg #[.bool true, .slice x.ad xl x.cap]] w5 fun e w' => e = .returned (.iface 154 (.pointer (some (g.A 8)))) ∧ Lk g l w' (.slice au R.length cu) R n s ∧ w'.ownsRow g.base 9 1 (.slice a5 Rn.length c5) Rn.length (Rn.map txv)) := (HAC.out w5 H5.out.2).mono fun e w' q => by
            obtain ⟨a1, a2, a3, a4⟩ := q.full hrm HPW.out
            exact ⟨a1, ⟨a2, a3, a4.owns H5.out.2.row, H5.out.2.ok, H5.out.2.wt⟩, a4.owns H5.out.1⟩
          have HFT : Hid (∀ W, W.ownsRow g.base 9 1 (.slice a5 Rn.length c5) Rn.length (Rn.map txv) → Calls Tryd.prog 13 #[.slice a5 Rn.length c5, .int .i64 (0 : Nat), .int .i64 (N : Nat)] W fun e w' => e = .returned (.bool false) ∧ w' = W) := fun W hr => by
            obtain ⟨p1, p2, e, ht⟩ := own_texts hr rfl
            simp only [Value.slice.injEq] at e
            obtain ⟨rfl, _, rfl⟩ := e
            have := lfits_ok W a5 c5 Rn ht (0) N (by omega) hnw (by omega) (by omega)
            rwa [decide_eq_false (by have := HSL.out; rw [← this]; exact HFU.out hrm)] at this
          have HOP : Hid (∀ W, Lk g l W (.slice au R.length cu) R n s → Calls Tryd.prog 14 #[.pointer (some ⟨g.t, 0, none⟩)] W fun e w' => ∃ l2 a2 c2, e = .returned (.tuple #[.pointer (some ⟨l2, 0, none⟩), .slice a2 R.length c2, .nilIface]) ∧ Lk g l w' (.slice au R.length cu) R n s ∧ w'.ownsRow g.base 9 1 (.slice a2 R.length c2) R.length (R.map txv)) := fun W hk => (hk.ds.opens hk.wt hk.ok.opens).mono fun e w' q => by
            obtain ⟨l2, v2, a1, a2, a3, a4⟩ := q
            obtain ⟨p1, p2, rfl⟩ := own_slice a3
            exact ⟨l2, p1, p2, a1, hk.keep a4, a3⟩
          clear HAC hrm HFU
          go_wp2_with (first
            | (go_at_call 12; refine HA.out.mono ?_; rintro e w6 ⟨rfl, h1, h2⟩; have H6 : Hid (Lk g l w6 (.slice au R.length cu) R n s ∧ w6.ownsRow g.base 9 1 (.slice a5 Rn.length c5) Rn.length (Rn.map txv)) := ⟨h1, h2⟩; clear h1 h2)
            | (go_at_call 10; refine (HCD.out g w6 (HBW.out w6 s H6.out.1.ds) HG.out.2).mono ?_; rintro e w9 ⟨rfl, h1⟩; have H9 : Hid (Lk g l w9 (.slice au R.length cu) R n s ∧ w9.ownsRow g.base 9 1 (.slice a5 Rn.length c5) Rn.length (Rn.map txv)) := ⟨H6.out.1.keep h1, h1.owns H6.out.2 (fun _ _ => by simp)⟩; clear h1)
            | (go_at_call 13; refine (HFT.out w9 H9.out.2).mono ?_; rintro e w10 ⟨rfl, h0⟩; have h1 := h0.symm; subst h1; clear h0)
            | (go_at_call 14; refine (HOP.out w9 H9.out.1).mono ?_; rintro e w7 ⟨l7, a7, c7, rfl, h1, h2⟩; have H7 : Hid (Lk g l w7 (.slice au R.length cu) R n s) := h1; have HSM : Hid (Calls Tryd.prog 15 #[.slice a7 R.length c7, .slice au R.length cu] w7 fun e w' => e = .returned (.bool true) ∧ Only [] w7 w') := (by have := same_rows h2 h1.row (by omega) (by omega); rwa [decide_eq_true rfl] at this); clear h1 h2)
            | (go_at_call 15; refine HSM.out.mono ?_; rintro e w8 ⟨rfl, h1⟩; have H8 : Hid (Lk g l w8 (.slice au R.length cu) R n s) := H7.out.keep h1; clear h1))
          go_roundw
          case rel => exact ⟨j + 1, n, R, s, _, rfl, by go_num, by omega, by go_num, by omega, H8.out, HPW.out, HSL.out, HWR.out⟩
          case measure => simp [intOf]; omega
      | false =>
        obtain rfl : n + 1 = nn := HNN.out
        clear HNN
        by_cases hrm : roomS s.sec false x.L
        · have HA : Hid (Calls Tryd.prog 12 #[.pointer (some ⟨l, 0, none⟩), .agg #[.bool false, .slice x.ad xl x.cap]] w5 fun e w' => e = .returned .nilIface ∧ ∃ s', Lk g l w' (.slice a5 Rn.length c5) Rn (n + 1) s' ∧ s'.pw = none ∧ s'.sec.length = N) := (HAC.out w5 H5.out.2).mono fun e w' q => by
            obtain ⟨a1, s', a2, a3, a4, a6, a7, a8, a9⟩ := q.go HPW.out hrm
            exact ⟨a1, s', ⟨a2, a8, a9.owns H5.out.1, a4, a3⟩, a7, a6.trans HSL.out⟩
          have HOP : Hid (∀ W s', Lk g l W (.slice a5 Rn.length c5) Rn (n + 1) s' → Calls Tryd.prog 14 #[.pointer (some ⟨g.t, 0, none⟩)] W fun e w' => ∃ l2 a2 c2, e = .returned (.tuple #[.pointer (some ⟨l2, 0, none⟩), .slice a2 Rn.length c2, .nilIface]) ∧ Lk g l w' (.slice a5 Rn.length c5) Rn (n + 1) s' ∧ w'.ownsRow g.base 9 1 (.slice a2 Rn.length c2) Rn.length (Rn.map txv)) := fun W s' hk => (hk.ds.opens hk.wt hk.ok.opens).mono fun e w' q => by
            obtain ⟨l2, v2, a1, a2, a3, a4⟩ := q
            obtain ⟨p1, p2, rfl⟩ := own_slice a3
            exact ⟨l2, p1, p2, a1, hk.keep a4, a3⟩
          clear HAC hrm HFU
          go_wp2_with (first
            | (go_at_call 12; refine HA.out.mono ?_; rintro e w6 ⟨rfl, s6, h1, h2, h3⟩; have H6 : Hid (Lk g l w6 (.slice a5 Rn.length c5) Rn (n + 1) s6 ∧ s6.pw = none ∧ s6.sec.length = N) := ⟨h1, h2, h3⟩; clear h1 h2 h3)
            | (go_at_call 14; refine (HOP.out w6 s6 H6.out.1).mono ?_; rintro e w7 ⟨l7, a7, c7, rfl, h1, h2⟩; have H7 : Hid (Lk g l w7 (.slice a5 Rn.length c5) Rn (n + 1) s6) := h1; have HSM : Hid (Calls Tryd.prog 15 #[.slice a7 Rn.length c7, .slice a5 Rn.length c5] w7 fun e w' => e = .returned (.bool true) ∧ Only [] w7 w') := (by have := same_rows h2 h1.row (by omega) (by omega); rwa [decide_eq_true rfl] at this); clear h1 h2)
            | (go_at_call 15; refine HSM.out.mono ?_; rintro e w8 ⟨rfl, h1⟩; have H8 : Hid (Lk g l w8 (.slice a5 Rn.length c5) Rn (n + 1) s6) := H7.out.keep h1; clear h1))
          go_roundw
          case rel => exact ⟨j + 1, n + 1, Rn, s6, _, rfl, by go_num, by omega, by go_num, by omega, H8.out, H6.out.2.1, H6.out.2.2, HWX.out⟩
          case measure => simp [intOf]; omega
        · have HA : Hid (Calls Tryd.prog 12 #[.pointer (some ⟨l, 0, none⟩), .agg #[.bool false, .slice x.ad xl x.cap]] w5 fun e w' => e = .returned (.iface 154 (.pointer (some (g.A 8)))) ∧ Lk g l w' (.slice au R.length cu) R n s ∧ w'.ownsRow g.base 9 1 (.slice a5 Rn.length c5) Rn.length (Rn.map txv)) := (HAC.out w5 H5.out.2).mono fun e w' q => by
            obtain ⟨a1, a2, a3, a4⟩ := q.full hrm HPW.out
            exact ⟨a1, ⟨a2, a3, a4.owns H5.out.2.row, H5.out.2.ok, H5.out.2.wt⟩, a4.owns H5.out.1⟩
          have HFT : Hid (∀ W, W.ownsRow g.base 9 1 (.slice a5 Rn.length c5) Rn.length (Rn.map txv) → Calls Tryd.prog 13 #[.slice a5 Rn.length c5, .int .i64 (n + 1 : Nat), .int .i64 (N : Nat)] W fun e w' => e = .returned (.bool false) ∧ w' = W) := fun W hr => by
            obtain ⟨p1, p2, e, ht⟩ := own_texts hr rfl
            simp only [Value.slice.injEq] at e
            obtain ⟨rfl, _, rfl⟩ := e
            have := lfits_ok W a5 c5 Rn ht (n + 1) N (by omega) hnw (by omega) (by omega)
            rwa [decide_eq_false (by have := HSL.out; rw [← this]; exact HFU.out hrm)] at this
          have HOP : Hid (∀ W, Lk g l W (.slice au R.length cu) R n s → Calls Tryd.prog 14 #[.pointer (some ⟨g.t, 0, none⟩)] W fun e w' => ∃ l2 a2 c2, e = .returned (.tuple #[.pointer (some ⟨l2, 0, none⟩), .slice a2 R.length c2, .nilIface]) ∧ Lk g l w' (.slice au R.length cu) R n s ∧ w'.ownsRow g.base 9 1 (.slice a2 R.length c2) R.length (R.map txv)) := fun W hk => (hk.ds.opens hk.wt hk.ok.opens).mono fun e w' q => by
            obtain ⟨l2, v2, a1, a2, a3, a4⟩ := q
            obtain ⟨p1, p2, rfl⟩ := own_slice a3
            exact ⟨l2, p1, p2, a1, hk.keep a4, a3⟩
          clear HAC hrm HFU
          go_wp2_with (first
            | (go_at_call 12; refine HA.out.mono ?_; rintro e w6 ⟨rfl, h1, h2⟩; have H6 : Hid (Lk g l w6 (.slice au R.length cu) R n s ∧ w6.ownsRow g.base 9 1 (.slice a5 Rn.length c5) Rn.length (Rn.map txv)) := ⟨h1, h2⟩; clear h1 h2)
            | (go_at_call 10; refine (HCD.out g w6 (HBW.out w6 s H6.out.1.ds) HG.out.2).mono ?_; rintro e w9 ⟨rfl, h1⟩; have H9 : Hid (Lk g l w9 (.slice au R.length cu) R n s ∧ w9.ownsRow g.base 9 1 (.slice a5 Rn.length c5) Rn.length (Rn.map txv)) := ⟨H6.out.1.keep h1, h1.owns H6.out.2 (fun _ _ => by simp)⟩; clear h1)
            | (go_at_call 13; refine (HFT.out w9 H9.out.2).mono ?_; rintro e w10 ⟨rfl, h0⟩; have h1 := h0.symm; subst h1; clear h0)
            | (go_at_call 14; refine (HOP.out w9 H9.out.1).mono ?_; rintro e w7 ⟨l7, a7, c7, rfl, h1, h2⟩; have H7 : Hid (Lk g l w7 (.slice au R.length cu) R n s) := h1; have HSM : Hid (Calls Tryd.prog 15 #[.slice a7 R.length c7, .slice au R.length cu] w7 fun e w' => e = .returned (.bool true) ∧ Only [] w7 w') := (by have := same_rows h2 h1.row (by omega) (by omega); rwa [decide_eq_true rfl] at this); clear h1 h2)
            | (go_at_call 15; refine HSM.out.mono ?_; rintro e w8 ⟨rfl, h1⟩; have H8 : Hid (Lk g l w8 (.slice au R.length cu) R n s) := H7.out.keep h1; clear h1))
          go_roundw
          case rel => exact ⟨j + 1, n, R, s, _, rfl, by go_num, by omega, by go_num, by omega, H8.out, HPW.out, HSL.out, HWR.out⟩
          case measure => simp [intOf]; omega
    · have hl : decide ((j : Int) < (len : Int)) = false := decide_eq_false (by omega)
      have hcs : crashS (fun _ => false) s = s.sec := by unfold crashS; rw [hK.wt]; rfl
      have HCR : Hid (Calls Tryd.prog 16 #[.pointer (some ⟨g.t, 0, none⟩), .slice none 0 0] wr fun e w' => ∃ u, e = .returned u ∧ Lk g l w' v R n ⟨none, s.sec, []⟩) := (hK.ds.crash_nil (by rw [hK.wt]; decide)).mono fun e w' q => by
        obtain ⟨u, a1, a2, a3⟩ := q
        rw [hcs] at a2
        exact ⟨u, a1, a2, hK.lg.keep a3, a3.toL.owns hK.row, hK.ok, rfl⟩
      obtain ⟨au, cu, rfl⟩ := own_slice hK.row
      have HOP : Hid (∀ W, Lk g l W (.slice au R.length cu) R n ⟨none, s.sec, []⟩ → Calls Tryd.prog 14 #[.pointer (some ⟨g.t, 0, none⟩)] W fun e w' => ∃ l2 a2 c2, e = .returned (.tuple #[.pointer (some ⟨l2, 0, none⟩), .slice a2 R.length c2, .nilIface]) ∧ Lk g l w' (.slice au R.length cu) R n ⟨none, s.sec, []⟩ ∧ w'.ownsRow g.base 9 1 (.slice a2 R.length c2) R.length (R.map txv)) := fun W hk => (hk.ds.opens hk.wt hk.ok.opens).mono fun e w' q => by
        obtain ⟨l2, v2, a1, a2, a3, a4⟩ := q
        obtain ⟨p1, p2, rfl⟩ := own_slice a3
        exact ⟨l2, p1, p2, a1, hk.keep a4, a3⟩
      clear hK hpw hsl hwg HK HPW hcs
      go_wp2_with (first
        | (go_at_call 16; refine HCR.out.mono ?_; rintro e w6 ⟨u, rfl, h1⟩; have H6 : Hid (Lk g l w6 (.slice au R.length cu) R n ⟨none, s.sec, []⟩) := h1; clear h1)
        | (go_at_call 14; refine (HOP.out w6 H6.out).mono ?_; rintro e w7 ⟨l7, a7, c7, rfl, h1, h2⟩; have H7 : Hid (Lk g l w7 (.slice au R.length cu) R n ⟨none, s.sec, []⟩) := h1; have HSM : Hid (Calls Tryd.prog 15 #[.slice a7 R.length c7, .slice au R.length cu] w7 fun e w' => e = .returned (.bool true) ∧ Only [] w7 w') := (by have := same_rows h2 h1.row (by omega) (by omega); rwa [decide_eq_true rfl] at this); clear h1 h2)
        | (go_at_call 15; refine HSM.out.mono ?_; rintro e w8 ⟨rfl, h1⟩; have H8 : Hid (Lk g l w8 (.slice au R.length cu) R n ⟨none, s.sec, []⟩) := H7.out.keep h1; clear h1))
      go_ret
      exact ⟨rfl, HBW.out w8 _ H8.out.ds⟩
theorem lkeeps_all (A : Nat → Addr) (w : World) (n : Int) (ad : Option Addr) (cap : Nat) (L : List Rc) (hE : Errs w A) (hI : RcsIn w ad L) (hL : L.length ≤ 1048576) :
    Calls Tryd.prog 3 #[.int .i64 n, .slice ad L.length cap] w fun e w' => e = .returned (.bool true) ∧ Below w.heap.size w w' := by
  by_cases hc : 500 < wordN L ∨ n < 1 ∨ 400 < n
  · exact lkeeps_short A w n ad cap L hE hI hL hc
  · obtain ⟨N, rfl⟩ : ∃ N : Nat, n = (N : Int) := ⟨n.toNat, by omega⟩
    by_cases h8 : N < 8
    · exact lkeeps_few A w N ad cap L hE hI hL (by omega) (by omega) h8
    · exact lkeeps_main A w N ad cap L hE hI hL (by omega) (by omega) (by omega)
end Go.Proofs.YtlcloahkeamdkaaDoor
