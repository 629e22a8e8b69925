/- LogFails: the law's walk. -/
import Derived.Test.YtlcloahkeamdkaaDoorLg29
namespace Go.Proofs.YtlcloahkeamdkaaDoor
open Go Go.RowKit Go.Deep Go.Maps

theorem Ds.fail {g : Dv} {w : World} {s : DSt} (hd : Ds g w s) (n : Nat) (hn : n < 9223372036854775808) : Calls Tryd.prog 17 #[.pointer (some ⟨g.t, 0, none⟩), .int .i64 (n : Nat)] w fun e w' => e = .returned .nilIface ∧ Ds g w' ⟨some n, s.sec, s.wt⟩ ∧ Oth w w' := by
  obtain ⟨vw, hk⟩ := hd.dk
  refine (fail_any g.A hd.err.three hk (n : Int)).mono fun e w' q => ?_
  rcases q with ⟨a, _⟩ | ⟨_, he, h1, h2⟩
  · omega
  · have h3 : Only (dkFoot g.t g.vs vw) w w' := h2.mono (fun k hk => Or.inl (mem_foot.2 (Or.inl (by simpa using hk))))
    rw [Int.toNat_natCast] at h1
    exact ⟨he, hd.step (s' := ⟨some n, s.sec, s.wt⟩) hk h1 h3 (fun k e => by cases e; exact hn), Oth.of_foot hk h3⟩
set_option maxRecDepth 100000 in
set_option maxHeartbeats 16000000 in
theorem lfails_main (A : Nat → Addr) (w : World) (n : Nat) (hn : n < 9223372036854775808) (ad : Option Addr) (cap : Nat) (L : List Rc) (ka : Option Addr) (kc : Nat) (B : List Bool) (ad2 : Option Addr) (cap2 : Nat) (L2 : List Rc) (hE : Errs w A) (hI : RcsIn w ad L) (hL : L.length ≤ 1048576) (hI2 : RcsIn w ad2 L2) (hL2 : L2.length ≤ 1048576) (hB : Bls w ka kc B) (hc0 : wordN L ≤ 500) (hc1 : wordN L2 ≤ 500) (hBl : B.length ≤ 500) :
    Calls Tryd.prog 4 #[.slice ad L.length cap, .int .i64 (n : Nat), .slice ka B.length kc, .slice ad2 L2.length cap2] w fun e w' => e = .returned (.bool true) ∧ Below w.heap.size w w' := by
  have HSP : Hid (Calls Tryd.prog 6 #[] w fun e w' => e = .returned (.bool true) ∧ Below w.heap.size w w') := logged_ok A w hE.five
  have HB1 : Hid (∀ W, Below w.heap.size w W → Calls Tryd.prog 7 #[.slice ad L.length cap] W fun e w' => e = .returned (.bool false) ∧ w' = W) := fun W hb => by
    have := wordy_ok W ad cap L (hI.below hb) hL
    rwa [decide_eq_false (by omega)] at this
  have HB2 : Hid (∀ W, Below w.heap.size w W → Calls Tryd.prog 7 #[.slice ad2 L2.length cap2] W fun e w' => e = .returned (.bool false) ∧ w' = W) := fun W hb => by
    have := wordy_ok W ad2 cap2 L2 (hI2.below hb) hL2
    rwa [decide_eq_false (by omega)] at this
  have HNW : Hid (∀ W, Below w.heap.size w W → Calls Tryd.prog 8 #[.int .i64 400] W fun e w' => ∃ g : Dv, e = .returned (.tuple #[.pointer (some ⟨g.t, 0, none⟩), .nilIface]) ∧ Ds g w' ⟨none, List.replicate 400 zeroS, []⟩ ∧ g.W0 = w ∧ g.A = A) := fun W hb => new_dv A w W hE.five hb 400 (by decide) (by decide)
  have HFM : Hid (∀ g W, Ds g W ⟨none, List.replicate 400 zeroS, []⟩ → Calls Tryd.prog 9 #[.pointer (some ⟨g.t, 0, none⟩)] W fun e w' => ∃ l, e = .returned (.tuple #[.pointer (some ⟨l, 0, none⟩), .nilIface]) ∧ Lk g l w' (.slice none 0 0) [] 0 ⟨none, newSec 400, []⟩) := fun g W hW => (format_new hW rfl (by decide) rfl rfl).mono fun e w' q => by
    obtain ⟨l, a, b, c, _⟩ := q
    exact ⟨l, a, b, c, World.ownsRow_nil _ _ _ _, newSec_log (by decide) (by decide), rfl⟩
  have HFA : Hid (∀ g l W, Lk g l W (.slice none 0 0) [] 0 ⟨none, newSec 400, []⟩ → Calls Tryd.prog 17 #[.pointer (some ⟨g.t, 0, none⟩), .int .i64 (n : Nat)] W fun e w' => e = .returned .nilIface ∧ Lk g l w' (.slice none 0 0) [] 0 ⟨some n, newSec 400, []⟩) := fun g l W hk => (hk.ds.fail n hn).mono fun e w' q => ⟨q.1, q.2.1, hk.lg.keep q.2.2, World.ownsRow_nil _ _ _ _, hk.ok, rfl⟩
  have HCD : Hid (∀ (g : Dv) W c (k : Nat), c < 15 → Below w.heap.size w W → g.A = A → Calls Tryd.prog 10 #[.iface 154 (.pointer (some (g.A c))), .int .i64 (k : Nat)] W fun e w' => e = .returned (.bool (decide (c + 1 = k))) ∧ Only [] W w') := fun g W c k hc hb e => by
    rw [e]
    exact coded5_err A c hc k W (hE.below hb (Nat.le_refl _))
  have HCN : Hid (∀ W (k : Nat), Calls Tryd.prog 10 #[.nilIface, .int .i64 (k : Nat)] W fun e w' => e = .returned (.bool (decide (0 = k))) ∧ Only [] W w') := fun W k => (coded5_nil W k).mono fun e w' q => ⟨q.1, by rw [← q.2]; exact Only.refl _ _⟩
  have HIN : Hid (RcsIn w ad L) := hI
  have HIN2 : Hid (RcsIn w ad2 L2) := hI2
  have HBB : Hid (Bls w ka kc B) := hB
  have e1 : decide ((n : Int) < 0) = false := decide_eq_false (by omega)
  have e2 : decide ((500 : Int) < (B.length : Int)) = false := decide_eq_false (by omega)
  obtain ⟨len, hlen⟩ : ∃ len, L.length = len := ⟨_, rfl⟩
  have HLN : Hid (L.length = len) := hlen
  obtain ⟨len2, hlen2⟩ : ∃ len2, L2.length = len2 := ⟨_, rfl⟩
  have HLN2 : Hid (L2.length = len2) := hlen2
  have HWN : Hid (∀ j, wordN (L.take j) ≤ 500) := fun j => by
    have h1 : wordN L = wordN (L.take j) + wordN (L.drop j) := by
      conv => lhs; rw [← List.take_append_drop j L]
      exact wordN_app _ _
    show _ ≤ _
    omega
  have HWN2 : Hid (∀ j, wordN (L2.take j) ≤ 500) := fun j => by
    have h1 : wordN L2 = wordN (L2.take j) + wordN (L2.drop j) := by
      conv => lhs; rw [← List.take_append_drop j L2]
      exact wordN_app _ _
    show _ ≤ _
    omega
  rw [hlen] at HB1 hL ⊢
  rw [hlen2] at HB2 hL2 ⊢
  clear hE hI hI2 hB hlen hlen2 hc0 hc1
  go_enter Tryd.func4, Tryd.ntmps4
  go_upto_region 14 with (first
    | (go_at_call 6; refine HSP.out.mono ?_; rintro e w1 ⟨rfl, hb⟩; have B1 : Hid (Below w.heap.size w w1) := hb; clear hb)
    | (go_at_call 7; with_reducible refine (HB1.out w1 B1.out).mono ?_; rintro e w2 ⟨rfl, h0⟩; have h1 := h0.symm; subst h1; clear h0)
    | (go_at_call 7; with_reducible refine (HB2.out w1 B1.out).mono ?_; rintro e w2 ⟨rfl, h0⟩; have h1 := h0.symm; subst h1; clear h0)
    | (go_at_call 8; refine (HNW.out w1 B1.out).mono ?_; rintro e w3 ⟨g, rfl, h1, h2, h3⟩; have HD3 : Hid (Ds g w3 ⟨none, List.replicate 400 zeroS, []⟩ ∧ g.W0 = w ∧ g.A = A) := ⟨h1, h2, h3⟩; clear h1 h2 h3)
    | (go_at_call 9; refine (HFM.out g w3 HD3.out.1).mono ?_; rintro e w4 ⟨l, rfl, h1⟩; have HK4 : Hid (Lk g l w4 (.slice none 0 0) [] 0 ⟨none, newSec 400, []⟩) := h1; clear h1)
    | (go_at_call 17; refine (HFA.out g l w4 HK4.out).mono ?_; rintro e w5 ⟨rfl, h1⟩; have HK5 : Hid (Lk g l w5 (.slice none 0 0) [] 0 ⟨some n, newSec 400, []⟩) := h1; clear h1))
  have HG : Hid (g.W0 = w ∧ g.A = A) := HD3.out.2
  have HBW : Hid (∀ W s, Ds g W s → Below w.heap.size w W) := fun W s h => by have := h.bel; rw [HG.out.1] at this; exact this
  have HC : Hid (∀ W s c (k : Nat), c < 15 → Ds g W s → Calls Tryd.prog 10 #[.iface 154 (.pointer (some (g.A c))), .int .i64 (k : Nat)] W fun e w' => e = .returned (.bool (decide (c + 1 = k))) ∧ Only [] W w') := fun W s c k hc hd => HCD.out g W c k hc (HBW.out W s hd) HG.out.2
  clear HD3 B1 HSP HB1 HB2 HNW HFM HFA HCD HK4 e1 e2
  go_loopw [13, 14, 15, 16] (fun v m b i wr => ∃ (j : Nat) (v' m' : Value), v' = v ∧ m' = m ∧ i = .int .i64 (j : Nat) ∧ j ≤ len ∧ ((b = .bool false ∧ m' = .slice none 0 0 ∧ ∃ (nn : Nat) (R : List (List UInt8)) (s : DSt), Lk g l wr v' R nn s ∧ wgt R ≤ 25 * wordN (L.take j)) ∨ (b = .bool true ∧ ∃ (R M : List (List UInt8)) (s : DSt), Lost g l wr v' m' R M s ∧ wgt R ≤ 12500 ∧ wgt M ≤ 12500))) (fun _ _ _ i _ => len - (intOf i).toNat)
  case atStart => exact ⟨0, _, _, rfl, rfl, rfl, Nat.zero_le _, Or.inl ⟨rfl, rfl, 0, [], _, HK5.out, by simp [wgt]⟩⟩
  case round =>
    clear HK5
    obtain ⟨j, v, m, hv, hm, rfl, hj, hst⟩ := hrel
    subst hv hm
    have hwj := HWN.out j
    by_cases hlt : j < len
    · have hl : decide ((j : Int) < (len : Int)) = true := decide_eq_true (by omega)
      obtain ⟨x, hx⟩ : ∃ x, L[j]? = some x := ⟨L[j]'(by have := HLN.out; omega), List.getElem?_eq_getElem _⟩
      have hw1 := HWN.out (j + 1)
      have hw2 := hw1
      rw [take_snoc hx, wordN_snoc] at hw1
      have hrx := wgt_recN x.L
      have hxl : x.L.length ≤ 1000000 := by omega
      have hxw : wgt x.L < 4000000000 := by omega
      have hws : wordN (L.take (j + 1)) = wordN (L.take j) + (5 + recN x.L) := by rw [take_snoc hx, wordN_snoc]
      have HRC : Hid (∀ W s', Ds g W s' → ∃ b o, ad = some ⟨b, o, none⟩ ∧ b < W.heap.size ∧ RcIn W b (o + j * 2) x) := fun W s' h => (HIN.out.below (HBW.out W s' h)) j x hx
      have b1 : (j : Int) < (len : Int) := by omega
      rcases hst with ⟨rfl, rfl, nn, R, s, hK, hwg⟩ | ⟨rfl, R, M, s, hK, hwR, hwM⟩
      · have HK : Hid (Lk g l wr v R nn s) := hK
        have hRl : R.length ≤ 1000000 := by have := (wgt_len R).1; omega
        have HWX : Hid (wgt (nxt R x.C x.L) ≤ 25 * wordN (L.take (j + 1))) := by
          have h1 := nxt_wgt R x.C x.L
          show _ ≤ _
          omega
        have HWR : Hid (wgt R ≤ 25 * wordN (L.take (j + 1)) ∧ wgt R ≤ 12500 ∧ wgt (nxt R x.C x.L) ≤ 12500) := by
          have h1 := nxt_wgt R x.C x.L
          exact ⟨by omega, by omega, by omega⟩
        have HAC : Hid (Calls Tryd.prog 12 #[.pointer (some ⟨l, 0, none⟩), .agg #[.bool x.C, .slice x.ad x.L.length x.cap]] wr fun e w' => ∃ u, e = .returned u ∧ Act3 g l w' v R (nxt R x.C x.L) nn (nxn nn x.C) s u) := by
          obtain ⟨b, o, _, _, hr⟩ := HRC.out wr s hK.ds
          exact hK.act x.C x.ad x.cap x.L hr.tx hxl hxw
        have HNX : Hid (∀ W s', Ds g W s' → W.ownsRow g.base 9 1 v R.length (R.map txv) → Calls Tryd.prog 11 #[v, .agg #[.bool x.C, .slice x.ad x.L.length x.cap]] W fun e w' => ∃ v', e = .returned v' ∧ w'.ownsRow g.base 9 1 v' (nxt R x.C x.L).length ((nxt R x.C x.L).map txv) ∧ Only [] W w') := fun W s' hd hr => by
          obtain ⟨b, o, _, _, hr2⟩ := HRC.out W s' hd
          refine (lnext_ok W hr x.C x.ad x.cap x.L hr2.tx hxl hRl).mono fun e w' q => ?_
          obtain ⟨v', a1, a2, a3⟩ := q
          exact ⟨v', a1, own_base a2 hd.bs, a3⟩
        obtain ⟨b, o, rfl, hb, hR⟩ := HRC.out wr s hK.ds
        have c0 := hR.c
        have c1 := hR.l
        have HCC : Hid (∀ W s', Ds g W s' → W.cell? ⟨b, o + j * 2, none⟩ = some (.bool x.C) ∧ W.cell? ⟨b, o + j * 2 + 1, none⟩ = some (.slice x.ad x.L.length x.cap) ∧ b < W.heap.size) := fun W s' h => by
          obtain ⟨b', o', e, h1, h2⟩ := HRC.out W s' h
          cases e
          exact ⟨h2.c, h2.l, h1⟩
        clear hK hwg hx hR hrx hw1 hw2 hws hxw
        obtain ⟨au, cu, rfl⟩ := own_slice HK.out.row
        generalize nxt R x.C x.L = Rn at HNX HAC HWX HWR
        generalize nxn nn x.C = n2 at HAC
        generalize x.L.length = xl at c1 HNX HAC HCC
        generalize x.C = xc at c0 HNX HAC HCC
        go_upto_region 17 with (go_at_call 12; refine HAC.out.mono ?_; rintro e w6 ⟨u6, rfl, h1⟩; have H6 : Hid (Act3 g l w6 (.slice au R.length cu) R Rn nn n2 s u6) := h1; clear h1)
        clear c0 c1 hb HAC HK
        rcases H6.out with ⟨rfl, s6, hd6, hl6, ho6, hw6, hr6⟩ | ⟨rfl, hk6⟩ | ⟨rfl, s6, hd6, hl6, hr6, hw6, ho6⟩
        · have H7 : Hid (Ds g w6 s6 ∧ LogAt w6 g l false ∧ LogOk s6.sec Rn n2 ∧ s6.wt = [] ∧ w6.ownsRow g.base 9 1 (.slice au R.length cu) R.length (R.map txv)) := ⟨hd6, hl6, ho6, hw6, hr6⟩
          have HC1 : Hid (Calls Tryd.prog 10 #[.nilIface, .int .i64 (9 : Nat)] w6 fun e w' => e = .returned (.bool false) ∧ Only [] w6 w') := HCN.out w6 9
          have HC2 : Hid (∀ W, Calls Tryd.prog 10 #[.nilIface, .int .i64 (15 : Nat)] W fun e w' => e = .returned (.bool false) ∧ Only [] W w') := fun W => HCN.out W 15
          clear hd6 hl6 ho6 hw6 hr6 H6
          go_upto_region 21 with (go_at_call 10; refine HC1.out.mono ?_; rintro e w7 ⟨rfl, h1⟩; have H8 : Hid (Only [] w6 w7) := h1; clear h1)
          have hd7 := H7.out.1.keep H8.out
          obtain ⟨k0, k1, k2⟩ := HCC.out w7 s6 hd7
          have HNX2 : Hid (Calls Tryd.prog 11 #[.slice au R.length cu, .agg #[.bool xc, .slice x.ad xl x.cap]] w7 fun e w' => ∃ v', e = .returned v' ∧ w'.ownsRow g.base 9 1 v' Rn.length (Rn.map txv) ∧ Only [] w7 w') := HNX.out w7 s6 hd7 (H8.out.owns H7.out.2.2.2.2 (fun _ _ => by simp))
          clear hd7
          go_wp2_with (first
            | (go_at_call 11; refine HNX2.out.mono ?_; rintro e w8 ⟨v8, rfl, h1, h2⟩; have H9 : Hid (w8.ownsRow g.base 9 1 v8 Rn.length (Rn.map txv) ∧ Only [] w6 w8) := ⟨h1, H8.out.trans h2 (fun _ h => by cases h)⟩; obtain ⟨a8, c8, rfl⟩ := own_slice h1; clear h1 h2)
            | (go_at_call 10; refine (HC2.out w8).mono ?_; rintro e w9 ⟨rfl, h1⟩; have H10 : Hid (Lk g l w9 (.slice a8 Rn.length c8) Rn n2 s6) := ⟨(H7.out.1.keep H9.out.2).keep h1, (H7.out.2.1.keep (Oth.of_only H9.out.2)).keep (Oth.of_only h1), h1.owns H9.out.1 (fun _ _ => by simp), H7.out.2.2.1, H7.out.2.2.2.1⟩; clear h1))
          go_roundw
          case rel => exact ⟨j + 1, _, _, rfl, rfl, by go_num, by omega, Or.inl ⟨rfl, rfl, n2, Rn, s6, H10.out, HWX.out⟩⟩
          case measure => simp [intOf]; omega
        · have H7 : Hid (Lk g l w6 (.slice au R.length cu) R nn s) := hk6
          have HC1 : Hid (Calls Tryd.prog 10 #[.iface 154 (.pointer (some (g.A 8))), .int .i64 (9 : Nat)] w6 fun e w' => e = .returned (.bool true) ∧ Only [] w6 w') := HC.out w6 s 8 9 (by decide) hk6.ds
          clear hk6 H6
          go_wp2_with (go_at_call 10; refine HC1.out.mono ?_; rintro e w7 ⟨rfl, h1⟩; have H8 : Hid (Lk g l w7 (.slice au R.length cu) R nn s) := H7.out.keep h1; clear h1)
          go_roundw
          case rel => exact ⟨j + 1, _, _, rfl, rfl, by go_num, by omega, Or.inl ⟨rfl, rfl, nn, R, s, H8.out, HWR.out.1⟩⟩
          case measure => simp [intOf]; omega
        · have H7 : Hid (Ds g w6 s6 ∧ LogAt w6 g l true ∧ w6.ownsRow g.base 9 1 (.slice au R.length cu) R.length (R.map txv) ∧ s6.wt.length ≤ 5000 ∧ ∀ keep, LogOk (crashS keep s6) R nn ∨ LogOk (crashS keep s6) Rn n2) := ⟨hd6, hl6, hr6, hw6, ho6⟩
          have HC1 : Hid (Calls Tryd.prog 10 #[.iface 154 (.pointer (some (g.A 14))), .int .i64 (9 : Nat)] w6 fun e w' => e = .returned (.bool false) ∧ Only [] w6 w') := HC.out w6 s6 14 9 (by decide) hd6
          have HC2 : Hid (∀ W, Ds g W s6 → Calls Tryd.prog 10 #[.iface 154 (.pointer (some (g.A 14))), .int .i64 (15 : Nat)] W fun e w' => e = .returned (.bool true) ∧ Only [] W w') := fun W hd => HC.out W s6 14 15 (by decide) hd
          clear hd6 hl6 ho6 hw6 hr6 H6
          go_upto_region 21 with (go_at_call 10; refine HC1.out.mono ?_; rintro e w7 ⟨rfl, h1⟩; have H8 : Hid (Only [] w6 w7) := h1; clear h1)
          have hd7 := H7.out.1.keep H8.out
          obtain ⟨k0, k1, k2⟩ := HCC.out w7 s6 hd7
          have HNX2 : Hid (Calls Tryd.prog 11 #[.slice au R.length cu, .agg #[.bool xc, .slice x.ad xl x.cap]] w7 fun e w' => ∃ v', e = .returned v' ∧ w'.ownsRow g.base 9 1 v' Rn.length (Rn.map txv) ∧ Only [] w7 w') := HNX.out w7 s6 hd7 (H8.out.owns H7.out.2.2.1 (fun _ _ => by simp))
          clear hd7
          go_wp2_with (first
            | (go_at_call 11; refine HNX2.out.mono ?_; rintro e w8 ⟨v8, rfl, h1, h2⟩; have H9 : Hid (w8.ownsRow g.base 9 1 v8 Rn.length (Rn.map txv) ∧ Only [] w6 w8) := ⟨h1, H8.out.trans h2 (fun _ h => by cases h)⟩; obtain ⟨a8, c8, rfl⟩ := own_slice h1; clear h1 h2)
            | (go_at_call 10; refine (HC2.out w8 (H7.out.1.keep H9.out.2)).mono ?_; rintro e w9 ⟨rfl, h1⟩; have H10 : Hid (Lost g l w9 (.slice au R.length cu) (.slice a8 Rn.length c8) R Rn s6) := ⟨(H7.out.1.keep H9.out.2).keep h1, (H7.out.2.1.keep (Oth.of_only H9.out.2)).keep (Oth.of_only h1), h1.owns (H9.out.2.owns H7.out.2.2.1 (fun _ _ => by simp)) (fun _ _ => by simp), h1.owns H9.out.1 (fun _ _ => by simp), H7.out.2.2.2.1, fun keep => (H7.out.2.2.2.2 keep).elim (fun h => Or.inl ⟨_, h⟩) (fun h => Or.inr ⟨_, h⟩)⟩; clear h1))
          go_roundw
          case rel => exact ⟨j + 1, _, _, rfl, rfl, by go_num, by omega, Or.inr ⟨rfl, R, Rn, s6, H10.out, HWR.out.2.1, HWR.out.2.2⟩⟩
          case measure => simp [intOf]; omega
      · have HK : Hid (Lost g l wr v m R M s) := hK
        have HW : Hid (wgt R ≤ 12500 ∧ wgt M ≤ 12500) := ⟨hwR, hwM⟩
        obtain ⟨b, o, rfl, hb, hR⟩ := HRC.out wr s hK.ds
        have c0 := hR.c
        have c1 := hR.l
        have HAC : Hid (Calls Tryd.prog 12 #[.pointer (some ⟨l, 0, none⟩), .agg #[.bool x.C, .slice x.ad x.L.length x.cap]] wr fun e w' => e = .returned (.iface 154 (.pointer (some (g.A 14)))) ∧ Lost g l w' v m R M s) := (act_dark hK.ds hK.lg x.C x.ad x.cap x.L hR.tx hxl).mono fun e w' q => ⟨q.1, hK.keep q.2⟩
        have HC2 : Hid (∀ W, Lost g l W v m R M s → Calls Tryd.prog 10 #[.iface 154 (.pointer (some (g.A 14))), .int .i64 (15 : Nat)] W fun e w' => e = .returned (.bool true) ∧ Only [] W w') := fun W hk => HC.out W s 14 15 (by decide) hk.ds
        obtain ⟨au, cu, rfl⟩ := own_slice HK.out.row
        obtain ⟨am, cm, rfl⟩ := own_slice HK.out.rom
        clear hK hx hR hrx hw1 hw2 hws hxw hwR hwM HK
        generalize x.L.length = xl at c1 HAC
        go_wp2_with (first
          | (go_at_call 12; refine HAC.out.mono ?_; rintro e w6 ⟨rfl, h1⟩; have H6 : Hid (Lost g l w6 (.slice au R.length cu) (.slice am M.length cm) R M s) := h1; clear h1)
          | (go_at_call 10; refine (HC2.out w6 H6.out).mono ?_; rintro e w7 ⟨rfl, h1⟩; have H7 : Hid (Lost g l w7 (.slice au R.length cu) (.slice am M.length cm) R M s) := H6.out.keep h1; clear h1))
        go_roundw
        case rel => exact ⟨j + 1, _, _, rfl, rfl, by go_num, by omega, Or.inr ⟨rfl, R, M, s, H7.out, HW.out.1, HW.out.2⟩⟩
        case measure => simp [intOf]; omega
    · have hl : decide ((j : Int) < (len : Int)) = false := decide_eq_false (by omega)
      rcases hst with ⟨rfl, rfl, nx, R, s, hK, hwg⟩ | ⟨rfl, R, M, s, hK, hwR, hwM⟩
      · obtain ⟨S1, hS1⟩ : ∃ S1, crashS (keepB B) s = S1 := ⟨_, rfl⟩
        have hlog : LogOk S1 R nx := by rw [← hS1]; unfold crashS; rw [hK.wt]; exact hK.ok
        obtain ⟨X, hX⟩ : ∃ X, R = X := ⟨_, rfl⟩
        have hwR : wgt R ≤ 12500 := by omega
        have hXw : wgt X ≤ 12500 := by rw [← hX]; exact hwR
        have hXR : X = R := hX.symm
        rw [hX] at hlog
        obtain ⟨au, cu, rfl⟩ := own_slice hK.row
        clear hwg hX
        have HCRW : Hid (∀ W v', Only [] wr W → W.ownsRow wr.heap.size 4 1 v' B.length (B.map Value.bool) → Calls Tryd.prog 16 #[.pointer (some ⟨g.t, 0, none⟩), v'] W fun e w' => ∃ u, e = .returned u ∧ Ds g w' ⟨none, S1, []⟩ ∧ w'.ownsRow g.base 9 1 (.slice au R.length cu) R.length (R.map txv)) := fun W v' ho hr => ((hK.ds.keep ho).crash_row hr (by rw [hK.wt]; decide)).mono fun e w' q => by
          obtain ⟨u, a1, a2, a3⟩ := q
          rw [hS1] at a2
          exact ⟨u, a1, a2, a3.toL.owns (ho.owns hK.row (fun _ _ => by simp))⟩
        have HBR : Hid (Bls wr ka kc B) := HBB.out.below (HBW.out wr s hK.ds)
        have HOP : Hid (∀ W, Ds g W ⟨none, S1, []⟩ → Calls Tryd.prog 14 #[.pointer (some ⟨g.t, 0, none⟩)] W fun e w' => ∃ l2 a2 c2, e = .returned (.tuple #[.pointer (some ⟨l2, 0, none⟩), .slice a2 X.length c2, .nilIface]) ∧ LogAt w' g l2 false ∧ w'.ownsRow g.base 9 1 (.slice a2 X.length c2) X.length (X.map txv) ∧ Only [] W w') := fun W hd => (hd.opens rfl hlog.opens).mono fun e w' q => by
          obtain ⟨l2, v2, a1, a2, a3, a4⟩ := q
          obtain ⟨p1, p2, rfl⟩ := own_slice a3
          exact ⟨l2, p1, p2, a1, a2, a3, a4⟩
        have HLG : Hid (LogOk S1 X nx) := hlog
        have hXl : X.length ≤ 1000000 := by have := (wgt_len X).1; omega
        have hRl0 : R.length ≤ 1000000 := by have := (wgt_len R).1; omega
        have HXW : Hid (wgt X ≤ 12500) := hXw
        clear hK hlog hS1 hXw
        have HXR : Hid (X = R) := hXR
        clear hXR
        go_upto_region 37 with (first
          | (at_builtin; refine append_bl rfl (.tmp 103) (.tmp 104) rfl rfl rfl HBR.out (by omega) ?_; intro v7 w7 ho7 hn7; have H7 : Hid (w7.ownsRow wr.heap.size 4 1 v7 B.length (B.map Value.bool) ∧ Only [] wr w7) := ⟨ho7, hn7⟩; clear ho7 hn7)
          | (go_at_call 16; refine (HCRW.out w7 _ H7.out.2 H7.out.1).mono ?_; rintro e w8 ⟨u8, rfl, h1, h2⟩; have H8 : Hid (Ds g w8 ⟨none, S1, []⟩ ∧ w8.ownsRow g.base 9 1 (.slice au R.length cu) R.length (R.map txv)) := ⟨h1, h2⟩; clear h1 h2)
          | (go_at_call 14; refine (HOP.out w8 H8.out.1).mono ?_; rintro e w9 ⟨l8, a9, c9, rfl, h1, h2, h3⟩; have H9 : Hid (LogAt w9 g l8 false ∧ w9.ownsRow g.base 9 1 (.slice a9 X.length c9) X.length (X.map txv) ∧ Only [] w8 w9) := ⟨h1, h2, h3⟩; have HSM : Hid (Calls Tryd.prog 15 #[.slice a9 X.length c9, .slice au R.length cu] w9 fun e w' => e = .returned (.bool true) ∧ Only [] w9 w') := (by have := same_rows h2 (h3.owns H8.out.2 (fun _ _ => by simp)) (by omega) (by omega); rwa [decide_eq_true HXR.out] at this); clear h1 h2 h3)
          | (go_at_call 15; refine HSM.out.mono ?_; rintro e w10 ⟨rfl, h1⟩; have HT : Hid (Lk g l8 w10 (.slice a9 X.length c9) X nx ⟨none, S1, []⟩ ∧ wgt X ≤ 12500) := (by have h3 := H9.out.2.2.trans h1 (fun _ h => by cases h); exact ⟨⟨H8.out.1.keep h3, H9.out.1.keep (Oth.of_only h1), h1.owns H9.out.2.1 (fun _ _ => by simp), HLG.out, rfl⟩, HXW.out⟩); clear h1))
        clear HIN HLN HWN
        go_loopw [13, 22] (fun v i wr => ∃ (j nn : Nat) (R : List (List UInt8)) (s : DSt) (v' : Value), v' = v ∧ i = .int .i64 (j : Nat) ∧ j ≤ len2 ∧ Lk g l8 wr v' R nn s ∧ s.pw = none ∧ wgt R ≤ 12500 + 25 * wordN (L2.take j)) (fun _ i _ => len2 - (intOf i).toNat)
        case atStart => exact ⟨0, nx, X, ⟨none, S1, []⟩, _, rfl, rfl, Nat.zero_le _, HT.out.1, rfl, by have := HT.out.2; omega⟩
        case round =>
          clear HT
          obtain ⟨j2, nn, R, s, v, hv, rfl, hj2, hK, hpw, hwg⟩ := hrel
          subst hv
          have hwj2 := HWN2.out j2
          have hRl : R.length ≤ 1000000 := by have := (wgt_len R).1; omega
          by_cases hlt2 : j2 < len2
          · have hl2 : decide ((j2 : Int) < (len2 : Int)) = true := decide_eq_true (by omega)
            obtain ⟨x, hx⟩ : ∃ x, L2[j2]? = some x := ⟨L2[j2]'(by have := HLN2.out; omega), List.getElem?_eq_getElem _⟩
            have hw1 := HWN2.out (j2 + 1)
            rw [take_snoc hx, wordN_snoc] at hw1
            have hrx := wgt_recN x.L
            have hxl : x.L.length ≤ 1000000 := by omega
            have hxw : wgt x.L < 4000000000 := by omega
            have hws : wordN (L2.take (j2 + 1)) = wordN (L2.take j2) + (5 + recN x.L) := by rw [take_snoc hx, wordN_snoc]
            have HRC : Hid (∀ W s', Ds g W s' → ∃ b o, ad2 = some ⟨b, o, none⟩ ∧ b < W.heap.size ∧ RcIn W b (o + j2 * 2) x) := fun W s' h => (HIN2.out.below (HBW.out W s' h)) j2 x hx
            have b1 : (j2 : Int) < (len2 : Int) := by omega
            have HK : Hid (Lk g l8 wr v R nn s) := hK
            have HPW : Hid (s.pw = none) := hpw
            have HWX : Hid (wgt (nxt R x.C x.L) ≤ 12500 + 25 * wordN (L2.take (j2 + 1)) ∧ wgt R ≤ 12500 + 25 * wordN (L2.take (j2 + 1))) := by
              have h1 := nxt_wgt R x.C x.L
              exact ⟨by omega, by omega⟩
            have HAC : Hid (Calls Tryd.prog 12 #[.pointer (some ⟨l8, 0, none⟩), .agg #[.bool x.C, .slice x.ad x.L.length x.cap]] wr fun e w' => ∃ u, e = .returned u ∧ ((u = .nilIface ∧ ∃ s', Ds g w' s' ∧ LogAt w' g l8 false ∧ LogOk s'.sec (nxt R x.C x.L) (nxn nn x.C) ∧ s'.wt = [] ∧ s'.pw = none ∧ w'.ownsRow g.base 9 1 v R.length (R.map txv)) ∨ (u = .iface 154 (.pointer (some (g.A 8))) ∧ Lk g l8 w' v R nn s))) := by
              obtain ⟨b, o, _, _, hr⟩ := HRC.out wr s hK.ds
              exact hK.act_lit hpw x.C x.ad x.cap x.L hr.tx hxl hxw
            have HNX : Hid (∀ W s', Ds g W s' → W.ownsRow g.base 9 1 v R.length (R.map txv) → Calls Tryd.prog 11 #[v, .agg #[.bool x.C, .slice x.ad x.L.length x.cap]] W fun e w' => ∃ v', e = .returned v' ∧ w'.ownsRow g.base 9 1 v' (nxt R x.C x.L).length ((nxt R x.C x.L).map txv) ∧ Only [] W w') := fun W s' hd hr => by
              obtain ⟨b, o, _, _, hr2⟩ := HRC.out W s' hd
              refine (lnext_ok W hr x.C x.ad x.cap x.L hr2.tx hxl hRl).mono fun e w' q => ?_
              obtain ⟨v', a1, a2, a3⟩ := q
              exact ⟨v', a1, own_base a2 hd.bs, a3⟩
            obtain ⟨b, o, rfl, hb, hR⟩ := HRC.out wr s hK.ds
            have c0 := hR.c
            have c1 := hR.l
            have HCC : Hid (∀ W s', Ds g W s' → W.cell? ⟨b, o + j2 * 2, none⟩ = some (.bool x.C) ∧ W.cell? ⟨b, o + j2 * 2 + 1, none⟩ = some (.slice x.ad x.L.length x.cap) ∧ b < W.heap.size) := fun W s' h => by
              obtain ⟨b', o', e, h1, h2⟩ := HRC.out W s' h
              cases e
              exact ⟨h2.c, h2.l, h1⟩
            clear hK hwg hx hR hrx hw1 hws hxw hpw
            obtain ⟨au, cu, rfl⟩ := own_slice HK.out.row
            generalize nxt R x.C x.L = Rn at HNX HAC HWX
            generalize nxn nn x.C = n2 at HAC
            generalize x.L.length = xl at c1 HNX HAC HCC
            generalize x.C = xc at c0 HNX HAC HCC
            go_upto_region 40 with (go_at_call 12; refine HAC.out.mono ?_; rintro e w6 ⟨u6, rfl, h1⟩; have H6 : Hid ((u6 = .nilIface ∧ ∃ s', Ds g w6 s' ∧ LogAt w6 g l8 false ∧ LogOk s'.sec Rn n2 ∧ s'.wt = [] ∧ s'.pw = none ∧ w6.ownsRow g.base 9 1 (.slice au R.length cu) R.length (R.map txv)) ∨ (u6 = .iface 154 (.pointer (some (g.A 8))) ∧ Lk g l8 w6 (.slice au R.length cu) R nn s)) := h1; clear h1)
            clear c0 c1 hb HAC HK
            rcases H6.out with ⟨rfl, s6, hd6, hl6, ho6, hw6, hp6, hr6⟩ | ⟨rfl, hk6⟩
            · have H7 : Hid (Ds g w6 s6 ∧ LogAt w6 g l8 false ∧ LogOk s6.sec Rn n2 ∧ s6.wt = [] ∧ w6.ownsRow g.base 9 1 (.slice au R.length cu) R.length (R.map txv) ∧ s6.pw = none) := ⟨hd6, hl6, ho6, hw6, hr6, hp6⟩
              have HC1 : Hid (Calls Tryd.prog 10 #[.nilIface, .int .i64 (9 : Nat)] w6 fun e w' => e = .returned (.bool false) ∧ Only [] w6 w') := HCN.out w6 9
              clear hd6 hl6 ho6 hw6 hr6 hp6 H6
              go_upto_region 43 with (go_at_call 10; refine HC1.out.mono ?_; rintro e w7 ⟨rfl, h1⟩; have H8 : Hid (Only [] w6 w7) := h1; clear h1)
              have hd7 := H7.out.1.keep H8.out
              obtain ⟨k0, k1, k2⟩ := HCC.out w7 s6 hd7
              have HNX2 : Hid (Calls Tryd.prog 11 #[.slice au R.length cu, .agg #[.bool xc, .slice x.ad xl x.cap]] w7 fun e w' => ∃ v', e = .returned v' ∧ w'.ownsRow g.base 9 1 v' Rn.length (Rn.map txv) ∧ Only [] w7 w') := HNX.out w7 s6 hd7 (H8.out.owns H7.out.2.2.2.2.1 (fun _ _ => by simp))
              clear hd7
              go_wp2_with (go_at_call 11; refine HNX2.out.mono ?_; rintro e w8 ⟨v8, rfl, h1, h2⟩; have H9 : Hid (Lk g l8 w8 v8 Rn n2 s6) := (by have h3 := H8.out.trans h2 (fun _ h => by cases h); exact ⟨H7.out.1.keep h3, H7.out.2.1.keep (Oth.of_only h3), h1, H7.out.2.2.1, H7.out.2.2.2.1⟩); obtain ⟨a8, c8, rfl⟩ := own_slice h1; clear h1 h2)
              go_roundw
              case rel => exact ⟨j2 + 1, n2, Rn, s6, _, rfl, by go_num, by omega, H9.out, H7.out.2.2.2.2.2, HWX.out.1⟩
              case measure => simp [intOf]; omega
            · have H7 : Hid (Lk g l8 w6 (.slice au R.length cu) R nn s) := hk6
              have HC1 : Hid (Calls Tryd.prog 10 #[.iface 154 (.pointer (some (g.A 8))), .int .i64 (9 : Nat)] w6 fun e w' => e = .returned (.bool true) ∧ Only [] w6 w') := HC.out w6 s 8 9 (by decide) hk6.ds
              clear hk6 H6
              go_wp2_with (go_at_call 10; refine HC1.out.mono ?_; rintro e w7 ⟨rfl, h1⟩; have H8 : Hid (Lk g l8 w7 (.slice au R.length cu) R nn s) := H7.out.keep h1; clear h1)
              go_roundw
              case rel => exact ⟨j2 + 1, nn, R, s, _, rfl, by go_num, by omega, H8.out, HPW.out, HWX.out.2⟩
              case measure => simp [intOf]; omega
          · have hl2 : decide ((j2 : Int) < (len2 : Int)) = false := decide_eq_false (by omega)
            have hcs : crashS (fun _ => false) s = s.sec := by unfold crashS; rw [hK.wt]; rfl
            have HCR : Hid (Calls Tryd.prog 16 #[.pointer (some ⟨g.t, 0, none⟩), .slice none 0 0] wr fun e w' => ∃ u, e = .returned u ∧ Lk g l8 w' v R nn ⟨none, s.sec, []⟩) := (hK.ds.crash_nil (by rw [hK.wt]; decide)).mono fun e w' q => by
              obtain ⟨u, a1, a2, a3⟩ := q
              rw [hcs] at a2
              exact ⟨u, a1, a2, hK.lg.keep a3, a3.toL.owns hK.row, hK.ok, rfl⟩
            obtain ⟨au, cu, rfl⟩ := own_slice hK.row
            have HOP : Hid (∀ W, Lk g l8 W (.slice au R.length cu) R nn ⟨none, s.sec, []⟩ → Calls Tryd.prog 14 #[.pointer (some ⟨g.t, 0, none⟩)] W fun e w' => ∃ l2 a2 c2, e = .returned (.tuple #[.pointer (some ⟨l2, 0, none⟩), .slice a2 R.length c2, .nilIface]) ∧ Lk g l8 w' (.slice au R.length cu) R nn ⟨none, s.sec, []⟩ ∧ w'.ownsRow g.base 9 1 (.slice a2 R.length c2) R.length (R.map txv)) := fun W hk => (hk.ds.opens hk.wt hk.ok.opens).mono fun e w' q => by
              obtain ⟨l2, v2, a1, a2, a3, a4⟩ := q
              obtain ⟨p1, p2, rfl⟩ := own_slice a3
              exact ⟨l2, p1, p2, a1, hk.keep a4, a3⟩
            clear hK hpw hwg hcs
            go_wp2_with (first
              | (go_at_call 16; refine HCR.out.mono ?_; rintro e w6 ⟨u, rfl, h1⟩; have H6 : Hid (Lk g l8 w6 (.slice au R.length cu) R nn ⟨none, s.sec, []⟩) := h1; clear h1)
              | (go_at_call 14; refine (HOP.out w6 H6.out).mono ?_; rintro e w7 ⟨l7, a7, c7, rfl, h1, h2⟩; have H7 : Hid (Lk g l8 w7 (.slice au R.length cu) R nn ⟨none, s.sec, []⟩) := h1; have HSM : Hid (Calls Tryd.prog 15 #[.slice a7 R.length c7, .slice au R.length cu] w7 fun e w' => e = .returned (.bool true) ∧ Only [] w7 w') := (by have := same_rows h2 h1.row (by omega) (by omega); rwa [decide_eq_true rfl] at this); clear h1 h2)
              | (go_at_call 15; refine HSM.out.mono ?_; rintro e w8 ⟨rfl, h1⟩; have H8 : Hid (Lk g l8 w8 (.slice au R.length cu) R nn ⟨none, s.sec, []⟩) := H7.out.keep h1; clear h1))
            go_ret
            exact ⟨rfl, HBW.out w8 _ H8.out.ds⟩
      · obtain ⟨S1, hS1⟩ : ∃ S1, crashS (keepB B) s = S1 := ⟨_, rfl⟩
        obtain ⟨au, cu, rfl⟩ := own_slice hK.row
        obtain ⟨am, cm, rfl⟩ := own_slice hK.rom
        have hlog2 : ∃ X nx, LogOk S1 X nx ∧ (X = R ∨ X = M) := by
          rcases hK.ok (keepB B) with ⟨nx, h⟩ | ⟨nx, h⟩
          · exact ⟨R, nx, by rw [← hS1]; exact h, Or.inl rfl⟩
          · exact ⟨M, nx, by rw [← hS1]; exact h, Or.inr rfl⟩
        obtain ⟨X, nx, hlog, hXor⟩ := hlog2
        have hXw : wgt X ≤ 12500 := by rcases hXor with e | e <;> rw [e] <;> assumption
        by_cases hXR : X = R
        · clear hXor
          have HCRW : Hid (∀ W v', Only [] wr W → W.ownsRow wr.heap.size 4 1 v' B.length (B.map Value.bool) → Calls Tryd.prog 16 #[.pointer (some ⟨g.t, 0, none⟩), v'] W fun e w' => ∃ u, e = .returned u ∧ Ds g w' ⟨none, S1, []⟩ ∧ w'.ownsRow g.base 9 1 (.slice au R.length cu) R.length (R.map txv) ∧ w'.ownsRow g.base 9 1 (.slice am M.length cm) M.length (M.map txv)) := fun W v' ho hr => ((hK.ds.keep ho).crash_row hr (by have := hK.wt; omega)).mono fun e w' q => by
            obtain ⟨u, a1, a2, a3⟩ := q
            rw [hS1] at a2
            exact ⟨u, a1, a2, a3.toL.owns (ho.owns hK.row (fun _ _ => by simp)), a3.toL.owns (ho.owns hK.rom (fun _ _ => by simp))⟩
          have HBR : Hid (Bls wr ka kc B) := HBB.out.below (HBW.out wr s hK.ds)
          have HOP : Hid (∀ W, Ds g W ⟨none, S1, []⟩ → Calls Tryd.prog 14 #[.pointer (some ⟨g.t, 0, none⟩)] W fun e w' => ∃ l2 a2 c2, e = .returned (.tuple #[.pointer (some ⟨l2, 0, none⟩), .slice a2 X.length c2, .nilIface]) ∧ LogAt w' g l2 false ∧ w'.ownsRow g.base 9 1 (.slice a2 X.length c2) X.length (X.map txv) ∧ Only [] W w') := fun W hd => (hd.opens rfl hlog.opens).mono fun e w' q => by
            obtain ⟨l2, v2, a1, a2, a3, a4⟩ := q
            obtain ⟨p1, p2, rfl⟩ := own_slice a3
            exact ⟨l2, p1, p2, a1, a2, a3, a4⟩
          have HLG : Hid (LogOk S1 X nx) := hlog
          have hXl : X.length ≤ 1000000 := by have := (wgt_len X).1; omega
          have hRl0 : R.length ≤ 1000000 := by have := (wgt_len R).1; omega
          have hMl : M.length ≤ 1000000 := by have := (wgt_len M).1; omega
          have HXW : Hid (wgt X ≤ 12500) := hXw
          clear hK hlog hS1 hXw
          have HXR : Hid (X = R) := hXR
          clear hXR
          go_upto_region 37 with (first
            | (at_builtin; refine append_bl rfl (.tmp 103) (.tmp 104) rfl rfl rfl HBR.out (by omega) ?_; intro v7 w7 ho7 hn7; have H7 : Hid (w7.ownsRow wr.heap.size 4 1 v7 B.length (B.map Value.bool) ∧ Only [] wr w7) := ⟨ho7, hn7⟩; clear ho7 hn7)
            | (go_at_call 16; refine (HCRW.out w7 _ H7.out.2 H7.out.1).mono ?_; rintro e w8 ⟨u8, rfl, h1, h2, h3⟩; have H8 : Hid (Ds g w8 ⟨none, S1, []⟩ ∧ w8.ownsRow g.base 9 1 (.slice au R.length cu) R.length (R.map txv) ∧ w8.ownsRow g.base 9 1 (.slice am M.length cm) M.length (M.map txv)) := ⟨h1, h2, h3⟩; clear h1 h2 h3)
            | (go_at_call 14; refine (HOP.out w8 H8.out.1).mono ?_; rintro e w9 ⟨l8, a9, c9, rfl, h1, h2, h3⟩; have H9 : Hid (LogAt w9 g l8 false ∧ w9.ownsRow g.base 9 1 (.slice a9 X.length c9) X.length (X.map txv) ∧ Only [] w8 w9) := ⟨h1, h2, h3⟩; have HSM : Hid (Calls Tryd.prog 15 #[.slice a9 X.length c9, .slice au R.length cu] w9 fun e w' => e = .returned (.bool true) ∧ Only [] w9 w') := (by have := same_rows h2 (h3.owns H8.out.2.1 (fun _ _ => by simp)) (by omega) (by omega); rwa [decide_eq_true HXR.out] at this); clear h1 h2 h3)
            | (go_at_call 15; refine HSM.out.mono ?_; rintro e w10 ⟨rfl, h1⟩; have HT : Hid (Lk g l8 w10 (.slice a9 X.length c9) X nx ⟨none, S1, []⟩ ∧ wgt X ≤ 12500) := (by have h3 := H9.out.2.2.trans h1 (fun _ h => by cases h); exact ⟨⟨H8.out.1.keep h3, H9.out.1.keep (Oth.of_only h1), h1.owns H9.out.2.1 (fun _ _ => by simp), HLG.out, rfl⟩, HXW.out⟩); clear h1))
          clear HIN HLN HWN
          go_loopw [13, 22] (fun v i wr => ∃ (j nn : Nat) (R : List (List UInt8)) (s : DSt) (v' : Value), v' = v ∧ i = .int .i64 (j : Nat) ∧ j ≤ len2 ∧ Lk g l8 wr v' R nn s ∧ s.pw = none ∧ wgt R ≤ 12500 + 25 * wordN (L2.take j)) (fun _ i _ => len2 - (intOf i).toNat)
          case atStart => exact ⟨0, nx, X, ⟨none, S1, []⟩, _, rfl, rfl, Nat.zero_le _, HT.out.1, rfl, by have := HT.out.2; omega⟩
          case round =>
            clear HT
            obtain ⟨j2, nn, R, s, v, hv, rfl, hj2, hK, hpw, hwg⟩ := hrel
            subst hv
            have hwj2 := HWN2.out j2
            have hRl : R.length ≤ 1000000 := by have := (wgt_len R).1; omega
            by_cases hlt2 : j2 < len2
            · have hl2 : decide ((j2 : Int) < (len2 : Int)) = true := decide_eq_true (by omega)
              obtain ⟨x, hx⟩ : ∃ x, L2[j2]? = some x := ⟨L2[j2]'(by have := HLN2.out; omega), List.getElem?_eq_getElem _⟩
              have hw1 := HWN2.out (j2 + 1)
              rw [take_snoc hx, wordN_snoc] at hw1
              have hrx := wgt_recN x.L
              have hxl : x.L.length ≤ 1000000 := by omega
              have hxw : wgt x.L < 4000000000 := by omega
              have hws : wordN (L2.take (j2 + 1)) = wordN (L2.take j2) + (5 + recN x.L) := by rw [take_snoc hx, wordN_snoc]
              have HRC : Hid (∀ W s', Ds g W s' → ∃ b o, ad2 = some ⟨b, o, none⟩ ∧ b < W.heap.size ∧ RcIn W b (o + j2 * 2) x) := fun W s' h => (HIN2.out.below (HBW.out W s' h)) j2 x hx
              have b1 : (j2 : Int) < (len2 : Int) := by omega
              have HK : Hid (Lk g l8 wr v R nn s) := hK
              have HPW : Hid (s.pw = none) := hpw
              have HWX : Hid (wgt (nxt R x.C x.L) ≤ 12500 + 25 * wordN (L2.take (j2 + 1)) ∧ wgt R ≤ 12500 + 25 * wordN (L2.take (j2 + 1))) := by
                have h1 := nxt_wgt R x.C x.L
                exact ⟨by omega, by omega⟩
              have HAC : Hid (Calls Tryd.prog 12 #[.pointer (some ⟨l8, 0, none⟩), .agg #[.bool x.C, .slice x.ad x.L.length x.cap]] wr fun e w' => ∃ u, e = .returned u ∧ ((u = .nilIface ∧ ∃ s', Ds g w' s' ∧ LogAt w' g l8 false ∧ LogOk s'.sec (nxt R x.C x.L) (nxn nn x.C) ∧ s'.wt = [] ∧ s'.pw = none ∧ w'.ownsRow g.base 9 1 v R.length (R.map txv)) ∨ (u = .iface 154 (.pointer (some (g.A 8))) ∧ Lk g l8 w' v R nn s))) := by
                obtain ⟨b, o, _, _, hr⟩ := HRC.out wr s hK.ds
                exact hK.act_lit hpw x.C x.ad x.cap x.L hr.tx hxl hxw
              have HNX : Hid (∀ W s', Ds g W s' → W.ownsRow g.base 9 1 v R.length (R.map txv) → Calls Tryd.prog 11 #[v, .agg #[.bool x.C, .slice x.ad x.L.length x.cap]] W fun e w' => ∃ v', e = .returned v' ∧ w'.ownsRow g.base 9 1 v' (nxt R x.C x.L).length ((nxt R x.C x.L).map txv) ∧ Only [] W w') := fun W s' hd hr => by
                obtain ⟨b, o, _, _, hr2⟩ := HRC.out W s' hd
                refine (lnext_ok W hr x.C x.ad x.cap x.L hr2.tx hxl hRl).mono fun e w' q => ?_
                obtain ⟨v', a1, a2, a3⟩ := q
                exact ⟨v', a1, own_base a2 hd.bs, a3⟩
              obtain ⟨b, o, rfl, hb, hR⟩ := HRC.out wr s hK.ds
              have c0 := hR.c
              have c1 := hR.l
              have HCC : Hid (∀ W s', Ds g W s' → W.cell? ⟨b, o + j2 * 2, none⟩ = some (.bool x.C) ∧ W.cell? ⟨b, o + j2 * 2 + 1, none⟩ = some (.slice x.ad x.L.length x.cap) ∧ b < W.heap.size) := fun W s' h => by
                obtain ⟨b', o', e, h1, h2⟩ := HRC.out W s' h
                cases e
                exact ⟨h2.c, h2.l, h1⟩
              clear hK hwg hx hR hrx hw1 hws hxw hpw
              obtain ⟨au, cu, rfl⟩ := own_slice HK.out.row
              generalize nxt R x.C x.L = Rn at HNX HAC HWX
              generalize nxn nn x.C = n2 at HAC
              generalize x.L.length = xl at c1 HNX HAC HCC
              generalize x.C = xc at c0 HNX HAC HCC
              go_upto_region 40 with (go_at_call 12; refine HAC.out.mono ?_; rintro e w6 ⟨u6, rfl, h1⟩; have H6 : Hid ((u6 = .nilIface ∧ ∃ s', Ds g w6 s' ∧ LogAt w6 g l8 false ∧ LogOk s'.sec Rn n2 ∧ s'.wt = [] ∧ s'.pw = none ∧ w6.ownsRow g.base 9 1 (.slice au R.length cu) R.length (R.map txv)) ∨ (u6 = .iface 154 (.pointer (some (g.A 8))) ∧ Lk g l8 w6 (.slice au R.length cu) R nn s)) := h1; clear h1)
              clear c0 c1 hb HAC HK
              rcases H6.out with ⟨rfl, s6, hd6, hl6, ho6, hw6, hp6, hr6⟩ | ⟨rfl, hk6⟩
              · have H7 : Hid (Ds g w6 s6 ∧ LogAt w6 g l8 false ∧ LogOk s6.sec Rn n2 ∧ s6.wt = [] ∧ w6.ownsRow g.base 9 1 (.slice au R.length cu) R.length (R.map txv) ∧ s6.pw = none) := ⟨hd6, hl6, ho6, hw6, hr6, hp6⟩
                have HC1 : Hid (Calls Tryd.prog 10 #[.nilIface, .int .i64 (9 : Nat)] w6 fun e w' => e = .returned (.bool false) ∧ Only [] w6 w') := HCN.out w6 9
                clear hd6 hl6 ho6 hw6 hr6 hp6 H6
                go_upto_region 43 with (go_at_call 10; refine HC1.out.mono ?_; rintro e w7 ⟨rfl, h1⟩; have H8 : Hid (Only [] w6 w7) := h1; clear h1)
                have hd7 := H7.out.1.keep H8.out
                obtain ⟨k0, k1, k2⟩ := HCC.out w7 s6 hd7
                have HNX2 : Hid (Calls Tryd.prog 11 #[.slice au R.length cu, .agg #[.bool xc, .slice x.ad xl x.cap]] w7 fun e w' => ∃ v', e = .returned v' ∧ w'.ownsRow g.base 9 1 v' Rn.length (Rn.map txv) ∧ Only [] w7 w') := HNX.out w7 s6 hd7 (H8.out.owns H7.out.2.2.2.2.1 (fun _ _ => by simp))
                clear hd7
                go_wp2_with (go_at_call 11; refine HNX2.out.mono ?_; rintro e w8 ⟨v8, rfl, h1, h2⟩; have H9 : Hid (Lk g l8 w8 v8 Rn n2 s6) := (by have h3 := H8.out.trans h2 (fun _ h => by cases h); exact ⟨H7.out.1.keep h3, H7.out.2.1.keep (Oth.of_only h3), h1, H7.out.2.2.1, H7.out.2.2.2.1⟩); obtain ⟨a8, c8, rfl⟩ := own_slice h1; clear h1 h2)
                go_roundw
                case rel => exact ⟨j2 + 1, n2, Rn, s6, _, rfl, by go_num, by omega, H9.out, H7.out.2.2.2.2.2, HWX.out.1⟩
                case measure => simp [intOf]; omega
              · have H7 : Hid (Lk g l8 w6 (.slice au R.length cu) R nn s) := hk6
                have HC1 : Hid (Calls Tryd.prog 10 #[.iface 154 (.pointer (some (g.A 8))), .int .i64 (9 : Nat)] w6 fun e w' => e = .returned (.bool true) ∧ Only [] w6 w') := HC.out w6 s 8 9 (by decide) hk6.ds
                clear hk6 H6
                go_wp2_with (go_at_call 10; refine HC1.out.mono ?_; rintro e w7 ⟨rfl, h1⟩; have H8 : Hid (Lk g l8 w7 (.slice au R.length cu) R nn s) := H7.out.keep h1; clear h1)
                go_roundw
                case rel => exact ⟨j2 + 1, nn, R, s, _, rfl, by go_num, by omega, H8.out, HPW.out, HWX.out.2⟩
                case measure => simp [intOf]; omega
            · have hl2 : decide ((j2 : Int) < (len2 : Int)) = false := decide_eq_false (by omega)
              have hcs : crashS (fun _ => false) s = s.sec := by unfold crashS; rw [hK.wt]; rfl
              have HCR : Hid (Calls Tryd.prog 16 #[.pointer (some ⟨g.t, 0, none⟩), .slice none 0 0] wr fun e w' => ∃ u, e = .returned u ∧ Lk g l8 w' v R nn ⟨none, s.sec, []⟩) := (hK.ds.crash_nil (by rw [hK.wt]; decide)).mono fun e w' q => by
                obtain ⟨u, a1, a2, a3⟩ := q
                rw [hcs] at a2
                exact ⟨u, a1, a2, hK.lg.keep a3, a3.toL.owns hK.row, hK.ok, rfl⟩
              obtain ⟨au, cu, rfl⟩ := own_slice hK.row
              have HOP : Hid (∀ W, Lk g l8 W (.slice au R.length cu) R nn ⟨none, s.sec, []⟩ → Calls Tryd.prog 14 #[.pointer (some ⟨g.t, 0, none⟩)] W fun e w' => ∃ l2 a2 c2, e = .returned (.tuple #[.pointer (some ⟨l2, 0, none⟩), .slice a2 R.length c2, .nilIface]) ∧ Lk g l8 w' (.slice au R.length cu) R nn ⟨none, s.sec, []⟩ ∧ w'.ownsRow g.base 9 1 (.slice a2 R.length c2) R.length (R.map txv)) := fun W hk => (hk.ds.opens hk.wt hk.ok.opens).mono fun e w' q => by
                obtain ⟨l2, v2, a1, a2, a3, a4⟩ := q
                obtain ⟨p1, p2, rfl⟩ := own_slice a3
                exact ⟨l2, p1, p2, a1, hk.keep a4, a3⟩
              clear hK hpw hwg hcs
              go_wp2_with (first
                | (go_at_call 16; refine HCR.out.mono ?_; rintro e w6 ⟨u, rfl, h1⟩; have H6 : Hid (Lk g l8 w6 (.slice au R.length cu) R nn ⟨none, s.sec, []⟩) := h1; clear h1)
                | (go_at_call 14; refine (HOP.out w6 H6.out).mono ?_; rintro e w7 ⟨l7, a7, c7, rfl, h1, h2⟩; have H7 : Hid (Lk g l8 w7 (.slice au R.length cu) R nn ⟨none, s.sec, []⟩) := h1; have HSM : Hid (Calls Tryd.prog 15 #[.slice a7 R.length c7, .slice au R.length cu] w7 fun e w' => e = .returned (.bool true) ∧ Only [] w7 w') := (by have := same_rows h2 h1.row (by omega) (by omega); rwa [decide_eq_true rfl] at this); clear h1 h2)
                | (go_at_call 15; refine HSM.out.mono ?_; rintro e w8 ⟨rfl, h1⟩; have H8 : Hid (Lk g l8 w8 (.slice au R.length cu) R nn ⟨none, s.sec, []⟩) := H7.out.keep h1; clear h1))
              go_ret
              exact ⟨rfl, HBW.out w8 _ H8.out.ds⟩
        · have hXM : X = M := hXor.resolve_left hXR
          clear hXor
          have HCRW : Hid (∀ W v', Only [] wr W → W.ownsRow wr.heap.size 4 1 v' B.length (B.map Value.bool) → Calls Tryd.prog 16 #[.pointer (some ⟨g.t, 0, none⟩), v'] W fun e w' => ∃ u, e = .returned u ∧ Ds g w' ⟨none, S1, []⟩ ∧ w'.ownsRow g.base 9 1 (.slice au R.length cu) R.length (R.map txv) ∧ w'.ownsRow g.base 9 1 (.slice am M.length cm) M.length (M.map txv)) := fun W v' ho hr => ((hK.ds.keep ho).crash_row hr (by have := hK.wt; omega)).mono fun e w' q => by
            obtain ⟨u, a1, a2, a3⟩ := q
            rw [hS1] at a2
            exact ⟨u, a1, a2, a3.toL.owns (ho.owns hK.row (fun _ _ => by simp)), a3.toL.owns (ho.owns hK.rom (fun _ _ => by simp))⟩
          have HBR : Hid (Bls wr ka kc B) := HBB.out.below (HBW.out wr s hK.ds)
          have HOP : Hid (∀ W, Ds g W ⟨none, S1, []⟩ → Calls Tryd.prog 14 #[.pointer (some ⟨g.t, 0, none⟩)] W fun e w' => ∃ l2 a2 c2, e = .returned (.tuple #[.pointer (some ⟨l2, 0, none⟩), .slice a2 X.length c2, .nilIface]) ∧ LogAt w' g l2 false ∧ w'.ownsRow g.base 9 1 (.slice a2 X.length c2) X.length (X.map txv) ∧ Only [] W w') := fun W hd => (hd.opens rfl hlog.opens).mono fun e w' q => by
            obtain ⟨l2, v2, a1, a2, a3, a4⟩ := q
            obtain ⟨p1, p2, rfl⟩ := own_slice a3
            exact ⟨l2, p1, p2, a1, a2, a3, a4⟩
          have HLG : Hid (LogOk S1 X nx) := hlog
          have hXl : X.length ≤ 1000000 := by have := (wgt_len X).1; omega
          have hRl0 : R.length ≤ 1000000 := by have := (wgt_len R).1; omega
          have hMl : M.length ≤ 1000000 := by have := (wgt_len M).1; omega
          have HXW : Hid (wgt X ≤ 12500) := hXw
          clear hK hlog hS1 hXw
          have HXR : Hid (X ≠ R) := hXR
          have HXM : Hid (X = M) := hXM
          clear hXR hXM
          go_upto_region 37 with (first
            | (at_builtin; refine append_bl rfl (.tmp 103) (.tmp 104) rfl rfl rfl HBR.out (by omega) ?_; intro v7 w7 ho7 hn7; have H7 : Hid (w7.ownsRow wr.heap.size 4 1 v7 B.length (B.map Value.bool) ∧ Only [] wr w7) := ⟨ho7, hn7⟩; clear ho7 hn7)
            | (go_at_call 16; refine (HCRW.out w7 _ H7.out.2 H7.out.1).mono ?_; rintro e w8 ⟨u8, rfl, h1, h2, h3⟩; have H8 : Hid (Ds g w8 ⟨none, S1, []⟩ ∧ w8.ownsRow g.base 9 1 (.slice au R.length cu) R.length (R.map txv) ∧ w8.ownsRow g.base 9 1 (.slice am M.length cm) M.length (M.map txv)) := ⟨h1, h2, h3⟩; clear h1 h2 h3)
            | (go_at_call 14; refine (HOP.out w8 H8.out.1).mono ?_; rintro e w9 ⟨l8, a9, c9, rfl, h1, h2, h3⟩; have H9 : Hid (LogAt w9 g l8 false ∧ w9.ownsRow g.base 9 1 (.slice a9 X.length c9) X.length (X.map txv) ∧ Only [] w8 w9) := ⟨h1, h2, h3⟩; have HSM : Hid (Calls Tryd.prog 15 #[.slice a9 X.length c9, .slice au R.length cu] w9 fun e w' => e = .returned (.bool false) ∧ Only [] w9 w') := (by have := same_rows h2 (h3.owns H8.out.2.1 (fun _ _ => by simp)) (by omega) (by omega); rwa [decide_eq_false HXR.out] at this); clear h1 h2 h3)
            | (go_at_call 15; refine HSM2.out.mono ?_; rintro e w11 ⟨rfl, h1⟩; have HT : Hid (Lk g l8 w11 (.slice a9 X.length c9) X nx ⟨none, S1, []⟩ ∧ wgt X ≤ 12500) := (by have h4 := H10.out.trans h1 (fun _ h => by cases h); have h3 := H9.out.2.2.trans h4 (fun _ h => by cases h); exact ⟨⟨H8.out.1.keep h3, H9.out.1.keep (Oth.of_only h4), h4.owns H9.out.2.1 (fun _ _ => by simp), HLG.out, rfl⟩, HXW.out⟩); clear h1)
            | (go_at_call 15; refine HSM.out.mono ?_; rintro e w10 ⟨rfl, h1⟩; have H10 : Hid (Only [] w9 w10) := h1; have HSM2 : Hid (Calls Tryd.prog 15 #[.slice a9 X.length c9, .slice am M.length cm] w10 fun e w' => e = .returned (.bool true) ∧ Only [] w10 w') := (by have := same_rows (h1.owns H9.out.2.1 (fun _ _ => by simp)) ((H9.out.2.2.trans h1 (fun _ h => by cases h)).owns H8.out.2.2 (fun _ _ => by simp)) (by omega) (by omega); rwa [decide_eq_true HXM.out] at this); clear h1))
          clear HIN HLN HWN
          go_loopw [13, 22] (fun v i wr => ∃ (j nn : Nat) (R : List (List UInt8)) (s : DSt) (v' : Value), v' = v ∧ i = .int .i64 (j : Nat) ∧ j ≤ len2 ∧ Lk g l8 wr v' R nn s ∧ s.pw = none ∧ wgt R ≤ 12500 + 25 * wordN (L2.take j)) (fun _ i _ => len2 - (intOf i).toNat)
          case atStart => exact ⟨0, nx, X, ⟨none, S1, []⟩, _, rfl, rfl, Nat.zero_le _, HT.out.1, rfl, by have := HT.out.2; omega⟩
          case round =>
            clear HT
            obtain ⟨j2, nn, R, s, v, hv, rfl, hj2, hK, hpw, hwg⟩ := hrel
            subst hv
            have hwj2 := HWN2.out j2
            have hRl : R.length ≤ 1000000 := by have := (wgt_len R).1; omega
            by_cases hlt2 : j2 < len2
            · have hl2 : decide ((j2 : Int) < (len2 : Int)) = true := decide_eq_true (by omega)
              obtain ⟨x, hx⟩ : ∃ x, L2[j2]? = some x := ⟨L2[j2]'(by have := HLN2.out; omega), List.getElem?_eq_getElem _⟩
              have hw1 := HWN2.out (j2 + 1)
              rw [take_snoc hx, wordN_snoc] at hw1
              have hrx := wgt_recN x.L
              have hxl : x.L.length ≤ 1000000 := by omega
              have hxw : wgt x.L < 4000000000 := by omega
              have hws : wordN (L2.take (j2 + 1)) = wordN (L2.take j2) + (5 + recN x.L) := by rw [take_snoc hx, wordN_snoc]
              have HRC : Hid (∀ W s', Ds g W s' → ∃ b o, ad2 = some ⟨b, o, none⟩ ∧ b < W.heap.size ∧ RcIn W b (o + j2 * 2) x) := fun W s' h => (HIN2.out.below (HBW.out W s' h)) j2 x hx
              have b1 : (j2 : Int) < (len2 : Int) := by omega
              have HK : Hid (Lk g l8 wr v R nn s) := hK
              have HPW : Hid (s.pw = none) := hpw
              have HWX : Hid (wgt (nxt R x.C x.L) ≤ 12500 + 25 * wordN (L2.take (j2 + 1)) ∧ wgt R ≤ 12500 + 25 * wordN (L2.take (j2 + 1))) := by
                have h1 := nxt_wgt R x.C x.L
                exact ⟨by omega, by omega⟩
              have HAC : Hid (Calls Tryd.prog 12 #[.pointer (some ⟨l8, 0, none⟩), .agg #[.bool x.C, .slice x.ad x.L.length x.cap]] wr fun e w' => ∃ u, e = .returned u ∧ ((u = .nilIface ∧ ∃ s', Ds g w' s' ∧ LogAt w' g l8 false ∧ LogOk s'.sec (nxt R x.C x.L) (nxn nn x.C) ∧ s'.wt = [] ∧ s'.pw = none ∧ w'.ownsRow g.base 9 1 v R.length (R.map txv)) ∨ (u = .iface 154 (.pointer (some (g.A 8))) ∧ Lk g l8 w' v R nn s))) := by
                obtain ⟨b, o, _, _, hr⟩ := HRC.out wr s hK.ds
                exact hK.act_lit hpw x.C x.ad x.cap x.L hr.tx hxl hxw
              have HNX : Hid (∀ W s', Ds g W s' → W.ownsRow g.base 9 1 v R.length (R.map txv) → Calls Tryd.prog 11 #[v, .agg #[.bool x.C, .slice x.ad x.L.length x.cap]] W fun e w' => ∃ v', e = .returned v' ∧ w'.ownsRow g.base 9 1 v' (nxt R x.C x.L).length ((nxt R x.C x.L).map txv) ∧ Only [] W w') := fun W s' hd hr => by
                obtain ⟨b, o, _, _, hr2⟩ := HRC.out W s' hd
                refine (lnext_ok W hr x.C x.ad x.cap x.L hr2.tx hxl hRl).mono fun e w' q => ?_
                obtain ⟨v', a1, a2, a3⟩ := q
                exact ⟨v', a1, own_base a2 hd.bs, a3⟩
              obtain ⟨b, o, rfl, hb, hR⟩ := HRC.out wr s hK.ds
              have c0 := hR.c
              have c1 := hR.l
              have HCC : Hid (∀ W s', Ds g W s' → W.cell? ⟨b, o + j2 * 2, none⟩ = some (.bool x.C) ∧ W.cell? ⟨b, o + j2 * 2 + 1, none⟩ = some (.slice x.ad x.L.length x.cap) ∧ b < W.heap.size) := fun W s' h => by
                obtain ⟨b', o', e, h1, h2⟩ := HRC.out W s' h
                cases e
                exact ⟨h2.c, h2.l, h1⟩
              clear hK hwg hx hR hrx hw1 hws hxw hpw
              obtain ⟨au, cu, rfl⟩ := own_slice HK.out.row
              generalize nxt R x.C x.L = Rn at HNX HAC HWX
              generalize nxn nn x.C = n2 at HAC
              generalize x.L.length = xl at c1 HNX HAC HCC
              generalize x.C = xc at c0 HNX HAC HCC
              go_upto_region 40 with (go_at_call 12; refine HAC.out.mono ?_; rintro e w6 ⟨u6, rfl, h1⟩; have H6 : Hid ((u6 = .nilIface ∧ ∃ s', Ds g w6 s' ∧ LogAt w6 g l8 false ∧ LogOk s'.sec Rn n2 ∧ s'.wt = [] ∧ s'.pw = none ∧ w6.ownsRow g.base 9 1 (.slice au R.length cu) R.length (R.map txv)) ∨ (u6 = .iface 154 (.pointer (some (g.A 8))) ∧ Lk g l8 w6 (.slice au R.length cu) R nn s)) := h1; clear h1)
              clear c0 c1 hb HAC HK
              rcases H6.out with ⟨rfl, s6, hd6, hl6, ho6, hw6, hp6, hr6⟩ | ⟨rfl, hk6⟩
              · have H7 : Hid (Ds g w6 s6 ∧ LogAt w6 g l8 false ∧ LogOk s6.sec Rn n2 ∧ s6.wt = [] ∧ w6.ownsRow g.base 9 1 (.slice au R.length cu) R.length (R.map txv) ∧ s6.pw = none) := ⟨hd6, hl6, ho6, hw6, hr6, hp6⟩
                have HC1 : Hid (Calls Tryd.prog 10 #[.nilIface, .int .i64 (9 : Nat)] w6 fun e w' => e = .returned (.bool false) ∧ Only [] w6 w') := HCN.out w6 9
                clear hd6 hl6 ho6 hw6 hr6 hp6 H6
                go_upto_region 43 with (go_at_call 10; refine HC1.out.mono ?_; rintro e w7 ⟨rfl, h1⟩; have H8 : Hid (Only [] w6 w7) := h1; clear h1)
                have hd7 := H7.out.1.keep H8.out
                obtain ⟨k0, k1, k2⟩ := HCC.out w7 s6 hd7
                have HNX2 : Hid (Calls Tryd.prog 11 #[.slice au R.length cu, .agg #[.bool xc, .slice x.ad xl x.cap]] w7 fun e w' => ∃ v', e = .returned v' ∧ w'.ownsRow g.base 9 1 v' Rn.length (Rn.map txv) ∧ Only [] w7 w') := HNX.out w7 s6 hd7 (H8.out.owns H7.out.2.2.2.2.1 (fun _ _ => by simp))
                clear hd7
                go_wp2_with (go_at_call 11; refine HNX2.out.mono ?_; rintro e w8 ⟨v8, rfl, h1, h2⟩; have H9 : Hid (Lk g l8 w8 v8 Rn n2 s6) := (by have h3 := H8.out.trans h2 (fun _ h => by cases h); exact ⟨H7.out.1.keep h3, H7.out.2.1.keep (Oth.of_only h3), h1, H7.out.2.2.1, H7.out.2.2.2.1⟩); obtain ⟨a8, c8, rfl⟩ := own_slice h1; clear h1 h2)
                go_roundw
                case rel => exact ⟨j2 + 1, n2, Rn, s6, _, rfl, by go_num, by omega, H9.out, H7.out.2.2.2.2.2, HWX.out.1⟩
                case measure => simp [intOf]; omega
              · have H7 : Hid (Lk g l8 w6 (.slice au R.length cu) R nn s) := hk6
                have HC1 : Hid (Calls Tryd.prog 10 #[.iface 154 (.pointer (some (g.A 8))), .int .i64 (9 : Nat)] w6 fun e w' => e = .returned (.bool true) ∧ Only [] w6 w') := HC.out w6 s 8 9 (by decide) hk6.ds
                clear hk6 H6
                go_wp2_with (go_at_call 10; refine HC1.out.mono ?_; rintro e w7 ⟨rfl, h1⟩; have H8 : Hid (Lk g l8 w7 (.slice au R.length cu) R nn s) := H7.out.keep h1; clear h1)
                go_roundw
                case rel => exact ⟨j2 + 1, nn, R, s, _, rfl, by go_num, by omega, H8.out, HPW.out, HWX.out.2⟩
                case measure => simp [intOf]; omega
            · have hl2 : decide ((j2 : Int) < (len2 : Int)) = false := decide_eq_false (by omega)
              have hcs : crashS (fun _ => false) s = s.sec := by unfold crashS; rw [hK.wt]; rfl
              have HCR : Hid (Calls Tryd.prog 16 #[.pointer (some ⟨g.t, 0, none⟩), .slice none 0 0] wr fun e w' => ∃ u, e = .returned u ∧ Lk g l8 w' v R nn ⟨none, s.sec, []⟩) := (hK.ds.crash_nil (by rw [hK.wt]; decide)).mono fun e w' q => by
                obtain ⟨u, a1, a2, a3⟩ := q
                rw [hcs] at a2
                exact ⟨u, a1, a2, hK.lg.keep a3, a3.toL.owns hK.row, hK.ok, rfl⟩
              obtain ⟨au, cu, rfl⟩ := own_slice hK.row
              have HOP : Hid (∀ W, Lk g l8 W (.slice au R.length cu) R nn ⟨none, s.sec, []⟩ → Calls Tryd.prog 14 #[.pointer (some ⟨g.t, 0, none⟩)] W fun e w' => ∃ l2 a2 c2, e = .returned (.tuple #[.pointer (some ⟨l2, 0, none⟩), .slice a2 R.length c2, .nilIface]) ∧ Lk g l8 w' (.slice au R.length cu) R nn ⟨none, s.sec, []⟩ ∧ w'.ownsRow g.base 9 1 (.slice a2 R.length c2) R.length (R.map txv)) := fun W hk => (hk.ds.opens hk.wt hk.ok.opens).mono fun e w' q => by
                obtain ⟨l2, v2, a1, a2, a3, a4⟩ := q
                obtain ⟨p1, p2, rfl⟩ := own_slice a3
                exact ⟨l2, p1, p2, a1, hk.keep a4, a3⟩
              clear hK hpw hwg hcs
              go_wp2_with (first
                | (go_at_call 16; refine HCR.out.mono ?_; rintro e w6 ⟨u, rfl, h1⟩; have H6 : Hid (Lk g l8 w6 (.slice au R.length cu) R nn ⟨none, s.sec, []⟩) := h1; clear h1)
                | (go_at_call 14; refine (HOP.out w6 H6.out).mono ?_; rintro e w7 ⟨l7, a7, c7, rfl, h1, h2⟩; have H7 : Hid (Lk g l8 w7 (.slice au R.length cu) R nn ⟨none, s.sec, []⟩) := h1; have HSM : Hid (Calls Tryd.prog 15 #[.slice a7 R.length c7, .slice au R.length cu] w7 fun e w' => e = .returned (.bool true) ∧ Only [] w7 w') := (by have := same_rows h2 h1.row (by omega) (by omega); rwa [decide_eq_true rfl] at this); clear h1 h2)
                | (go_at_call 15; refine HSM.out.mono ?_; rintro e w8 ⟨rfl, h1⟩; have H8 : Hid (Lk g l8 w8 (.slice au R.length cu) R nn ⟨none, s.sec, []⟩) := H7.out.keep h1; clear h1))
              go_ret
              exact ⟨rfl, HBW.out w8 _ H8.out.ds⟩
end Go.Proofs.YtlcloahkeamdkaaDoor
