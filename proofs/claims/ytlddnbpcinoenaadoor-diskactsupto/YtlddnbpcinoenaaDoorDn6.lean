/- DiskActs: the law's walk. -/
import Derived.Test.YtlddnbpcinoenaaDoorDn5
namespace Go.Proofs.YtlddnbpcinoenaaDoor
open Go Go.RowKit Go.Deep

set_option maxRecDepth 100000 in
set_option maxHeartbeats 4000000 in
theorem dacts_short (A : Nat → Addr) (w : World) (n k : Int) (ad : Option Addr) (cap : Nat) (L : List Ac) (hE : Errs w A) (hI : ActsIn w ad L) (hL : L.length ≤ 1048576) (hc : 200 < bulkN L ∨ (40 < n ∧ n ≤ 4000) ∨ n < 1 ∨ 4000 < n) :
    Calls Tryd.prog 3 #[.int .i64 n, .slice ad L.length cap, .int .i64 k] w fun e w' => e = .returned (.bool true) ∧ Below w.heap.size w w' := by
  have HSP : Hid (Calls Tryd.prog 5 #[] w fun e w' => e = .returned (.bool true) ∧ Below w.heap.size w w') := spun_any A w hE.three
  have HBK : Hid (∀ W, Below w.heap.size w W → Calls Tryd.prog 6 #[.slice ad L.length cap] W fun e w' => e = .returned (.bool (decide ((200 : Int) < (bulkN L : Nat)))) ∧ Only [] W w') := fun W hb => bulky_any W ad cap L (hI.below hb) hL
  have HE : Hid (∀ W, Below w.heap.size w W → Errs W A) := fun W hb => hE.below hb (Nat.le_refl _)
  clear hE hI
  by_cases hc0 : 200 < bulkN L
  · have e0 : decide ((200 : Int) < (bulkN L : Nat)) = true := decide_eq_true (by omega)
    go_enter Tryd.func3, Tryd.ntmps3
    go_wp2_with (first
      | (go_at_call 5; refine HSP.out.mono ?_; rintro e w1 ⟨rfl, hb⟩; have B1 : Hid (Below w.heap.size w w1) := hb; clear hb)
      | (go_at_call 6; refine (HBK.out w1 B1.out).mono ?_; rintro e w2 ⟨rfl, hb⟩; have B2 : Hid (Below w.heap.size w w2) := B1.out.trans (hb.to_below B1.out.size (fun _ h => by cases h)); clear hb))
    go_ret
    exact ⟨rfl, B2.out⟩
  · have e0 : decide ((200 : Int) < (bulkN L : Nat)) = false := decide_eq_false (by omega)
    by_cases hc1 : 40 < n ∧ n ≤ 4000
    · have e1 : decide (40 < n) = true := decide_eq_true hc1.1
      have e2 : decide (n ≤ 4000) = true := decide_eq_true hc1.2
      go_enter Tryd.func3, Tryd.ntmps3
      go_wp2_with (first
        | (go_at_call 5; refine HSP.out.mono ?_; rintro e w1 ⟨rfl, hb⟩; have B1 : Hid (Below w.heap.size w w1) := hb; clear hb)
        | (go_at_call 6; refine (HBK.out w1 B1.out).mono ?_; rintro e w2 ⟨rfl, hb⟩; have B2 : Hid (Below w.heap.size w w2) := B1.out.trans (hb.to_below B1.out.size (fun _ h => by cases h)); clear hb))
      go_ret
      exact ⟨rfl, B2.out⟩
    · have hc2 : n < 1 ∨ 4000 < n := by omega
      have HNB : Hid (∀ W, Below w.heap.size w W → Calls Tryd.prog 7 #[.int .i64 n] W fun e w' => e = .returned (.tuple #[.pointer none, .iface 112 (.pointer (some (A 1)))]) ∧ Only [] W w') := fun W hb => dnew_bad A W n (HE.out W hb).three hc2
      have HCD : Hid (∀ W, Below w.heap.size w W → Calls Tryd.prog 8 #[.iface 112 (.pointer (some (A 1))), .int .i64 2] W fun e w' => e = .returned (.bool true) ∧ Only [] W w') := fun W hb => coded4_any A 2 (by decide) W (HE.out W hb)
      by_cases h1 : n < 1
      · have e1 : decide (40 < n) = false := decide_eq_false (by omega)
        have e3 : decide (n < 1) = true := decide_eq_true h1
        go_enter Tryd.func3, Tryd.ntmps3
        go_wp2_with (first
          | (go_at_call 5; refine HSP.out.mono ?_; rintro e w1 ⟨rfl, hb⟩; have B1 : Hid (Below w.heap.size w w1) := hb; clear hb)
          | (go_at_call 6; refine (HBK.out w1 B1.out).mono ?_; rintro e w2 ⟨rfl, hb⟩; have B2 : Hid (Below w.heap.size w w2) := B1.out.trans (hb.to_below B1.out.size (fun _ h => by cases h)); clear hb)
          | (go_at_call 7; refine (HNB.out w2 B2.out).mono ?_; rintro e w3 ⟨rfl, hb⟩; have B3 : Hid (Below w.heap.size w w3) := B2.out.trans (hb.to_below B2.out.size (fun _ h => by cases h)); clear hb)
          | (go_at_call 8; refine (HCD.out w3 B3.out).mono ?_; rintro e w4 ⟨rfl, hb⟩; have B4 : Hid (Below w.heap.size w w4) := B3.out.trans (hb.to_below B3.out.size (fun _ h => by cases h)); clear hb))
        go_ret
        exact ⟨rfl, B4.out⟩
      · have e1 : decide (40 < n) = true := decide_eq_true (by omega)
        have e2 : decide (n ≤ 4000) = false := decide_eq_false (by omega)
        have e3 : decide (n < 1) = false := decide_eq_false h1
        have e4 : decide (4000 < n) = true := decide_eq_true (by omega)
        go_enter Tryd.func3, Tryd.ntmps3
        go_wp2_with (first
          | (go_at_call 5; refine HSP.out.mono ?_; rintro e w1 ⟨rfl, hb⟩; have B1 : Hid (Below w.heap.size w w1) := hb; clear hb)
          | (go_at_call 6; refine (HBK.out w1 B1.out).mono ?_; rintro e w2 ⟨rfl, hb⟩; have B2 : Hid (Below w.heap.size w w2) := B1.out.trans (hb.to_below B1.out.size (fun _ h => by cases h)); clear hb)
          | (go_at_call 7; refine (HNB.out w2 B2.out).mono ?_; rintro e w3 ⟨rfl, hb⟩; have B3 : Hid (Below w.heap.size w w3) := B2.out.trans (hb.to_below B2.out.size (fun _ h => by cases h)); clear hb)
          | (go_at_call 8; refine (HCD.out w3 B3.out).mono ?_; rintro e w4 ⟨rfl, hb⟩; have B4 : Hid (Below w.heap.size w w4) := B3.out.trans (hb.to_below B3.out.size (fun _ h => by cases h)); clear hb))
        go_ret
        exact ⟨rfl, B4.out⟩
/-- Both disks, while acts are done. -/
structure TwoD (A : Nat → Addr) (w : World) (B B2 t tm N : Nat) (vs : Value) (j : Nat) (st : DSt) (wr : World) : Prop where
  dk : ∃ vw, DkAt wr B t st.pw vs vw st.sec st.wt
  dn : ∃ vk vn vw, DnAt wr B2 tm st.pw vk vn vw (undo st.sec st.wt) st.sec st.wt
  len : st.sec.length = N
  wtl : st.wt.length ≤ j
  pwb : ∀ k, st.pw = some k → k < 9223372036854775808
  ins : ∀ y ∈ st.wt, y.n < st.sec.length
  bel : Below w.heap.size w wr
  szB : B ≤ wr.heap.size
  szB2 : B2 ≤ wr.heap.size
theorem TwoD.step {A : Nat → Addr} {w : World} {B B2 t tm N : Nat} {vs : Value} {j : Nat} {st : DSt} {wr w' : World} (h : TwoD A w B B2 t tm N vs j st wr) (ho : Only [] wr w') : TwoD A w B B2 t tm N vs j st w' := by
  obtain ⟨vw, hd⟩ := h.dk
  obtain ⟨vk, vn, vw', hm⟩ := h.dn
  exact ⟨⟨vw, hd.keep ho⟩, ⟨vk, vn, vw', hm.keep ho⟩, h.len, h.wtl, h.pwb, h.ins, h.bel.trans (ho.to_below h.bel.size (fun _ h => by cases h)), Nat.le_trans h.szB ho.size, Nat.le_trans h.szB2 ho.size⟩
/-- An act on the one, and on the other. -/
theorem TwoD.acts {A : Nat → Addr} {w : World} {B B2 t tm N : Nat} {vs : Value} {j : Nat} {st : DSt} {wr : World} {x : Ac} (h : TwoD A w B B2 t tm N vs j st wr) (hE : ∀ W, Below w.heap.size w W → Err3 W A) (hx : ∀ W, Below w.heap.size w W → AcKeep W x) (hbl : x.B.length ≤ 1048576) (htop : x.N < 9223372036854775808) (hj : j ≤ 200) (hN1 : 1 ≤ N) (hN2 : N ≤ 40) (hB : w.heap.size ≤ B) (hB2 : w.heap.size ≤ B2) :
    Calls Tryd.prog 10 #[.pointer (some ⟨t, 0, none⟩), .agg #[.string x.K, .int .i64 x.N, .string x.S, .slice x.ka x.B.length x.kc]] wr fun e w' => e = .returned (errN A (stepD x st).1) ∧ Below w.heap.size w w' ∧ Calls Tryd.prog 11 #[.pointer (some ⟨tm, 0, none⟩), .agg #[.string x.K, .int .i64 x.N, .string x.S, .slice x.ka x.B.length x.kc]] w' fun e w'' => e = .returned (.int .i64 ((stepD x st).1 : Nat)) ∧ TwoD A w B B2 t tm N vs (j + 1) (stepD x st).2 w'' := by
  obtain ⟨vw, hd⟩ := h.dk
  obtain ⟨vk, vn, vwm, hm⟩ := h.dn
  have hl := h.len
  have hwl := h.wtl
  refine (doAct_ok A (hE wr h.bel) hd x (hx wr h.bel) (by omega) h.pwb (by omega) h.szB).mono fun e w' q => ?_
  obtain ⟨he, vw1, h1, h2, h3⟩ := q
  have hm1 := hm.only h2 (fun k hk hk' => apart_of hd hm k hk' hk)
  have hb1 : Below w.heap.size w w' := h.bel.trans (h2.to_below h.bel.size (fun k hk => Nat.le_trans hB (hd.foot_ge k hk)))
  refine ⟨he, hb1, (do_all hm1 (Nat.le_trans h.szB2 h2.size) (by omega) (by omega) h.ins h.pwb (by omega) x (fun W hW => hx W (hb1.trans (hW.mono hB2))) (by omega)).mono fun e w'' q => ?_⟩
  obtain ⟨he2, vk', vn', vw', q1, q2⟩ := q
  have hd2 := h1.only q2 (fun k hk => apart_of h1 hm1 k hk)
  exact ⟨he2, ⟨vw1, hd2⟩, ⟨vk', vn', vw', q1⟩, by rw [stepD_len]; exact hl, by have := stepD_wt x st; omega, stepD_pw x st htop h.pwb, stepD_ins x st h.ins, hb1.trans (q2.to_below hb1.size (fun k hk => Nat.le_trans hB2 (hm1.foot_ge k hk))), Nat.le_trans h.szB (Nat.le_trans h2.size q2.size), Nat.le_trans h.szB2 (Nat.le_trans h2.size q2.size)⟩
set_option maxRecDepth 100000 in
set_option maxHeartbeats 8000000 in
theorem dacts_main (A : Nat → Addr) (w : World) (N : Nat) (k : Int) (ad : Option Addr) (cap : Nat) (L : List Ac) (hE : Errs w A) (hI : ActsIn w ad L) (hL : L.length ≤ 1048576) (hc0 : bulkN L ≤ 200) (hN1 : 1 ≤ N) (hN2 : N ≤ 40) :
    Calls Tryd.prog 3 #[.int .i64 (N : Nat), .slice ad L.length cap, .int .i64 k] w fun e w' => e = .returned (.bool true) ∧ Below w.heap.size w w' := by
  have HSP : Hid (Calls Tryd.prog 5 #[] w fun e w' => e = .returned (.bool true) ∧ Below w.heap.size w w') := spun_any A w hE.three
  have HBK : Hid (∀ W, Below w.heap.size w W → Calls Tryd.prog 6 #[.slice ad L.length cap] W fun e w' => e = .returned (.bool false) ∧ Only [] W w') := fun W hb => by
    have := bulky_any W ad cap L (hI.below hb) hL
    rwa [decide_eq_false (by omega)] at this
  have HE : Hid (∀ W, Below w.heap.size w W → Errs W A) := fun W hb => hE.below hb (Nat.le_refl _)
  have HIN : Hid (∀ W, Below w.heap.size w W → ActsIn W ad L) := fun W hb => hI.below hb
  have e1 : decide ((40 : Int) < (N : Int)) = false := decide_eq_false (by omega)
  have e3 : decide ((N : Int) < 1) = false := decide_eq_false (by omega)
  have e4 : decide ((4000 : Int) < (N : Int)) = false := decide_eq_false (by omega)
  obtain ⟨len, hlen⟩ : ∃ len, L.length = len := ⟨_, rfl⟩
  have hl200 : len ≤ 200 := by
    have := bulkN_ge L L.length (Nat.le_refl _)
    rw [List.take_length] at this
    omega
  have HLN : Hid (L.length = len) := hlen
  rw [hlen] at HBK ⊢
  clear hE hI hL hc0 hlen
  go_enter Tryd.func3, Tryd.ntmps3
  go_wp2_with (first
    | (go_at_call 5; refine HSP.out.mono ?_; rintro e w1 ⟨rfl, hb⟩; have B1 : Hid (Below w.heap.size w w1) := hb; clear hb)
    | (go_at_call 6; refine (HBK.out w1 B1.out).mono ?_; rintro e w2 ⟨rfl, hb⟩; have B2 : Hid (Below w.heap.size w w2) := B1.out.trans (hb.to_below B1.out.size (fun _ h => by cases h)); clear hb)
    | (go_at_call 7; refine (dnew_ok w2 N hN1 (by omega)).mono ?_; rintro e w3 ⟨t, vs, rfl, hd, ho⟩; have HD0 : Hid (DkAt w3 w2.heap.size t none vs (.slice none 0 0) (List.replicate N zeroS) []) := hd; have B3 : Hid (Below w.heap.size w w3) := B2.out.trans (ho.to_below B2.out.size (fun _ h => by cases h)); have Z3 : Hid (w2.heap.size ≤ w3.heap.size) := ho.size; clear hd ho)
    | (go_at_call 9; refine (newDisk_ok w3 N (by omega)).mono ?_; rintro e w4 ⟨tm, vk0, vn0, rfl, hd, ho⟩; have H0 : Hid (TwoD A w w2.heap.size w3.heap.size t tm N vs 0 ⟨none, List.replicate N zeroS, []⟩ w4) := ⟨⟨_, HD0.out.keep ho⟩, ⟨_, _, _, hd⟩, by simp, by simp, (fun k e => by cases e), (fun y hy => by cases hy), B3.out.trans (ho.to_below B3.out.size (fun _ h => by cases h)), Nat.le_trans Z3.out ho.size, ho.size⟩; clear hd ho))
  go_loopw [11] (fun i wr => ∃ (j : Nat) (st : DSt), i = .int .i64 (j : Nat) ∧ j ≤ len ∧ TwoD A w w2.heap.size w3.heap.size t tm N vs j st wr) (fun i _ => len - (intOf i).toNat)
  case atStart => exact ⟨0, _, rfl, Nat.zero_le _, H0.out⟩
  case round =>
    obtain ⟨j, st, rfl, hj, hT⟩ := hrel
    clear H0 HD0
    by_cases hlt : j < len
    · have hl : decide ((j : Int) < (len : Int)) = true := decide_eq_true (by omega)
      obtain ⟨x, hx⟩ : ∃ x, L[j]? = some x := ⟨L[j]'(by have := HLN.out; omega), List.getElem?_eq_getElem _⟩
      obtain ⟨b, o, rfl, hb, hA⟩ := HIN.out wr hT.bel j x hx
      have HSS : Hid (∀ W, Below w.heap.size w W → W.cell? ⟨b, o + j * 4, none⟩ = some (.string x.K) ∧ W.cell? ⟨b, o + j * 4 + 1, none⟩ = some (.int .i64 x.N) ∧ W.cell? ⟨b, o + j * 4 + 2, none⟩ = some (.string x.S) ∧ W.cell? ⟨b, o + j * 4 + 3, none⟩ = some (.slice x.ka x.B.length x.kc)) := fun W hW => by
        obtain ⟨b', o', e, _, hA⟩ := HIN.out W hW j x hx
        cases e
        exact ⟨hA.k, hA.n, hA.s, hA.p⟩
      have hTd := hT.step ((Only.refl [] wr).drew)
      have hS0 := HSS.out wr.drew hTd.bel
      have b1 : (j : Int) < (len : Int) := by omega
      have HDO : Hid (Calls Tryd.prog 10 #[.pointer (some ⟨t, 0, none⟩), .agg #[.string x.K, .int .i64 x.N, .string x.S, .slice x.ka x.B.length x.kc]] wr.drew fun e w' => e = .returned (errN A (stepD x st).1) ∧ Below w.heap.size w w' ∧ Calls Tryd.prog 11 #[.pointer (some ⟨tm, 0, none⟩), .agg #[.string x.K, .int .i64 x.N, .string x.S, .slice x.ka x.B.length x.kc]] w' fun e w'' => e = .returned (.int .i64 ((stepD x st).1 : Nat)) ∧ TwoD A w w2.heap.size w3.heap.size t tm N vs (j + 1) (stepD x st).2 w'') := hTd.acts (fun W hW => (HE.out W hW).three) (fun W hW => by
        obtain ⟨_, _, _, _, hA⟩ := HIN.out W hW j x hx
        exact hA.keep) hA.bl hA.top (by omega) hN1 hN2 B2.out.size B3.out.size
      obtain ⟨cd, hcd⟩ : ∃ cd, (stepD x st).1 = cd := ⟨_, rfl⟩
      have hcd15 : cd ≤ 15 := by rw [← hcd]; exact stepD_code x st
      rw [hcd] at HDO
      have HCD : Hid (∀ W, Below w.heap.size w W → Calls Tryd.prog 8 #[errN A cd, .int .i64 (cd : Nat)] W fun e w' => e = .returned (.bool true) ∧ Only [] W w') := fun W hW => coded4_any A cd hcd15 W (HE.out W hW)
      generalize errN A cd = ev at HDO HCD
      have hbl : b < wr.heap.size := hb
      clear hT hTd hA hx hcd
      go_upto_region 13 with (fail)
      go_region_held3 (fun W => W.cell? ⟨b, o + j * 4, none⟩ = some (.string x.K) ∧ W.cell? ⟨b, o + j * 4 + 1, none⟩ = some (.int .i64 x.N) ∧ W.cell? ⟨b, o + j * 4 + 2, none⟩ = some (.string x.S) ∧ W.cell? ⟨b, o + j * 4 + 3, none⟩ = some (.slice x.ka x.B.length x.kc)) (with_reducible first | exact hS0 | exact hS5.out | exact hS6.out | exact hS7.out | exact hS8.out)
        (first
          | (go_at_call 10; refine HDO.out.mono ?_; rintro e w5 ⟨rfl, hb5, hdo5⟩; have hS5 : Hid (w5.cell? ⟨b, o + j * 4, none⟩ = some (.string x.K) ∧ w5.cell? ⟨b, o + j * 4 + 1, none⟩ = some (.int .i64 x.N) ∧ w5.cell? ⟨b, o + j * 4 + 2, none⟩ = some (.string x.S) ∧ w5.cell? ⟨b, o + j * 4 + 3, none⟩ = some (.slice x.ka x.B.length x.kc)) := HSS.out w5 hb5; have H5 : Hid (Calls Tryd.prog 11 #[.pointer (some ⟨tm, 0, none⟩), .agg #[.string x.K, .int .i64 x.N, .string x.S, .slice x.ka x.B.length x.kc]] w5 fun e w'' => e = .returned (.int .i64 (cd : Nat)) ∧ TwoD A w w2.heap.size w3.heap.size t tm N vs (j + 1) (stepD x st).2 w'') := hdo5; clear hb5 hdo5)
          | (go_at_call 11; refine H5.out.mono ?_; rintro e w6 ⟨rfl, hT6⟩; have H6 : Hid (TwoD A w w2.heap.size w3.heap.size t tm N vs (j + 1) (stepD x st).2 w6) := hT6; have hS6 : Hid (w6.cell? ⟨b, o + j * 4, none⟩ = some (.string x.K) ∧ w6.cell? ⟨b, o + j * 4 + 1, none⟩ = some (.int .i64 x.N) ∧ w6.cell? ⟨b, o + j * 4 + 2, none⟩ = some (.string x.S) ∧ w6.cell? ⟨b, o + j * 4 + 3, none⟩ = some (.slice x.ka x.B.length x.kc)) := HSS.out w6 hT6.bel; clear hT6)
          | (go_at_call 8; refine (HCD.out w6 H6.out.bel).mono ?_; rintro e w7 ⟨rfl, ho7⟩; have H7 : Hid (TwoD A w w2.heap.size w3.heap.size t tm N vs (j + 1) (stepD x st).2 w7) := H6.out.step ho7; have hS7 : Hid (w7.cell? ⟨b, o + j * 4, none⟩ = some (.string x.K) ∧ w7.cell? ⟨b, o + j * 4 + 1, none⟩ = some (.int .i64 x.N) ∧ w7.cell? ⟨b, o + j * 4 + 2, none⟩ = some (.string x.S) ∧ w7.cell? ⟨b, o + j * 4 + 3, none⟩ = some (.slice x.ka x.B.length x.kc)) := HSS.out w7 H7.out.bel; have HAS : Hid (Calls Tryd.prog 12 #[.pointer (some ⟨t, 0, none⟩), .pointer (some ⟨tm, 0, none⟩)] w7 fun e w' => e = .returned (.bool true) ∧ Only [] w7 w') := (by obtain ⟨_, h1⟩ := H7.out.dk; obtain ⟨_, _, _, h2⟩ := H7.out.dn; exact asDisk_ok h1 h2); clear ho7)
          | (go_at_call 12; refine HAS.out.mono ?_; rintro e w8 ⟨rfl, ho8⟩; have H8 : Hid (TwoD A w w2.heap.size w3.heap.size t tm N vs (j + 1) (stepD x st).2 w8) := H7.out.step ho8; have hS8 : Hid (w8.cell? ⟨b, o + j * 4, none⟩ = some (.string x.K) ∧ w8.cell? ⟨b, o + j * 4 + 1, none⟩ = some (.int .i64 x.N) ∧ w8.cell? ⟨b, o + j * 4 + 2, none⟩ = some (.string x.S) ∧ w8.cell? ⟨b, o + j * 4 + 3, none⟩ = some (.slice x.ka x.B.length x.kc)) := HSS.out w8 H8.out.bel; clear ho8))
      go_wp2
      go_roundw
      case rel => exact ⟨j + 1, (stepD x st).2, by go_num, by omega, H8.out⟩
      case measure => simp [intOf]; omega
    · obtain rfl : j = len := by omega
      have hl : decide ((j : Int) < (j : Int)) = false := decide_eq_false (by omega)
      have HT : Hid (TwoD A w w2.heap.size w3.heap.size t tm N vs j st wr) := hT
      obtain ⟨vw, hd⟩ := hT.dk
      obtain ⟨vk, vn, vwm, hm⟩ := hT.dn
      have hsl := hT.len
      by_cases hk : 0 ≤ k ∧ k < N
      · obtain ⟨q, hq⟩ : ∃ q : Nat, k = (q : Int) := ⟨k.toNat, by omega⟩
        subst hq
        have hql : q < st.sec.length := by omega
        have hxq : st.sec[q]? = some st.sec[q] := List.getElem?_eq_getElem hql
        have HR : Hid (Calls Tryd.prog 13 #[.pointer (some ⟨t, 0, none⟩), .int .i64 (q : Nat)] wr fun e w' => e = .returned (.tuple #[.string (bs st.sec[q].1), .nilIface]) ∧ w' = wr) := read_ok hd q st.sec[q] hxq
        obtain ⟨gn, cn, hvn⟩ : ∃ gn cn, vn = .slice (some ⟨gn, 0, none⟩) st.sec.length cn := by
          rcases hm.nr.2 with ⟨_, e⟩ | ⟨g, c, cur, e, _⟩
          · omega
          · exact ⟨g, c, e⟩
        subst hvn
        have cq : wr.cell? ⟨gn, q, none⟩ = some (.string (bs st.sec[q].1)) := by
          have := World.ownsRow.cellAt hm.nr q (by omega)
          rw [this]
          simp [txt, hql]
        have hcl := lt_of_cell cq
        have c1 := hm.cells.2.1
        rw [hsl] at c1
        have htm := hm.lt
        have d1 : decide ((q : Int) < 0) = false := decide_eq_false (by omega)
        have d2 : decide ((N : Int) ≤ (q : Int)) = false := decide_eq_false (by omega)
        have bq0 : (0 : Int) ≤ (q : Int) := by omega
        have bq1 : (q : Int) < (N : Int) := by omega
        generalize bs st.sec[q].1 = u at HR cq
        clear hd hm hT
        go_wp2_with (go_at_call 13; refine HR.out.mono ?_; rintro e w0 ⟨rfl, h0⟩; have h1 := h0.symm; subst h1; clear h0)
        go_ret
        exact ⟨rfl, HT.out.bel⟩
      · have HR : Hid (Calls Tryd.prog 13 #[.pointer (some ⟨t, 0, none⟩), .int .i64 k] wr fun e w' => e = .returned (.tuple #[.string ⟨#[]⟩, .iface 112 (.pointer (some (A 1)))]) ∧ Only [] wr w') := read_bad A (HE.out wr hT.bel).three hd k (by omega)
        have HCD : Hid (∀ W, Below w.heap.size w W → Calls Tryd.prog 8 #[.iface 112 (.pointer (some (A 1))), .int .i64 2] W fun e w' => e = .returned (.bool true) ∧ Only [] W w') := fun W hb => coded4_any A 2 (by decide) W (HE.out W hb)
        clear hd hm hT
        by_cases hk0 : k < 0
        · have d1 : decide (k < 0) = true := decide_eq_true hk0
          go_wp2_with (first
            | (go_at_call 13; refine HR.out.mono ?_; rintro e w9 ⟨rfl, ho9⟩; have H9 : Hid (TwoD A w w2.heap.size w3.heap.size t tm N vs j st w9) := HT.out.step ho9; clear ho9)
            | (go_at_call 8; refine (HCD.out w9 H9.out.bel).mono ?_; rintro e w10 ⟨rfl, ho10⟩; have H10 : Hid (TwoD A w w2.heap.size w3.heap.size t tm N vs j st w10) := H9.out.step ho10; clear ho10))
          go_ret
          exact ⟨rfl, H10.out.bel⟩
        · have d1 : decide (k < 0) = false := decide_eq_false hk0
          have d2 : decide ((N : Int) ≤ k) = true := decide_eq_true (by omega)
          go_wp2_with (first
            | (go_at_call 13; refine HR.out.mono ?_; rintro e w9 ⟨rfl, ho9⟩; have H9 : Hid (TwoD A w w2.heap.size w3.heap.size t tm N vs j st w9) := HT.out.step ho9; clear ho9)
            | (go_at_call 8; refine (HCD.out w9 H9.out.bel).mono ?_; rintro e w10 ⟨rfl, ho10⟩; have H10 : Hid (TwoD A w w2.heap.size w3.heap.size t tm N vs j st w10) := H9.out.step ho10; clear ho10))
          go_ret
          exact ⟨rfl, H10.out.bel⟩
/-- DiskActs, whatever came in. -/
theorem dacts_all (A : Nat → Addr) (w : World) (n k : Int) (ad : Option Addr) (len cap : Nat) (hE : Errs w A) (hI : IsDActs w ad len) :
    Calls Tryd.prog 3 #[.int .i64 n, .slice ad len cap, .int .i64 k] w fun e w' => e = .returned (.bool true) ∧ Below w.heap.size w w' := by
  obtain ⟨hl, L, rfl, hA⟩ := hI
  by_cases hc : 200 < bulkN L ∨ (40 < n ∧ n ≤ 4000) ∨ n < 1 ∨ 4000 < n
  · exact dacts_short A w n k ad cap L hE hA hl hc
  · have h := dacts_main A w n.toNat k ad cap L hE hA hl (by omega) (by omega) (by omega)
    have e1 : ((n.toNat : Nat) : Int) = n := by omega
    rwa [e1] at h
end Go.Proofs.YtlddnbpcinoenaaDoor
