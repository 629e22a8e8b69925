/- LogNone: the law's walk. -/
import Derived.Test.YtlcloahkeamdkaaDoorG7
import Derived.Test.YtlcloahkeamdkaaDoorG8
namespace Go.Proofs.YtlcloahkeamdkaaDoor
open Go Go.RowKit Go.Deep Go.Maps

set_option maxRecDepth 100000 in
set_option maxHeartbeats 4000000 in
theorem lnone_short (A : Nat → Addr) (w : World) (n : Int) (ad : Option Addr) (cap : Nat) (L : List Ac) (over : Bool) (hE : Errs w A) (hI : ActsIn w ad L) (hL : L.length ≤ 1048576) (hc : 200 < bulkN L ∨ n < 1 ∨ 60 < n) :
    Calls Tryd.prog 5 #[.slice ad L.length cap, .int .i64 n, .bool over] w fun e w' => e = .returned (.bool true) ∧ Below w.heap.size w w' := by
  have HSP : Hid (Calls Tryd.prog 6 #[] w fun e w' => e = .returned (.bool true) ∧ Below w.heap.size w w') := logged_ok A w hE.five
  have HBK : Hid (∀ W, Below w.heap.size w W → Calls Tryd.prog 18 #[.slice ad L.length cap] W fun e w' => e = .returned (.bool (decide ((200 : Int) < (bulkN L : Nat)))) ∧ Only [] W w') := fun W hb => bulky_any W ad cap L (hI.below hb) hL
  clear hE hI
  by_cases hc0 : 200 < bulkN L
  · have e0 : decide ((200 : Int) < (bulkN L : Nat)) = true := decide_eq_true (by omega)
    go_enter Tryd.func5, Tryd.ntmps5
    go_wp2_with (first
      | (go_at_call 6; refine HSP.out.mono ?_; rintro e w1 ⟨rfl, hb⟩; have B1 : Hid (Below w.heap.size w w1) := hb; clear hb)
      | (go_at_call 18; refine (HBK.out w1 B1.out).mono ?_; rintro e w2 ⟨rfl, hb⟩; have B2 : Hid (Below w.heap.size w w2) := B1.out.trans (hb.to_below B1.out.size (fun _ h => by cases h)); clear hb))
    go_ret
    exact ⟨rfl, B2.out⟩
  · have e0 : decide ((200 : Int) < (bulkN L : Nat)) = false := decide_eq_false (by omega)
    by_cases hc1 : n < 1
    · have e1 : decide (n < 1) = true := decide_eq_true hc1
      go_enter Tryd.func5, Tryd.ntmps5
      go_wp2_with (first
        | (go_at_call 6; refine HSP.out.mono ?_; rintro e w1 ⟨rfl, hb⟩; have B1 : Hid (Below w.heap.size w w1) := hb; clear hb)
        | (go_at_call 18; refine (HBK.out w1 B1.out).mono ?_; rintro e w2 ⟨rfl, hb⟩; have B2 : Hid (Below w.heap.size w w2) := B1.out.trans (hb.to_below B1.out.size (fun _ h => by cases h)); clear hb))
      go_ret
      exact ⟨rfl, B2.out⟩
    · have e1 : decide (n < 1) = false := decide_eq_false hc1
      have e2 : decide (60 < n) = true := decide_eq_true (by omega)
      go_enter Tryd.func5, Tryd.ntmps5
      go_wp2_with (first
        | (go_at_call 6; refine HSP.out.mono ?_; rintro e w1 ⟨rfl, hb⟩; have B1 : Hid (Below w.heap.size w w1) := hb; clear hb)
        | (go_at_call 18; refine (HBK.out w1 B1.out).mono ?_; rintro e w2 ⟨rfl, hb⟩; have B2 : Hid (Below w.heap.size w w2) := B1.out.trans (hb.to_below B1.out.size (fun _ h => by cases h)); clear hb))
      go_ret
      exact ⟨rfl, B2.out⟩
section
variable {g : Dv} {w w' : World} {s : DSt} {N : Nat}
theorem Ds.format (hd : Ds g w ⟨none, List.replicate N zeroS, []⟩) : Calls Tryd.prog 9 #[.pointer (some ⟨g.t, 0, none⟩)] w fun e w' => ∃ v1 v2 s', e = .returned (.tuple #[v1, v2]) ∧ Ds g w' s' ∧ s'.wt = [] := by
  by_cases hN : N < 8
  · exact (format_full hd (by simpa using hN)).mono fun e w' q => ⟨_, _, _, q.1, hd.keep q.2, rfl⟩
  · exact (format_new hd rfl (by omega) rfl rfl).mono fun e w' q => by
      obtain ⟨l, a, b, _⟩ := q
      exact ⟨_, _, _, a, b, rfl⟩
theorem Ds.act (hd : Ds g w s) (x : Ac) (hx : AcKeep w x) (hl : x.B.length ≤ 1048576) (ht : x.N < 9223372036854775808) (hw : s.wt.length ≤ 100000) :
    Calls Tryd.prog 19 #[.pointer (some ⟨g.t, 0, none⟩), .agg #[.string x.K, .int .i64 x.N, .string x.S, .slice x.ka x.B.length x.kc]] w fun e w' => ∃ v s', e = .returned v ∧ Ds g w' s' ∧ s'.wt.length ≤ s.wt.length + 1 := by
  obtain ⟨vw, hk⟩ := hd.dk
  refine (doAct_ok g.A hd.err.three hk x hx (by omega) hd.pl hw hd.bs).mono fun e w' q => ?_
  obtain ⟨he, vw', h1, h2, _⟩ := q
  exact ⟨_, (stepD x s).2, he, hd.step hk h1 h2 (stepD_pw x s ht hd.pl), stepD_wt x s⟩
end
set_option maxRecDepth 100000 in
set_option maxHeartbeats 4000000 in
theorem lnone_bare (A : Nat → Addr) (w : World) (N : Nat) (ad : Option Addr) (cap : Nat) (L : List Ac) (hE : Errs w A) (hI : ActsIn w ad L) (hL : L.length ≤ 1048576) (hc0 : bulkN L ≤ 200) (hN1 : 1 ≤ N) (hN2 : N ≤ 60) :
    Calls Tryd.prog 5 #[.slice ad L.length cap, .int .i64 (N : Nat), .bool false] w fun e w' => e = .returned (.bool true) ∧ Below w.heap.size w w' := by
  have HSP : Hid (Calls Tryd.prog 6 #[] w fun e w' => e = .returned (.bool true) ∧ Below w.heap.size w w') := logged_ok A w hE.five
  have HBK : Hid (∀ W, Below w.heap.size w W → Calls Tryd.prog 18 #[.slice ad L.length cap] W fun e w' => e = .returned (.bool false) ∧ Only [] W w') := fun W hb => by
    have := bulky_any W ad cap L (hI.below hb) hL
    rwa [decide_eq_false (by omega)] at this
  have HNW : Hid (∀ W, Below w.heap.size w W → Calls Tryd.prog 8 #[.int .i64 (N : Nat)] W fun e w' => ∃ g : Dv, e = .returned (.tuple #[.pointer (some ⟨g.t, 0, none⟩), .nilIface]) ∧ Ds g w' ⟨none, List.replicate N zeroS, []⟩ ∧ g.W0 = w ∧ g.A = A) := fun W hb => new_dv A w W hE.five hb N hN1 (by omega)
  have HOP : Hid (∀ g W, Ds g W ⟨none, List.replicate N zeroS, []⟩ → g.W0 = w → Calls Tryd.prog 14 #[.pointer (some ⟨g.t, 0, none⟩)] W fun e w' => e = .returned (.tuple #[.pointer none, .slice none 0 0, .iface 154 (.pointer (some (g.A 0)))]) ∧ Below w.heap.size w w') := fun g W hW e => (open_none hW (newest_zero N)).mono fun e w' q => by
    have := (hW.keep q.2).bel
    rw [‹g.W0 = w›] at this
    exact ⟨q.1, this⟩
  have HCD : Hid (∀ (g : Dv) W, Below w.heap.size w W → g.A = A → Calls Tryd.prog 10 #[.iface 154 (.pointer (some (g.A 0))), .int .i64 1] W fun e w' => e = .returned (.bool true) ∧ Only [] W w') := fun g W hb e => by
    rw [e]
    exact coded5_err A 0 (by decide) 1 W (hE.below hb (Nat.le_refl _))
  have e1 : decide ((N : Int) < 1) = false := decide_eq_false (by omega)
  have e2 : decide ((60 : Int) < (N : Int)) = false := decide_eq_false (by omega)
  clear hE hI
  go_enter Tryd.func5, Tryd.ntmps5
  go_wp2_with (first
    | (go_at_call 6; refine HSP.out.mono ?_; rintro e w1 ⟨rfl, hb⟩; have B1 : Hid (Below w.heap.size w w1) := hb; clear hb)
    | (go_at_call 18; refine (HBK.out w1 B1.out).mono ?_; rintro e w2 ⟨rfl, hb⟩; have B2 : Hid (Below w.heap.size w w2) := B1.out.trans (hb.to_below B1.out.size (fun _ h => by cases h)); clear hb)
    | (go_at_call 8; refine (HNW.out w2 B2.out).mono ?_; rintro e w3 ⟨g, rfl, h1, h2, h3⟩; have HD3 : Hid (Ds g w3 ⟨none, List.replicate N zeroS, []⟩ ∧ g.W0 = w ∧ g.A = A) := ⟨h1, h2, h3⟩; clear h1 h2 h3)
    | (go_at_call 14; refine (HOP.out g w3 HD3.out.1 HD3.out.2.1).mono ?_; rintro e w4 ⟨rfl, h1⟩; have B4 : Hid (Below w.heap.size w w4) := h1; clear h1)
    | (go_at_call 10; refine (HCD.out g w4 B4.out HD3.out.2.2).mono ?_; rintro e w5 ⟨rfl, h1⟩; have B5 : Hid (Below w.heap.size w w5) := B4.out.trans (h1.to_below B4.out.size (fun _ h => by cases h)); clear h1))
  go_ret
  exact ⟨rfl, B5.out⟩
set_option maxRecDepth 100000 in
set_option maxHeartbeats 4000000 in
theorem lnone_over (A : Nat → Addr) (w : World) (N : Nat) (ad : Option Addr) (cap : Nat) (L : List Ac) (hE : Errs w A) (hI : ActsIn w ad L) (hL : L.length ≤ 1048576) (hc0 : bulkN L ≤ 200) (hN1 : 1 ≤ N) (hN2 : N ≤ 60) :
    Calls Tryd.prog 5 #[.slice ad L.length cap, .int .i64 (N : Nat), .bool true] w fun e w' => e = .returned (.bool true) ∧ Below w.heap.size w w' := by
  have HSP : Hid (Calls Tryd.prog 6 #[] w fun e w' => e = .returned (.bool true) ∧ Below w.heap.size w w') := logged_ok A w hE.five
  have HBK : Hid (∀ W, Below w.heap.size w W → Calls Tryd.prog 18 #[.slice ad L.length cap] W fun e w' => e = .returned (.bool false) ∧ Only [] W w') := fun W hb => by
    have := bulky_any W ad cap L (hI.below hb) hL
    rwa [decide_eq_false (by omega)] at this
  have HNW : Hid (∀ W, Below w.heap.size w W → Calls Tryd.prog 8 #[.int .i64 (N : Nat)] W fun e w' => ∃ g : Dv, e = .returned (.tuple #[.pointer (some ⟨g.t, 0, none⟩), .nilIface]) ∧ Ds g w' ⟨none, List.replicate N zeroS, []⟩ ∧ g.W0 = w ∧ g.A = A) := fun W hb => new_dv A w W hE.five hb N hN1 (by omega)
  have HFM : Hid (∀ g W, Ds g W ⟨none, List.replicate N zeroS, []⟩ → Calls Tryd.prog 9 #[.pointer (some ⟨g.t, 0, none⟩)] W fun e w' => ∃ v1 v2 s', e = .returned (.tuple #[v1, v2]) ∧ Ds g w' s' ∧ s'.wt = []) := fun g W hW => hW.format
  have HCD : Hid (∀ (g : Dv) W, Below w.heap.size w W → g.A = A → Calls Tryd.prog 10 #[.iface 154 (.pointer (some (g.A 0))), .int .i64 1] W fun e w' => e = .returned (.bool true) ∧ Only [] W w') := fun g W hb e => by
    rw [e]
    exact coded5_err A 0 (by decide) 1 W (hE.below hb (Nat.le_refl _))
  have HIN : Hid (ActsIn w ad L) := hI
  have e1 : decide ((N : Int) < 1) = false := decide_eq_false (by omega)
  have e2 : decide ((60 : Int) < (N : Int)) = false := decide_eq_false (by omega)
  obtain ⟨len, hlen⟩ : ∃ len, L.length = len := ⟨_, rfl⟩
  have hl200 : len ≤ 200 := by
    have := bulkN_ge L L.length (Nat.le_refl _)
    rw [List.take_length] at this
    omega
  have HLN : Hid (L.length = len) := hlen
  rw [hlen] at HBK ⊢
  clear hE hI hL hc0 hlen
  go_enter Tryd.func5, Tryd.ntmps5
  go_upto_region 12 with (first
    | (go_at_call 6; refine HSP.out.mono ?_; rintro e w1 ⟨rfl, hb⟩; have B1 : Hid (Below w.heap.size w w1) := hb; clear hb)
    | (go_at_call 18; refine (HBK.out w1 B1.out).mono ?_; rintro e w2 ⟨rfl, hb⟩; have B2 : Hid (Below w.heap.size w w2) := B1.out.trans (hb.to_below B1.out.size (fun _ h => by cases h)); clear hb)
    | (go_at_call 8; refine (HNW.out w2 B2.out).mono ?_; rintro e w3 ⟨g, rfl, h1, h2, h3⟩; have HD3 : Hid (Ds g w3 ⟨none, List.replicate N zeroS, []⟩ ∧ g.W0 = w ∧ g.A = A) := ⟨h1, h2, h3⟩; clear h1 h2 h3)
    | (go_at_call 9; refine (HFM.out g w3 HD3.out.1).mono ?_; rintro e w4 ⟨v1, v2, s4, rfl, h1, h2⟩; have HD4 : Hid (Ds g w4 s4 ∧ s4.wt = []) := ⟨h1, h2⟩; clear h1 h2))
  have HG : Hid (g.W0 = w ∧ g.A = A) := HD3.out.2
  have HBW : Hid (∀ W s, Ds g W s → Below w.heap.size w W) := fun W s h => by have := h.bel; rw [HG.out.1] at this; exact this
  clear HD3 B1 B2 HSP HBK HNW HFM e1 e2
  go_loopw [13] (fun i wr => ∃ (j : Nat) (s : DSt), i = .int .i64 (j : Nat) ∧ j ≤ len ∧ Ds g wr s ∧ s.wt.length ≤ j) (fun i _ => len - (intOf i).toNat)
  case atStart => exact ⟨0, s4, rfl, Nat.zero_le _, HD4.out.1, by rw [HD4.out.2]; exact Nat.le_refl _⟩
  case round =>
    clear HD4
    obtain ⟨j, s, rfl, hj, hD, hwl⟩ := hrel
    by_cases hlt : j < len
    · have hl : decide ((j : Int) < (len : Int)) = true := decide_eq_true (by omega)
      obtain ⟨x, hx⟩ : ∃ x, L[j]? = some x := ⟨L[j]'(by have := HLN.out; omega), List.getElem?_eq_getElem _⟩
      obtain ⟨b, o, rfl, hb, hA⟩ := (HIN.out.below (HBW.out wr s hD)) j x hx
      have c0 := hA.k
      have c1 := hA.n
      have c2 := hA.s
      have c3 := hA.p
      have b1 : (j : Int) < (len : Int) := by omega
      have HDO : Hid (Calls Tryd.prog 19 #[.pointer (some ⟨g.t, 0, none⟩), .agg #[.string x.K, .int .i64 x.N, .string x.S, .slice x.ka x.B.length x.kc]] wr fun e w' => ∃ v s', e = .returned v ∧ Ds g w' s' ∧ s'.wt.length ≤ j + 1) := (hD.act x hA.keep hA.bl hA.top (by omega)).mono fun e w' q => by
        obtain ⟨v, s', a1, a2, a3⟩ := q
        exact ⟨v, s', a1, a2, by omega⟩
      clear hD hA hx hwl
      go_wp2_with (go_at_call 19; refine HDO.out.mono ?_; rintro e w5 ⟨v, s5, rfl, h1, h2⟩; have H5 : Hid (Ds g w5 s5 ∧ s5.wt.length ≤ j + 1) := ⟨h1, h2⟩; clear h1 h2)
      go_roundw
      case rel => exact ⟨j + 1, s5, by go_num, by omega, H5.out.1, H5.out.2⟩
      case measure => simp [intOf]; omega
    · have hl : decide ((j : Int) < (len : Int)) = false := decide_eq_false (by omega)
      obtain ⟨S1, hS1⟩ : ∃ S1, crashS (fun _ => false) s = S1 := ⟨_, rfl⟩
      have HCR : Hid (Calls Tryd.prog 16 #[.pointer (some ⟨g.t, 0, none⟩), .slice none 0 0] wr fun e w' => ∃ u, e = .returned u ∧ Ds g w' ⟨none, S1, []⟩) := (hD.crash_nil (by omega)).mono fun e w' q => by
        obtain ⟨u, a1, a2, _⟩ := q
        rw [hS1] at a2
        exact ⟨u, a1, a2⟩
      clear hD hwl hS1
      cases ho : openL S1 with
      | none =>
        have HOP : Hid (∀ W, Ds g W ⟨none, S1, []⟩ → Calls Tryd.prog 14 #[.pointer (some ⟨g.t, 0, none⟩)] W fun e w' => e = .returned (.tuple #[.pointer none, .slice none 0 0, .iface 154 (.pointer (some (g.A 0)))]) ∧ Below w.heap.size w w') := fun W hW => (open_any hW rfl).mono fun e w' q => by
          obtain ⟨q1, q2⟩ := q
          rcases q2 with ⟨_, q2⟩ | ⟨R, l, v, q2, _⟩
          · exact ⟨q2, HBW.out w' _ (hW.keep q1)⟩
          · exact absurd (ho.symm.trans q2) (by simp)
        clear ho
        go_wp2_with (first
          | (go_at_call 16; refine HCR.out.mono ?_; rintro e w6 ⟨u, rfl, h1⟩; have H6 : Hid (Ds g w6 ⟨none, S1, []⟩) := h1; clear h1)
          | (go_at_call 14; refine (HOP.out w6 H6.out).mono ?_; rintro e w7 ⟨rfl, h1⟩; have B7 : Hid (Below w.heap.size w w7) := h1; clear h1)
          | (go_at_call 10; refine (HCD.out g w7 B7.out HG.out.2).mono ?_; rintro e w8 ⟨rfl, h1⟩; have B8 : Hid (Below w.heap.size w w8) := B7.out.trans (h1.to_below B7.out.size (fun _ h => by cases h)); clear h1))
        go_ret
        exact ⟨rfl, B8.out⟩
      | some R =>
        have HOP : Hid (∀ W, Ds g W ⟨none, S1, []⟩ → Calls Tryd.prog 14 #[.pointer (some ⟨g.t, 0, none⟩)] W fun e w' => ∃ l v, e = .returned (.tuple #[.pointer (some ⟨l, 0, none⟩), v, .nilIface]) ∧ Below w.heap.size w w') := fun W hW => (hW.opens rfl ho).mono fun e w' q => by
          obtain ⟨l, v, a1, _, _, a2⟩ := q
          exact ⟨l, v, a1, HBW.out w' _ (hW.keep a2)⟩
        clear ho
        go_wp2_with (first
          | (go_at_call 16; refine HCR.out.mono ?_; rintro e w6 ⟨u, rfl, h1⟩; have H6 : Hid (Ds g w6 ⟨none, S1, []⟩) := h1; clear h1)
          | (go_at_call 14; refine (HOP.out w6 H6.out).mono ?_; rintro e w7 ⟨l7, v7, rfl, h1⟩; have B7 : Hid (Below w.heap.size w w7) := h1; clear h1))
        go_ret
        exact ⟨rfl, B7.out⟩
theorem lnone_all (A : Nat → Addr) (w : World) (n : Int) (ad : Option Addr) (len cap : Nat) (over : Bool) (hE : Errs w A) (hI : IsDActs w ad len) :
    Calls Tryd.prog 5 #[.slice ad len cap, .int .i64 n, .bool over] w fun e w' => e = .returned (.bool true) ∧ Below w.heap.size w w' := by
  obtain ⟨hl, L, rfl, hA⟩ := hI
  by_cases hc : 200 < bulkN L ∨ n < 1 ∨ 60 < n
  · exact lnone_short A w n ad cap L over hE hA hl hc
  · obtain ⟨N, rfl⟩ : ∃ N : Nat, n = (N : Int) := ⟨n.toNat, by omega⟩
    cases over with
    | true => exact lnone_over A w N ad cap L hE hA hl (by omega) (by omega) (by omega)
    | false => exact lnone_bare A w N ad cap L hE hA hl (by omega) (by omega) (by omega)
end Go.Proofs.YtlcloahkeamdkaaDoor
