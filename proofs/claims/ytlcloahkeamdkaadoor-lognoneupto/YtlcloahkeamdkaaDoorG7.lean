/- The laws of a log: what lies in memory while acts go on. -/
import Derived.Test.YtlcloahkeamdkaaDoorG6
/- The laws of a log: what lies in memory while acts go on. -/
namespace Go.Proofs.YtlcloahkeamdkaaDoor
open Go Go.RowKit Go.Deep Go.Maps

theorem wgt_recN (L : List (List UInt8)) : wgt L ≤ 25 * recN L ∧ L.length ≤ recN L := by
  induction L with
  | nil => simp [wgt, recN]
  | cons s L ih =>
    simp only [wgt, recN, List.map_cons, List.sum_cons, List.length_cons] at ih ⊢
    omega
theorem LogOk.fulln {sec : List Sec} {R L : List (List UInt8)} {n : Nat} {c : Bool} (hl : LogOk sec R n) (h : ¬ roomS sec c L) : ¬ 64 + 64 * nxn n c + wgt (nxt R c L) ≤ sec.length * 64 / 3 := by
  have := hl.full h
  cases c with
  | true => exact Nat.not_le.2 this
  | false => exact Nat.not_le.2 this
theorem nxt_wgt (R : List (List UInt8)) (c : Bool) (L : List (List UInt8)) : wgt (nxt R c L) ≤ wgt R + wgt L := by
  unfold nxt
  split
  · omega
  · rw [wgt_app]; exact Nat.le_refl _
section
variable {g : Dv} {w w' : World} {s : DSt} {l : Nat}
theorem ActR.go {R R' : List (List UInt8)} {n n' : Nat} {r : Prop} {e : Ending} (h : ActR g w w' l s R R' n n' r e) (hp : s.pw = none) (hr : r) :
    e = .returned .nilIface ∧ ∃ s', Ds g w' s' ∧ s'.wt = [] ∧ LogOk s'.sec R' n' ∧ s'.sec.length = s.sec.length ∧ s'.pw = none ∧ LogAt w' g l false ∧ OthL w w' := by
  rcases h.lit hp with ⟨e, s', a, b, c, d, f, i, j, _⟩ | ⟨_, h, _⟩
  · exact ⟨e, s', a, b, c, d, f, i, j⟩
  · exact absurd hr h
theorem ActR.full {R R' : List (List UInt8)} {n n' : Nat} {r : Prop} {e : Ending} (h : ActR g w w' l s R R' n n' r e) (hr : ¬ r) (hp : s.pw = none) :
    e = .returned (.iface 154 (.pointer (some (g.A 8)))) ∧ Ds g w' s ∧ LogAt w' g l false ∧ OthL w w' := by
  rcases h.lit hp with ⟨_, s', _, _, _, _, _, _, _, a⟩ | ⟨a, _, b⟩
  · exact absurd a hr
  · exact ⟨a, b⟩
theorem Ds.crash (hd : Ds g w s) (ka : Option Addr) (kn kc : Nat) (keep : Nat → Bool) (hk : ∀ j, j < kn → ∃ kb ko, ka = some ⟨kb, ko, none⟩ ∧ kb < w.heap.size ∧ (∃ cs fr, w.heap[kb]? = some (.cells cs 4 fr)) ∧ w.cell? ⟨kb, ko + j, none⟩ = some (.bool (keep j))) (hkn : ∀ j, kn ≤ j → keep j = false) (hw : s.wt.length ≤ 100001) :
    Calls Tryd.prog 16 #[.pointer (some ⟨g.t, 0, none⟩), .slice ka kn kc] w fun e w' => ∃ v, e = .returned v ∧ Ds g w' ⟨none, crashS keep s, []⟩ ∧ Oth w w' := by
  obtain ⟨vw, hk2⟩ := hd.dk
  refine (callsIn_wide.1 (crash_in hk2 ka kn kc keep (fun j hj => ?_) hkn hw)).mono fun e w' q => ?_
  · obtain ⟨kb, ko, h1, h2, ⟨cs, fr, h3⟩, h4⟩ := hk j hj
    exact ⟨kb, ko, h1, h2, foot_type hk2 h3 (by decide) (by decide) (by decide), h4⟩
  · obtain ⟨⟨v, he⟩, h1, h2⟩ := q
    exact ⟨v, he, hd.step (s' := ⟨none, crashS keep s, []⟩) hk2 h1 h2 (fun k e => by cases e), Oth.of_foot hk2 h2⟩
theorem Ds.crash_nil (hd : Ds g w s) (hw : s.wt.length ≤ 100001) : Calls Tryd.prog 16 #[.pointer (some ⟨g.t, 0, none⟩), .slice none 0 0] w fun e w' => ∃ v, e = .returned v ∧ Ds g w' ⟨none, crashS (fun _ => false) s, []⟩ ∧ Oth w w' :=
  hd.crash none 0 0 (fun _ => false) (fun j hj => by omega) (fun _ _ => rfl) hw
end
/-- A log, and its records in memory. -/
structure Lk (g : Dv) (l : Nat) (W : World) (v : Value) (R : List (List UInt8)) (n : Nat) (s : DSt) : Prop where
  ds : Ds g W s
  lg : LogAt W g l false
  row : W.ownsRow g.base 9 1 v R.length (R.map txv)
  ok : LogOk s.sec R n
  wt : s.wt = []
section
variable {g : Dv} {l : Nat} {W W' : World} {v : Value} {R : List (List UInt8)} {n : Nat} {s : DSt}
theorem Lk.keep (h : Lk g l W v R n s) (ho : Only [] W W') : Lk g l W' v R n s := ⟨h.ds.keep ho, h.lg.keep (Oth.of_only ho), ho.owns h.row (fun _ _ => by simp), h.ok, h.wt⟩
theorem Lk.next (h : Lk g l W v R n s) (c : Bool) (ad : Option Addr) (cap : Nat) (L : List (List UInt8)) (hT : Txs W ad cap L) (hL : L.length ≤ 1000000) (hR : R.length ≤ 1000000) :
    Calls Tryd.prog 11 #[v, .agg #[.bool c, .slice ad L.length cap]] W fun e w' => ∃ v', e = .returned v' ∧ w'.ownsRow g.base 9 1 v' (nxt R c L).length ((nxt R c L).map txv) ∧ Only [] W w' :=
  (lnext_ok W h.row c ad cap L hT hL hR).mono fun e w' q => by
    obtain ⟨v', a, b, c⟩ := q
    exact ⟨v', a, own_base b h.ds.bs, c⟩
/-- Open, where a log is. -/
theorem Ds.opens (hd : Ds g W s) (hw : s.wt = []) (ho : openL s.sec = some R) : Calls Tryd.prog 14 #[.pointer (some ⟨g.t, 0, none⟩)] W fun e w' => ∃ l2 v2, e = .returned (.tuple #[.pointer (some ⟨l2, 0, none⟩), v2, .nilIface]) ∧ LogAt w' g l2 false ∧ w'.ownsRow g.base 9 1 v2 R.length (R.map txv) ∧ Only [] W w' := (open_any hd hw).mono fun e w' q => by
  obtain ⟨q1, q2⟩ := q
  rcases q2 with ⟨q2, _⟩ | ⟨R', l, v, q2, q3, q4, q5, _⟩
  · rw [ho] at q2; cases q2
  · obtain rfl : R = R' := Option.some.inj (ho.symm.trans q2)
    exact ⟨l, v, q3, q4, own_base q5 hd.bs, q1⟩
/-- Two rows of texts are held against each other. -/
theorem same_rows {base base2 : Nat} {v2 : Value} {M : List (List UInt8)} (h1 : W.ownsRow base 9 1 v R.length (R.map txv)) (h2 : W.ownsRow base2 9 1 v2 M.length (M.map txv)) (hR : R.length ≤ 2000000) (hM : M.length ≤ 2000000) :
    Calls Tryd.prog 15 #[v, v2] W fun e w' => e = .returned (.bool (decide (R = M))) ∧ Only [] W w' := by
  obtain ⟨a1, c1, rfl, t1⟩ := own_texts h1 rfl
  obtain ⟨a2, c2, rfl, t2⟩ := own_texts h2 rfl
  exact same_ok W a1 a2 c1 c2 R M t1 t2 hR hM
end
end Go.Proofs.YtlcloahkeamdkaaDoor
/- LogKeeps: the law's walk. -/
namespace Go.Proofs.YtlcloahkeamdkaaDoor
open Go Go.RowKit Go.Deep Go.Maps

theorem new_dv (A : Nat → Addr) (W0 w : World) (hE : Err5 W0 A) (hb : Below W0.heap.size W0 w) (N : Nat) (h1 : 1 ≤ N) (h2 : N ≤ 4000) : Calls Tryd.prog 8 #[.int .i64 (N : Nat)] w fun e w' => ∃ g : Dv, e = .returned (.tuple #[.pointer (some ⟨g.t, 0, none⟩), .nilIface]) ∧ Ds g w' ⟨none, List.replicate N zeroS, []⟩ ∧ g.W0 = W0 ∧ g.A = A :=
  (new_ds A W0 w hE hb N h1 h2).mono fun e w' q => by
    obtain ⟨t, vs, he, hd, ho⟩ := q
    exact ⟨⟨W0, A, w.heap.size, t, vs⟩, he, hd, rfl, rfl⟩
set_option maxRecDepth 100000 in
set_option maxHeartbeats 4000000 in
theorem lkeeps_short (A : Nat → Addr) (w : World) (n : Int) (ad : Option Addr) (cap : Nat) (L : List Rc) (hE : Errs w A) (hI : RcsIn w ad L) (hL : L.length ≤ 1048576) (hc : 500 < wordN L ∨ n < 1 ∨ 400 < n) :
    Calls Tryd.prog 3 #[.int .i64 n, .slice ad L.length cap] w fun e w' => e = .returned (.bool true) ∧ Below w.heap.size w w' := by
  have HSP : Hid (Calls Tryd.prog 6 #[] w fun e w' => e = .returned (.bool true) ∧ Below w.heap.size w w') := logged_ok A w hE.five
  have HBK : Hid (∀ W, Below w.heap.size w W → Calls Tryd.prog 7 #[.slice ad L.length cap] W fun e w' => e = .returned (.bool (decide ((500 : Int) < (wordN L : Nat)))) ∧ w' = W) := fun W hb => wordy_ok W ad cap L (hI.below hb) hL
  clear hE hI
  by_cases hc0 : 500 < wordN L
  · have e0 : decide ((500 : Int) < (wordN L : Nat)) = true := decide_eq_true (by omega)
    go_enter Tryd.func3, Tryd.ntmps3
    go_wp2_with (first
      | (go_at_call 6; refine HSP.out.mono ?_; rintro e w1 ⟨rfl, hb⟩; have B1 : Hid (Below w.heap.size w w1) := hb; clear hb)
      | (go_at_call 7; refine (HBK.out w1 B1.out).mono ?_; rintro e w2 ⟨rfl, h0⟩; have h1 := h0.symm; subst h1; clear h0))
    go_ret
    exact ⟨rfl, B1.out⟩
  · have e0 : decide ((500 : Int) < (wordN L : Nat)) = false := decide_eq_false (by omega)
    by_cases hc1 : n < 1
    · have e1 : decide (n < 1) = true := decide_eq_true hc1
      go_enter Tryd.func3, Tryd.ntmps3
      go_wp2_with (first
        | (go_at_call 6; refine HSP.out.mono ?_; rintro e w1 ⟨rfl, hb⟩; have B1 : Hid (Below w.heap.size w w1) := hb; clear hb)
        | (go_at_call 7; refine (HBK.out w1 B1.out).mono ?_; rintro e w2 ⟨rfl, h0⟩; have h1 := h0.symm; subst h1; clear h0))
      go_ret
      exact ⟨rfl, B1.out⟩
    · have e1 : decide (n < 1) = false := decide_eq_false hc1
      have e2 : decide (400 < n) = true := decide_eq_true (by omega)
      go_enter Tryd.func3, Tryd.ntmps3
      go_wp2_with (first
        | (go_at_call 6; refine HSP.out.mono ?_; rintro e w1 ⟨rfl, hb⟩; have B1 : Hid (Below w.heap.size w w1) := hb; clear hb)
        | (go_at_call 7; refine (HBK.out w1 B1.out).mono ?_; rintro e w2 ⟨rfl, h0⟩; have h1 := h0.symm; subst h1; clear h0))
      go_ret
      exact ⟨rfl, B1.out⟩
set_option maxRecDepth 100000 in
set_option maxHeartbeats 4000000 in
theorem lkeeps_few (A : Nat → Addr) (w : World) (N : Nat) (ad : Option Addr) (cap : Nat) (L : List Rc) (hE : Errs w A) (hI : RcsIn w ad L) (hL : L.length ≤ 1048576) (hc0 : wordN L ≤ 500) (hN1 : 1 ≤ N) (hN2 : N < 8) :
    Calls Tryd.prog 3 #[.int .i64 (N : Nat), .slice ad L.length cap] w fun e w' => e = .returned (.bool true) ∧ Below w.heap.size w w' := by
  have HSP : Hid (Calls Tryd.prog 6 #[] w fun e w' => e = .returned (.bool true) ∧ Below w.heap.size w w') := logged_ok A w hE.five
  have HBK : Hid (∀ W, Below w.heap.size w W → Calls Tryd.prog 7 #[.slice ad L.length cap] W fun e w' => e = .returned (.bool false) ∧ w' = W) := fun W hb => by
    have := wordy_ok W ad cap L (hI.below hb) hL
    rwa [decide_eq_false (by omega)] at this
  have HNW : Hid (∀ W, Below w.heap.size w W → Calls Tryd.prog 8 #[.int .i64 (N : Nat)] W fun e w' => ∃ g : Dv, e = .returned (.tuple #[.pointer (some ⟨g.t, 0, none⟩), .nilIface]) ∧ Ds g w' ⟨none, List.replicate N zeroS, []⟩ ∧ g.W0 = w ∧ g.A = A) := fun W hb => new_dv A w W hE.five hb N hN1 (by omega)
  have HFM : Hid (∀ g W, Ds g W ⟨none, List.replicate N zeroS, []⟩ → Calls Tryd.prog 9 #[.pointer (some ⟨g.t, 0, none⟩)] W fun e w' => e = .returned (.tuple #[.pointer none, .iface 154 (.pointer (some (g.A 8)))]) ∧ Only [] W w') := fun g W hW => format_full hW (by simpa using hN2)
  have HCD : Hid (∀ (g : Dv) W, Below w.heap.size w W → g.A = A → Calls Tryd.prog 10 #[.iface 154 (.pointer (some (g.A 8))), .int .i64 9] W fun e w' => e = .returned (.bool true) ∧ Only [] W w') := fun g W hb e => by
    rw [e]
    exact coded5_err A 8 (by decide) 9 W (hE.below hb (Nat.le_refl _))
  have e1 : decide ((N : Int) < 1) = false := decide_eq_false (by omega)
  have e2 : decide ((400 : Int) < (N : Int)) = false := decide_eq_false (by omega)
  have e3 : decide ((N : Int) < 8) = true := decide_eq_true (by omega)
  clear hE hI
  go_enter Tryd.func3, Tryd.ntmps3
  go_wp2_with (first
    | (go_at_call 6; refine HSP.out.mono ?_; rintro e w1 ⟨rfl, hb⟩; have B1 : Hid (Below w.heap.size w w1) := hb; clear hb)
    | (go_at_call 7; refine (HBK.out w1 B1.out).mono ?_; rintro e w2 ⟨rfl, h0⟩; have h1 := h0.symm; subst h1; clear h0)
    | (go_at_call 8; refine (HNW.out w1 B1.out).mono ?_; rintro e w3 ⟨g, rfl, h1, h2, h3⟩; have HD3 : Hid (Ds g w3 ⟨none, List.replicate N zeroS, []⟩ ∧ g.W0 = w ∧ g.A = A) := ⟨h1, h2, h3⟩; clear h1 h2 h3)
    | (go_at_call 9; refine (HFM.out g w3 HD3.out.1).mono ?_; rintro e w4 ⟨rfl, h1⟩; have B4 : Hid (Below w.heap.size w w4) := (by have h2 := HD3.out.1.bel; rw [HD3.out.2.1] at h2; exact h2.trans (h1.to_below h2.size (fun _ h => by cases h))); clear h1)
    | (go_at_call 10; refine (HCD.out g w4 B4.out HD3.out.2.2).mono ?_; rintro e w5 ⟨rfl, h1⟩; have B5 : Hid (Below w.heap.size w w5) := B4.out.trans (h1.to_below B4.out.size (fun _ h => by cases h)); clear h1))
  go_ret
  exact ⟨rfl, B5.out⟩
end Go.Proofs.YtlcloahkeamdkaaDoor
