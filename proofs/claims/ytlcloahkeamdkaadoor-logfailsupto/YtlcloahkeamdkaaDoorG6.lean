/- The laws of a log: records that came in; wordy; logged. -/
import Derived.Test.YtlcloahkeamdkaaDoorG5
/- The laws of a log: records that came in; wordy; logged. -/
namespace Go.Proofs.YtlcloahkeamdkaaDoor
open Go Go.RowKit Go.Deep Go.Maps

/-- A record act. -/
structure Rc where
  C : Bool
  ad : Option Addr
  cap : Nat
  L : List (List UInt8)
structure RcIn (w : World) (b o : Nat) (x : Rc) : Prop where
  c : w.cell? ⟨b, o, none⟩ = some (.bool x.C)
  l : w.cell? ⟨b, o + 1, none⟩ = some (.slice x.ad x.L.length x.cap)
  tx : Txs w x.ad x.cap x.L
  len : x.L.length ≤ 1048576
  ss : ∀ s ∈ x.L, s.length ≤ 1048576
def RcsIn (w : World) (ad : Option Addr) (l : List Rc) : Prop := ∀ i x, l[i]? = some x → ∃ b o, ad = some ⟨b, o, none⟩ ∧ b < w.heap.size ∧ RcIn w b (o + i * 2) x
theorem Txs.below {w w' : World} {ad : Option Addr} {cap : Nat} {L : List (List UInt8)} (h : Txs w ad cap L) (hb : Below w.heap.size w w') : Txs w' ad cap L := h.only (Only.of_below hb [])
theorem RcsIn.below {w w' : World} {ad : Option Addr} {l : List Rc} (h : RcsIn w ad l) (hb : Below w.heap.size w w') : RcsIn w' ad l := fun i x hx => by
  obtain ⟨b, o, e, hl, h⟩ := h i x hx
  exact ⟨b, o, e, Nat.lt_of_lt_of_le hl hb.size, (hb.cell (p := ⟨b, _, none⟩) hl).trans h.c, (hb.cell (p := ⟨b, _, none⟩) hl).trans h.l, h.tx.below hb, h.len, h.ss⟩
def recN (L : List (List UInt8)) : Nat := (L.map fun s => 1 + s.length / 10).sum
def wordN (l : List Rc) : Nat := (l.map fun x => 5 + recN x.L).sum
theorem recN_snoc (L : List (List UInt8)) (s : List UInt8) : recN (L ++ [s]) = recN L + (1 + s.length / 10) := by simp [recN]
theorem wordN_snoc (l : List Rc) (x : Rc) : wordN (l ++ [x]) = wordN l + (5 + recN x.L) := by simp [wordN]
theorem recN_most (L : List (List UInt8)) (h : ∀ s ∈ L, s.length ≤ 1048576) : recN L ≤ L.length * 104858 := by
  induction L with
  | nil => simp [recN]
  | cons s L ih =>
    have h1 := h s (by simp)
    have h2 := ih (fun x hx => h x (by simp [hx]))
    simp only [recN, List.map_cons, List.sum_cons, List.length_cons] at h2 ⊢
    omega
theorem wordN_most (l : List Rc) (h : ∀ x ∈ l, x.L.length ≤ 1048576 ∧ ∀ s ∈ x.L, s.length ≤ 1048576) : wordN l ≤ l.length * 109951582213 := by
  induction l with
  | nil => simp [wordN]
  | cons x l ih =>
    obtain ⟨h1, h2⟩ := h x (by simp)
    have h3 := recN_most x.L h2
    have h4 := ih (fun y hy => h y (by simp [hy]))
    simp only [wordN, List.map_cons, List.sum_cons, List.length_cons] at h4 ⊢
    omega
theorem RcsIn.most {w : World} {ad : Option Addr} {l : List Rc} (h : RcsIn w ad l) : ∀ x ∈ l, x.L.length ≤ 1048576 ∧ ∀ s ∈ x.L, s.length ≤ 1048576 := fun x hx => by
  obtain ⟨i, hi⟩ := List.mem_iff_getElem?.1 hx
  obtain ⟨b, o, _, _, h⟩ := h i x hi
  exact ⟨h.len, h.ss⟩
set_option maxHeartbeats 4000000 in
theorem wordy_ok (w : World) (ad : Option Addr) (cap : Nat) (l : List Rc) (h : RcsIn w ad l) (hl : l.length ≤ 1048576) : Calls Tryd.prog 7 #[.slice ad l.length cap] w fun e w' => e = .returned (.bool (decide ((500 : Int) < (wordN l : Nat)))) ∧ w' = w := by
  have H : Hid (RcsIn w ad l) := h
  have HM : Hid (∀ j, wordN (l.take j) ≤ (l.take j).length * 109951582213) := fun j => wordN_most _ (fun x hx => h.most x (List.mem_of_mem_take hx))
  obtain ⟨len, hlen⟩ : ∃ len, l.length = len := ⟨_, rfl⟩
  have HL : Hid (l.length = len) := hlen
  obtain ⟨d, hd⟩ : ∃ d, decide ((500 : Int) < (wordN l : Nat)) = d := ⟨_, rfl⟩
  have HDD : Hid (decide ((500 : Int) < (wordN l : Nat)) = d) := hd
  rw [hlen] at hl ⊢
  rw [hd]
  clear h hlen hd
  go_enter Tryd.func7, Tryd.ntmps7
  go_wp2
  go_loopw [3, 4] (fun v i wr => ∃ j : Nat, i = .int .i64 (j : Nat) ∧ j ≤ len ∧ v = .int .i64 (wordN (l.take j) : Nat) ∧ wr = w) (fun _ i _ => len - (intOf i).toNat)
  case atStart => exact ⟨0, rfl, Nat.zero_le _, rfl, rfl⟩
  case round =>
    obtain ⟨j, rfl, hj, rfl, hw⟩ := hrel
    subst hw
    by_cases hlt : j < len
    · have hl1 : decide ((j : Int) < (len : Int)) = true := decide_eq_true (by omega)
      obtain ⟨x, hx⟩ : ∃ x, l[j]? = some x := ⟨l[j]'(by have := HL.out; omega), List.getElem?_eq_getElem _⟩
      obtain ⟨b, o, rfl, hb, hR⟩ := H.out j x hx
      have hc := hR.c
      have hcl := hR.l
      have hxl := hR.len
      have HTX : Hid (TxIn wr x.ad x.L) := hR.tx.tx
      have hU : wordN (l.take j) ≤ 115292150460684697600 := by
        have h1 := HM.out j
        rw [List.length_take] at h1
        have h2 : min j l.length ≤ 1048576 := by omega
        omega
      have hU2 : wordN (l.take j) + 5 + x.L.length * 104858 < 4611686018427387904 := by
        have h1 := HM.out j
        rw [List.length_take] at h1
        have h2 : min j l.length ≤ 1048576 := by omega
        omega
      have HX : Hid (wordN (l.take (j + 1)) = wordN (l.take j) + (5 + recN x.L)) := by rw [take_snoc hx, wordN_snoc]; exact rfl
      have HRM : Hid (∀ k, recN (x.L.take k) ≤ (x.L.take k).length * 104858) := fun k => recN_most _ (fun s hs => hR.ss s (List.mem_of_mem_take hs))
      have b1 : (j : Int) < (len : Int) := by omega
      generalize wordN (l.take j) = U at hU hU2 HX
      obtain ⟨m, hm⟩ : ∃ m, x.L.length = m := ⟨_, rfl⟩
      have HXL : Hid (x.L.length = m) := hm
      rw [hm] at hcl hxl hU2
      clear hm hx hR hU
      go_upto_region 7 with (fail)
      go_loopw [3, 5] (fun v i wr2 => ∃ k : Nat, i = .int .i64 (k : Nat) ∧ k ≤ m ∧ v = .int .i64 (U + 5 + recN (x.L.take k) : Nat) ∧ wr2 = wr) (fun _ i _ => m - (intOf i).toNat)
      case atStart => exact ⟨0, rfl, Nat.zero_le _, by go_num, rfl⟩
      case round =>
        obtain ⟨k, rfl, hk, rfl, hw2⟩ := hrel
        subst hw2
        by_cases hlt2 : k < m
        · have hl2 : decide ((k : Int) < (m : Int)) = true := decide_eq_true (by omega)
          obtain ⟨s, hs⟩ : ∃ s, x.L[k]? = some s := ⟨x.L[k]'(by have := HXL.out; omega), List.getElem?_eq_getElem _⟩
          obtain ⟨b2, o2, e2, hb2, hc2⟩ := HTX.out k s hs
          rw [e2] at hcl
          unfold txv at hc2
          have hn2 : recN (x.L.take (k + 1)) = recN (x.L.take k) + (1 + (bs s).size / 10) := by rw [take_snoc hs, recN_snoc, bs_size]
          have hm2 := HRM.out (k + 1)
          rw [hn2, List.length_take] at hm2
          have hV : U + 5 + recN (x.L.take k) + 1 + (bs s).size / 10 < 4611686018427387904 := by have := HXL.out; omega
          have HN : Hid (U + 5 + recN (x.L.take (k + 1)) = U + 5 + recN (x.L.take k) + 1 + (bs s).size / 10) := by show _ = _; omega
          have b2' : (k : Int) < (m : Int) := by omega
          generalize bs s = S at hc2 hV HN
          generalize U + 5 + recN (x.L.take k) = V at hV HN
          clear hs hn2 hm2 e2
          go_wp2
          go_roundw
          case rel => exact ⟨k + 1, by go_num, by omega, by rw [HN.out]; go_num, trivial⟩
          case measure => simp [intOf]; omega
        · have hl2 : decide ((k : Int) < (m : Int)) = false := decide_eq_false (by omega)
          obtain rfl : m = k := by omega
          have HE : Hid (U + 5 + recN (x.L.take m) = wordN (l.take (j + 1))) := by
            rw [HX.out, List.take_of_length_le (by have := HXL.out; omega)]
            show _ = _
            omega
          generalize U + 5 + recN (x.L.take m) = V at HE
          go_wp2
          go_roundw
          case rel => exact ⟨j + 1, by go_num, by omega, by rw [← HE.out], trivial⟩
          case measure => simp [intOf]; omega
    · have hl1 : decide ((j : Int) < (len : Int)) = false := decide_eq_false (by omega)
      obtain rfl : len = j := by omega
      have HE : Hid (wordN (l.take len) = wordN l) := by rw [List.take_of_length_le (by have := HL.out; omega)]; exact rfl
      generalize wordN (l.take len) = U at HE
      go_wp2
      go_ret
      refine ⟨?_, rfl⟩
      rw [← HDD.out, ← HE.out]
      rfl
/-! ### a disk that is new -/
theorem new_ds (A : Nat → Addr) (W0 w : World) (hE : Err5 W0 A) (hb : Below W0.heap.size W0 w) (N : Nat) (h1 : 1 ≤ N) (h2 : N ≤ 4000) : Calls Tryd.prog 8 #[.int .i64 (N : Nat)] w fun e w' => ∃ t vs, e = .returned (.tuple #[.pointer (some ⟨t, 0, none⟩), .nilIface]) ∧ Ds ⟨W0, A, w.heap.size, t, vs⟩ w' ⟨none, List.replicate N zeroS, []⟩ ∧ Only [] w w' :=
  (dnew_ok w N h1 h2).mono fun e w' q => by
    obtain ⟨t, vs, he, hd, ho⟩ := q
    exact ⟨t, vs, he, ⟨⟨_, hd⟩, hE, hb.trans (ho.to_below hb.size (fun _ h => by cases h)), hb.size, ho.size, fun k e => (by cases e)⟩, ho⟩
end Go.Proofs.YtlcloahkeamdkaaDoor
/- The laws of a log: logged. -/
namespace Go.Proofs.YtlcloahkeamdkaaDoor
open Go Go.RowKit Go.Deep Go.Maps

section
variable {g : Dv} {w w' : World} {s : DSt} {l : Nat}
/-- With power an act goes well, or there is no room. -/
theorem ActR.lit {R R' : List (List UInt8)} {n n' : Nat} {r : Prop} {e : Ending} (h : ActR g w w' l s R R' n n' r e) (hp : s.pw = none) :
    (e = .returned .nilIface ∧ ∃ s', Ds g w' s' ∧ s'.wt = [] ∧ LogOk s'.sec R' n' ∧ s'.sec.length = s.sec.length ∧ s'.pw = none ∧ LogAt w' g l false ∧ OthL w w' ∧ r) ∨
    (e = .returned (.iface 154 (.pointer (some (g.A 8)))) ∧ ¬ r ∧ Ds g w' s ∧ LogAt w' g l false ∧ OthL w w') := by
  obtain ⟨c, d, s', rfl, hP, h1, h2, h3⟩ := h
  rcases hP with ⟨rfl, rfl, rfl, a⟩ | ⟨rfl, rfl, a, b, c, d, k⟩ | ⟨_, _, a, _⟩
  · exact Or.inr ⟨rfl, a, h1, h2, h3⟩
  · exact Or.inl ⟨rfl, s', h1, a, b, c, d hp, h2, h3, k⟩
  · exact absurd hp a
end
set_option maxRecDepth 100000 in
set_option maxHeartbeats 4000000 in
theorem logged_ok (A : Nat → Addr) (w : World) (hE : Err5 w A) : Calls Tryd.prog 6 #[] w fun e w' => e = .returned (.bool true) ∧ Below w.heap.size w w' := by
  have HNW : Hid (Calls Tryd.prog 8 #[.int .i64 40] w fun e w' => ∃ t vs, e = .returned (.tuple #[.pointer (some ⟨t, 0, none⟩), .nilIface]) ∧ Ds ⟨w, A, w.heap.size, t, vs⟩ w' ⟨none, List.replicate 40 zeroS, []⟩) := (new_ds A w w hE (Below.refl _ _) 40 (by decide) (by decide)).mono fun e w' q => by
    obtain ⟨t, vs, a, b, _⟩ := q
    exact ⟨t, vs, a, b⟩
  have HF : Hid (∀ g W, Ds g W ⟨none, List.replicate 40 zeroS, []⟩ → Calls Tryd.prog 9 #[.pointer (some ⟨g.t, 0, none⟩)] W fun e w' => ∃ l, e = .returned (.tuple #[.pointer (some ⟨l, 0, none⟩), .nilIface]) ∧ Ds g w' ⟨none, newSec 40, []⟩ ∧ LogAt w' g l false) := fun g W hW => (format_new hW rfl (by decide) rfl rfl).mono fun e w' q => by
    obtain ⟨l, a, b, c, _⟩ := q
    exact ⟨l, a, b, c⟩
  have HA : Hid (∀ g W l, Ds g W ⟨none, newSec 40, []⟩ → LogAt W g l false → Calls Tryd.prog 20 #[.pointer (some ⟨l, 0, none⟩), .slice (some ⟨W.heap.size, 0, none⟩) 2 2] (W.alloc (.cells #[.string ⟨#[97]⟩, .string ⟨#[]⟩] 9)) fun e w' => e = .returned .nilIface ∧ ∃ s', Ds g w' s' ∧ s'.wt = [] ∧ openL s'.sec = some [[97], []]) := fun g W l hW hl => by
    have ho : Only [] W (W.alloc (.cells #[.string ⟨#[97]⟩, .string ⟨#[]⟩] 9)) := (Only.refl [] W).alloc _
    have hT : TxIn (W.alloc (.cells #[.string ⟨#[97]⟩, .string ⟨#[]⟩] 9)) (some ⟨W.heap.size, 0, none⟩) [[97], []] := fun j s hs => by
      have hb := heap_alloc_last W (.cells #[.string ⟨#[97]⟩, .string ⟨#[]⟩] 9)
      match j, hs with
      | 0, hs => cases hs; exact ⟨_, _, rfl, by simp, cell_of_row _ _ 0 _ _ _ hb⟩
      | 1, hs => cases hs; exact ⟨_, _, rfl, by simp, cell_of_row _ _ 1 _ _ _ hb⟩
      | j + 2, hs => simp at hs
    have := ladd_lit (hW.keep ho) (hl.keep (Oth.of_only ho)) rfl (newSec_log (N := 40) (by decide) (by decide)) (some ⟨W.heap.size, 0, none⟩) 2 [[97], []] hT (by decide) (by decide)
    refine this.mono fun e w' q => ?_
    rcases q.lit rfl with ⟨a, s', b, c, d, _⟩ | ⟨_, b, _⟩
    · exact ⟨a, s', b, c, d.opens⟩
    · exfalso
      have b := (newSec_log (N := 40) (by decide) (by decide)).full b
      simp only [Bool.false_eq_true, if_false] at b
      have h1 : (newSec 40).length = 40 := by simp [newSec]
      rw [h1] at b
      have h2 : wgt ([] ++ [[97], []]) = 33 := rfl
      rw [h2] at b
      omega
  have HO : Hid (∀ g W s, Ds g W s → s.wt = [] → openL s.sec = some [[97], []] → Calls Tryd.prog 14 #[.pointer (some ⟨g.t, 0, none⟩)] W fun e w' => ∃ v b cap, e = .returned (.tuple #[v, .slice (some ⟨b, 0, none⟩) 2 cap, .nilIface]) ∧ w'.cell? ⟨b, 0, none⟩ = some (.string ⟨#[97]⟩) ∧ w'.cell? ⟨b, 1, none⟩ = some (.string ⟨#[]⟩) ∧ Below g.W0.heap.size g.W0 w') := fun g W s hW hw ho => (open_any hW hw).mono fun e w' q => by
    obtain ⟨q1, q2⟩ := q
    rcases q2 with ⟨q2, _⟩ | ⟨R, l, v, q2, q3, q4, q5, _⟩
    · rw [ho] at q2; cases q2
    · obtain rfl : [[97], []] = R := Option.some.inj (ho.symm.trans q2)
      obtain ⟨ad, cap, rfl, ht⟩ := own_texts q5 rfl
      obtain ⟨b, o, e1, _, k1⟩ := ht 0 [97] rfl
      obtain ⟨b2, o2, e2, _, k2⟩ := ht 1 [] rfl
      have hoo : o = 0 := by
        rcases q5.2 with ⟨e0, _⟩ | ⟨gg, cp, cur, e0, _⟩
        · simp at e0
        · simp only [Value.slice.injEq] at e0
          rw [e1] at e0
          simp at e0
          exact e0.1.2
      subst hoo
      rw [e1] at e2
      cases e2
      subst e1
      exact ⟨_, b, cap, q3, k1, k2, hW.bel.trans (q1.to_below hW.bel.size (fun _ h => by cases h))⟩
  clear hE
  go_enter Tryd.func6, Tryd.ntmps6
  go_wp2_with (first
    | (go_at_call 8; refine HNW.out.mono ?_; rintro e w1 ⟨t, vs, rfl, h1⟩; have HD1 : Hid (Ds ⟨w, A, w.heap.size, t, vs⟩ w1 ⟨none, List.replicate 40 zeroS, []⟩) := h1; clear h1)
    | (go_at_call 9; refine (HF.out ⟨w, A, w.heap.size, t, vs⟩ _ HD1.out).mono ?_; rintro e w2 ⟨l, rfl, h1, h2⟩; have HD2 : Hid (Ds ⟨w, A, w.heap.size, t, vs⟩ w2 ⟨none, newSec 40, []⟩ ∧ LogAt w2 ⟨w, A, w.heap.size, t, vs⟩ l false) := ⟨h1, h2⟩; clear h1 h2)
    | (go_at_call 20; refine (HA.out ⟨w, A, w.heap.size, t, vs⟩ w2 l HD2.out.1 HD2.out.2).mono ?_; rintro e w3 ⟨rfl, s', h1, h2, h3⟩; have HD3 : Hid (Ds ⟨w, A, w.heap.size, t, vs⟩ w3 s' ∧ s'.wt = [] ∧ openL s'.sec = some [[97], []]) := ⟨h1, h2, h3⟩; clear h1 h2 h3)
    | (go_at_call 14; refine (HO.out ⟨w, A, w.heap.size, t, vs⟩ w3 s' HD3.out.1 HD3.out.2.1 HD3.out.2.2).mono ?_; rintro e w4 ⟨v, b, cap, rfl, k1, k2, h1⟩; have HB : Hid (Below w.heap.size w w4) := h1; clear h1))
  go_ret
  exact ⟨rfl, HB.out⟩
end Go.Proofs.YtlcloahkeamdkaaDoor
