/- The laws of a log: their helpers. -/
import Derived.Test.YtlcloahkeamdkaaDoorLg17
import Derived.Maps.AppendAt
import Derived.Laws.AppendOwnNone
/- The laws of a log: their helpers. -/
namespace Go.Proofs.YtlcloahkeamdkaaDoor
open Go Go.RowKit Go.Deep Go.Maps

/-! ### coded -/
theorem coded5_nil (w : World) (k : Nat) : Calls Tryd.prog 10 #[.nilIface, .int .i64 (k : Nat)] w fun e w' => e = .returned (.bool (decide (0 = k))) ∧ w = w' := by
  by_cases hk : 0 = k
  · subst hk
    go_enter Tryd.func10, Tryd.ntmps10
    go_wp2_with (go_at_call 27; refine (code_nil _).mono ?_; rintro e w2 ⟨rfl, rfl⟩)
    go_ret
    exact ⟨rfl, rfl⟩
  · rw [decide_eq_false hk]
    have hb : ((0 : Int) == (k : Int)) = false := by simp; omega
    clear hk
    go_enter Tryd.func10, Tryd.ntmps10
    go_wp2_with (go_at_call 27; refine (code_nil _).mono ?_; rintro e w2 ⟨rfl, rfl⟩)
    go_ret
    exact ⟨rfl, rfl⟩
theorem coded5_err (A : Nat → Addr) (c : Nat) (hc : c < 15) (k : Nat) (w : World) (h : Errs w A) :
    Calls Tryd.prog 10 #[.iface 154 (.pointer (some (A c))), .int .i64 (k : Nat)] w fun e w' => e = .returned (.bool (decide (c + 1 = k))) ∧ Only [] w w' := by
  have H : Hid (Errs w A) := h
  clear h
  by_cases hk : c + 1 = k
  · rw [decide_eq_true hk]
    have hb : ((c : Int) + 1 == (k : Int)) = true := by simp; omega
    clear hk
    go_enter Tryd.func10, Tryd.ntmps10
    go_wp2_with (go_at_call 27; refine (code_err A c hc _ H.out).mono ?_; rintro e w2 ⟨rfl, hb2⟩; have HB : Hid (Below w.heap.size w w2) := hb2; clear hb2)
    go_ret
    exact ⟨rfl, Only.of_below HB.out []⟩
  · rw [decide_eq_false hk]
    have hb : ((c : Int) + 1 == (k : Int)) = false := by simp; omega
    clear hk
    go_enter Tryd.func10, Tryd.ntmps10
    go_wp2_with (go_at_call 27; refine (code_err A c hc _ H.out).mono ?_; rintro e w2 ⟨rfl, hb2⟩; have HB : Hid (Below w.heap.size w w2) := hb2; clear hb2)
    go_ret
    exact ⟨rfl, Only.of_below HB.out []⟩
/-! ### SameTexts -/
theorem txv_beq (a b : List UInt8) : ((bs a).toList == (bs b).toList) = decide (a = b) := by
  rw [Lib.toList_data, Lib.toList_data, bs_data, bs_data]
  by_cases h : a = b
  · subst h; simp
  · simp [h]
set_option maxHeartbeats 2000000 in
theorem same_ok (w : World) (a1 a2 : Option Addr) (c1 c2 : Nat) (L M : List (List UInt8)) (h1 : TxIn w a1 L) (h2 : TxIn w a2 M) (hl : L.length ≤ 2000000) (hm : M.length ≤ 2000000) :
    Calls Tryd.prog 15 #[.slice a1 L.length c1, .slice a2 M.length c2] w fun e w' => e = .returned (.bool (decide (L = M))) ∧ Only [] w w' := by
  have H1 : Hid (TxIn w a1 L) := h1
  have H2 : Hid (TxIn w a2 M) := h2
  clear h1 h2
  obtain ⟨x, hx⟩ : ∃ x, L.length = x := ⟨_, rfl⟩
  obtain ⟨y, hy⟩ : ∃ y, M.length = y := ⟨_, rfl⟩
  have HX : Hid (L.length = x) := hx
  have HY : Hid (M.length = y) := hy
  obtain ⟨d, hd⟩ : ∃ d, decide (L = M) = d := ⟨_, rfl⟩
  have HDD : Hid (decide (L = M) = d) := hd
  rw [hx] at hl ⊢
  rw [hy] at hm ⊢
  rw [hd]
  clear hx hy hd
  by_cases hxy : x = y
  · subst hxy
    have hb : ((x : Int) != (x : Int)) = false := by simp
    go_enter Tryd.func15, Tryd.ntmps15
    go_wp2
    go_loopw [5] (fun i wr => ∃ j : Nat, j ≤ x ∧ i = .int .i64 (j : Nat) ∧ L.take j = M.take j ∧ Only [] w wr) (fun i _ => x - (intOf i).toNat)
    case atStart => exact ⟨0, Nat.zero_le _, rfl, rfl, Only.refl _ _⟩
    case round =>
      obtain ⟨j, hj, rfl, hlm, ho⟩ := hrel
      have HO : Hid (Only [] w wr) := ho
      have HLM : Hid (L.take j = M.take j) := hlm
      by_cases hlt : j < x
      · have hl2 : decide ((j : Int) < (x : Int)) = true := decide_eq_true (by omega)
        obtain ⟨s, hs⟩ : ∃ s, L[j]? = some s := ⟨L[j]'(by have := HX.out; omega), List.getElem?_eq_getElem _⟩
        obtain ⟨t, ht⟩ : ∃ t, M[j]? = some t := ⟨M[j]'(by have := HY.out; omega), List.getElem?_eq_getElem _⟩
        obtain ⟨b1, o1, rfl, q1, k1⟩ := (H1.out.only ho) j s hs
        obtain ⟨b2, o2, rfl, q2, k2⟩ := (H2.out.only ho) j t ht
        unfold txv at k1 k2
        have b0 : (j : Int) < (x : Int) := by omega
        have he := txv_beq s t
        have HSS : Hid (L[j]? = some s ∧ M[j]? = some t) := ⟨hs, ht⟩
        clear ho hlm hs ht
        by_cases hst : s = t
        · have he2 : ((bs s).toList == (bs t).toList) = true := by rw [he]; exact decide_eq_true hst
          have HST : Hid (s = t) := hst
          clear he hst
          generalize bs s = S at k1 he2
          generalize bs t = T at k2 he2
          go_wp2
          go_region
          all_goals
            go_wp2
            go_roundw
            case rel => exact ⟨j + 1, by omega, by go_num, by rw [take_snoc HSS.out.1, take_snoc HSS.out.2, HLM.out, HST.out], HO.out.drew⟩
            case measure => simp [intOf]; omega
        · have he2 : ((bs s).toList == (bs t).toList) = false := by rw [he]; exact decide_eq_false hst
          have HST : Hid (s ≠ t) := hst
          clear he hst
          generalize bs s = S at k1 he2
          generalize bs t = T at k2 he2
          go_wp2
          go_region
          all_goals
            go_wp2
            go_ret
            refine ⟨?_, HO.out.drew⟩
            rw [← HDD.out, decide_eq_false (fun e => HST.out (by have h3 := HSS.out; rw [e] at h3; exact Option.some.inj (h3.1.symm.trans h3.2)))]
            rfl
      · have hl2 : decide ((j : Int) < (x : Int)) = false := decide_eq_false (by omega)
        obtain rfl : x = j := by omega
        clear ho hlm
        go_wp2
        go_ret
        refine ⟨?_, HO.out⟩
        have h3 := HLM.out
        rw [List.take_of_length_le (by have := HX.out; omega), List.take_of_length_le (by have := HY.out; omega)] at h3
        rw [← HDD.out, decide_eq_true h3]
        rfl
  · have hb : ((x : Int) != (y : Int)) = true := by simp; omega
    have HN : Hid (x ≠ y) := hxy
    clear hxy
    go_enter Tryd.func15, Tryd.ntmps15
    go_wp2
    go_ret
    refine ⟨?_, Only.refl _ _⟩
    rw [← HDD.out, decide_eq_false (fun e => HN.out (by rw [← HX.out, ← HY.out, e]))]
    rfl
/-! ### own, next -/
/-- Texts that came in. -/
structure Txs (w : World) (ad : Option Addr) (cap : Nat) (L : List (List UInt8)) : Prop where
  tx : TxIn w ad L
  nil : ad = none → L = [] ∧ cap = 0
theorem Txs.only {w w' : World} {ad : Option Addr} {cap : Nat} {L : List (List UInt8)} (h : Txs w ad cap L) (ho : Only [] w w') : Txs w' ad cap L := ⟨h.tx.only ho, h.nil⟩
theorem txv_one (L : List (List UInt8)) : ∀ u ∈ L.map txv, u.oneCell' = true := fun u hu => by
  obtain ⟨s, _, rfl⟩ := List.mem_map.1 hu
  rfl
/-- Texts are appended to a row of one's own. -/
theorem append_tx {w : World} {ops : Array Oper} {rest : List Oper} {oo : Oper} {a : Act} {Q : Exit → Act → World → Prop} (hgd : oo.guard = none) (s x : Operand)
    (ho : oo.op = .call { callee := .builtin .append, args := #[s, x], argTypes := #[34, 34] }) {base : Nat} {v : Value} {R : List (List UInt8)} (hs : a.eval s = v) (hown : w.ownsRow base 9 1 v R.length (R.map txv)) (hbase : base ≤ w.heap.size) {ad : Option Addr} {cap : Nat} {L : List (List UInt8)} (hx : a.eval x = .slice ad L.length cap) (hL : Txs w ad cap L) (hR : R.length ≤ 2000000) (hLL : L.length ≤ 2000000)
    (h : ∀ v' w', w'.ownsRow base 9 1 v' (R ++ L).length ((R ++ L).map txv) → Only v.ownBlock.toList w w' → wpList Tryd.prog ops Q rest (a.put oo.dst v') w') : wpList Tryd.prog ops Q (oo :: rest) a w := by
  obtain ⟨i0, hi0, hz⟩ := Option.map_eq_some_iff.1 strInfoL
  simp only [Prod.mk.injEq] at hz
  obtain ⟨hz0, hz1, hz2⟩ := hz
  cases ad with
  | none =>
    obtain ⟨rfl, rfl⟩ := hL.nil rfl
    exact wpList_append_own_none hgd s x 34 ho base 9 i0 1 strsUndL hi0 v _ _ hs hown hx (h _ _ (by simpa using hown) (Only.refl _ _))
  | some ad =>
    refine wpList_append_own_at _ hgd s x 34 ho base 9 i0 _ 1 16 strsUndL hi0 hz0 hz1 hz2 rfl (by decide) v _ _ hs hown ad L.length cap (L.map txv) hx (by simp) (fun j u hu => ?_) (txv_one L) (by unfold maxLen; omega) (by omega) hbase (fun v' w' a1 a2 _ _ => h v' w' ?_ ((Only.refl _ w).grown a2 (fun k hk => Or.inl (by rw [hk]; simp))))
    · rw [List.getElem?_map] at hu
      obtain ⟨t, ht, rfl⟩ := Option.map_eq_some_iff.1 hu
      obtain ⟨g, o, e, _, hc⟩ := hL.tx j t ht
      cases e
      have e2 : (⟨g, o, none⟩ : Addr).add j = ⟨g, o + j, none⟩ := by by_cases h : j = 0 <;> simp [Addr.add, h]
      rw [e2]
      exact hc
    · rw [List.length_append, List.map_append]
      exact a1
end Go.Proofs.YtlcloahkeamdkaaDoor
/- The laws of a log: own, next, act, fits. -/
namespace Go.Proofs.YtlcloahkeamdkaaDoor
open Go Go.RowKit Go.Deep Go.Maps

set_option maxHeartbeats 1000000 in
theorem lown_ok (w : World) (ad : Option Addr) (cap : Nat) (L : List (List UInt8)) (h : Txs w ad cap L) (hL : L.length ≤ 2000000) :
    Calls Tryd.prog 29 #[.slice ad L.length cap] w fun e w' => ∃ v, e = .returned v ∧ w'.ownsRow w.heap.size 9 1 v L.length (L.map txv) ∧ Only [] w w' := by
  have H : Hid (Txs w ad cap L) := h
  clear h
  go_enter Tryd.func29, Tryd.ntmps29
  go_wp2_with (at_builtin; refine append_tx rfl (.tmp 4) (.tmp 5) rfl (base := w.heap.size) (v := .slice none 0 0) (R := []) rfl (World.ownsRow_nil _ _ _ _) (Nat.le_refl _) rfl H.out (by decide) hL ?_; intro v7 w7 ho7 hn7; have H7 : Hid (w7.ownsRow w.heap.size 9 1 v7 L.length (L.map txv) ∧ Only [] w w7) := ⟨ho7, hn7⟩; clear ho7 hn7)
  go_ret
  exact ⟨_, rfl, H7.out.1, H7.out.2⟩
def nxt (R : List (List UInt8)) (c : Bool) (L : List (List UInt8)) : List (List UInt8) := if c then L else R ++ L
theorem OthL.owns {w w' : World} (h : OthL w w') {base n : Nat} {v : Value} {xs : List Value} (ho : w.ownsRow base 9 1 v n xs) : w'.ownsRow base 9 1 v n xs := by
  refine ⟨ho.1, ?_⟩
  rcases ho.2 with h2 | ⟨g, cap, cur, h1, h2, h3, h4⟩
  · exact Or.inl h2
  · exact Or.inr ⟨g, cap, cur, h1, h2, h.block g _ _ _ h3 (by decide) (by decide) (by decide) (by decide), h4⟩
theorem own_txs {w : World} {base : Nat} {v : Value} {L : List (List UInt8)} {n : Nat} (h : w.ownsRow base 9 1 v n (L.map txv)) (hn : n = L.length) : ∃ ad cap, v = .slice ad L.length cap ∧ Txs w ad cap L := by
  obtain ⟨ad, cap, e, ht⟩ := own_texts h hn
  refine ⟨ad, cap, e, ht, fun e0 => ?_⟩
  subst e0 hn
  rcases h.2 with ⟨h1, h2⟩ | ⟨g, cp, cur, h1, _⟩
  · rw [h1] at e
    simp only [Value.slice.injEq] at e
    exact ⟨List.length_eq_zero_iff.1 h2, e.2.2.symm⟩
  · rw [h1] at e
    cases e
set_option maxHeartbeats 2000000 in
theorem lnext_ok (w : World) {base : Nat} {vn : Value} {R : List (List UInt8)} (hR : w.ownsRow base 9 1 vn R.length (R.map txv)) (c : Bool) (ad : Option Addr) (cap : Nat) (L : List (List UInt8)) (h : Txs w ad cap L) (hL : L.length ≤ 1000000) (hRl : R.length ≤ 1000000) :
    Calls Tryd.prog 11 #[vn, .agg #[.bool c, .slice ad L.length cap]] w fun e w' => ∃ v, e = .returned v ∧ w'.ownsRow w.heap.size 9 1 v (nxt R c L).length ((nxt R c L).map txv) ∧ Only [] w w' := by
  obtain ⟨an, cn, rfl, hN⟩ := own_txs hR rfl
  obtain ⟨wb, hwb⟩ : ∃ wb, w.alloc (.cells #[.bool c, .slice ad L.length cap] 37) = wb := ⟨_, rfl⟩
  have o0 : Only [] w wb := by rw [← hwb]; exact (Only.refl [] w).alloc _
  have e0 : wb.heap[w.heap.size]? = some (.cells #[.bool c, .slice ad L.length cap] 37 (0, 0)) := by rw [← hwb]; exact heap_alloc_last w _
  have HK : Hid (∀ W, Only [] wb W → W.cell? ⟨w.heap.size, 0, none⟩ = some (.bool c) ∧ W.cell? ⟨w.heap.size, 1, none⟩ = some (.slice ad L.length cap)) := fun W ho => by
    have e1 : W.heap[w.heap.size]? = some (.cells #[.bool c, .slice ad L.length cap] 37 (0, 0)) := (ho.block _ (Array.getElem?_eq_some_iff.1 e0).1 (by simp)).trans e0
    exact ⟨cell_of_row _ _ 0 _ _ _ e1, cell_of_row _ _ 1 _ _ _ e1⟩
  have HO : Hid (Only [] w wb) := o0
  have HL : Hid (∀ W, Only [] w W → Txs W ad cap L) := fun W ho => h.only ho
  have HN : Hid (Txs wb an cn R) := hN.only o0
  obtain ⟨k0, k1⟩ := HK.out wb (Only.refl _ _)
  clear hR hN h o0 e0
  cases c with
  | true =>
    go_enter Tryd.func11, Tryd.ntmps11
    go_wp2_with (at_builtin; refine append_tx rfl (.tmp 12) (.tmp 14) rfl (base := wb.heap.size) (v := .slice none 0 0) (R := []) rfl (World.ownsRow_nil _ _ _ _) (Nat.le_refl _) rfl (HL.out wb HO.out) (by decide) (by omega) ?_; intro v7 w7 ho7 hn7; have H7 : Hid (w7.ownsRow wb.heap.size 9 1 v7 L.length (L.map txv) ∧ Only [] wb w7) := ⟨ho7, hn7⟩; clear ho7 hn7)
    go_ret
    exact ⟨_, rfl, own_base H7.out.1 HO.out.size, HO.out.trans H7.out.2 (fun _ h => by cases h)⟩
  | false =>
    go_enter Tryd.func11, Tryd.ntmps11
    go_upto_region 3 with (fail)
    clear hwb
    go_upto_region 4 with (at_builtin; refine append_tx rfl (.tmp 9) (.tmp 10) rfl (base := wb.heap.size) (v := .slice none 0 0) (R := []) rfl (World.ownsRow_nil _ _ _ _) (Nat.le_refl _) rfl HN.out (by decide) (by omega) ?_; intro v6 w6 ho6 hn6; have H6 : Hid (w6.ownsRow wb.heap.size 9 1 v6 R.length (R.map txv) ∧ Only [] wb w6) := ⟨ho6, hn6⟩; clear ho6 hn6)
    obtain ⟨j0, j1⟩ := HK.out w6 H6.out.2
    obtain ⟨a6, c6, rfl⟩ := own_slice H6.out.1
    have hlt6 := lt_of_cell j0
    clear k0 k1
    go_wp2_with (at_builtin; refine append_tx rfl (.tmp 12) (.tmp 14) rfl (base := wb.heap.size) (v := .slice a6 R.length c6) (R := R) rfl H6.out.1 H6.out.2.size rfl (HL.out w6 (HO.out.trans H6.out.2 (fun _ h => by cases h))) (by omega) (by omega) ?_; intro v7 w7 ho7 hn7; have H7 : Hid (w7.ownsRow wb.heap.size 9 1 v7 (R ++ L).length ((R ++ L).map txv) ∧ Only [] wb w7) := ⟨ho7, H6.out.2.trans hn7 (fun k hk => Or.inr (own_blk H6.out.1 (by simpa using hk)).1)⟩; clear ho7 hn7)
    go_ret
    exact ⟨_, rfl, own_base H7.out.1 HO.out.size, HO.out.trans H7.out.2 (fun _ h => by cases h)⟩
/-! ### act -/
section
variable {g : Dv} {w w' : World} {s : DSt} {l : Nat}
theorem rec_kept {w W : World} {c : Bool} {ad : Option Addr} {n cap : Nat} {ty : TypeId} (h : Only [] (w.alloc (.cells #[.bool c, .slice ad n cap] ty)) W) : W.cell? ⟨w.heap.size, 0, none⟩ = some (.bool c) ∧ W.cell? ⟨w.heap.size, 1, none⟩ = some (.slice ad n cap) ∧ w.heap.size < W.heap.size := by
  have e1 : W.heap[w.heap.size]? = some (.cells #[.bool c, .slice ad n cap] ty (0, 0)) := (h.block _ (by simp) (by simp)).trans (heap_alloc_last w _)
  exact ⟨cell_of_row _ _ 0 _ _ _ e1, cell_of_row _ _ 1 _ _ _ e1, (Array.getElem?_eq_some_iff.1 e1).1⟩
theorem ActR.from {w0 : World} {R R' : List (List UInt8)} {n n' : Nat} {r : Prop} {e : Ending} (ho : Only [] w0 w) (h : ActR g w w' l s R R' n n' r e) : ActR g w0 w' l s R R' n n' r e := by
  obtain ⟨c, d, s', a, b, p, q, t⟩ := h
  exact ⟨c, d, s', a, b, p, q, (OthL.of_only ho).trans t⟩
theorem ActR.opened {R R' : List (List UInt8)} {n n' : Nat} {r : Prop} {e : Ending} (h : ActR g w w' l s R R' n n' r e) : ∃ v, e = .returned v ∧ ActR g w w' l s R R' n n' r (.returned v) := by
  obtain ⟨c, d, s', rfl, b⟩ := h
  exact ⟨_, rfl, c, d, s', rfl, b⟩
set_option maxRecDepth 100000 in
set_option maxHeartbeats 2000000 in
theorem act_dark (hd : Ds g w s) (hl : LogAt w g l true) (c : Bool) (ad : Option Addr) (cap : Nat) (L : List (List UInt8)) (h : Txs w ad cap L) (hL : L.length ≤ 1000000) :
    Calls Tryd.prog 12 #[.pointer (some ⟨l, 0, none⟩), .agg #[.bool c, .slice ad L.length cap]] w fun e w' => e = .returned (.iface 154 (.pointer (some (g.A 14)))) ∧ Only [] w w' := by
  have HOW : Hid (∀ o, Calls Tryd.prog 29 #[.slice ad L.length cap] (w.alloc o) fun e w' => ∃ v, e = .returned v ∧ Only [] w w') := fun o => (lown_ok (w.alloc o) ad cap L (h.only ((Only.refl [] w).alloc o)) (by omega)).mono fun e w' q => by
    obtain ⟨v, a, _, b⟩ := q
    exact ⟨v, a, ((Only.refl [] w).alloc o).trans b (fun _ h => by cases h)⟩
  have HA : Hid (∀ W v, Only [] w W → Calls Tryd.prog 20 #[.pointer (some ⟨l, 0, none⟩), v] W fun e w' => e = .returned (.iface 154 (.pointer (some (g.A 14)))) ∧ Only [] w w') := fun W v ho => (ladd_dark (hd.keep ho) (hl.keep (Oth.of_only ho)) v).mono fun e w' q => ⟨q.1, ho.trans q.2 (fun _ h => by cases h)⟩
  have HC : Hid (∀ W v, Only [] w W → Calls Tryd.prog 28 #[.pointer (some ⟨l, 0, none⟩), v] W fun e w' => e = .returned (.iface 154 (.pointer (some (g.A 14)))) ∧ Only [] w w') := fun W v ho => (lclear_dark (hd.keep ho) (hl.keep (Oth.of_only ho)) v).mono fun e w' q => ⟨q.1, ho.trans q.2 (fun _ h => by cases h)⟩
  clear hd hl h
  cases c with
  | true =>
    go_enter Tryd.func12, Tryd.ntmps12
    go_wp2_with (first
      | (go_at_call 29; refine (HOW.out _).mono ?_; rintro e w1 ⟨v, rfl, h1⟩; have HO1 : Hid (Only [] w w1) := h1; clear h1)
      | (go_at_call 28; refine (HC.out _ _ HO1.out).mono ?_; rintro e w2 ⟨rfl, h1⟩; have HO2 : Hid (Only [] w w2) := h1; clear h1))
    go_ret
    exact ⟨rfl, HO2.out⟩
  | false =>
    go_enter Tryd.func12, Tryd.ntmps12
    go_wp2_with (first
      | (go_at_call 29; refine (HOW.out _).mono ?_; rintro e w1 ⟨v, rfl, h1⟩; have HO1 : Hid (Only [] w w1) := h1; clear h1)
      | (go_at_call 20; refine (HA.out _ _ HO1.out).mono ?_; rintro e w2 ⟨rfl, h1⟩; have HO2 : Hid (Only [] w w2) := h1; clear h1))
    go_ret
    exact ⟨rfl, HO2.out⟩
def nxn (n : Nat) (c : Bool) : Nat := if c then 0 else n + 1
set_option maxRecDepth 100000 in
set_option maxHeartbeats 2000000 in
theorem act_lit (hd : Ds g w s) (hl : LogAt w g l false) (hw : s.wt = []) {R : List (List UInt8)} {n : Nat} (hlog : LogOk s.sec R n) (c : Bool) (ad : Option Addr) (cap : Nat) (L : List (List UInt8)) (h : Txs w ad cap L) (hL : L.length ≤ 1000000) (hW : wgt L < 4000000000) :
    Calls Tryd.prog 12 #[.pointer (some ⟨l, 0, none⟩), .agg #[.bool c, .slice ad L.length cap]] w fun e w' => ActR g w w' l s R (nxt R c L) n (nxn n c) (roomS s.sec c L) e := by
  have HOW : Hid (∀ o, Calls Tryd.prog 29 #[.slice ad L.length cap] (w.alloc o) fun e w' => ∃ ad2 cap2, e = .returned (.slice ad2 L.length cap2) ∧ Txs w' ad2 cap2 L ∧ Only [] w w') := fun o => (lown_ok (w.alloc o) ad cap L (h.only ((Only.refl [] w).alloc o)) (by omega)).mono fun e w' q => by
    obtain ⟨v, a, b, c⟩ := q
    obtain ⟨ad2, cap2, rfl, ht⟩ := own_txs b rfl
    exact ⟨ad2, cap2, a, ht, ((Only.refl [] w).alloc o).trans c (fun _ h => by cases h)⟩
  have HA : Hid (∀ W ad2 cap2, Only [] w W → Txs W ad2 cap2 L → Calls Tryd.prog 20 #[.pointer (some ⟨l, 0, none⟩), .slice ad2 L.length cap2] W fun e w' => ∃ v, e = .returned v ∧ ActR g w w' l s R (R ++ L) n (n + 1) (roomS s.sec false L) (.returned v)) := fun W ad2 cap2 ho ht => (ladd_lit (hd.keep ho) (hl.keep (Oth.of_only ho)) hw hlog ad2 cap2 L ht.tx (by omega) hW).mono fun e w' q => (q.from ho).opened
  have HC : Hid (∀ W ad2 cap2, Only [] w W → Txs W ad2 cap2 L → Calls Tryd.prog 28 #[.pointer (some ⟨l, 0, none⟩), .slice ad2 L.length cap2] W fun e w' => ∃ v, e = .returned v ∧ ActR g w w' l s R L n 0 (roomS s.sec true L) (.returned v)) := fun W ad2 cap2 ho ht => (lclear_lit (hd.keep ho) (hl.keep (Oth.of_only ho)) hw hlog ad2 cap2 L ht.tx (by omega) hW).mono fun e w' q => (q.from ho).opened
  clear hd hl h hw hlog
  cases c with
  | true =>
    go_enter Tryd.func12, Tryd.ntmps12
    go_wp2_with (first
      | (go_at_call 29; refine (HOW.out _).mono ?_; rintro e w1 ⟨ad2, cap2, rfl, h2, h1⟩; have HO1 : Hid (Only [] w w1 ∧ Txs w1 ad2 cap2 L) := ⟨h1, h2⟩; clear h1 h2)
      | (go_at_call 28; refine (HC.out _ _ _ HO1.out.1 HO1.out.2).mono ?_; rintro e w2 ⟨v, rfl, h1⟩; have HR : Hid (ActR g w w2 l s R L n 0 (roomS s.sec true L) (.returned v)) := h1; clear h1))
    go_ret
    exact HR.out
  | false =>
    go_enter Tryd.func12, Tryd.ntmps12
    go_wp2_with (first
      | (go_at_call 29; refine (HOW.out _).mono ?_; rintro e w1 ⟨ad2, cap2, rfl, h2, h1⟩; have HO1 : Hid (Only [] w w1 ∧ Txs w1 ad2 cap2 L) := ⟨h1, h2⟩; clear h1 h2)
      | (go_at_call 20; refine (HA.out _ _ _ HO1.out.1 HO1.out.2).mono ?_; rintro e w2 ⟨v, rfl, h1⟩; have HR : Hid (ActR g w w2 l s R (R ++ L) n (n + 1) (roomS s.sec false L) (.returned v)) := h1; clear h1))
    go_ret
    exact HR.out
end
set_option maxHeartbeats 2000000 in
theorem lfits_ok (w : World) (ad : Option Addr) (cap : Nat) (L : List (List UInt8)) (h : TxIn w ad L) (n N : Nat) (hL : L.length ≤ 2000000) (hW : wgt L < 1000000000) (hn : n ≤ 2000000) (hN : N ≤ 4000) :
    Calls Tryd.prog 13 #[.slice ad L.length cap, .int .i64 (n : Nat), .int .i64 (N : Nat)] w fun e w' => e = .returned (.bool (decide (64 + 64 * n + wgt L ≤ N * 64 / 3))) ∧ w' = w := by
  have H : Hid (TxIn w ad L) := h
  obtain ⟨len, hlen⟩ : ∃ len, L.length = len := ⟨_, rfl⟩
  have HL : Hid (L.length = len) := hlen
  obtain ⟨d, hd⟩ : ∃ d, decide (64 + 64 * n + wgt L ≤ N * 64 / 3) = d := ⟨_, rfl⟩
  have HDD : Hid (decide (64 + 64 * n + wgt L ≤ N * 64 / 3) = d) := hd
  rw [hlen] at hL ⊢
  rw [hd]
  clear h hlen hd
  go_enter Tryd.func13, Tryd.ntmps13
  go_wp2
  go_loopw [7, 8] (fun v i wr => ∃ j : Nat, i = .int .i64 (j : Nat) ∧ j ≤ len ∧ v = .int .i64 (64 + 64 * n + wgt (L.take j) : Nat) ∧ wr = w) (fun _ i _ => len - (intOf i).toNat)
  case atStart => exact ⟨0, rfl, Nat.zero_le _, by go_num, rfl⟩
  case round =>
    obtain ⟨j, rfl, hj, rfl, hw⟩ := hrel
    subst hw
    by_cases hlt : j < len
    · have hl : decide ((j : Int) < (len : Int)) = true := decide_eq_true (by omega)
      obtain ⟨s, hs⟩ : ∃ s, L[j]? = some s := ⟨L[j]'(by have := HL.out; omega), List.getElem?_eq_getElem _⟩
      obtain ⟨b, o, rfl, hb, hc⟩ := H.out j s hs
      unfold txv at hc
      have hn2 : wgt (L.take (j + 1)) = wgt (L.take j) + (16 + (bs s).size) := by rw [take_snoc hs, wgt_snoc, bs_size]
      have hm := wgt_take L (j + 1)
      rw [hn2] at hm
      have HN : Hid (64 + 64 * n + wgt (L.take (j + 1)) = 64 + 64 * n + wgt (L.take j) + 16 + (bs s).size) := by show _ = _; omega
      have b1 : (j : Int) < (len : Int) := by omega
      have hU : 64 + 64 * n + wgt (L.take j) + 16 + (bs s).size < 2000000000 := by omega
      generalize bs s = x at hc hU HN
      generalize 64 + 64 * n + wgt (L.take j) = U at hU HN
      clear hs hn2 hm
      go_wp2
      go_roundw
      case rel => exact ⟨j + 1, by go_num, by omega, by rw [HN.out]; go_num, trivial⟩
      case measure => simp [intOf]; omega
    · have hl : decide ((j : Int) < (len : Int)) = false := decide_eq_false (by omega)
      obtain rfl : len = j := by omega
      have hU : 64 + 64 * n + wgt (L.take len) < 2000000000 := by have := wgt_take L len; omega
      have HE : Hid (64 + 64 * n + wgt (L.take len) = 64 + 64 * n + wgt L) := by rw [List.take_of_length_le (by have := HL.out; omega)]; exact rfl
      generalize 64 + 64 * n + wgt (L.take len) = U at hU HE
      go_wp2
      go_ret
      refine ⟨?_, rfl⟩
      rw [← HDD.out, ← HE.out]
      have e1 : decide (U ≤ N * 64 / 3) = decide (3 * (U : Int) ≤ (N : Int) * 64) := by apply decide_eq_decide.2; omega
      rw [e1]
      rfl
end Go.Proofs.YtlcloahkeamdkaaDoor
