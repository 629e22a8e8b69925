/- Shares: the document's Close, Drop. -/
import Derived.Test.YtagpahgjbglmaaaDoorSr5
namespace Go.Proofs.YtagpahgjbglmaaaDoor
open Go Go.RowKit Go.Deep

theorem Rns.news_take {w : World} {base g n cap : Nat} {l : List Opn} (h : Rns w base (.slice (some ⟨g, 0, none⟩) n cap) l) (hn : l.length = n) (k : Nat) : ∀ j u, (rowOf opC (l.take k))[j]? = some u → w.cell? ((⟨g, 0, none⟩ : Addr).add j) = some u := by
  subst hn
  intro j u hu
  rw [rowOf_take opC_len, List.getElem?_take] at hu
  split at hu
  · have hj : j < l.length * 5 := by rw [← rowOf_len opC_len l]; exact (List.getElem?_eq_some_iff.1 hu).1
    rw [add_none, Nat.zero_add, World.ownsRow.cellAt h j hj]
    exact hu
  · cases hu
theorem Rns.news_drop {w : World} {base g n cap : Nat} {l : List Opn} (h : Rns w base (.slice (some ⟨g, 0, none⟩) n cap) l) (hn : l.length = n) (k : Nat) (ad : Addr) (ha : (l.drop k).length = 0 ∨ ad = ⟨g, k * 5, none⟩) : ∀ j u, (rowOf opC (l.drop k))[j]? = some u → w.cell? (ad.add j) = some u := by
  subst hn
  intro j u hu
  rcases ha with ha | rfl
  · rw [List.length_eq_zero_iff.1 ha] at hu
    cases hu
  · rw [rowOf_drop opC_len, List.getElem?_drop] at hu
    have hj : k * 5 + j < l.length * 5 := by rw [← rowOf_len opC_len l]; exact (List.getElem?_eq_some_iff.1 hu).1
    rw [add_none, World.ownsRow.cellAt h _ hj]
    exact hu
/-- A new row, and the table told of it. -/
theorem RsAt.moved {w w6 : World} {base t : Nat} {v v' : Value} {l l2 : List Opn} (h : RsAt w base t v l) (ho : Only [] w w6) (hown : Rns w6 base v' l2) (hfr : ∀ k, v'.ownBlock = some k → w.heap.size ≤ k) :
    w6.cell? ⟨t, 0, none⟩ = some v ∧ w6.frozen? ⟨t, 0, none⟩ = false ∧ t < w6.heap.size ∧ RsAt (w6.setCell ⟨t, 0, none⟩ v') base t v' l2 ∧ Only (t :: v.ownBlock.toList) w (w6.setCell ⟨t, 0, none⟩ v') ∧ Near v v' w := by
  have h6 := h.only ho
  have htl : t < w.heap.size := lt_of_cell h.c0
  have hne : ∀ k, v'.ownBlock = some k → k ≠ t := fun k hk => by have := hfr k hk; omega
  have hx : Only [t] w6 (w6.setCell ⟨t, 0, none⟩ v') := (Only.refl [t] w6).setCell (Or.inl (by simp)) _
  exact ⟨h6.c0, h6.fr, lt_of_cell h6.c0, ⟨World.cell?_setCell_same _ _ _ h6.c0, by simpa using h6.fr, hown.only hx (fun k hk => by simpa using hne k hk), hne⟩, (ho.mono (L' := t :: v.ownBlock.toList) (fun _ hk => by cases hk)).trans hx (fun k hk => Or.inl (by simp at hk; simp [hk])), fun k hk => Or.inr (hfr k hk)⟩
theorem own_shape {w : World} {base n : Nat} {e : TypeId} {v : Value} {xs : List Value} (h : w.ownsRow base e 5 v n xs) : ∃ a c m, v = .slice a m c := by
  rcases h.2 with ⟨h1, _⟩ | ⟨g, cap, cur, h1, _⟩
  · exact ⟨_, _, _, h1⟩
  · exact ⟨_, _, _, h1⟩
/-! ### Close -/
set_option maxHeartbeats 1000000 in
theorem rclose_none (w : World) (base t : Nat) (v : Value) (l : List Opn) (N G O : Int) (h : RsAt w base t v l) (hl : l.length ≤ 40) (hno : ∀ x ∈ l, keyB N G O x = false) :
    Calls Tryd.prog 11 #[.pointer (some ⟨t, 0, none⟩), .agg #[.int .i64 N, .int .i64 G], .int .i64 O] w fun e w' => e = .returned (.int .i64 5) ∧ Only [] w w' := by
  have o1 : Only [] w (w.alloc (.cells #[.int .i64 N, .int .i64 G] 33)) := (Only.refl [] w).alloc _
  have HO1 : Hid (Only [] w (w.alloc (.cells #[.int .i64 N, .int .i64 G] 33))) := o1
  have hf := rfind_no _ base t v l N G O (h.only o1) hl hno
  clear h hno o1
  go_enter Tryd.func11, Tryd.ntmps11
  go_wp2_with (first | (go_at_call 32; refine hf.mono ?_; rintro e w2 ⟨rfl, ho2⟩; have HO2 : Hid (Only [] w w2) := HO1.out.trans ho2 (fun _ hk => by cases hk); clear hf ho2) | go_in)
  go_ret
  exact ⟨rfl, HO2.out⟩
set_option maxRecDepth 100000 in
set_option maxHeartbeats 2000000 in
theorem rclose_found (w : World) (base t : Nat) (v : Value) (l : List Opn) (N G O : Int) (i : Nat) (x : Opn) (h : RsAt w base t v l) (hl : l.length ≤ 40) (hbs : base ≤ w.heap.size) (hx : l[i]? = some x) (hp : keyB N G O x = true) (hfi : ∀ j y, j < i → l[j]? = some y → keyB N G O y = false) :
    Calls Tryd.prog 11 #[.pointer (some ⟨t, 0, none⟩), .agg #[.int .i64 N, .int .i64 G], .int .i64 O] w fun e w' => e = .returned (.int .i64 0) ∧ ∃ v', RsAt w' base t v' (l.take i ++ l.drop (i + 1)) ∧ Only (t :: v.ownBlock.toList) w w' ∧ Near v v' w := by
  have o1 : Only [] w (w.alloc (.cells #[.int .i64 N, .int .i64 G] 33)) := (Only.refl [] w).alloc _
  have HO1 : Hid (Only [] w (w.alloc (.cells #[.int .i64 N, .int .i64 G] 33))) := o1
  have hf := rfind_at _ base t v l N G O i x (h.only o1) hl hx hp hfi
  obtain ⟨g, cap, rfl⟩ := h.place hx
  have hcap : l.length ≤ cap ∧ cap ≤ maxLen := by
    rcases h.own.open with ⟨h0, _⟩ | ⟨_, _, _, hv, _, _, _, h1, h2, _⟩
    · cases h0
    · cases hv
      exact ⟨h1, h2⟩
  have hin : i < l.length := (List.getElem?_eq_some_iff.1 hx).1
  obtain ⟨n, hn⟩ : ∃ n, l.length = n := ⟨_, rfl⟩
  have HN : Hid (l.length = n) := hn
  rw [hn] at hin hl hcap h ⊢
  obtain ⟨hc1, hc2⟩ := hcap
  unfold maxLen at hc2
  have H : Hid (RsAt w base t (.slice (some ⟨g, 0, none⟩) n cap) l) := h
  have HZ : Hid (∀ W, Only [] w W → W.cell? ⟨t, 0, none⟩ = some (.slice (some ⟨g, 0, none⟩) n cap)) := fun W ho => (H.out.only ho).c0
  obtain ⟨ad, had, hadr⟩ : ∃ ad : Addr, (if cap = i + 1 then some (⟨g, 0, none⟩ : Addr) else some ⟨g, (i + 1) * 5, none⟩) = some ad ∧ ((l.drop (i + 1)).length = 0 ∨ ad = ⟨g, (i + 1) * 5, none⟩) := by
    by_cases hc : cap = i + 1
    · exact ⟨_, if_pos hc, Or.inl (by rw [List.length_drop]; omega)⟩
    · exact ⟨_, if_neg hc, Or.inr rfl⟩
  have HADR : Hid ((l.drop (i + 1)).length = 0 ∨ ad = ⟨g, (i + 1) * 5, none⟩) := hadr
  have HBS : Hid (base ≤ w.heap.size) := hbs
  obtain ⟨i0, hi0, hz0, hz1, hz2⟩ := roInfo'
  have HL1 : Hid ((rowOf opC (l.take i)).length = i * 5) := by show (rowOf opC (l.take i)).length = i * 5; rw [rowOf_len opC_len, List.length_take]; congr 1; omega
  have HL2 : Hid ((rowOf opC (l.drop (i + 1))).length = (n - (i + 1)) * 5) := by show (rowOf opC (l.drop (i + 1))).length = (n - (i + 1)) * 5; rw [rowOf_len opC_len, List.length_drop, hn]
  have HEND : Hid (∀ w4 v2, Only [] w w4 → w4.ownsRow base 61 5 v2 (i + (n - (i + 1))) (rowOf opC (l.take i) ++ rowOf opC (l.drop (i + 1))) → (∀ k, v2.ownBlock = some k → w.heap.size ≤ k) → w4.cell? ⟨t, 0, none⟩ = some (.slice (some ⟨g, 0, none⟩) n cap) ∧ w4.frozen? ⟨t, 0, none⟩ = false ∧ t < w4.heap.size ∧ RsAt (w4.setCell ⟨t, 0, none⟩ v2) base t v2 (l.take i ++ l.drop (i + 1)) ∧ Only (t :: (Value.slice (some ⟨g, 0, none⟩) n cap).ownBlock.toList) w (w4.setCell ⟨t, 0, none⟩ v2) ∧ Near (.slice (some ⟨g, 0, none⟩) n cap) v2 w) := fun w4 v2 ho hown hfr =>
    H.out.moved ho (by
      unfold Rns
      rw [rowOf_append, show (l.take i ++ l.drop (i + 1)).length = i + (n - (i + 1)) by rw [List.length_append, List.length_take, List.length_drop, hn]; omega]
      exact hown) hfr
  have e1 : ((i : Int) + 1).toNat = i + 1 := by omega
  have e2 : (i : Int) + 1 ≤ (n : Int) := by omega
  have e3 : (0 : Int) ≤ (i : Int) + 1 := by omega
  have e4 : (i : Int) ≤ (cap : Int) := by omega
  clear h hx hp hfi o1 hadr hbs hn
  go_enter Tryd.func11, Tryd.ntmps11
  go_wp2_with (first
    | (go_at_call 32; refine hf.mono ?_; rintro e w2 ⟨rfl, ho2⟩; have HO2 : Hid (Only [] w w2) := HO1.out.trans ho2 (fun _ hk => by cases hk); have z0 := HZ.out w2 HO2.out; clear hf ho2)
    | (at_builtin; refine wpList_append_own_at _ rfl (.tmp 15) (.tmp 21) 29 rfl base 61 i0 _ 5 40 rosUnd hi0 hz0 hz1 hz2 rfl (by decide) _ 0 [] rfl (World.ownsRow_nil _ _ _ _) ⟨g, 0, none⟩ i cap (rowOf opC (l.take i)) rfl HL1.out (Rns.news_take (H.out.only HO2.out).own HN.out i) (rowOf_one opC_one _) (by unfold maxLen; omega) (by omega) (Nat.le_trans HBS.out HO2.out.size) ?_; intro v1 w3 hown1 hgr1 _ hat1; have HO3 : Hid (Only [] w w3) := HO2.out.grown hgr1 (fun k hk => by cases hk); have HV1 : Hid (w3.ownsRow base 61 5 v1 i (rowOf opC (l.take i))) := (by have hh := hown1; rw [Nat.zero_add, List.nil_append] at hh; exact hh); have HF1 : Hid (∀ k, v1.ownBlock = some k → w.heap.size ≤ k) := (fun k hk => by rcases hat1 with e | e; rw [e] at hk; cases hk; rw [e] at hk; cases hk; exact HO2.out.size); have z1 := HZ.out w3 HO3.out; clear hown1 hgr1 hat1 z0)
    | (at_builtin; refine wpList_append_own_at _ rfl (.tmp 24) (.tmp 31) 29 rfl base 61 i0 _ 5 40 rosUnd hi0 hz0 hz1 hz2 rfl (by decide) v1 i (rowOf opC (l.take i)) rfl HV1.out ad (n - (i + 1)) _ (rowOf opC (l.drop (i + 1))) rfl HL2.out (Rns.news_drop (H.out.only HO3.out).own HN.out (i + 1) ad HADR.out) (rowOf_one opC_one _) (by unfold maxLen; omega) (by omega) (Nat.le_trans HBS.out HO3.out.size) ?_; intro v2 w4 hown2 hgr2 _ hat2; obtain ⟨a2, c2, m2, rfl⟩ := own_shape hown2; have HO4 : Hid (Only [] w w4) := HO3.out.grown hgr2 (fun k hk => Or.inr (HF1.out k hk)); obtain ⟨k0, k1, k2, hR⟩ := HEND.out w4 _ HO4.out hown2 (fun k hk => by rcases hat2 with e | e; rw [e] at hk; exact HF1.out k hk; rw [e] at hk; cases hk; exact HO3.out.size); have HR : Hid (RsAt (w4.setCell ⟨t, 0, none⟩ (.slice a2 m2 c2)) base t (.slice a2 m2 c2) (l.take i ++ l.drop (i + 1)) ∧ Only (t :: (Value.slice (some ⟨g, 0, none⟩) n cap).ownBlock.toList) w (w4.setCell ⟨t, 0, none⟩ (.slice a2 m2 c2)) ∧ Near (.slice (some ⟨g, 0, none⟩) n cap) (.slice a2 m2 c2) w) := hR; clear hown2 hgr2 hat2 hR)
    | go_in)
  go_ret
  exact ⟨rfl, _, HR.out⟩
theorem rclose_any (w : World) (base t : Nat) (v : Value) (l : List Opn) (A : Nat → Addr) (N G O : Int) (h : RsAt w base t v l) (hl : l.length ≤ 40) (hbs : base ≤ w.heap.size) :
    Calls Tryd.prog 11 #[.pointer (some ⟨t, 0, none⟩), .agg #[.int .i64 N, .int .i64 G], .int .i64 O] w fun e w' => ∃ (c : Nat) (r : Value) (v' : Value) (l' : List Opn), e = .returned (.int .i64 (c : Int)) ∧ CloseR A l N G O c r l' ∧ RsAt w' base t v' l' ∧ Only (t :: v.ownBlock.toList) w w' ∧ Near v v' w := by
  rcases first_cases (keyB N G O) l with hno | ⟨i, x, hx, hp, hfi⟩
  · exact (rclose_none w base t v l N G O h hl hno).mono fun e w' hh => ⟨5, _, v, l, hh.1, Or.inl ⟨not_same hno, rfl, rfl, rfl⟩, h.only hh.2, hh.2.mono (fun _ hk => by cases hk), fun _ hk => Or.inl hk⟩
  · have hs : sameO x (keyO N G O) := key_same hp
    exact (rclose_found w base t v l N G O i x h hl hbs hx hp hfi).mono fun e w' hh => by
      obtain ⟨he, v', h1, h2, h3⟩ := hh
      exact ⟨0, _, v', _, he, Or.inr ⟨i, x, hx, hs, rfl, rfl, rfl⟩, h1, h2, h3⟩
/-! ### Drop -/
/-- While those that stay are gathered. -/
structure Gath (w : World) (base : Nat) (O : Int) (l : List Opn) (o : Value) (j k : Nat) (wr : World) : Prop where
  own : Rns wr base o (keptO O (l.take j))
  fresh : ∀ q, o.ownBlock = some q → w.heap.size ≤ q
  only : Only [] w wr
  num : k + (keptO O (l.take j)).length = j
theorem take_one {l : List Opn} {j : Nat} {x : Opn} (hx : l[j]? = some x) : l.take (j + 1) = l.take j ++ [x] := by
  rw [List.take_add_one, hx]
  rfl
theorem kept_one {l : List Opn} {j : Nat} {x : Opn} {O : Int} (hx : l[j]? = some x) : keptO O (l.take (j + 1)) = if x.O = O then keptO O (l.take j) else keptO O (l.take j) ++ [x] := by
  rw [take_one hx]
  unfold keptO
  rw [List.filter_append]
  by_cases h : x.O = O
  · simp [byB, h]
  · simp [byB, h]
theorem Gath.skip {w wr : World} {base : Nat} {O : Int} {l : List Opn} {o : Value} {j k : Nat} {x : Opn} (h : Gath w base O l o j k wr) (hx : l[j]? = some x) (hO : x.O = O) : Gath w base O l o (j + 1) (k + 1) wr := by
  have e : keptO O (l.take (j + 1)) = keptO O (l.take j) := by rw [kept_one hx, if_pos hO]
  exact ⟨by rw [e]; exact h.own, h.fresh, h.only, by rw [e]; have := h.num; omega⟩
theorem Gath.add {w wr w6 : World} {base gl cp : Nat} {O : Int} {l : List Opn} {o : Value} {j k : Nat} {x : Opn} (h : Gath w base O l o j k wr) (hx : l[j]? = some x) (hO : ¬ x.O = O) (ob : Obj) (hown : w6.ownsRow base 61 5 (.slice (some ⟨gl, 0, none⟩) ((keptO O (l.take j)).length + 1) cp) ((keptO O (l.take j)).length + 1) (rowOf opC (keptO O (l.take j)) ++ opC x)) (hgr : (wr.alloc ob).grownBy w6 o.ownBlock) (hat : o.ownBlock = some gl ∨ gl = wr.heap.size + 1) : Gath w base O l (.slice (some ⟨gl, 0, none⟩) ((keptO O (l.take j)).length + 1) cp) (j + 1) k w6 := by
  have e : keptO O (l.take (j + 1)) = keptO O (l.take j) ++ [x] := by rw [kept_one hx, if_neg hO]
  have el : (keptO O (l.take (j + 1))).length = (keptO O (l.take j)).length + 1 := by rw [e, List.length_append]; rfl
  refine ⟨?_, fun q hq => ?_, (h.only.alloc ob).grown hgr (fun q hq => Or.inr (h.fresh q hq)), by have := h.num; omega⟩
  · unfold Rns
    rw [el, e, ← rowOf_push]
    exact hown
  · cases hq
    rcases hat with e1 | e1
    · exact h.fresh gl e1
    · have := h.only.size
      show w.heap.size ≤ gl
      omega
set_option maxRecDepth 100000 in
set_option maxHeartbeats 2000000 in
theorem rdrop_any (w : World) (base t : Nat) (v : Value) (l : List Opn) (O : Int) (h : RsAt w base t v l) (hl : l.length ≤ 40) (hbs : base ≤ w.heap.size) :
    Calls Tryd.prog 17 #[.pointer (some ⟨t, 0, none⟩), .int .i64 O] w fun e w' => e = .returned (.int .i64 ((l.length : Int) - ((keptO O l).length : Int))) ∧ ∃ v', RsAt w' base t v' (keptO O l) ∧ Only (t :: v.ownBlock.toList) w w' ∧ Near v v' w := by
  obtain ⟨ad, cap, rfl, had, _⟩ := h.own.form
  have HA : Hid (l ≠ [] → ∃ g, ad = some ⟨g, 0, none⟩) := had
  obtain ⟨n, hn⟩ : ∃ n, l.length = n := ⟨_, rfl⟩
  have HN : Hid (l.length = n) := hn
  rw [hn] at hl h ⊢
  have H : Hid (RsAt w base t (.slice ad n cap) l) := h
  have HBS : Hid (base ≤ w.heap.size) := hbs
  obtain ⟨i0, hi0, hz0, hz1, hz2⟩ := roInfo'
  clear h hn had hbs
  go_enter Tryd.func17, Tryd.ntmps17
  go_wp2
  go_loopw [5, 6, 7] (fun o c i wr => ∃ (j k : Nat), i = .int .i64 j ∧ c = .int .i64 k ∧ j ≤ n ∧ Gath w base O l o j k wr) (fun _ _ i _ => n - (intOf i).toNat)
  case atStart => exact ⟨0, 0, rfl, rfl, Nat.zero_le _, Rns.nil _ _, (fun q hq => by cases hq), Only.refl _ _, rfl⟩
  case round =>
    obtain ⟨j, k, rfl, rfl, hj, hG⟩ := hrel
    have HG : Hid (Gath w base O l u5 j k wr) := hG
    have hR := H.out.only hG.only
    have hc0 := hR.c0
    have hkj : k ≤ j := by have := hG.num; omega
    clear hG
    by_cases hlt : j < n
    · obtain ⟨x, hx⟩ : ∃ x, l[j]? = some x := ⟨_, List.getElem?_eq_getElem (by rw [HN.out]; exact hlt)⟩
      obtain ⟨g, rfl⟩ := HA.out (fun e => by rw [e] at hx; cases hx)
      obtain ⟨c0, c1, c2, c3, c4⟩ := rn_cells hR.own HN.out hx
      have HX : Hid (l[j]? = some x) := hx
      clear hR hx
      by_cases hO : x.O = O
      · have HG2 : Hid (Gath w base O l u5 (j + 1) (k + 1) wr) := HG.out.skip HX.out hO
        rw [hO] at c2
        clear hO
        go_wp2
        go_roundw
        case rel => exact ⟨j + 1, k + 1, by go_num, by go_num, by omega, HG2.out⟩
        case measure => simp [intOf]; omega
      · have dO : (x.O == O) = false := beq_eq_false_iff_ne.2 hO
        have dO2 : decide (x.O = O) = false := decide_eq_false hO
        have HNO : Hid (¬ x.O = O) := hO
        have HGO : Hid ((wr.alloc (.cells #[.int .i64 x.N, .int .i64 x.G, .int .i64 x.O, .int .i64 x.A, .int .i64 x.D] 61)).ownsRow base 61 5 u5 (keptO O (l.take j)).length (rowOf opC (keptO O (l.take j)))) := World.ownsRow.alloc HG.out.own _
        have HNW : Hid (∀ (q : Nat) (u : Value), (opC x)[q]? = some u → (wr.alloc (.cells #[.int .i64 x.N, .int .i64 x.G, .int .i64 x.O, .int .i64 x.A, .int .i64 x.D] 61)).cell? ((⟨wr.heap.size, 0, none⟩ : Addr).add q) = some u) := World.news_of_block (w := wr.alloc (.cells #[.int .i64 x.N, .int .i64 x.G, .int .i64 x.O, .int .i64 x.A, .int .i64 x.D] 61)) (heap_alloc_last wr _)
        have hm : (keptO O (l.take j)).length ≤ 40 := by have := HG.out.num; omega
        have HB2 : Hid (base ≤ (wr.alloc (.cells #[.int .i64 x.N, .int .i64 x.G, .int .i64 x.O, .int .i64 x.A, .int .i64 x.D] 61)).heap.size) := by show base ≤ _; rw [World.size_alloc]; have := HG.out.only.size; have := HBS.out; omega
        go_wp2_with (first
          | (at_builtin; refine wpList_append_lies _ rfl (.tmp 29) (.tmp 37) 29 rfl base 61 i0 _ 5 40 rosUnd hi0 hz0 hz1 hz2 rfl (by decide) u5 (keptO O (l.take j)).length (rowOf opC (keptO O (l.take j))) rfl HGO.out ⟨wr.heap.size, 0, none⟩ 1 1 (opC x) rfl rfl HNW.out (opC_one x) (by decide) (by unfold maxLen; omega) (by omega) HB2.out (wr.heap.size + 1) (by simp) ?_; intro gl cp w6 hown6 hgr6 hat6 hlt6; have HG6 : Hid (Gath w base O l (.slice (some ⟨gl, 0, none⟩) ((keptO O (l.take j)).length + 1) cp) (j + 1) k w6) := HG.out.add HX.out HNO.out _ hown6 hgr6 hat6; clear hown6 hgr6 hat6 hlt6)
          | go_in)
        go_roundw
        case rel => exact ⟨j + 1, k, by go_num, rfl, by omega, HG6.out⟩
        case measure => simp [intOf]; omega
    · obtain rfl : j = n := by omega
      have htk : l.take j = l := by rw [← HN.out, List.take_length]
      have hown : Rns wr base u5 (keptO O l) := by have := HG.out.own; rw [htk] at this; exact this
      obtain ⟨a5, c5, m5, rfl⟩ := own_shape hown
      obtain ⟨k0, k1, k2, hR2⟩ := H.out.moved HG.out.only hown HG.out.fresh
      have HR : Hid (RsAt (wr.setCell ⟨t, 0, none⟩ (.slice a5 m5 c5)) base t (.slice a5 m5 c5) (keptO O l) ∧ Only (t :: (Value.slice ad j cap).ownBlock.toList) w (wr.setCell ⟨t, 0, none⟩ (.slice a5 m5 c5)) ∧ Near (.slice ad j cap) (.slice a5 m5 c5) w) := hR2
      have hnum : (k : Int) = (j : Int) - ((keptO O l).length : Int) := by have := HG.out.num; rw [htk] at this; omega
      have HNUM : Hid ((k : Int) = (j : Int) - ((keptO O l).length : Int)) := hnum
      clear hR2 hown htk hR hnum
      go_wp2
      go_ret
      exact ⟨by rw [← HNUM.out]; rfl, _, HR.out⟩
end Go.Proofs.YtagpahgjbglmaaaDoor
