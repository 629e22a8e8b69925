/- Turns, the document's side: End, Drop. -/
import Derived.Test.YtpecfccadhfdhaaDoorTu5
import Derived.Deep.AppendLies
import Derived.Laws.AppendOwnNone
namespace Go.Proofs.YtpecfccadhfdhaaDoor
open Go Go.RowKit Go.Deep

/-- What End leaves. -/
def REndR (w w' : World) (base m : Nat) (v : Value) (L : List Trn) (o q : Int) (r : ByteArray) (e : Ending) : Prop :=
  e = .returned (.int .i64 ((endT L o q r).1 : Nat)) ∧ ∃ v', RtAt w' base m v' (endT L o q r).2 ∧ Only (m :: v.ownBlock.toList) w w'
theorem Rts.frozen {w : World} {base g n cap : Nat} {l : List Trn} (h : Rts w base (.slice (some ⟨g, 0, none⟩) n cap) l) (j : Nat) : w.frozen? ⟨g, j, none⟩ = false := by
  obtain ⟨_, _, cur, hc⟩ := own_block h rfl
  exact frozen_of_row _ _ _ _ _ hc
/-- A row that has grown, or is new, and the table told of it. -/
theorem RtAt.moved {w w5 : World} {base m : Nat} {v v' : Value} {L L' : List Trn} (h : RtAt w base m v L) (ho : Only v.ownBlock.toList w w5) (hown : Rts w5 base v' L') :
    w5.cell? ⟨m, 0, none⟩ = some v ∧ w5.frozen? ⟨m, 0, none⟩ = false ∧ m < w5.heap.size ∧ RtAt (w5.setCell ⟨m, 0, none⟩ v') base m v' L' ∧ Only (m :: v.ownBlock.toList) w (w5.setCell ⟨m, 0, none⟩ v') := by
  have hm : m ∉ v.ownBlock.toList := fun hm => h.ne (by simpa using hm) rfl
  have ht := (ho.block m h.lt hm).trans h.tab
  have hne : ∀ k, v'.ownBlock = some k → k ∉ [m] := fun k hk hkm => by
    obtain ⟨_, _, cur, hc⟩ := own_block hown hk
    rw [List.mem_singleton.1 hkm, ht] at hc
    simp at hc
  exact ⟨cell_of_row _ _ 0 _ _ _ ht, frozen_of_row _ _ _ _ _ ht, (Array.getElem?_eq_some_iff.1 ht).1, ⟨heap_setCell_same w5 m 0 _ _ _ ht, hown.only ((Only.refl [m] w5).setCell (Or.inl (by simp)) _) hne⟩, (ho.mono (fun k hk => Or.inl (List.mem_cons_of_mem _ hk))).setCell (Or.inl (by simp)) _⟩
set_option maxRecDepth 100000 in
set_option maxHeartbeats 4000000 in
theorem rend_any (w : World) (base m : Nat) (v : Value) (L : List Trn) (o q : Int) (r : ByteArray) (h : RtAt w base m v L) (hi : TInv L) (hbs : base ≤ w.heap.size) :
    Calls Tryd.prog 10 #[.pointer (some ⟨m, 0, none⟩), .int .i64 o, .int .i64 q, .string r] w fun e w' => REndR w w' base m v L o q r e := by
  have hb := rbeg_any w base m v L o q h hi
  have hl := hi.len
  have hf := rfind_any w base m v L o h (by omega)
  have H : Hid (RtAt w base m v L) := h
  have HI : Hid (TInv L) := hi
  have HBS : Hid (base ≤ w.heap.size) := hbs
  have c0 := h.c0
  have f0 := h.fr 0
  have hml := h.lt
  clear h hi hbs
  obtain ⟨s, hs⟩ : ∃ s, (begT L o q).2.2 = s := ⟨_, rfl⟩
  unfold rbegV at hb
  rw [hs] at hb
  clear hs
  by_cases h0 : (begT L o q).1 = 0
  · rw [h0] at hb
    have hb' : Calls Tryd.prog 7 #[.pointer (some ⟨m, 0, none⟩), .int .i64 o, .int .i64 q] w fun e w' => e = .returned (.tuple #[.string s, .bool (begT L o q).2.1, .int .i64 0]) ∧ w = w' := hb
    clear hb
    cases ha : (begT L o q).2.1 with
    | true =>
      rw [ha] at hb'
      have HR : Hid (endT L o q r = (12, L)) := endT_again r h0 ha
      clear h0 ha hf
      go_enter Tryd.func10, Tryd.ntmps10
      go_wp2_with (go_at_call 7; refine hb'.mono ?_; rintro e w2 ⟨rfl, rfl⟩)
      go_ret
      unfold REndR
      rw [HR.out]
      exact ⟨rfl, v, H.out, Only.refl _ _⟩
    | false =>
      rw [ha] at hb'
      have HR : Hid (endT L o q r = (0, putT L ⟨o, q.toNat, r⟩)) := endT_ok r h0 ha
      have hq := begT_ok h0
      have eq : (q.toNat : Int) = q := by omega
      have HQ : Hid ((q.toNat : Int) = q) := eq
      clear h0 ha hq eq
      go_enter Tryd.func10, Tryd.ntmps10
      go_wp2_with (go_at_call 7; refine hb'.mono ?_; rintro e w2 ⟨rfl, rfl⟩)
      refine hf.mono ?_
      rintro e w2 ⟨⟨k, x, hk, ho, rfl⟩ | ⟨hno, rfl⟩, rfl⟩
      · obtain ⟨ad, cap, rfl, hfm⟩ := H.out.own.form
        obtain ⟨g, rfl, _, hgl, q0, q1, q2⟩ := hfm k x hk
        have hkl : k < L.length := (List.getElem?_eq_some_iff.1 hk).1
        have hset := H.out.own.set rfl hkl ⟨o, q.toNat, r⟩
        have hox : Only [m, g] w (((w.setCell ⟨g, k * 3, none⟩ (.int .i64 o)).setCell ⟨g, k * 3 + 1, none⟩ (.int .i64 q)).setCell ⟨g, k * 3 + 2, none⟩ (.string r)) := (((Only.refl _ _).setCell (Or.inl (by simp)) _).setCell (Or.inl (by simp)) _).setCell (Or.inl (by simp)) _
        have hgm : m ≠ g := (H.out.ne (k := g) rfl).symm
        have hog : Only [g] w (((w.setCell ⟨g, k * 3, none⟩ (.int .i64 o)).setCell ⟨g, k * 3 + 1, none⟩ (.int .i64 q)).setCell ⟨g, k * 3 + 2, none⟩ (.string r)) := (((Only.refl _ _).setCell (Or.inl (by simp)) _).setCell (Or.inl (by simp)) _).setCell (Or.inl (by simp)) _
        have e1 : L.set k ⟨o, q.toNat, r⟩ = putT L ⟨o, q.toNat, r⟩ := setT_is HI.out.nod hk ho
        rw [e1] at hset
        dsimp only at hset
        rw [HQ.out] at hset
        have HE : Hid (RtAt (((w.setCell ⟨g, k * 3, none⟩ (.int .i64 o)).setCell ⟨g, k * 3 + 1, none⟩ (.int .i64 q)).setCell ⟨g, k * 3 + 2, none⟩ (.string r)) base m (.slice (some ⟨g, 0, none⟩) L.length cap) (putT L ⟨o, q.toNat, r⟩) ∧ Only [m, g] w (((w.setCell ⟨g, k * 3, none⟩ (.int .i64 o)).setCell ⟨g, k * 3 + 1, none⟩ (.int .i64 q)).setCell ⟨g, k * 3 + 2, none⟩ (.string r))) := ⟨⟨(hog.block m hml (by simpa using hgm)).trans H.out.tab, hset⟩, hox⟩
        have z0 := H.out.own.frozen (k * 3)
        have z1 := H.out.own.frozen (k * 3 + 1)
        have z2 := H.out.own.frozen (k * 3 + 2)
        clear hb' hf hfm hk ho hset hox hog e1
        go_wp2
        go_ret
        unfold REndR
        rw [HR.out]
        exact ⟨rfl, _, HE.out⟩
      · have HPT : Hid (putT L ⟨o, q.toNat, r⟩ = L ++ [⟨o, q.toNat, r⟩]) := by show _ = _; unfold putT; rw [if_neg (by rw [hno]; simp)]
        obtain ⟨i0, hi0, hz0, hz1, hz2⟩ := infoRt'
        obtain ⟨n, hn⟩ : ∃ n, L.length = n := ⟨_, rfl⟩
        have HN : Hid (L.length = n) := hn
        have hln : n ≤ 30 := by omega
        have HROW : Hid (w.ownsRow base 53 3 v n (rowOf rtC L)) := H.out.own.own hn
        have HNW : Hid (∀ (r1 : Nat) (q1 : Value), (rtC ⟨o, q.toNat, r⟩)[r1]? = some q1 → (w.alloc (.cells #[.int .i64 o, .int .i64 q, .string r] 53)).cell? ((⟨w.heap.size, 0, none⟩ : Addr).add r1) = some q1) := by
          have := rt_news (w := w) ⟨o, q.toNat, r⟩ 53
          dsimp only at this
          rw [HQ.out] at this
          exact this
        clear hb' hf hno hn hl
        go_wp2_with (first
          | (at_builtin; refine wpList_append_lies _ rfl (.tmp 34) (.tmp 39) 29 rfl base 53 i0 _ 3 32 undRts hi0 hz0 hz1 hz2 rfl (by decide) v n _ rfl (World.ownsRow.alloc HROW.out _) ⟨w.heap.size, 0, none⟩ 1 1 (rtC ⟨o, q.toNat, r⟩) rfl rfl HNW.out (rtC_one _) (by decide) (by unfold maxLen; omega) (by omega) (by rw [World.size_alloc]; have := HBS.out; omega) (w.heap.size + 1) (by simp) ?_; intro g5 c5 w5 hown5 hgr5 hat5 hlt5; obtain ⟨t0, t1, t2, t3⟩ := H.out.moved (((Only.refl _ _).alloc _).grown hgr5 (fun b hb => Or.inl (by simp [hb]))) (Rts.snoc HN.out hown5); have HM : Hid (RtAt (w5.setCell ⟨m, 0, none⟩ (.slice (some ⟨g5, 0, none⟩) (n + 1) c5)) base m (.slice (some ⟨g5, 0, none⟩) (n + 1) c5) (L ++ [⟨o, q.toNat, r⟩]) ∧ Only (m :: v.ownBlock.toList) w (w5.setCell ⟨m, 0, none⟩ (.slice (some ⟨g5, 0, none⟩) (n + 1) c5))) := t3; clear hown5 hgr5 hat5 hlt5 t3)
          | go_in)
        go_ret
        unfold REndR
        rw [HR.out]
        exact ⟨rfl, _, by rw [HPT.out]; exact HM.out.1, HM.out.2⟩
  · have HR : Hid (endT L o q r = ((begT L o q).1, L)) := endT_err r h0
    generalize (begT L o q).2.1 = ag at hb
    generalize (begT L o q).1 = c at hb HR h0
    have hcp : 0 < (c : Int) := by omega
    generalize hz : ((c : Nat) : Int) = z at hb hcp
    have HZ : Hid (((c : Nat) : Int) = z) := hz
    have d0 : decide ((0 : Int) < z) = true := decide_eq_true hcp
    clear h0 hf hz hcp
    go_enter Tryd.func10, Tryd.ntmps10
    go_wp2_with (go_at_call 7; refine hb.mono ?_; rintro e w2 ⟨rfl, rfl⟩)
    go_ret
    unfold REndR
    rw [HR.out]
    exact ⟨by rw [HZ.out]; rfl, v, H.out, Only.refl _ _⟩
/-! ### Drop -/
theorem Rts.news_take {w : World} {base g n cap : Nat} {l : List Trn} (h : Rts w base (.slice (some ⟨g, 0, none⟩) n cap) l) (hn : l.length = n) (k : Nat) : ∀ j u, (rowOf rtC (l.take k))[j]? = some u → w.cell? ((⟨g, 0, none⟩ : Addr).add j) = some u := by
  subst hn
  intro j u hu
  rw [rowOf_take rtC_len, List.getElem?_take] at hu
  split at hu
  · have hj : j < l.length * 3 := by rw [← rowOf_len rtC_len l]; exact (List.getElem?_eq_some_iff.1 hu).1
    rw [add_none, Nat.zero_add, World.ownsRow.cellAt h j hj]
    exact hu
  · cases hu
theorem Rts.news_drop {w : World} {base g n cap : Nat} {l : List Trn} (h : Rts w base (.slice (some ⟨g, 0, none⟩) n cap) l) (hn : l.length = n) (k : Nat) (ad : Addr) (ha : (l.drop k).length = 0 ∨ ad = ⟨g, k * 3, none⟩) : ∀ j u, (rowOf rtC (l.drop k))[j]? = some u → w.cell? (ad.add j) = some u := by
  subst hn
  intro j u hu
  rcases ha with ha | rfl
  · rw [List.length_eq_zero_iff.1 ha] at hu
    cases hu
  · rw [rowOf_drop rtC_len, List.getElem?_drop] at hu
    have hj : k * 3 + j < l.length * 3 := by rw [← rowOf_len rtC_len l]; exact (List.getElem?_eq_some_iff.1 hu).1
    rw [add_none, World.ownsRow.cellAt h _ hj]
    exact hu
theorem own_shape {w : World} {base n : Nat} {e : TypeId} {v : Value} {xs : List Value} (h : w.ownsRow base e 3 v n xs) : ∃ a c m, v = .slice a m c := by
  rcases h.2 with ⟨h1, _⟩ | ⟨g, cap, cur, h1, _⟩
  · exact ⟨_, _, _, h1⟩
  · exact ⟨_, _, _, h1⟩
/-- What Drop leaves. -/
def RDropR (w w' : World) (base m : Nat) (v : Value) (L : List Trn) (o : Int) (e : Ending) : Prop :=
  e = .returned (.int .i64 ((remT L o).1 : Nat)) ∧ ∃ v', RtAt w' base m v' (remT L o).2 ∧ Only (m :: v.ownBlock.toList) w w'
set_option maxRecDepth 100000 in
set_option maxHeartbeats 4000000 in
theorem rdrop_any (w : World) (base m : Nat) (v : Value) (L : List Trn) (o : Int) (h : RtAt w base m v L) (hi : TInv L) (hbs : base ≤ w.heap.size) :
    Calls Tryd.prog 12 #[.pointer (some ⟨m, 0, none⟩), .int .i64 o] w fun e w' => RDropR w w' base m v L o e := by
  have hl := hi.len
  have hf := rfind_any w base m v L o h (by omega)
  have H : Hid (RtAt w base m v L) := h
  have HI : Hid (TInv L) := hi
  have HBS : Hid (base ≤ w.heap.size) := hbs
  clear h hi hbs
  go_enter Tryd.func12, Tryd.ntmps12
  go_wp2_with fail
  refine hf.mono ?_
  rintro e w2 ⟨⟨i, x, hk, ho, rfl⟩ | ⟨hno, rfl⟩, rfl⟩
  · have hft : findT L o = some x := by rw [← ho]; exact findT_at HI.out.nod (List.mem_of_getElem? hk)
    have HR : Hid (remT L o = (0, L.take i ++ L.drop (i + 1))) := by show _ = _; unfold remT; rw [hft, cutT_is HI.out.nod hk, ho]; rfl
    obtain ⟨ad0, cap, rfl, hfm⟩ := H.out.own.form
    obtain ⟨g, rfl, _⟩ := hfm i x hk
    have hcap : L.length ≤ cap ∧ cap ≤ maxLen := by
      rcases H.out.own.2 with ⟨h0, _⟩ | ⟨_, _, _, hv, _, _, h1, h2, _⟩
      · cases h0
      · cases hv
        exact ⟨h1, h2⟩
    have hin : i < L.length := (List.getElem?_eq_some_iff.1 hk).1
    obtain ⟨n, hn⟩ : ∃ n, L.length = n := ⟨_, rfl⟩
    have HN : Hid (L.length = n) := hn
    rw [hn] at hin hl hcap H
    obtain ⟨hc1, hc2⟩ := hcap
    unfold maxLen at hc2
    have HZ : Hid (∀ W, Only [] w W → W.cell? ⟨m, 0, none⟩ = some (.slice (some ⟨g, 0, none⟩) n cap)) := fun W ho => (H.out.only ho).c0
    have z := HZ.out w (Only.refl _ _)
    obtain ⟨ad, had, hadr⟩ : ∃ ad : Addr, (if cap = i + 1 then some (⟨g, 0, none⟩ : Addr) else some ⟨g, (i + 1) * 3, none⟩) = some ad ∧ ((L.drop (i + 1)).length = 0 ∨ ad = ⟨g, (i + 1) * 3, none⟩) := by
      by_cases hc : cap = i + 1
      · exact ⟨_, if_pos hc, Or.inl (by rw [List.length_drop]; omega)⟩
      · exact ⟨_, if_neg hc, Or.inr rfl⟩
    have HADR : Hid ((L.drop (i + 1)).length = 0 ∨ ad = ⟨g, (i + 1) * 3, none⟩) := hadr
    obtain ⟨i0, hi0, hz0, hz1, hz2⟩ := infoRt'
    have HL1 : Hid ((rowOf rtC (L.take i)).length = i * 3) := by show (rowOf rtC (L.take i)).length = i * 3; rw [rowOf_len rtC_len, List.length_take]; congr 1; omega
    have HL2 : Hid ((rowOf rtC (L.drop (i + 1))).length = (n - (i + 1)) * 3) := by show (rowOf rtC (L.drop (i + 1))).length = (n - (i + 1)) * 3; rw [rowOf_len rtC_len, List.length_drop, hn]
    have HEND : Hid (∀ w4 v2, Only [] w w4 → w4.ownsRow base 53 3 v2 (i + (n - (i + 1))) (rowOf rtC (L.take i) ++ rowOf rtC (L.drop (i + 1))) → w4.cell? ⟨m, 0, none⟩ = some (.slice (some ⟨g, 0, none⟩) n cap) ∧ w4.frozen? ⟨m, 0, none⟩ = false ∧ m < w4.heap.size ∧ RtAt (w4.setCell ⟨m, 0, none⟩ v2) base m v2 (L.take i ++ L.drop (i + 1)) ∧ Only (m :: (Value.slice (some ⟨g, 0, none⟩) n cap).ownBlock.toList) w (w4.setCell ⟨m, 0, none⟩ v2)) := fun w4 v2 ho hown =>
      H.out.moved (ho.mono (fun _ hk => by cases hk)) (by
        unfold Rts
        rw [rowOf_append, show (L.take i ++ L.drop (i + 1)).length = i + (n - (i + 1)) by rw [List.length_append, List.length_take, List.length_drop, hn]; omega]
        exact hown)
    have e1 : ((i : Int) + 1).toNat = i + 1 := by omega
    have e2 : (i : Int) + 1 ≤ (n : Int) := by omega
    have e3 : (0 : Int) ≤ (i : Int) + 1 := by omega
    have e4 : (i : Int) ≤ (cap : Int) := by omega
    clear hk ho hft hf hfm hadr hn
    go_wp2_with (first
      | (at_builtin; refine wpList_append_own_at _ rfl (.tmp 12) (.tmp 18) 29 rfl base 53 i0 _ 3 32 undRts hi0 hz0 hz1 hz2 rfl (by decide) _ 0 [] rfl (World.ownsRow_nil _ _ _ _) ⟨g, 0, none⟩ i cap (rowOf rtC (L.take i)) rfl HL1.out (Rts.news_take H.out.own HN.out i) (rowOf_one rtC_one _) (by unfold maxLen; omega) (by omega) HBS.out ?_; intro v1 w3 hown1 hgr1 _ hat1; have HO3 : Hid (Only [] w w3) := (Only.refl _ _).grown hgr1 (fun k hk => by cases hk); have HV1 : Hid (w3.ownsRow base 53 3 v1 i (rowOf rtC (L.take i))) := (by have hh := hown1; rw [Nat.zero_add, List.nil_append] at hh; exact hh); have HF1 : Hid (∀ k, v1.ownBlock = some k → w.heap.size ≤ k) := (fun k hk => by rcases hat1 with e | e; rw [e] at hk; cases hk; rw [e] at hk; cases hk; exact Nat.le_refl _); have z1 := HZ.out w3 HO3.out; clear hown1 hgr1 hat1 z)
      | (at_builtin; refine wpList_append_own_at _ rfl (.tmp 21) (.tmp 28) 29 rfl base 53 i0 _ 3 32 undRts hi0 hz0 hz1 hz2 rfl (by decide) v1 i (rowOf rtC (L.take i)) rfl HV1.out ad (n - (i + 1)) _ (rowOf rtC (L.drop (i + 1))) rfl HL2.out (Rts.news_drop (H.out.only HO3.out).own HN.out (i + 1) ad HADR.out) (rowOf_one rtC_one _) (by unfold maxLen; omega) (by omega) (Nat.le_trans HBS.out HO3.out.size) ?_; intro v2 w4 hown2 hgr2 _ hat2; obtain ⟨a2, c2, m2, rfl⟩ := own_shape hown2; have HO4 : Hid (Only [] w w4) := HO3.out.grown hgr2 (fun k hk => Or.inr (HF1.out k hk)); obtain ⟨k0, k1, k2, hR⟩ := HEND.out w4 _ HO4.out hown2; have HX : Hid (RtAt (w4.setCell ⟨m, 0, none⟩ (.slice a2 m2 c2)) base m (.slice a2 m2 c2) (L.take i ++ L.drop (i + 1)) ∧ Only (m :: (Value.slice (some ⟨g, 0, none⟩) n cap).ownBlock.toList) w (w4.setCell ⟨m, 0, none⟩ (.slice a2 m2 c2))) := hR; clear hown2 hgr2 hat2 hR)
      | go_in)
    go_ret
    unfold RDropR
    rw [HR.out]
    exact ⟨rfl, _, HX.out⟩
  · have HR : Hid (remT L o = (5, L)) := by show _ = _; unfold remT; rw [hno]; rfl
    clear hno hf
    go_wp2
    go_ret
    unfold RDropR
    rw [HR.out]
    exact ⟨rfl, v, H.out, Only.refl _ _⟩
end Go.Proofs.YtpecfccadhfdhaaDoor
