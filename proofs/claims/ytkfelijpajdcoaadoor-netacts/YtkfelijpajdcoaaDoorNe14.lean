/- A net: the document's Take where there is none, Twice, For, Send. -/
import Derived.Test.YtkfelijpajdcoaaDoorNe13
namespace Go.Proofs.YtkfelijpajdcoaaDoor
open Go Go.RowKit Go.Deep

theorem dat_none {w : World} {base t : Nat} {v : Value} {l : List Msg} (h : DNet w base t v l) : ∃ ad cap, v = .slice ad l.length cap := by
  rcases RowM.open h.own with ⟨h1, h2⟩ | ⟨g, cap, cur, h1, _⟩
  · exact ⟨none, 0, by rw [h1, h2]; rfl⟩
  · exact ⟨_, _, h1⟩
set_option maxHeartbeats 2000000 in
theorem dtake_none (w : World) (base t : Nat) (v : Value) (l : List Msg) (i : Int) (h : DNet w base t v l) (hi : ¬ inN l i) : Calls Tryd.prog 10 #[.pointer (some ⟨t, 0, none⟩), .int .i64 i] w fun e w' => e = .returned (.tuple #[.agg #[.string ⟨#[]⟩, .string ⟨#[]⟩, .string ⟨#[]⟩], .bool false]) ∧ Only [] w w' := by
  obtain ⟨ad, cap, rfl⟩ := dat_none h
  have c0 := h.c0
  have htl := lt_of_cell c0
  have hi' : i < 0 ∨ (l.length : Int) ≤ i := by unfold inN at hi; omega
  have b1 := heap_alloc_last w (.cells #[.string ⟨#[]⟩, .string ⟨#[]⟩, .string ⟨#[]⟩] 33)
  have HB : Hid (MBox 33 (w.alloc (.cells #[.string ⟨#[]⟩, .string ⟨#[]⟩, .string ⟨#[]⟩] 33)) w.heap.size ⟨⟨#[]⟩, ⟨#[]⟩, ⟨#[]⟩⟩) := b1
  obtain ⟨h3, o3⟩ := set3 (a0 := .string ⟨#[]⟩) (a1 := .string ⟨#[]⟩) (a2 := .string ⟨#[]⟩) HB.out
  have o1 : Only [] w (w.alloc (.cells #[.string ⟨#[]⟩, .string ⟨#[]⟩, .string ⟨#[]⟩] 33)) := (Only.refl [] w).alloc _
  have HF : Hid (Only [] w (w.alloc (.cells #[.string ⟨#[]⟩, .string ⟨#[]⟩, .string ⟨#[]⟩] 33))) := o1
  generalize l.length = n at *
  clear h hi h3 o3 b1 o1 HB
  by_cases h0 : i < 0
  · have d0 : decide (i < 0) = true := decide_eq_true h0
    clear hi'
    go_enter Tryd.func10, Tryd.ntmps10
    go_wp2
    refine bodyPost_ret (v := .tuple #[.agg #[.string ⟨#[]⟩, .string ⟨#[]⟩, .string ⟨#[]⟩], .bool false]) (by simp [results, Tryd.results10, go_sem]) rfl ⟨rfl, HF.out⟩
  · have d0 : decide (i < 0) = false := decide_eq_false h0
    have d1 : decide ((n : Int) ≤ i) = true := decide_eq_true (by omega)
    clear hi'
    go_enter Tryd.func10, Tryd.ntmps10
    go_wp2
    refine bodyPost_ret (v := .tuple #[.agg #[.string ⟨#[]⟩, .string ⟨#[]⟩, .string ⟨#[]⟩], .bool false]) (by simp [results, Tryd.results10, go_sem]) rfl ⟨rfl, HF.out⟩
/-! ### Twice -/
set_option maxHeartbeats 2000000 in
theorem dtwice_none (w : World) (base t : Nat) (v : Value) (l : List Msg) (i : Int) (h : DNet w base t v l) (hi : ¬ inN l i) : Calls Tryd.prog 14 #[.pointer (some ⟨t, 0, none⟩), .int .i64 i] w fun e w' => e = .returned (.int .i64 5) ∧ w = w' := by
  obtain ⟨ad, cap, rfl⟩ := dat_none h
  have c0 := h.c0
  have htl := lt_of_cell c0
  have hi' : i < 0 ∨ (l.length : Int) ≤ i := by unfold inN at hi; omega
  generalize l.length = n at *
  clear h hi
  by_cases h0 : i < 0
  · have d0 : decide (i < 0) = true := decide_eq_true h0
    clear hi'
    go_enter Tryd.func14, Tryd.ntmps14
    go_wp2
    go_ret
    exact ⟨rfl, rfl⟩
  · have d0 : decide (i < 0) = false := decide_eq_false h0
    have d1 : decide ((n : Int) ≤ i) = true := decide_eq_true (by omega)
    clear hi'
    go_enter Tryd.func14, Tryd.ntmps14
    go_wp2
    go_ret
    exact ⟨rfl, rfl⟩
set_option maxHeartbeats 2000000 in
theorem dtwice_full (w : World) (base t : Nat) (v : Value) (l : List Msg) (i : Int) (h : DNet w base t v l) (hi : inN l i) (hl : l.length = 100) : Calls Tryd.prog 14 #[.pointer (some ⟨t, 0, none⟩), .int .i64 i] w fun e w' => e = .returned (.int .i64 9) ∧ w = w' := by
  obtain ⟨ad, cap, rfl⟩ := dat_none h
  have c0 := h.c0
  have htl := lt_of_cell c0
  unfold inN at hi
  rw [hl] at c0 hi
  have d0 : decide (i < 0) = false := decide_eq_false (by omega)
  have d1 : decide ((100 : Int) ≤ i) = false := decide_eq_false (by omega)
  clear h hi hl
  go_enter Tryd.func14, Tryd.ntmps14
  go_wp2
  go_ret
  exact ⟨rfl, rfl⟩
set_option maxRecDepth 100000 in
set_option maxHeartbeats 4000000 in
theorem dtwice_ok (w : World) (base t : Nat) (v : Value) (l : List Msg) (i : Nat) (x : Msg) (h : DNet w base t v l) (hx : l[i]? = some x) (hl : l.length < 100) (hbs : base ≤ w.heap.size) : Calls Tryd.prog 14 #[.pointer (some ⟨t, 0, none⟩), .int .i64 i] w fun e w' => e = .returned (.int .i64 0) ∧ ∃ v', DNet w' base t v' (l.take i ++ [x, x] ++ l.drop (i + 1)) ∧ Only [t] w w' := by
  have hil : i < l.length := (List.getElem?_eq_some_iff.1 hx).1
  obtain ⟨g, cap, rfl, hgl, hnc, hG63⟩ := dnet_open h hil
  have cw := h.c0
  have htl := lt_of_cell cw
  have htk : l.take (i + 1) = l.take i ++ [x] := by rw [List.take_add_one, hx]; rfl
  obtain ⟨v1, w1, hr1, hm1, ho1, hat1⟩ := rappend w base (.slice none 0 0) [] (l.take (i + 1)) (RowM.nil _ _ _) ⟨g, 0, none⟩ (i + 1) cap (by rw [List.length_take]; omega) (by
    have := rcells h.own rfl 0 (i + 1)
    rw [List.drop_zero, Nat.zero_mul] at this
    exact this) (by simp) (by rw [List.length_take]; omega) hbs
  rw [List.nil_append] at hm1
  have ho1' : Only [] w w1 := ho1
  have h1 := h.only ho1' (by simp) (fun _ _ => by simp)
  have hv1 : ∀ k, v1.ownBlock = some k → w.heap.size ≤ k := fun k hk => by
    rcases hat1 with e | e
    · rw [e] at hk; cases hk
    · rw [e] at hk; cases hk; omega
  have o1a : Only [] w1 (w1.alloc (.cells #[.string x.F, .string x.T, .string x.X] 33)) := (Only.refl [] w1).alloc _
  have hmx := heap_alloc_last w1 (.cells #[.string x.F, .string x.T, .string x.X] 33)
  obtain ⟨v2, w2, hr2, hm2, ho2, hat2⟩ := rappend (w1.alloc (.cells #[.string x.F, .string x.T, .string x.X] 33)) base v1 (l.take (i + 1)) [x] (RowM.only hm1 o1a (fun _ _ => by simp)) ⟨w1.heap.size, 0, none⟩ 1 1 rfl (World.news_of_block (w := w1.alloc (.cells #[.string x.F, .string x.T, .string x.X] 33)) hmx) (by rw [List.length_take]; omega) (by simp) (Nat.le_trans hbs (Nat.le_trans ho1'.size o1a.size))
  have how2 : Only [] w w2 := (only_nil ho1' o1a).trans ho2 (fun k hk => Or.inr (hv1 k (by simpa using hk)))
  have hv2 : ∀ k, v2.ownBlock = some k → w.heap.size ≤ k := fun k hk => by
    rcases hat2 with e | e
    · rw [e] at hk; exact hv1 k hk
    · rw [e] at hk; cases hk; have := ho1'.size; have := o1a.size; omega
  have h2 := h.only how2 (by simp) (fun _ _ => by simp)
  have key : ∀ a : Addr, (i + 1 < l.length → a = ⟨g, (i + 1) * 3, none⟩) → ∃ ad3 n3 c3 w3, (∀ ty, (Builtin.append_ #[29, 29] ty #[v2, .slice (some a) (l.length - (i + 1)) (cap - (i + 1))]).run Tryd.prog w2 = .ok (.slice ad3 n3 c3) w3) ∧ w3.cell? ⟨t, 0, none⟩ = some (.slice (some ⟨g, 0, none⟩) l.length cap) ∧ w3.frozen? ⟨t, 0, none⟩ = false ∧ t < w3.heap.size ∧ DNet (w3.setCell ⟨t, 0, none⟩ (.slice ad3 n3 c3)) base t (.slice ad3 n3 c3) (l.take i ++ [x, x] ++ l.drop (i + 1)) ∧ Only [t] w (w3.setCell ⟨t, 0, none⟩ (.slice ad3 n3 c3)) := fun a ha => by
    obtain ⟨v3, w3, hr3, hm3, ho3, hat3⟩ := rappend w2 base v2 (l.take (i + 1) ++ [x]) (l.drop (i + 1)) hm2 a (l.length - (i + 1)) (cap - (i + 1)) (by rw [List.length_drop]) (rest_at h2.own rfl a ha) (by rw [List.length_append, List.length_take, List.length_singleton]; omega) (by rw [List.length_drop]; omega) (Nat.le_trans hbs how2.size)
    obtain ⟨ad3, n3, c3, rfl⟩ := RowM.form hm3
    have hv3 : ∀ k, (Value.slice ad3 n3 c3).ownBlock = some k → w.heap.size ≤ k := fun k hk => by
      rcases hat3 with e | e
      · rw [e] at hk; exact hv2 k hk
      · rw [e] at hk; cases hk; exact how2.size
    have how3 : Only [] w w3 := how2.trans ho3 (fun k hk => Or.inr (hv2 k (by simpa using hk)))
    have e3 : l.take (i + 1) ++ [x] ++ l.drop (i + 1) = l.take i ++ [x, x] ++ l.drop (i + 1) := by rw [htk]; simp
    rw [e3] at hm3
    exact ⟨ad3, n3, c3, w3, hr3, DNet.stored h how3 hm3 hv3⟩
  have HC1 : Hid (w1.cell? ⟨t, 0, none⟩ = some (.slice (some ⟨g, 0, none⟩) l.length cap) ∧ w1.cell? ⟨g, i * 3, none⟩ = some (.string x.F) ∧ w1.cell? ⟨g, i * 3 + 1, none⟩ = some (.string x.T) ∧ w1.cell? ⟨g, i * 3 + 2, none⟩ = some (.string x.X)) := by
    obtain ⟨c0, c1, c2, -⟩ := RowM.cells h1.own hx
    exact ⟨h1.c0, c0, c1, c2⟩
  have HC2 : Hid (w2.cell? ⟨t, 0, none⟩ = some (.slice (some ⟨g, 0, none⟩) l.length cap)) := h2.c0
  obtain ⟨ad1, n1, cap1, rfl⟩ := RowM.form hm1
  obtain ⟨ad2, n2, cap2, rfl⟩ := RowM.form hm2
  obtain ⟨n, hn⟩ : ∃ n, l.length = n := ⟨_, rfl⟩
  rw [hn] at cw key hl hil hnc HC1 HC2
  have d0 : decide ((i : Int) < 0) = false := decide_eq_false (by omega)
  have d1 : decide ((n : Int) ≤ (i : Int)) = false := decide_eq_false (by omega)
  have d1' : decide (n ≤ i) = false := decide_eq_false (by omega)
  have d2 : decide ((100 : Int) ≤ (n : Int)) = false := decide_eq_false (by omega)
  have d4 : IntKind.i64.wrap ((i : Int) + 1) = (i : Int) + 1 := by rw [IntKind.wrap_i64]; omega
  have d5 : (i : Int) < n := by omega
  have d6 : (i : Int) + 1 ≤ cap := by omega
  have d7 : (i : Int) + 1 ≤ n := by omega
  have d8 : (0 : Int) ≤ (i : Int) + 1 := by omega
  have d9 : ((i : Int) + 1).toNat = i + 1 := by omega
  clear h hx hn hm1 ho1 ho1' hat1 h1 hv1 o1a hmx hm2 ho2 hat2 how2 hv2 h2 htk
  by_cases hce : cap = i + 1
  · have key' := key ⟨g, 0, none⟩ (fun h => absurd h (by omega))
    obtain rfl : n = cap := by omega
    rw [show n - (i + 1) = 0 by omega] at key'
    have hic : (i : Int) + 1 = (n : Int) := by omega
    have hnn : i + 1 = n := by omega
    have d4n : IntKind.i64.wrap (n : Int) = (n : Int) := by rw [IntKind.wrap_i64]; omega
    have r3n : (i : Int) ≤ n := by omega
    rw [hnn] at hr1
    clear d4 d7 d8 d9 hce d6 hnn
    obtain ⟨ad3, n3, c3, w3, hr3, r1, r2, r3, r4, r5⟩ := key'
    have HR : Hid (DNet (w3.setCell ⟨t, 0, none⟩ (.slice ad3 n3 c3)) base t (.slice ad3 n3 c3) (l.take i ++ [x, x] ++ l.drop (i + 1)) ∧ Only [t] w (w3.setCell ⟨t, 0, none⟩ (.slice ad3 n3 c3))) := ⟨r4, r5⟩
    clear r4 r5 key
    go_enter Tryd.func14, Tryd.ntmps14
    go_upto_region 7 with (at_builtin; refine Lib.wpList_append_run _ rfl _ _ _ _ rfl _ _ rfl rfl _ _ (hr1 _) ?_)
    clear cw htl
    obtain ⟨cw, k0, k1, k2⟩ := HC1.out
    have htl := lt_of_cell cw
    have hgl1 := lt_of_cell k0
    go_upto_region 8 with (at_builtin; refine Lib.wpList_append_run _ rfl _ _ _ _ rfl _ _ rfl rfl _ _ (hr2 _) ?_)
    clear cw htl k0 k1 k2 hgl1
    have cw := HC2.out
    have htl := lt_of_cell cw
    go_wp2_with (at_builtin; refine Lib.wpList_append_run _ rfl _ _ _ _ rfl _ _ rfl rfl _ _ (hr3 _) ?_)
    go_ret
    exact ⟨rfl, ⟨.slice ad3 n3 c3, by have := HR.out.1; simp only [List.append_assoc, List.cons_append, List.nil_append] at this; exact this⟩, HR.out.2⟩
  · have key' := key ⟨g, (i + 1) * 3, none⟩ (fun _ => rfl)
    obtain ⟨ad3, n3, c3, w3, hr3, r1, r2, r3, r4, r5⟩ := key'
    have HR : Hid (DNet (w3.setCell ⟨t, 0, none⟩ (.slice ad3 n3 c3)) base t (.slice ad3 n3 c3) (l.take i ++ [x, x] ++ l.drop (i + 1)) ∧ Only [t] w (w3.setCell ⟨t, 0, none⟩ (.slice ad3 n3 c3))) := ⟨r4, r5⟩
    clear r4 r5 key
    go_enter Tryd.func14, Tryd.ntmps14
    go_upto_region 7 with (at_builtin; refine Lib.wpList_append_run _ rfl _ _ _ _ rfl _ _ rfl rfl _ _ (hr1 _) ?_)
    clear cw htl
    obtain ⟨cw, k0, k1, k2⟩ := HC1.out
    have htl := lt_of_cell cw
    have hgl1 := lt_of_cell k0
    go_upto_region 8 with (at_builtin; refine Lib.wpList_append_run _ rfl _ _ _ _ rfl _ _ rfl rfl _ _ (hr2 _) ?_)
    clear cw htl k0 k1 k2 hgl1
    have cw := HC2.out
    have htl := lt_of_cell cw
    go_wp2_with (at_builtin; refine Lib.wpList_append_run _ rfl _ _ _ _ rfl _ _ rfl rfl _ _ (hr3 _) ?_)
    go_ret
    exact ⟨rfl, ⟨.slice ad3 n3 c3, by have := HR.out.1; simp only [List.append_assoc, List.cons_append, List.nil_append] at this; exact this⟩, HR.out.2⟩
/-! ### For -/
set_option maxHeartbeats 2000000 in
theorem dfor_any (w : World) (base t : Nat) (v : Value) (l : List Msg) (s : ByteArray) (h : DNet w base t v l) (hl : l.length ≤ 100) : Calls Tryd.prog 16 #[.pointer (some ⟨t, 0, none⟩), .string s] w fun e w' => ∃ r, e = .returned (.int .i64 r) ∧ firstI (isToB s) l r ∧ w = w' := by
  obtain ⟨ad, cap, rfl⟩ := dat_none h
  have H : Hid (DNet w base t (.slice ad l.length cap) l) := h
  have c0 := h.c0
  have htl := lt_of_cell c0
  obtain ⟨n, hn⟩ : ∃ n, l.length = n := ⟨_, rfl⟩
  have HN : Hid (l.length = n) := hn
  rw [hn] at c0 hl
  clear h hn
  go_enter Tryd.func16, Tryd.ntmps16
  go_wp2
  go_loopw [5] (fun i wr => wr = w ∧ ∃ j : Nat, i = .int .i64 j ∧ j ≤ n ∧ (∀ q y, q < j → l[q]? = some y → isToB s y = false)) (fun i _ => n - (intOf i).toNat)
  case atStart => exact ⟨rfl, 0, rfl, Nat.zero_le _, fun q y hq => by omega⟩
  case round =>
    obtain ⟨rfl, j, rfl, hj, hall⟩ := hrel
    have HJ : Hid (∀ q y, q < j → l[q]? = some y → isToB s y = false) := hall
    clear hall
    by_cases hlt : j < n
    · obtain ⟨x, hx⟩ : ∃ x, l[j]? = some x := ⟨_, List.getElem?_eq_getElem (by rw [HN.out]; exact hlt)⟩
      obtain ⟨g, cap', hv, -⟩ := dnet_open H.out (i := j) (by rw [HN.out]; exact hlt)
      obtain ⟨rfl, -⟩ : ad = some ⟨g, 0, none⟩ ∧ True := by simp only [Value.slice.injEq] at hv; exact ⟨hv.1, trivial⟩
      obtain ⟨-, k1, -, -⟩ := RowM.cells H.out.own hx
      have HX : Hid (l[j]? = some x) := hx
      clear hx hv
      cases hp : (x.T.toList == s.toList) with
      | true =>
        go_wp2
        go_ret
        exact ⟨(j : Int), rfl, Or.inr ⟨j, rfl, x, HX.out, hp, HJ.out⟩, rfl⟩
      | false =>
        go_wp2
        go_roundw
        case rel => exact ⟨trivial, j + 1, by go_num, by omega, fun q y hq hy => by
                      rcases Nat.lt_or_ge q j with h1 | h1
                      · exact HJ.out q y h1 hy
                      · obtain rfl : q = j := by omega
                        rw [HX.out] at hy
                        cases hy
                        exact hp⟩
        case measure => simp [intOf]; omega
    · obtain rfl : j = n := by omega
      go_wp2
      go_ret
      refine ⟨-1, rfl, Or.inl ⟨rfl, fun x hx => ?_⟩, rfl⟩
      obtain ⟨q, hq⟩ := List.mem_iff_getElem?.1 hx
      exact HJ.out q x (by have := (List.getElem?_eq_some_iff.1 hq).1; rw [HN.out] at this; exact this) hq
end Go.Proofs.YtkfelijpajdcoaaDoor
