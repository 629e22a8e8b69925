/- NodesActs: a node is added. -/
import Derived.Test.YtohbdpefcmibeacDoorH19
import Derived.Test.YtohbdpefcmibeacDoorH17
namespace Go.Proofs.YtohbdpefcmibeacDoor
open Go Go.RowKit Go.Deep Go.Maps

theorem Rnd.appended {W w w' : World} {base t most T bx gl cp hc : Nat} {p : Row} {g tm : Nat → Nat} {nd : Nat → Option Nod} {ha : Option Addr} {l : List Spot} {x : NActM} {o : Obj} {s : Spot} (h : Rnd W w base t p most g nd T tm (.slice ha l.length hc) l bx x)
    (hown : w'.ownsRow base 49 9 (.slice (some ⟨gl, 0, none⟩) (l.length + 1) cp) (l.length + 1) (rowOf Spot.cells l ++ s.cells)) (hgr : (w.alloc o).grownBy w' (Value.slice ha l.length hc).ownBlock)
    (hat : (Value.slice ha l.length hc).ownBlock = some gl ∨ gl = (w.alloc o).heap.size) : Rnd W w' base t p most g nd T tm (.slice (some ⟨gl, 0, none⟩) (l ++ [s]).length cp) (l ++ [s]) bx x := by
  have ho : Only (Value.slice ha l.length hc).ownBlock.toList w w' := ((Only.refl _ w).alloc o).grown hgr (fun k hk => Or.inl (by rw [hk]; simp))
  refine h.hereStep ?_ ho (fun k hk => by simpa using hk) (fun k hk => ?_)
  · rw [rowOf_append, List.length_append]
    show w'.ownsRow base _ 9 _ (l.length + 1) (rowOf Spot.cells l ++ (s.cells ++ []))
    rw [List.append_nil]
    exact hown
  · have e : gl = k := by simpa [Value.ownBlock] using hk
    subst e
    rcases hat with h1 | h1
    · exact Or.inl h1
    · right
      rw [h1]
      simp
theorem nine_news (w : World) (v : List Value) (ty : TypeId) (B : Nat) (hB : w.heap.size = B) : ∀ j u, v[j]? = some u → (w.alloc (.cells v.toArray ty)).cell? ((⟨B, 0, none⟩ : Addr).add j) = some u := by
  subst hB
  intro j u hu
  have hh := heap_alloc_last w (.cells v.toArray ty)
  rw [addr_plus, Nat.zero_add, cell_of_row _ _ _ _ _ _ hh]
  simpa using hu
/-- The numbers that are used, where every place is taken: all. -/
theorem used_full {most : Nat} {g t : Nat → Nat} {nd : Nat → Option Nod} {l : List Spot} {c i : Nat} (h : Agree most g t nd l c) (hi : i ≤ most) (hb : ∀ q, q < i → (nd q).isSome = true) (hn : i = most ∨ nd i = none) : (∀ q : Nat, q < i → usedB l q = true) ∧ usedB l i = false := by
  refine ⟨fun q hq => usedB_true.2 ((h.used (by omega)).2 (hb q hq)), ?_⟩
  rw [Bool.eq_false_iff]
  intro ht
  obtain ⟨s, hs, e⟩ := usedB_true.1 ht
  obtain ⟨k, n, hk, e1, _, hnd, _⟩ := h.each s hs
  have : k = i := by omega
  subst this
  rcases hn with h1 | h1
  · omega
  · rw [h1] at hnd
    cases hnd
theorem least_free (most : Nat) (nd : Nat → Option Nod) (h : ¬ ∀ q, q < most → (nd q).isSome = true) : ∃ i, i < most ∧ nd i = none ∧ ∀ q, q < i → (nd q).isSome = true := by
  induction most with
  | zero => exact absurd (fun q hq => by omega) h
  | succ m ih =>
    by_cases hm : ∀ q, q < m → (nd q).isSome = true
    · refine ⟨m, by omega, ?_, hm⟩
      cases hn : nd m with
      | none => rfl
      | some n =>
        refine absurd (fun q hq => ?_) h
        rcases Nat.lt_or_ge q m with h1 | h1
        · exact hm q h1
        · obtain rfl : q = m := by omega
          rw [hn]; rfl
    · obtain ⟨i, h1, h2⟩ := ih hm
      exact ⟨i, by omega, h2⟩
theorem countTo_full {nd : Nat → Option Nod} (j : Nat) (h : ∀ q, q < j → (nd q).isSome = true) : countTo nd j = j := by
  induction j with
  | zero => rfl
  | succ j ih => rw [countTo_succ, ih (fun q hq => h q (by omega)), h j (by omega)]; rfl
theorem countTo_mono (nd : Nat → Option Nod) (j m : Nat) : countTo nd j ≤ countTo nd (j + m) := by
  induction m with
  | zero => exact Nat.le_refl _
  | succ m ih => rw [← Nat.add_assoc, countTo_succ]; omega
theorem full_count {w : World} {t : Nat} {p : Row} {most : Nat} {g : Nat → Nat} {nd : Nat → Option Nod} (h : TabAt w t p most g nd) (hf : ∀ q, q < most → (nd q).isSome = true) : most ≤ countTo nd p.N := by
  have hN : most ≤ p.N := by
    rcases Nat.lt_or_ge p.N most with h1 | h1
    · have := hf p.N h1
      rw [(h.out _ (Nat.le_refl _)).2] at this
      cases this
    · exact h1
  have := countTo_mono nd most (p.N - most)
  rw [countTo_full most hf, show most + (p.N - most) = p.N by omega] at this
  exact this
theorem countTo_free {nd : Nat → Option Nod} {i : Nat} (m : Nat) (h : nd i = none) : countTo nd (i + 1 + m) ≤ i + m := by
  induction m with
  | zero =>
    rw [Nat.add_zero, countTo_succ, h]
    have := countTo_le nd i
    simpa using this
  | succ m ih =>
    rw [← Nat.add_assoc, countTo_succ]
    split <;> omega
theorem some_free {w : World} {t : Nat} {p : Row} {most i : Nat} {g : Nat → Nat} {nd : Nat → Option Nod} (h : TabAt w t p most g nd) (hN : p.N ≤ most) (hi : i < most) (hn : nd i = none) : countTo nd p.N < most := by
  rw [h.count hN]
  have := countTo_free (most - (i + 1)) hn
  rw [show i + 1 + (most - (i + 1)) = most by omega] at this
  omega
set_option maxRecDepth 100000 in
set_option maxHeartbeats 4000000 in
theorem arm_add (W : World) (A : Nat → Addr) (E : Env) (j bx : Nat) (x : NActM) (hE : Errs W A) (hm : E.most ≤ 300) (hj : j < 60) (hm1 : 1 ≤ E.most) (c : Code) (hc : piece 26 (Tryd.f4.body.getD .skip) = some c) (K : Act → World → Prop) (Q : Exit → Act → World → Prop) (hK : ∀ a w, TailIn W E j bx x a w → K a w) (hQ : ∀ a w, OutIn W E j a w → Q (.exit 1) a w)
    (w : World) (u : Nat → Value) (p : Row) (g tm : Nat → Nat) (nd : Nat → Option Nod) (l : List Spot) (ha : Option Addr) (hc' : Nat) (kk sv : Int) (hF : Fm E.most E.ab E.ao E.len E.cap E.t E.T u) (h9 : u 9 = .slice ha l.length hc') (h10 : u 10 = .int .i64 j) (h11 : u 11 = .pointer (some ⟨bx, 0, none⟩)) (h12 : u 12 = .int .i64 kk) (h14 : u 14 = .int .i64 sv)
    (hA : Agree E.most g tm nd l j) (hR : Rnd W w W.heap.size E.t p E.most g nd E.T tm (.slice ha l.length hc') l bx x) (_ : KSt l x.N x.G kk sv) : c.wp Tryd.prog (Exit.then K Q) (actU u) w := by
  cases hc.symm.trans (show piece 26 (Tryd.f4.body.getD .skip) = some _ from rfl)
  clear hc
  rw [act_open hF.s0 hF.s1 hF.s6 hF.s8 h9 h10 h11 h12 h14]
  have HE : Hid (Errs W A) := hE
  have HA : Hid (Agree E.most g tm nd l j) := hA
  have HR : Hid (Rnd W w W.heap.size E.t p E.most g nd E.T tm (.slice ha l.length hc') l bx x) := hR
  have HK : Hid (∀ a w, TailIn W E j bx x a w → K a w) := hK
  have hll := hA.len
  have HQ : Hid (∀ a w, OutIn W E j a w → Q (.exit 1) a w) := hQ
  clear hQ
  clear hE hA hR hK hF h9 h10 h11 h12 h14
  obtain ⟨most, ab, ao, len, cap, t, T⟩ := E
  simp only at HA HR hm hm1 HQ ⊢
  have x1 := HR.out.x.c1
  have x2 := HR.out.x.c2
  have x3 := HR.out.x.c3
  have x4 := HR.out.x.c4

  by_cases hX : x.X = 1 ∨ x.X = 2
  · by_cases hfull : ∀ q, q < most → (nd q).isSome = true
    · have htc := tadd_full w t p most g nd x.X _ HR.out.l5.tab (Nat.le_trans HR.out.l5.nle (by omega)) ((HE.out.of_below HR.out.l5.below).cell 8 (by decide)) hX (full_count HR.out.l5.tab hfull)
      have HU : Hid ((∀ q : Nat, q < most → usedB l q = true) ∧ usedB l most = false) := used_full HA.out (Nat.le_refl _) hfull (Or.inl rfl)
      have HX : Hid (x.X = 1 ∨ x.X = 2) := hX
      have hdb : (x.X != 1) = true ∧ (x.X != 2) = false ∨ (x.X != 1) = false := by
        rcases hX with h | h
        · exact Or.inr (by rw [h]; rfl)
        · exact Or.inl ⟨by rw [h]; rfl, by rw [h]; rfl⟩
      clear hX hfull
      rcases hdb with ⟨hd1, hd2⟩ | hd1
      all_goals go_wp2_with (first
        | (go_at_call 14; go_must (refine htc.mono ?_); rintro e w1 ⟨rfl, ho1⟩; have HR2 : Hid (Rnd W (w1.alloc (.cells #[.int .i64 0, .int .i64 0] 43)) W.heap.size t p most g nd T tm (.slice ha l.length hc') l bx x) := HR.out.only (ho1.alloc _); have y3 := HR2.out.x.c3; obtain ⟨r0, r1, _, hl0⟩ := own_pair (w := w1) (a := 0) (b := 0) (ty := 43) (Only.refl [] _); have HH : Hid ((w1.alloc (.cells #[.int .i64 0, .int .i64 0] 43)).cell? ⟨w1.heap.size, 0, none⟩ = some (.int .i64 0) ∧ (w1.alloc (.cells #[.int .i64 0, .int .i64 0] 43)).cell? ⟨w1.heap.size, 1, none⟩ = some (.int .i64 0)) := ⟨r0, r1⟩; clear ho1 htc r0 r1)
        | go_in)
      all_goals clear y3
      all_goals generalize (w1.alloc (.cells #[.int .i64 0, .int .i64 0] 43)) = w2 at HR2 HH hl0 ⊢
      all_goals generalize w1.heap.size = bh at HH hl0 ⊢
      all_goals (
        go_loopw [17] (fun k wx => ∃ q : Nat, k = .int .i64 q ∧ q ≤ most ∧ w2 = wx) (fun k _ => most - (intOf k).toNat)
        case atStart => exact ⟨0, rfl, Nat.zero_le _, rfl⟩
        case round =>
          obtain ⟨q, rfl, hq, rfl⟩ := hrel
          by_cases hql : q < most
          · have hus := used_any w2 W.heap.size ha hc' l q (by omega) HR2.out.l5.here
            rw [HU.out.1 q hql] at hus
            go_wp2_with (go_at_call 15; go_must (refine hus.mono ?_); rintro e w3 ⟨rfl, rfl⟩)
            go_roundw
            case rel => exact ⟨q + 1, by go_num, by omega, trivial⟩
            case measure => simp [intOf]; omega
          · obtain rfl : q = most := by omega
            have hus := used_any w2 W.heap.size ha hc' l q (by omega) HR2.out.l5.here
            rw [HU.out.2] at hus
            have hcd := coded_err A 8 (by decide) w2 (HE.out.of_below HR2.out.l5.below)
            go_wp2_with (first
              | (go_at_call 15; go_must (refine hus.mono ?_); rintro e w3 ⟨rfl, rfl⟩; clear hus)
              | (go_at_call 13; go_must (refine hcd.mono ?_); rintro e w4 ⟨rfl, hb4⟩; have HR4 : Hid (Rnd W w4 W.heap.size t p q g nd T tm (.slice ha l.length hc') l bx x) := HR2.out.only (Only.of_below hb4 []); have z0 := ((Only.of_below hb4 []).cell (p := ⟨bh, 0, none⟩) hl0 (by simp)).trans HH.out.1; have z1 := ((Only.of_below hb4 []).cell (p := ⟨bh, 1, none⟩) hl0 (by simp)).trans HH.out.2; clear hb4 hcd)
              | go_in)
            exact HQ.out _ _ (OutIn.mk (HA.out.mono (Nat.le_succ _)) HR4.out.l5 rfl rfl rfl rfl rfl rfl rfl))
    · obtain ⟨i, hi, hfr, hbe⟩ := least_free most nd hfull
      have htm : g i = tm i := by
        have := HA.out.times i hi
        rw [hfr] at this
        simp at this
        exact this.symm
      have htc := tadd_ok w t p most i g nd x.X HR.out.l5.tab (Nat.le_trans HR.out.l5.nle (by omega)) hX (some_free HR.out.l5.tab HR.out.l5.nle hi hfr) hfr hbe
      rw [htm] at htc
      have HU : Hid ((∀ q : Nat, q < i → usedB l q = true) ∧ usedB l i = false) := used_full HA.out (Nat.le_of_lt hi) hbe (Or.inr hfr)
      have HX : Hid (x.X = 1 ∨ x.X = 2) := hX
      have HI : Hid (i < most ∧ nd i = none) := ⟨hi, hfr⟩
      have hsm : tm i ≤ j := HA.out.small i hi
      have hdb : (x.X != 1) = true ∧ (x.X != 2) = false ∨ (x.X != 1) = false := by
        rcases hX with h | h
        · exact Or.inr (by rw [h]; rfl)
        · exact Or.inl ⟨by rw [h]; rfl, by rw [h]; rfl⟩
      obtain ⟨i0, hi0, hz⟩ := Option.map_eq_some_iff.1 spotInfo
      simp only [Prod.mk.injEq] at hz
      obtain ⟨hz0, hz1, hz2⟩ := hz
      clear hX hfull hbe hfr htm
      rcases hdb with ⟨hd1, hd2⟩ | hd1
      all_goals go_wp2_with (first
        | (go_at_call 14; go_must (refine htc.mono ?_); rintro e w1 ⟨rfl, p', bn, hT1, hro, hbn⟩; have HR1 : Hid (Rnd W w1 W.heap.size t p' most g (setN nd i (some (newNod bn x.X))) T tm (.slice ha l.length hc') l bx x) := HR.out.tabStepR hT1 (by have := hro.1; have := HR.out.l5.nle; omega) hro.2.1 (fun k hk => by rcases List.mem_cons.1 hk with h | h; exact Or.inl h; exact Or.inr (Or.inl (by simpa using h))) (fun k hk => foot_roomed hro hbn hk); have HR2 : Hid (Rnd W (w1.alloc (.cells #[.int .i64 i, .int .i64 (tm i : Nat)] 43)) W.heap.size t p' most g (setN nd i (some (newNod bn x.X))) T tm (.slice ha l.length hc') l bx x) := HR1.out.only ((Only.refl _ _).alloc _); have y3 := HR2.out.x.c3; obtain ⟨r0, r1, _, hl0⟩ := own_pair (w := w1) (a := i) (b := (tm i : Nat)) (ty := 43) (Only.refl [] _); have HH : Hid ((w1.alloc (.cells #[.int .i64 i, .int .i64 (tm i : Nat)] 43)).cell? ⟨w1.heap.size, 0, none⟩ = some (.int .i64 i) ∧ (w1.alloc (.cells #[.int .i64 i, .int .i64 (tm i : Nat)] 43)).cell? ⟨w1.heap.size, 1, none⟩ = some (.int .i64 (tm i : Nat))) := ⟨r0, r1⟩; have HBT : Hid (w1.heap.size ≠ T) := (fun e => by have := HR1.out.l5.tlt; omega); clear hro hT1 hbn htc r0 r1)
        | go_in)
      all_goals clear y3
      all_goals generalize (w1.alloc (.cells #[.int .i64 i, .int .i64 (tm i : Nat)] 43)) = w2 at HR2 HH hl0 ⊢
      all_goals generalize w1.heap.size = bh at HH hl0 HBT ⊢
      all_goals (
        go_loopw [17] (fun k wx => ∃ q : Nat, k = .int .i64 q ∧ q ≤ i ∧ w2 = wx) (fun k _ => i - (intOf k).toNat)
        case atStart => exact ⟨0, rfl, Nat.zero_le _, rfl⟩
        case round =>
          obtain ⟨q, rfl, hq, rfl⟩ := hrel
          by_cases hql : q < i
          · have hus := used_any w2 W.heap.size ha hc' l q (by omega) HR2.out.l5.here
            rw [HU.out.1 q hql] at hus
            go_wp2_with (go_at_call 15; go_must (refine hus.mono ?_); rintro e w3 ⟨rfl, rfl⟩)
            go_roundw
            case rel => exact ⟨q + 1, by go_num, by omega, trivial⟩
            case measure => simp [intOf]; omega
          · obtain rfl : q = i := by omega
            have hus := used_any w2 W.heap.size ha hc' l q (by omega) HR2.out.l5.here
            rw [HU.out.2] at hus
            have t0 := HR2.out.l5.times q HI.out.1
            have ft := HR2.out.l5.tfz
            have hTl := HR2.out.l5.tlt
            have y3 := HR2.out.x.c3
            have hxl := HR2.out.xlt
            have hxT := HR2.out.xT
            have hh0 := HH.out.1
            have hh1 := HH.out.2
            have hbT := HBT.out
            have HR3 : Hid (Rnd W ((w2.setCell ⟨T, q, none⟩ (.int .i64 ((tm q : Int) + 1))).alloc (.cells #[.int .i64 q, .int .i64 (tm q : Nat)] 43)) W.heap.size t p' most g (setN nd q (some (newNod bn x.X))) T (setN tm q (tm q + 1)) (.slice ha l.length hc') l bx x) := (HR2.out.timesStep HI.out.1 _ (by simp)).only ((Only.refl _ _).alloc _)
            have hs5 : ((w2.setCell ⟨T, q, none⟩ (.int .i64 ((tm q : Int) + 1))).alloc (.cells #[.int .i64 q, .int .i64 (tm q : Nat)] 43)).heap.size = w2.heap.size + 1 := by simp
            go_wp2_with (first
              | (go_at_call 15; go_must (refine hus.mono ?_); rintro e w3 ⟨rfl, rfl⟩; clear hus)
              | (at_builtin; refine wpList_append_lies _ rfl (.tmp 152) (.tmp 158) 41 rfl W.heap.size 49 i0 _ 9 72 spotsUnd hi0 hz0 hz1 hz2 rfl (by decide) _ l.length (rowOf Spot.cells l) rfl (HR3.out.l5.here.alloc _) ⟨w2.heap.size + 1, 0, none⟩ 1 1 (Spot.cells ⟨(q : Int), (tm q : Nat), x.X, 0, 0, 0, 0, 0, 0⟩) rfl rfl (nine_news _ _ _ _ hs5) (Spot.cells_one _) (by decide) (by unfold maxLen; omega) (by omega) (Nat.le_trans HR3.out.l5.below.size (by simp)) _ rfl ?_; intro gl cp w6 hown6 hgr6 hat6 hlt6; have HR6 : Hid (Rnd W w6 W.heap.size t p' most g (setN nd q (some (newNod bn x.X))) T (setN tm q (tm q + 1)) (.slice (some ⟨gl, 0, none⟩) (l ++ [(⟨(q : Int), ((tm q : Nat) : Int), x.X, 0, 0, 0, 0, 0, 0⟩ : Spot)]).length cp) (l ++ [(⟨(q : Int), ((tm q : Nat) : Int), x.X, 0, 0, 0, 0, 0, 0⟩ : Spot)]) bx x) := HR3.out.appended hown6 hgr6 hat6; clear hown6 hgr6 hat6 hlt6)
              | go_in)
            exact HK.out _ _ (TailIn.mk (l := l ++ [(⟨(q : Int), ((tm q : Nat) : Int), x.X, 0, 0, 0, 0, 0, 0⟩ : Spot)]) (HA.out.add HI.out.1 HI.out.2 HX.out ⟨rfl, rfl, rfl, rfl, rfl, rfl, rfl⟩) HR6.out rfl rfl rfl rfl rfl (by rw [List.length_append]; rfl) rfl rfl))
  · have htc := tadd_shape w t x.X _ (HE.out.of_below HR.out.l5.below).shape ⟨fun e => hX (Or.inl e), fun e => hX (Or.inr e)⟩
    unfold errV at htc
    have hd1 : (x.X != 1) = true := bne_iff_ne.2 (fun e => hX (Or.inl e))
    have hd2 : (x.X != 2) = true := bne_iff_ne.2 (fun e => hX (Or.inr e))
    clear hX
    go_wp2_with (first
      | (go_at_call 14; go_must (refine htc.mono ?_); rintro e w1 ⟨rfl, ho1⟩; have HR1 : Hid (Rnd W (w1.alloc (.cells #[.int .i64 0, .int .i64 0] 43)) W.heap.size t p most g nd T tm (.slice ha l.length hc') l bx x) := HR.out.only (ho1.alloc _); have y3 := HR1.out.x.c3; have hcd := coded_err A 2 (by decide) _ (HE.out.of_below HR1.out.l5.below); obtain ⟨r0, r1, _, hl0⟩ := own_pair (w := w1) (a := 0) (b := 0) (ty := 43) (Only.refl [] _); have HH : Hid ((w1.alloc (.cells #[.int .i64 0, .int .i64 0] 43)).cell? ⟨w1.heap.size, 0, none⟩ = some (.int .i64 0) ∧ (w1.alloc (.cells #[.int .i64 0, .int .i64 0] 43)).cell? ⟨w1.heap.size, 1, none⟩ = some (.int .i64 0)) := ⟨r0, r1⟩; clear ho1 htc r0 r1)
      | (go_at_call 13; go_must (refine hcd.mono ?_); rintro e w2 ⟨rfl, hb2⟩; have HR2 : Hid (Rnd W w2 W.heap.size t p most g nd T tm (.slice ha l.length hc') l bx x) := HR1.out.only (Only.of_below hb2 []); have z0 := ((Only.of_below hb2 []).cell (p := ⟨w1.heap.size, 0, none⟩) hl0 (by simp)).trans HH.out.1; have z1 := ((Only.of_below hb2 []).cell (p := ⟨w1.heap.size, 1, none⟩) hl0 (by simp)).trans HH.out.2; clear hb2 hcd)
      | go_in)
    exact HQ.out _ _ (OutIn.mk (HA.out.mono (Nat.le_succ _)) HR2.out.l5 rfl rfl rfl rfl rfl rfl rfl)
end Go.Proofs.YtohbdpefcmibeacDoor
