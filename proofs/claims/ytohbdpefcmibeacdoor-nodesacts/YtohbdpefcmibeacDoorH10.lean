/- NodesStale: the walk. -/
import Derived.Test.YtohbdpefcmibeacDoorH9
namespace Go.Proofs.YtohbdpefcmibeacDoor
open Go Go.RowKit Go.Deep Go.Maps

def IntsAt (w : World) (ab ao len : Nat) (P : Nat → Int) : Prop := ∀ i, i < len → w.cell? ⟨ab, ao + i, none⟩ = some (.int .i64 (P i))
theorem handleInfo : (Tryd.prog.info? 43).map (fun i => (i.zero, i.size, i.bytes)) = some (some (.agg #[.int .i64 0, .int .i64 0]), 2, 16) := by kernel_rfl
theorem handlesUnd : Tryd.prog.underlying 60 = some (.slice 43) := by kernel_rfl
theorem Errs.of_below {W w : World} {A : Nat → Addr} (hE : Errs W A) (hb : Below W.heap.size W w) : Errs w A := hE.below hb (Nat.le_refl _)
theorem Errs.stale {w : World} {A : Nat → Addr} (h : Errs w A) : w.cell? ⟨9, 0, none⟩ = some (errV (A 9)) := h.cell 9 (by decide)
theorem Errs.shape {w : World} {A : Nat → Addr} (h : Errs w A) : w.cell? ⟨1, 0, none⟩ = some (errV (A 2)) := h.cell 2 (by decide)
theorem foot_added {w w' : World} {t most b : Nat} {p p' : Row} {nd : Nat → Option Nod} {K : Int} (hn : ∀ i, nd i = none) (hr : Roomed w w' t p p' 0) (hb : w.heap.size ≤ b) {k : Nat} (hk : InFoot t p' most (setN nd 0 (some (newNod b K))) k) : InFoot t p most nd k ∨ w.heap.size ≤ k := by
  rcases hk with h | h | ⟨i, n, hs, hm⟩
  · exact Or.inl (Or.inl h)
  · rcases hr.2.2 with h1 | ⟨q, h1, h2⟩
    · exact Or.inl (Or.inr (Or.inl (by rw [← h1]; exact h)))
    · rw [h1] at h
      cases h
      exact Or.inr h2
  · by_cases e : i = 0
    · subst e
      rw [setN_same] at hs
      cases hs
      have : k = b := by simpa [newNod, Nod.foot, footD] using hm
      exact Or.inr (by omega)
    · rw [setN_other _ _ e, hn i] at hs
      cases hs
theorem foot_freed {t most : Nat} {p : Row} {nd : Nat → Option Nod} {i k : Nat} (hk : InFoot t p most (setN nd i none) k) : InFoot t p most nd k := by
  rcases hk with h | h | ⟨j, n, hs, hm⟩
  · exact Or.inl h
  · exact Or.inr (Or.inl h)
  · by_cases e : j = i
    · subst e
      rw [setN_same] at hs
      cases hs
    · rw [setN_other _ _ e] at hs
      exact Or.inr (Or.inr ⟨j, n, hs, hm⟩)
theorem none_freed {nd : Nat → Option Nod} {x : Option Nod} (h : ∀ i, nd i = none) : ∀ i, setN (setN nd 0 x) 0 none i = none := by
  intro i
  by_cases e : i = 0
  · subst e; rw [setN_same]
  · rw [setN_other _ _ e, setN_other _ _ e]; exact h i
theorem pair_news (w : World) (a b : Int) (ty : TypeId) : ∀ j u, [Value.int .i64 a, .int .i64 b][j]? = some u → (w.alloc (.cells #[.int .i64 a, .int .i64 b] ty)).cell? ((⟨w.heap.size, 0, none⟩ : Addr).add j) = some u := by
  intro j u hu
  have hh := heap_alloc_last w (.cells #[.int .i64 a, .int .i64 b] ty)
  have hadd : (⟨w.heap.size, 0, none⟩ : Addr).add j = ⟨w.heap.size, j, none⟩ := by unfold Addr.add; split <;> simp_all
  rw [hadd, cell_of_row _ _ _ _ _ _ hh]
  simpa using hu
theorem Gn.appended {W w w' : World} {t most q gl cp gc : Nat} {p : Row} {ga : Option Addr} {g : Nat → Nat} {nd : Nat → Option Nod} {o : Obj} (h : Gn W w t p most g nd (.slice ga q gc) q)
    (hown : w'.ownsRow W.heap.size 43 2 (.slice (some ⟨gl, 0, none⟩) (q + 1) cp) (q + 1) (rowOf (hCells 0) (List.range q) ++ [.int .i64 0, .int .i64 (q : Nat)])) (hgr : (w.alloc o).grownBy w' (Value.slice ga q gc).ownBlock)
    (hat : (Value.slice ga q gc).ownBlock = some gl ∨ gl = (w.alloc o).heap.size) : Gn W w' t p most g nd (.slice (some ⟨gl, 0, none⟩) (q + 1) cp) (q + 1) := by
  have ho : Only (Value.slice ga q gc).ownBlock.toList w w' := ((Only.refl _ w).alloc o).grown hgr (fun k hk => Or.inl (by rw [hk]; simp))
  refine h.more ?_ ho (fun k hk => by simpa using hk) (fun k hk => ?_)
  · rw [List.range_succ, rowOf_append]
    exact hown
  · have e : gl = k := by simpa [Value.ownBlock] using hk
    subst e
    rcases hat with h1 | h1
    · exact Or.inl h1
    · right
      rw [h1]
      simp
set_option maxRecDepth 100000 in
set_option maxHeartbeats 4000000 in
theorem nstale_walk (most ab ao len cap : Nat) (P : Nat → Int) (A : Nat → Addr) (w : World) (hp : IntsAt w ab ao len P) (h1 : 1 ≤ most) (h2 : most ≤ 20) (hlen : len ≤ 60) (hE : Errs w A) :
    Calls Tryd.prog 5 #[.int .i64 most, .slice (some ⟨ab, ao, none⟩) len cap] w fun e w' => e = .returned (.bool true) ∧ Below w.heap.size w w' := by
  have HE : Hid (Errs w A) := hE
  have HP : Hid (IntsAt w ab ao len P) := hp
  have hd1 : decide ((most : Int) < 1) = false := decide_eq_false (by omega)
  have hd2 : decide (20 < (most : Int)) = false := decide_eq_false (by omega)
  clear hE hp
  go_enter Tryd.func5, Tryd.ntmps5
  go_wp2_with (first
    | (go_at_call 11; refine (fresh_any _).mono ?_; rintro e w1 ⟨rfl, hb1⟩; have hnew := tnew w1 most h1 (by omega))
    | (go_at_call 12; go_must (refine hnew.mono ?_); rintro e w2 ⟨t, rfl, hT, ho2, ht⟩; have HG0 : Hid (Gn w w2 t noRow most (fun _ => 0) (fun _ => none) (.slice none 0 0) 0) := ⟨hT, World.ownsRow_nil _ _ _ _, fun _ _ => by simp [Value.ownBlock], (fun k hk => by
        have := hb1.size
        rcases hk with rfl | h | ⟨i, n, hn, _⟩
        · omega
        · cases h
        · cases hn), hb1.trans (ho2.to_below hb1.size (fun k hk => by cases hk)), by decide⟩; clear hT ho2 ht hnew hb1)
    | go_in)
  clear hd1 hd2
  go_loopw [8, 9] (fun gv i wr => ∃ (j c : Nat) (p : Row) (g : Nat → Nat) (nd : Nat → Option Nod) (ga : Option Addr) (gc : Nat), j ≤ len ∧ i = .int .i64 j ∧ gv = .slice ga c gc ∧ c ≤ j ∧ g 0 = c ∧ (∀ i, nd i = none) ∧ Gn w wr t p most g nd (.slice ga c gc) c) (fun _ i _ => len - (intOf i).toNat)
  case atStart => exact ⟨0, 0, noRow, _, _, none, 0, Nat.zero_le _, rfl, rfl, Nat.le_refl _, rfl, fun _ => rfl, HG0.out⟩
  case round =>
    obtain ⟨j, c, p, g, nd, ga, gc, hj, rfl, rfl, hc, hg0, hnd, hG⟩ := hrel
    have HG : Hid (Gn w wr t p most g nd (.slice ga c gc) c) := hG
    have HND : Hid (∀ i, nd i = none) := hnd
    have HE2 : Hid (Errs wr A) := HE.out.of_below hG.below
    clear HG0 hG hnd
    by_cases hlt : j < len
    · have c0 := HP.out j hlt
      have g0 : wr.cell? ⟨ab, ao + j, none⟩ = some (.int .i64 (P j)) := (HG.out.below.cell (p := ⟨ab, ao + j, none⟩) (lt_of_cell c0)).trans c0
      clear c0
      generalize P j = K at g0
      by_cases hK : K = 1 ∨ K = 2
      · have hadd := tadd_ok wr t p most 0 g nd K HG.out.tab HG.out.nle hK (by rw [count_none HND.out]; omega) (HND.out 0) (fun j hj => by omega)
        go_wp2_with (go_at_call 14; go_must (refine hadd.mono ?_); rintro e w2 ⟨rfl, p', b, hT2, hro, hb2⟩)
        have HG2 : Hid (Gn w w2 t p' most g (setN nd 0 (some (newNod b K))) (.slice ga c gc) c) := HG.out.tabStepR hT2 (by have := hro.1; have := HG.out.nle; omega) hro.2.1 (fun k hk => by rcases List.mem_cons.1 hk with h | h; exact Or.inl h; exact Or.inr (Or.inl (by simpa using h))) (fun k hk => foot_added HND.out hro hb2 hk)
        have HG3 : Hid (Gn w (w2.alloc (.cells #[.int .i64 0, .int .i64 (c : Nat)] 43)) t p' most g (setN nd 0 (some (newNod b K))) (.slice ga c gc) c) := HG2.out.only ((Only.refl _ _).alloc _)
        have hh := heap_alloc_last w2 (.cells #[.int .i64 0, .int .i64 (c : Nat)] 43)
        have x0 := cell_of_row _ _ 0 _ _ _ hh
        have x1 := cell_of_row _ _ 1 _ _ _ hh
        have HX : Hid ((w2.alloc (.cells #[.int .i64 0, .int .i64 (c : Nat)] 43)).cell? ⟨w2.heap.size, 0, none⟩ = some (.int .i64 0) ∧ (w2.alloc (.cells #[.int .i64 0, .int .i64 (c : Nat)] 43)).cell? ⟨w2.heap.size, 1, none⟩ = some (.int .i64 (c : Nat))) := ⟨x0, x1⟩
        have HPN : Hid (p'.a ≠ some w2.heap.size ∧ w.heap.size ≤ w2.heap.size) := ⟨fun e => by have := HG2.out.tab.plt e; omega, HG2.out.below.size⟩
        clear hT2 hro hb2 hh x0 x1 hadd HG2 g0
        generalize w2.alloc (.cells #[.int .i64 0, .int .i64 (c : Nat)] 43) = w3 at HG3 HX ⊢
        generalize w2.heap.size = bh at HX HPN ⊢
        go_loopw [12] (fun k wx => ∃ q : Nat, k = .int .i64 q ∧ q ≤ c ∧ Only [] w3 wx) (fun k _ => c - (intOf k).toNat)
        case atStart => exact ⟨0, rfl, Nat.zero_le _, Only.refl _ _⟩
        case round =>
          obtain ⟨q, rfl, hq, hox⟩ := hrel
          have HOX : Hid (Only [] w3 wr) := hox
          clear hox
          by_cases hqc : q < c
          · obtain ⟨gb, gcap, he, k0, k1, kb⟩ := gone_cell (HG3.out.only HOX.out) hqc
            simp only [Value.slice.injEq, true_and] at he
            obtain ⟨rfl, rfl⟩ := he
            have y0 := (HOX.out.cell (p := ⟨bh, 0, none⟩) (lt_of_cell HX.out.1) (by simp)).trans HX.out.1
            have y1 := (HOX.out.cell (p := ⟨bh, 1, none⟩) (lt_of_cell HX.out.2) (by simp)).trans HX.out.2
            go_wp2
            go_big_quiet (fail)
            go_wp2
            go_roundw
            case rel => exact ⟨q + 1, by go_num, by omega, HOX.out.drewN _⟩
            case measure => simp [intOf]; omega
          · obtain rfl : q = c := by omega
            have HG4 : Hid (Gn w wr t p' most g (setN nd 0 (some (newNod b K))) (.slice ga q gc) q) := HG3.out.only HOX.out
            have HE4 : Hid (Errs wr A) := HE.out.of_below HG4.out.below
            have y0 := (HOX.out.cell (p := ⟨bh, 0, none⟩) (lt_of_cell HX.out.1) (by simp)).trans HX.out.1
            have y1 := (HOX.out.cell (p := ⟨bh, 1, none⟩) (lt_of_cell HX.out.2) (by simp)).trans HX.out.2
            have hbh : bh < wr.heap.size := lt_of_cell y0
            have hfree : Calls Tryd.prog 18 #[.pointer (some ⟨t, 0, none⟩), .agg #[.int .i64 0, .int .i64 (q : Nat)]] wr fun e w' => e = .returned .nilIface ∧ TabAt w' t p' most (setN g 0 (g 0 + 1)) (setN (setN nd 0 (some (newNod b K))) 0 none) ∧ Only p'.a.toList wr w' := by
              have := tfree_ok wr t p' most 0 g _ _ HG4.out.tab (setN_same _ _ _) (by omega)
              rw [hg0] at this
              rw [hg0]
              exact this
            obtain ⟨i0, hi0, hz⟩ := Option.map_eq_some_iff.1 handleInfo
            simp only [Prod.mk.injEq] at hz
            obtain ⟨hz0, hz1, hz2⟩ := hz
            go_wp2_with (first
              | (go_at_call 18; go_must (refine hfree.mono ?_); rintro e w5 ⟨rfl, hT5, ho5⟩; have HG5 : Hid (Gn w w5 t p' most (setN g 0 (g 0 + 1)) (setN (setN nd 0 (some (newNod b K))) 0 none) (.slice ga q gc) q) := HG4.out.tabStep hT5 ho5 (fun k hk => Or.inr (Or.inl (by simpa using hk))) (fun k hk => Or.inl (foot_freed hk)); have z0 := (ho5.cell (p := ⟨bh, 0, none⟩) hbh (fun h => HPN.out.1 (by simpa using h))).trans y0; have z1 := (ho5.cell (p := ⟨bh, 1, none⟩) hbh (fun h => HPN.out.1 (by simpa using h))).trans y1; clear hT5 ho5 hfree y0 y1)
              | (at_builtin; refine wpList_append_lies _ rfl (.tmp 77) (.tmp 79) 60 rfl w.heap.size 43 i0 _ 2 16 handlesUnd hi0 hz0 hz1 hz2 rfl (by decide) _ q (rowOf (hCells 0) (List.range q)) rfl (HG5.out.own.alloc _) ⟨w5.heap.size, 0, none⟩ 1 1 [.int .i64 0, .int .i64 (q : Nat)] rfl rfl (pair_news w5 _ _ _) (by intro u hu; simp at hu; rcases hu with rfl | rfl <;> rfl) (by decide) (by unfold maxLen; omega) (by omega) (Nat.le_trans HG5.out.below.size (by simp)) _ rfl ?_; intro gl cp w6 hown6 hgr6 hat6 hlt6; have HG6 : Hid (Gn w w6 t p' most (setN g 0 (g 0 + 1)) (setN (setN nd 0 (some (newNod b K))) 0 none) (.slice (some ⟨gl, 0, none⟩) (q + 1) cp) (q + 1)) := HG5.out.appended hown6 hgr6 hat6; clear hown6 hgr6 hat6 hlt6)
              | go_in)
            have HN6 : Hid (∀ i, setN (setN nd 0 (some (newNod b K))) 0 none i = none) := none_freed HND.out
            have HG0' : Hid (setN g 0 (g 0 + 1) 0 = q + 1) := show setN g 0 (g 0 + 1) 0 = q + 1 from by rw [setN_same, hg0]
            clear HG5 HG4 HG3 z0 z1 HX HPN HOX HE4 hbh
            generalize setN (setN nd 0 (some (newNod b K))) 0 none = nd6 at HG6 HN6
            generalize setN g 0 (g 0 + 1) = g6 at HG6 HG0'
            go_loopw [13] (fun k wx => ∃ r : Nat, k = .int .i64 r ∧ r ≤ q + 1 ∧ Gn w wx t p' most g6 nd6 (.slice (some ⟨gl, 0, none⟩) (q + 1) cp) (q + 1)) (fun k _ => q + 1 - (intOf k).toNat)
            case atStart => exact ⟨0, rfl, Nat.zero_le _, HG6.out⟩
            case round =>
              obtain ⟨r, rfl, hr, hGr⟩ := hrel
              have HGr : Hid (Gn w wr t p' most g6 nd6 (.slice (some ⟨gl, 0, none⟩) (q + 1) cp) (q + 1)) := hGr
              clear hGr HG6
              by_cases hrq : r < q + 1
              · obtain ⟨gb, gcap, he, k0, k1, kb⟩ := gone_cell HGr.out hrq
                simp only [Value.slice.injEq, Option.some.injEq, Addr.mk.injEq, true_and, and_true] at he
                obtain ⟨rfl, rfl⟩ := he
                have hat := tattr_stale wr t p' most g6 nd6 0 r _ HGr.out.tab (HE.out.of_below HGr.out.below).stale (stale_none HN6.out _ _)
                unfold errV attrV at hat
                have HK : Hid (wr.cell? ⟨gl, r * 2, none⟩ = some (.int .i64 0) ∧ wr.cell? ⟨gl, r * 2 + 1, none⟩ = some (.int .i64 (r : Int))) := ⟨k0, k1⟩
                go_wp2_with (first
                  | (go_at_call 21; go_must (refine hat.mono ?_); rintro e w7 ⟨rfl, ho7⟩; have HG7 : Hid (Gn w w7 t p' most g6 nd6 (.slice (some ⟨gl, 0, none⟩) (q + 1) cp) (q + 1)) := HGr.out.only ho7; have HG8 : Hid (Gn w (w7.alloc (.cells #[.int .i64 0, .int .i64 0, .int .i64 0, .int .i64 0, .int .i64 0, .int .i64 0] 47)) t p' most g6 nd6 (.slice (some ⟨gl, 0, none⟩) (q + 1) cp) (q + 1)) := HG7.out.only ((Only.refl _ _).alloc _); have hc8 := coded_err A 9 (by decide) _ (HE.out.of_below HG8.out.below); clear ho7 hat)
                  | (go_at_call 13; refine hc8.mono ?_; rintro e w9 ⟨rfl, hb9⟩; have HG9 : Hid (Gn w w9 t p' most g6 nd6 (.slice (some ⟨gl, 0, none⟩) (q + 1) cp) (q + 1)) := HG8.out.only (Only.of_below hb9 []); have hf9 := tfree_stale w9 t p' most g6 nd6 0 r _ HG9.out.tab (HE.out.of_below HG9.out.below).stale (stale_none HN6.out _ _); unfold errV at hf9; obtain ⟨gb9, gcap9, he9, m0, m1, mb⟩ := gone_cell HG9.out hrq; simp only [Value.slice.injEq, Option.some.injEq, Addr.mk.injEq, true_and, and_true] at he9; obtain ⟨rfl, rfl⟩ := he9; clear hc8 hb9)
                  | (go_at_call 18; go_must (refine hf9.mono ?_); rintro e wa ⟨rfl, hoa⟩; have HGa : Hid (Gn w wa t p' most g6 nd6 (.slice (some ⟨gl, 0, none⟩) (q + 1) cp) (q + 1)) := HG9.out.only hoa; have hca := coded_err A 9 (by decide) _ (HE.out.of_below HGa.out.below); clear hoa hf9)
                  | (go_at_call 13; refine hca.mono ?_; rintro e wb ⟨rfl, hbb⟩; have HGb : Hid (Gn w wb t p' most g6 nd6 (.slice (some ⟨gl, 0, none⟩) (q + 1) cp) (q + 1)) := HGa.out.only (Only.of_below hbb []); clear hca hbb)
                  | go_in)
                go_roundw
                case rel => exact ⟨r + 1, by go_num, by omega, HGb.out⟩
                case measure => simp [intOf]; omega
              · obtain rfl : r = q + 1 := by omega
                go_wp2
                go_roundw
                case rel => exact ⟨j + 1, q + 1, p', g6, nd6, some ⟨gl, 0, none⟩, cp, by omega, by go_num, rfl, by omega, HG0'.out, HN6.out, HGr.out⟩
                case measure => simp [intOf]; omega
      · have hadd := tadd_shape wr t K _ HE2.out.shape ⟨fun e => hK (Or.inl e), fun e => hK (Or.inr e)⟩
        unfold errV at hadd
        go_wp2_with (go_at_call 14; go_must (refine hadd.mono ?_); rintro e w2 ⟨rfl, ho2⟩)
        go_roundw
        case rel => exact ⟨j + 1, c, p, g, nd, ga, gc, by omega, by go_num, rfl, by omega, hg0, HND.out, HG.out.only (ho2.alloc _)⟩
        case measure => simp [intOf]; omega
    · obtain rfl : j = len := by omega
      have hcn := tcount wr t p most g nd HG.out.tab HG.out.nle
      rw [count_none HND.out] at hcn
      go_wp2_with (go_at_call 20; go_must (refine hcn.mono ?_); rintro e w3 ⟨rfl, ho3⟩)
      go_ret
      exact ⟨rfl, (HG.out.only ho3).below⟩
set_option maxRecDepth 100000 in
set_option maxHeartbeats 1000000 in
theorem nstale_out (most : Int) (a : Option Addr) (len cap : Nat) (w : World) (h : most < 1 ∨ 20 < most ∨ 60 < len) :
    Calls Tryd.prog 5 #[.int .i64 most, .slice a len cap] w fun e w' => e = .returned (.bool true) ∧ Below w.heap.size w w' := by
  by_cases h1 : most < 1
  · have hd1 : decide (most < 1) = true := decide_eq_true h1
    go_enter Tryd.func5, Tryd.ntmps5
    go_wp2_with (go_at_call 11; refine (fresh_any _).mono ?_; rintro e w1 ⟨rfl, hb1⟩)
    go_ret
    exact ⟨rfl, hb1⟩
  · have hd1 : decide (most < 1) = false := decide_eq_false h1
    by_cases h2 : 20 < most
    · have hd2 : decide (20 < most) = true := decide_eq_true h2
      go_enter Tryd.func5, Tryd.ntmps5
      go_wp2_with (go_at_call 11; refine (fresh_any _).mono ?_; rintro e w1 ⟨rfl, hb1⟩)
      go_ret
      exact ⟨rfl, hb1⟩
    · have hd2 : decide (20 < most) = false := decide_eq_false h2
      have hd3 : decide (60 < (len : Int)) = true := decide_eq_true (by omega)
      go_enter Tryd.func5, Tryd.ntmps5
      go_wp2_with (go_at_call 11; refine (fresh_any _).mono ?_; rintro e w1 ⟨rfl, hb1⟩)
      go_ret
      exact ⟨rfl, hb1⟩
set_option maxRecDepth 100000 in
set_option maxHeartbeats 1000000 in
theorem nstale_none (most : Nat) (a : Option Addr) (cap : Nat) (w : World) (h1 : 1 ≤ most) (h2 : most ≤ 20) :
    Calls Tryd.prog 5 #[.int .i64 most, .slice a 0 cap] w fun e w' => e = .returned (.bool true) ∧ Below w.heap.size w w' := by
  have hd1 : decide ((most : Int) < 1) = false := decide_eq_false (by omega)
  have hd2 : decide (20 < (most : Int)) = false := decide_eq_false (by omega)
  go_enter Tryd.func5, Tryd.ntmps5
  go_wp2_with (first
    | (go_at_call 11; refine (fresh_any _).mono ?_; rintro e w1 ⟨rfl, hb1⟩; have hnew := tnew w1 most h1 (by omega))
    | (go_at_call 12; go_must (refine hnew.mono ?_); rintro e w2 ⟨t, rfl, hT, ho2, ht⟩; have HB2 : Hid (Below w.heap.size w w2) := hb1.trans (ho2.to_below hb1.size (fun k hk => by cases hk)); have hcn := tcount w2 t noRow most _ _ hT (by decide); rw [count_none (fun _ => rfl)] at hcn; clear hT ho2 ht hnew)
    | go_in)
  refine wp_loop_rounds 1 ?_
  rw [rounds_succ]
  go_wp2_with (go_at_call 20; go_must (refine hcn.mono ?_); rintro e w3 ⟨rfl, ho3⟩)
  go_ret
  exact ⟨rfl, HB2.out.trans (ho3.to_below HB2.out.size (fun k hk => by cases hk))⟩
def IsInts (w : World) (a : Option Addr) (len : Nat) : Prop := len = 0 ∨ ∃ ab ao P, a = some ⟨ab, ao, none⟩ ∧ IntsAt w ab ao len P
theorem nstale_all (most : Int) (a : Option Addr) (len cap : Nat) (A : Nat → Addr) (w : World) (hp : IsInts w a len) (hE : Errs w A) :
    Calls Tryd.prog 5 #[.int .i64 most, .slice a len cap] w fun e w' => e = .returned (.bool true) ∧ Below w.heap.size w w' := by
  by_cases h : most < 1 ∨ 20 < most ∨ 60 < len
  · exact nstale_out most a len cap w h
  · obtain ⟨m, rfl⟩ : ∃ k : Nat, most = (k : Int) := ⟨most.toNat, by omega⟩
    rcases hp with rfl | ⟨ab, ao, P, rfl, hP⟩
    · exact nstale_none m a cap w (by omega) (by omega)
    · exact nstale_walk m ab ao len cap P A w hP (by omega) (by omega) (by omega) hE
end Go.Proofs.YtohbdpefcmibeacDoor
