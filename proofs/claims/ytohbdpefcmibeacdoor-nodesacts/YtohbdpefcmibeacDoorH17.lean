/- NodesActs: a node goes. -/
import Derived.Test.YtohbdpefcmibeacDoorH16
import Derived.Maps.AppendAt
namespace Go.Proofs.YtohbdpefcmibeacDoor
open Go Go.RowKit Go.Deep Go.Maps

theorem spotInfo : (Tryd.prog.info? 49).map (fun i => (i.zero, i.size, i.bytes)) = some (some (.agg #[.int .i64 0, .int .i64 0, .int .i64 0, .int .i64 0, .int .i64 0, .int .i64 0, .int .i64 0, .int .i64 0, .int .i64 0]), 9, 72) := by kernel_rfl
theorem spotsUnd : Tryd.prog.underlying 41 = some (.slice 49) := by kernel_rfl
theorem addr_plus (b o n : Nat) : (⟨b, o, none⟩ : Addr).add n = ⟨b, o + n, none⟩ := by
  unfold Addr.add
  split <;> simp_all
/-- The cells of some spots, where they lie. -/
theorem row_news {w : World} {base b cap : Nat} {l : List Spot} (h : w.ownsRow base 49 9 (.slice (some ⟨b, 0, none⟩) l.length cap) l.length (rowOf Spot.cells l)) (k : Nat) (l' : List Spot) (hl : ∀ q s, l'[q]? = some s → l[k + q]? = some s) (ad : Addr) (ha : l'.length = 0 ∨ ad = ⟨b, k * 9, none⟩) :
    ∀ j u, (rowOf Spot.cells l')[j]? = some u → w.cell? (ad.add j) = some u := by
  intro j u hu
  have hj : j < (rowOf Spot.cells l').length := (List.getElem?_eq_some_iff.1 hu).1
  rw [rowOf_len Spot.cells_len] at hj
  rcases ha with h0 | rfl
  · omega
  have hq : j / 9 < l'.length := by omega
  obtain ⟨s, hs⟩ : ∃ s, l'[j / 9]? = some s := ⟨_, List.getElem?_eq_getElem hq⟩
  have e : j = j / 9 * 9 + j % 9 := by omega
  rw [e, rowOf_get Spot.cells_len l' (j / 9) (j % 9) s (by omega) hs] at hu
  have hk := hl _ _ hs
  have hkl : k + j / 9 < l.length := (List.getElem?_eq_some_iff.1 hk).1
  have hadd : (⟨b, k * 9, none⟩ : Addr).add j = ⟨b, (k + j / 9) * 9 + j % 9, none⟩ := by
    rw [addr_plus, show k * 9 + j = (k + j / 9) * 9 + j % 9 by omega]
  rw [hadd, h.cellAt _ (by omega), rowOf_get Spot.cells_len l (k + j / 9) (j % 9) s (by omega) hk]
  exact hu
theorem take_at {l : List Spot} {r q : Nat} {s : Spot} (h : (l.take r)[q]? = some s) : l[0 + q]? = some s := by
  rw [List.getElem?_take] at h
  split at h
  · rw [Nat.zero_add]; exact h
  · cases h
theorem drop_at {l : List Spot} {r q : Nat} {s : Spot} (h : (l.drop r)[q]? = some s) : l[r + q]? = some s := by
  rw [List.getElem?_drop] at h
  exact h
theorem rest_len {l : List Spot} {r : Nat} (h : r < l.length) : (l.take r ++ l.drop (r + 1)).length = r + (l.length - (r + 1)) := by
  rw [List.length_append, List.length_take, List.length_drop]
  omega
/-- What is left, in memory of its own. -/
theorem Rnd.left {W w w2 w3 : World} {base t most T bx r : Nat} {p : Row} {g tm : Nat → Nat} {nd : Nat → Option Nod} {hv v1 v2 : Value} {l : List Spot} {x : NActM} (h : Rnd W w base t p most g nd T tm hv l bx x) (hr : r < l.length) (hg1 : w.grownBy w2 none) (hat1 : v1.ownBlock = none ∨ v1.ownBlock = some w.heap.size)
    (hown : w3.ownsRow base 49 9 v2 (r + (l.length - (r + 1))) (rowOf Spot.cells (l.take r) ++ rowOf Spot.cells (l.drop (r + 1)))) (hg2 : w2.grownBy w3 v1.ownBlock) (hat2 : v2.ownBlock = v1.ownBlock ∨ v2.ownBlock = some w2.heap.size) :
    Rnd W w3 base t p most g nd T tm v2 (l.take r ++ l.drop (r + 1)) bx x := by
  have o1 : Only [] w w2 := (Only.refl [] w).grown hg1 (fun k hk => by cases hk)
  have o2 : Only [] w w3 := o1.grown hg2 (fun k hk => Or.inr (by
    rcases hat1 with h1 | h1
    · rw [h1] at hk; cases hk
    · rw [h1] at hk; cases hk; exact Nat.le_refl _))
  refine h.hereStep ?_ o2 (fun k hk => by cases hk) (fun k hk => Or.inr ?_)
  · rw [rest_len hr, rowOf_append]
    exact hown
  · rcases hat2 with h2 | h2
    · rw [h2] at hk
      rcases hat1 with h1 | h1
      · rw [h1] at hk; cases hk
      · rw [h1] at hk; cases hk; exact Nat.le_refl _
    · rw [h2] at hk
      cases hk
      exact o1.size
set_option maxRecDepth 100000 in
set_option maxHeartbeats 4000000 in
theorem arm_free (W : World) (A : Nat → Addr) (E : Env) (j bx : Nat) (x : NActM) (hE : Errs W A) (hm : E.most ≤ 300) (hj : j < 60) (c : Code) (hc : piece 59 (Tryd.f4.body.getD .skip) = some c) (K : Act → World → Prop) (Q : Exit → Act → World → Prop) (hK : ∀ a w, TailIn W E j bx x a w → K a w)
    (w : World) (u : Nat → Value) (p : Row) (g tm : Nat → Nat) (nd : Nat → Option Nod) (l : List Spot) (ha : Option Addr) (hc' : Nat) (kk sv : Int) (hF : Fm E.most E.ab E.ao E.len E.cap E.t E.T u) (h9 : u 9 = .slice ha l.length hc') (h10 : u 10 = .int .i64 j) (h11 : u 11 = .pointer (some ⟨bx, 0, none⟩)) (h12 : u 12 = .int .i64 kk) (h14 : u 14 = .int .i64 sv)
    (hA : Agree E.most g tm nd l j) (hR : Rnd W w W.heap.size E.t p E.most g nd E.T tm (.slice ha l.length hc') l bx x) (hks : KSt l x.N x.G kk sv) : c.wp Tryd.prog (Exit.then K Q) (actU u) w := by
  cases hc.symm.trans (show piece 59 (Tryd.f4.body.getD .skip) = some _ from rfl)
  clear hc
  rw [act_open hF.s0 hF.s1 hF.s6 hF.s8 h9 h10 h11 h12 h14]
  have HE : Hid (Errs W A) := hE
  have HA : Hid (Agree E.most g tm nd l j) := hA
  have HR : Hid (Rnd W w W.heap.size E.t p E.most g nd E.T tm (.slice ha l.length hc') l bx x) := hR
  have HK : Hid (∀ a w, TailIn W E j bx x a w → K a w) := hK
  have hll := hA.len
  clear hE hA hR hK hF h9 h10 h11 h12 h14
  obtain ⟨most, ab, ao, len, cap, t, T⟩ := E
  simp only at HA HR hm ⊢
  have x1 := HR.out.x.c1
  have x2 := HR.out.x.c2
  have x3 := HR.out.x.c3
  have x4 := HR.out.x.c4
  rcases hks with ⟨rfl, rfl, hno⟩ | ⟨r, s, rfl, rfl, hs, hN, hG⟩
  · have htc := tfree_stale w t p most g nd x.N x.G _ HR.out.l5.tab (HE.out.of_below HR.out.l5.below).stale (Stale.all (HA.out.stale hno) HR.out.l5.tab HR.out.l5.nle)
    unfold errV at htc
    clear hno
    go_wp2_with (first
      | (go_at_call 18; go_must (refine htc.mono ?_); rintro e w1 ⟨rfl, ho1⟩; have HR1 : Hid (Rnd W w1 W.heap.size t p most g nd T tm (.slice ha l.length hc') l bx x) := HR.out.only ho1; have hcd := coded_err A 9 (by decide) w1 (HE.out.of_below HR1.out.l5.below); clear ho1 htc)
      | (go_at_call 13; go_must (refine hcd.mono ?_); rintro e w2 ⟨rfl, hb2⟩; have HR2 : Hid (Rnd W w2 W.heap.size t p most g nd T tm (.slice ha l.length hc') l bx x) := HR1.out.only (Only.of_below hb2 []); clear hb2 hcd)
      | go_in)
    exact HK.out _ _ (TailIn.mk (HA.out.mono (Nat.le_succ _)) HR2.out rfl rfl rfl rfl rfl rfl rfl rfl)
  · obtain ⟨i, n, hi, e1, e2, hnd, hfit⟩ := HA.out.known hs
    have htc := tfree_ok w t p most i g nd n HR.out.l5.tab hnd (by have h1 := HA.out.times i hi; have h2 := HA.out.small i hi; omega)
    rw [← e1, ← e2, hN, hG] at htc
    have HI : Hid (i < most ∧ s.N = (i : Int) ∧ nd i = some n) := ⟨hi, e1, hnd⟩
    have HS : Hid (l[r]? = some s) := hs
    have hrl : r < l.length := (List.getElem?_eq_some_iff.1 hs).1
    obtain ⟨b, cap', e, _, _, _⟩ := spot_cells HR.out.l5.here hs
    simp only [Value.slice.injEq, true_and] at e
    obtain ⟨rfl, rfl⟩ := e
    have hcap : l.length ≤ hc' ∧ hc' ≤ maxLen := by
      rcases HR.out.l5.here.2 with ⟨h0, _⟩ | ⟨_, cap, _, hv, _, _, h1, h2, _⟩
      · cases h0
      · cases hv
        exact ⟨h1, h2⟩
    obtain ⟨hcap1, hcap2⟩ := hcap
    unfold maxLen at hcap2
    obtain ⟨ad, had, hadr⟩ : ∃ ad : Addr, (if hc' = r + 1 then some (⟨b, 0, none⟩ : Addr) else some ⟨b, (r + 1) * 9, none⟩) = some ad ∧ ((l.drop (r + 1)).length = 0 ∨ ad = ⟨b, (r + 1) * 9, none⟩) := by
      by_cases h : hc' = r + 1
      · exact ⟨_, if_pos h, Or.inl (by rw [List.length_drop]; omega)⟩
      · exact ⟨_, if_neg h, Or.inr rfl⟩
    have HADR : Hid ((l.drop (r + 1)).length = 0 ∨ ad = ⟨b, (r + 1) * 9, none⟩) := hadr
    clear hadr
    obtain ⟨i0, hi0, hz⟩ := Option.map_eq_some_iff.1 spotInfo
    simp only [Prod.mk.injEq] at hz
    obtain ⟨hz0, hz1, hz2⟩ := hz
    clear hi e1 e2 hnd hfit hs hN hG
    go_wp2_with (first
      | (go_at_call 18; go_must (refine htc.mono ?_); rintro e w1 ⟨rfl, hT1, ho1⟩; have HR1 : Hid (Rnd W w1 W.heap.size t p most (setN g i (g i + 1)) (setN nd i none) T tm (.slice (some ⟨b, 0, none⟩) l.length hc') l bx x) := HR.out.tabStep hT1 ho1 (fun k hk => Or.inr (Or.inl (by simpa using hk))) (fun k hk => Or.inl (foot_freed hk)); have hcd := coded_nil w1; clear ho1 hT1 htc)
      | (go_at_call 13; go_must (refine hcd.mono ?_); rintro e w2 ⟨rfl, rfl⟩; clear hcd)
      | (at_builtin; refine wpList_append_own_at _ rfl (.tmp 260) (.tmp 263) 41 rfl W.heap.size 49 i0 _ 9 72 spotsUnd hi0 hz0 hz1 hz2 rfl (by decide) _ 0 [] rfl (World.ownsRow_nil _ _ _ _) ⟨b, 0, none⟩ r hc' (rowOf Spot.cells (l.take r)) rfl (by rw [rowOf_len Spot.cells_len, List.length_take]; omega) (row_news HR1.out.l5.here 0 _ (fun q s h => take_at h) _ (Or.inr rfl)) (rowOf_one Spot.cells_one _) (by unfold maxLen; omega) (by omega) HR1.out.l5.below.size ?_; intro v1 w2 hown1 hgr1 _ hat1; have HO1 : Hid (w2.ownsRow W.heap.size 49 9 v1 (0 + r) ([] ++ rowOf Spot.cells (l.take r))) := hown1; have HG1 : Hid (w1.grownBy w2 none) := hgr1; have HAT1 : Hid (v1.ownBlock = none ∨ v1.ownBlock = some w1.heap.size) := hat1; have HR2 : Hid (Rnd W w2 W.heap.size t p most (setN g i (g i + 1)) (setN nd i none) T tm (.slice (some ⟨b, 0, none⟩) l.length hc') l bx x) := HR1.out.only ((Only.refl [] w1).grown hgr1 (fun k hk => by cases hk)); clear hown1 hgr1 hat1)
      | (at_builtin; refine wpList_append_own_at _ rfl (.tmp 265) (.tmp 269) 41 rfl W.heap.size 49 i0 _ 9 72 spotsUnd hi0 hz0 hz1 hz2 rfl (by decide) v1 r (rowOf Spot.cells (l.take r)) rfl (by have h := HO1.out; rw [Nat.zero_add, List.nil_append] at h; exact h) ad (l.length - (r + 1)) _ (rowOf Spot.cells (l.drop (r + 1))) rfl (by rw [rowOf_len Spot.cells_len, List.length_drop]) (row_news HR2.out.l5.here (r + 1) _ (fun q s h => drop_at h) _ HADR.out) (rowOf_one Spot.cells_one _) (by unfold maxLen; omega) (by omega) HR2.out.l5.below.size ?_; intro v2 w3 hown2 hgr2 _ hat2; have HR3 : Hid (Rnd W w3 W.heap.size t p most (setN g i (g i + 1)) (setN nd i none) T tm v2 (l.take r ++ l.drop (r + 1)) bx x) := HR1.out.left hrl HG1.out HAT1.out hown2 hgr2 hat2; clear hown2 hgr2 hat2)
      | go_in)
    obtain ⟨hi, e1, hnd⟩ := HI.out
    obtain ⟨a3, c3, rfl⟩ := here_shape HR3.out.l5
    exact HK.out _ _ (TailIn.mk (HA.out.free HS.out e1 hnd) HR3.out rfl rfl rfl rfl rfl rfl rfl rfl)
end Go.Proofs.YtohbdpefcmibeacDoor
