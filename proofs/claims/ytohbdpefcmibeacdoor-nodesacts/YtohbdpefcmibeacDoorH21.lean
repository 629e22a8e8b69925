/- NodesActs: a round. -/
import Derived.Test.YtohbdpefcmibeacDoorH20
import Derived.Deep.LoopGhost
namespace Go.Proofs.YtohbdpefcmibeacDoor
open Go Go.RowKit Go.Deep Go.Maps

/-- Which spot has a handle. -/
def KAt (l : List Spot) (q : Nat) (N G : Int) (k : Int) : Prop := (k = -1 ∧ ∀ r s, r < q → l[r]? = some s → ¬ (s.N = N ∧ s.G = G)) ∨ ∃ (r : Nat) (s : Spot), r < q ∧ k = (r : Int) ∧ l[r]? = some s ∧ s.N = N ∧ s.G = G
theorem KAt.hit {l : List Spot} {q : Nat} {N G k : Int} {s : Spot} (_ : KAt l q N G k) (hs : l[q]? = some s) (hN : s.N = N) (hG : s.G = G) : KAt l (q + 1) N G q := Or.inr ⟨q, s, by omega, rfl, hs, hN, hG⟩
theorem KAt.miss {l : List Spot} {q : Nat} {N G k : Int} {s : Spot} (h : KAt l q N G k) (hs : l[q]? = some s) (hn : ¬ (s.N = N ∧ s.G = G)) : KAt l (q + 1) N G k := by
  rcases h with ⟨hk, h⟩ | ⟨r, s', h1, h2⟩
  · refine Or.inl ⟨hk, fun r s' hr hs' => ?_⟩
    rcases Nat.lt_or_ge r q with h1 | h1
    · exact h r s' h1 hs'
    · obtain rfl : r = q := by omega
      have e := hs.symm.trans hs'
      cases e
      exact hn
  · exact Or.inr ⟨r, s', by omega, h2⟩
theorem KAt.end {l : List Spot} {N G k : Int} (h : KAt l l.length N G k) : (k = -1 ∧ ∀ s, s ∈ l → ¬ (s.N = N ∧ s.G = G)) ∨ ∃ (r : Nat) (s : Spot), k = (r : Int) ∧ l[r]? = some s ∧ s.N = N ∧ s.G = G := by
  rcases h with ⟨hk, h⟩ | ⟨r, s, _, h⟩
  · refine Or.inl ⟨hk, fun s hs => ?_⟩
    obtain ⟨r, hr⟩ := List.mem_iff_getElem?.1 hs
    exact h r s (List.getElem?_eq_some_iff.1 hr).1 hr
  · exact Or.inr ⟨r, s, h⟩
theorem Rnd.begin {W w : World} {base t most T : Nat} {p : Row} {g tm : Nat → Nat} {nd : Nat → Option Nod} {hv : Value} {l : List Spot} (h : Laid5 W w base t p most g nd T tm hv l) (x : NActM) :
    Rnd W (w.alloc (.cells #[.string x.K, .int .i64 x.N, .int .i64 x.G, .int .i64 x.X, .int .i64 x.Y] 45)) base t p most g nd T tm hv l w.heap.size x := by
  have hh := heap_alloc_last w (.cells #[.string x.K, .int .i64 x.N, .int .i64 x.G, .int .i64 x.X, .int .i64 x.Y] 45)
  refine ⟨h.only ((Only.refl _ _).alloc _), ⟨cell_of_row _ _ 0 _ _ _ hh, cell_of_row _ _ 1 _ _ _ hh, cell_of_row _ _ 2 _ _ _ hh, cell_of_row _ _ 3 _ _ _ hh, cell_of_row _ _ 4 _ _ _ hh⟩, fun k hk => ?_, ?_, fun e => ?_⟩
  · have := h.tab.foot_lt k hk; omega
  · have := h.tlt; omega
  · have := (h.here.lt _ e).2; omega
/-- At a loop's head: j acts are behind it. -/
def InvIn (W : World) (E : Env) (j : Nat) (a : Act) (w : World) : Prop :=
  ∃ (u : Nat → Value) (p : Row) (g tm : Nat → Nat) (nd : Nat → Option Nod) (l : List Spot) (ha : Option Addr) (hc : Nat), a = actU u ∧ Fm E.most E.ab E.ao E.len E.cap E.t E.T u ∧ u 9 = .slice ha l.length hc ∧ u 10 = .int .i64 j ∧
    Agree E.most g tm nd l j ∧ Laid5 W w W.heap.size E.t p E.most g nd E.T tm (.slice ha l.length hc) l
theorem InvIn.mk {W w : World} {E : Env} {j : Nat} {p : Row} {g tm : Nat → Nat} {nd : Nat → Option Nod} {l : List Spot} {ha : Option Addr} {hc : Nat} {L : List Value} (hA : Agree E.most g tm nd l j) (hL : Laid5 W w W.heap.size E.t p E.most g nd E.T tm (.slice ha l.length hc) l)
    (h : L.length = 392) (h0 : L.getD 0 undef = .int .i64 E.most) (h1 : L.getD 1 undef = .slice (some ⟨E.ab, E.ao, none⟩) E.len E.cap) (h6 : L.getD 6 undef = .pointer (some ⟨E.t, 0, none⟩)) (h8 : L.getD 8 undef = .slice (some ⟨E.T, 0, none⟩) E.most E.most)
    (h9 : L.getD 9 undef = .slice ha l.length hc) (h10 : L.getD 10 undef = .int .i64 j) : InvIn W E j { tmps := L.toArray, defers := [] } w :=
  ⟨_, p, g, tm, nd, l, ha, hc, actU_of L h, ⟨h0, h1, h6, h8⟩, h9, h10, hA, hL⟩
theorem arm_wrap {c : Code} {Q : Exit → Act → World → Prop} {L : List Value} {w : World} (h : c.wp Tryd.prog Q (actU (fun k => L.getD k undef)) w) (hL : L.length = 392) : c.wp Tryd.prog Q { tmps := L.toArray, defers := [] } w := by
  rw [actU_of L hL]
  exact h
set_option maxRecDepth 100000 in
set_option maxHeartbeats 4000000 in
theorem nacts_round (W : World) (A : Nat → Addr) (E : Env) (P : Nat → NActM) (j : Nat) (hE : Errs W A) (hP : NActsAt W E.ab E.ao E.len P) (hm : E.most ≤ 300) (hm1 : 1 ≤ E.most) (hlen : E.len ≤ 60) (hjl : j < E.len) (c : Code) (hc : bodyAt 12 (Tryd.f4.body.getD .skip) = some c) (K : Act → World → Prop) (Q : Exit → Act → World → Prop)
    (hK : ∀ a w, InvIn W E (j + 1) a w → K a w) (a : Act) (w : World) (h : InvIn W E j a w) : c.wp Tryd.prog (Exit.then K Q) a w := by
  obtain ⟨u, p, g, tm, nd, l, ha, hc', rfl, hF, h9, h10, hA, hL⟩ := h
  cases hc.symm.trans (show bodyAt 12 (Tryd.f4.body.getD .skip) = some _ from rfl)
  clear hc
  rw [show (Code.seq (Code.region 26 _ _) _ : Code) = (piece 26 (Tryd.f4.body.getD .skip)).getD .skip from rfl]
  have q26 : piece 26 (Tryd.f4.body.getD .skip) = some ((piece 26 (Tryd.f4.body.getD .skip)).getD .skip) := rfl
  generalize (piece 26 (Tryd.f4.body.getD .skip)).getD .skip = X26 at q26 ⊢
  have H26 : Hid (piece 26 (Tryd.f4.body.getD .skip) = some X26) := q26
  clear q26
  rw [show (Code.seq (Code.region 42 _ _) _ : Code) = (piece 42 (Tryd.f4.body.getD .skip)).getD .skip from rfl]
  have q42 : piece 42 (Tryd.f4.body.getD .skip) = some ((piece 42 (Tryd.f4.body.getD .skip)).getD .skip) := rfl
  generalize (piece 42 (Tryd.f4.body.getD .skip)).getD .skip = X42 at q42 ⊢
  have H42 : Hid (piece 42 (Tryd.f4.body.getD .skip) = some X42) := q42
  clear q42
  rw [show (Code.seq (Code.seq (Code.region 54 _ _) _) _ : Code) = (piece 54 (Tryd.f4.body.getD .skip)).getD .skip from rfl]
  have q54 : piece 54 (Tryd.f4.body.getD .skip) = some ((piece 54 (Tryd.f4.body.getD .skip)).getD .skip) := rfl
  generalize (piece 54 (Tryd.f4.body.getD .skip)).getD .skip = X54 at q54 ⊢
  have H54 : Hid (piece 54 (Tryd.f4.body.getD .skip) = some X54) := q54
  clear q54
  rw [show (Code.seq (Code.seq (Code.region 59 _ _) _) _ : Code) = (piece 59 (Tryd.f4.body.getD .skip)).getD .skip from rfl]
  have q59 : piece 59 (Tryd.f4.body.getD .skip) = some ((piece 59 (Tryd.f4.body.getD .skip)).getD .skip) := rfl
  generalize (piece 59 (Tryd.f4.body.getD .skip)).getD .skip = X59 at q59 ⊢
  have H59 : Hid (piece 59 (Tryd.f4.body.getD .skip) = some X59) := q59
  clear q59
  rw [show (Code.seq (Code.region 66 _ _) _ : Code) = (piece 66 (Tryd.f4.body.getD .skip)).getD .skip from rfl]
  have q66 : piece 66 (Tryd.f4.body.getD .skip) = some ((piece 66 (Tryd.f4.body.getD .skip)).getD .skip) := rfl
  generalize (piece 66 (Tryd.f4.body.getD .skip)).getD .skip = X66 at q66 ⊢
  have H66 : Hid (piece 66 (Tryd.f4.body.getD .skip) = some X66) := q66
  clear q66
  rw [show (Code.seq (Code.seq (Code.region 76 _ _) _) _ : Code) = (piece 76 (Tryd.f4.body.getD .skip)).getD .skip from rfl]
  have q76 : piece 76 (Tryd.f4.body.getD .skip) = some ((piece 76 (Tryd.f4.body.getD .skip)).getD .skip) := rfl
  generalize (piece 76 (Tryd.f4.body.getD .skip)).getD .skip = X76 at q76 ⊢
  have H76 : Hid (piece 76 (Tryd.f4.body.getD .skip) = some X76) := q76
  clear q76
  rw [act_open hF.s0 hF.s1 hF.s6 hF.s8 h9 h10 rfl rfl rfl]
  have HE : Hid (Errs W A) := hE
  have HA : Hid (Agree E.most g tm nd l j) := hA
  have HL : Hid (Laid5 W w W.heap.size E.t p E.most g nd E.T tm (.slice ha l.length hc') l) := hL
  have HK : Hid (∀ a w, InvIn W E (j + 1) a w → K a w) := hK
  have hll := hA.len
  obtain ⟨c0, c1, c2, c3, c4⟩ := hP j hjl
  have hbe := hL.below
  have g0 := (hbe.cell (p := ⟨E.ab, E.ao + j * 5, none⟩) (lt_of_cell c0)).trans c0
  have g1 := (hbe.cell (p := ⟨E.ab, E.ao + j * 5 + 1, none⟩) (lt_of_cell c1)).trans c1
  have g2 := (hbe.cell (p := ⟨E.ab, E.ao + j * 5 + 2, none⟩) (lt_of_cell c2)).trans c2
  have g3 := (hbe.cell (p := ⟨E.ab, E.ao + j * 5 + 3, none⟩) (lt_of_cell c3)).trans c3
  have g4 := (hbe.cell (p := ⟨E.ab, E.ao + j * 5 + 4, none⟩) (lt_of_cell c4)).trans c4
  have HR := Rnd.begin hL (P j)
  generalize P j = x at g0 g1 g2 g3 g4 HR
  have HR0 : Hid (Rnd W (w.alloc (.cells #[.string x.K, .int .i64 x.N, .int .i64 x.G, .int .i64 x.X, .int .i64 x.Y] 45)) W.heap.size E.t p E.most g nd E.T tm (.slice ha l.length hc') l w.heap.size x) := HR
  clear hE hA hL hK hF h9 h10 hP c0 c1 c2 c3 c4 hbe HR HL
  obtain ⟨most, ab, ao, len, cap, t, T⟩ := E
  simp only at HA HR0 HK hm hm1 hlen hjl g0 g1 g2 g3 g4 ⊢
  have hj60 : j < 60 := by omega
  go_wp2
  rename_i K3 hK3 K2 hK2
  have OUT : Hid (∀ a w, OutIn W { most := most, ab := ab, ao := ao, len := len, cap := cap, t := t, T := T } j a w → K3 a w) := by
    rintro a' w' ⟨u', p', g', tm', nd', l', ha', hx', rfl, hF', h9', h10', hA', hL'⟩
    refine hK3 _ _ ?_
    rw [act_open hF'.s0 hF'.s1 hF'.s6 hF'.s8 h9' h10' rfl rfl rfl]
    have HA' : Hid (Agree most g' tm' nd' l' (j + 1)) := hA'
    have HL' : Hid (Laid5 W w' W.heap.size t p' most g' nd' T tm' (.slice ha' l'.length hx') l') := hL'
    clear hA' hL' hF' h9' h10'
    go_wp2
    exact HK.out _ _ (InvIn.mk HA'.out HL'.out rfl rfl rfl rfl rfl rfl rfl)
  have TAIL : Hid (∀ bx a w, TailIn W { most := most, ab := ab, ao := ao, len := len, cap := cap, t := t, T := T } j bx x a w → Code.wp Tryd.prog X76 (Exit.inBlock 1 (Exit.then K3 (Exit.then K Q))) a w) := fun bx a w hT =>
    wp_mono (nacts_tail W A { most := most, ab := ab, ao := ao, len := len, cap := cap, t := t, T := T } j bx x HE.out hm hj60 X76 H76.out K3 (Exit.inBlock 1 (Exit.then K3 (Exit.then K Q))) OUT.out a w hT) (fun e a w h => by cases e <;> exact h)
  clear g0 g1 g2 g3 g4
  generalize w.alloc (.cells #[.string x.K, .int .i64 x.N, .int .i64 x.G, .int .i64 x.X, .int .i64 x.Y] 45) = wa at HR0 ⊢
  generalize w.heap.size = bx at HR0 ⊢
  go_loopw [12, 13] (fun k i wx => ∃ (q : Nat) (kk : Int), i = .int .i64 q ∧ k = .int .i64 kk ∧ q ≤ l.length ∧ KAt l q x.N x.G kk ∧ Only [] wa wx) (fun _ i _ => l.length - (intOf i).toNat)
  case atStart => exact ⟨0, -1, rfl, rfl, Nat.zero_le _, Or.inl ⟨rfl, fun r s hr => by omega⟩, Only.refl _ _⟩
  case round =>
    obtain ⟨q, kk, rfl, rfl, hq, hk, hox⟩ := hrel
    have HK1 : Hid (KAt l q x.N x.G kk) := hk
    have HR1 : Hid (Rnd W wr W.heap.size t p most g nd T tm (.slice ha l.length hc') l bx x) := HR0.out.only hox
    have HOX : Hid (Only [] wa wr) := hox
    clear hk hox
    by_cases hql : q < l.length
    · obtain ⟨s, hs⟩ : ∃ s, l[q]? = some s := ⟨_, List.getElem?_eq_getElem hql⟩
      obtain ⟨b, cap', e, hcs, _, hbl⟩ := spot_cells HR1.out.l5.here hs
      simp only [Value.slice.injEq, true_and] at e
      obtain ⟨rfl, rfl⟩ := e
      have s0 : wr.cell? ⟨b, q * 9, none⟩ = some (.int .i64 s.N) := hcs 0 (by decide)
      have s1 : wr.cell? ⟨b, q * 9 + 1, none⟩ = some (.int .i64 s.G) := hcs 1 (by decide)
      have x1 := HR1.out.x.c1
      have x2 := HR1.out.x.c2
      have HS : Hid (l[q]? = some s) := hs
      clear hcs hs
      by_cases hN : s.N = x.N
      · by_cases hG : s.G = x.G
        · rw [hN] at s0
          rw [hG] at s1
          go_wp2
          go_big_quiet (fail)
          go_wp2
          go_roundw
          case rel => exact ⟨q + 1, _, by go_num, rfl, by omega, HK1.out.hit HS.out hN hG, HOX.out.drewN _⟩
          case measure => simp [intOf]; omega
        · have hb : (s.G == x.G) = false := beq_eq_false_iff_ne.2 hG
          rw [hN] at s0
          go_wp2
          go_big_quiet (fail)
          go_wp2
          go_roundw
          case rel => exact ⟨q + 1, _, by go_num, rfl, by omega, HK1.out.miss HS.out (fun h => hG h.2), HOX.out.drewN _⟩
          case measure => simp [intOf]; omega
      · have hb : (s.N == x.N) = false := beq_eq_false_iff_ne.2 hN
        go_wp2
        go_big_quiet (fail)
        go_wp2
        go_roundw
        case rel => exact ⟨q + 1, _, by go_num, rfl, by omega, HK1.out.miss HS.out (fun h => hN h.1), HOX.out.drewN _⟩
        case measure => simp [intOf]; omega
    · obtain rfl : q = l.length := by omega
      have x0 := HR1.out.x.c0
      rcases HK1.out.end with ⟨rfl, hno⟩ | ⟨r, s, rfl, hs, hN, hG⟩
      · have HKS : Hid (KSt l x.N x.G (-1) 10) := Or.inl ⟨rfl, rfl, hno⟩
        clear hno
        go_wp2_with fail
        · rename_i Kt hKt _
          refine wp_mono (Q := Exit.then Kt (Exit.inBlock 4 (Exit.then Kt (Exit.inBlock 1 (Exit.then K3 (Exit.then K Q)))))) (arm_wrap ?_ rfl) (fun e a w h => by cases e <;> exact h)
          exact arm_add W A { most := most, ab := ab, ao := ao, len := len, cap := cap, t := t, T := T } j bx x HE.out hm hj60 hm1 X26 H26.out Kt _ (fun a' w' hT => hKt a' w' (TAIL.out bx a' w' hT)) (fun a' w' hO => OUT.out a' w' hO) wr _ p g tm nd l ha hc' _ _ ⟨rfl, rfl, rfl, rfl⟩ rfl rfl rfl rfl rfl HA.out HR1.out HKS.out
        · rename_i Kt hKt _ _
          refine wp_mono (Q := Exit.then Kt (Exit.inBlock 4 (Exit.then Kt (Exit.inBlock 1 (Exit.then K3 (Exit.then K Q)))))) (arm_wrap ?_ rfl) (fun e a w h => by cases e <;> exact h)
          exact arm_set W A { most := most, ab := ab, ao := ao, len := len, cap := cap, t := t, T := T } j bx x HE.out hm hj60 X42 H42.out Kt _ (fun a' w' hT => hKt a' w' (TAIL.out bx a' w' hT)) wr _ p g tm nd l ha hc' _ _ ⟨rfl, rfl, rfl, rfl⟩ rfl rfl rfl rfl rfl HA.out HR1.out HKS.out
        · rename_i Kt hKt _ _ _
          refine wp_mono (Q := Exit.then Kt (Exit.inBlock 4 (Exit.then Kt (Exit.inBlock 1 (Exit.then K3 (Exit.then K Q)))))) (arm_wrap ?_ rfl) (fun e a w h => by cases e <;> exact h)
          exact arm_touch W A { most := most, ab := ab, ao := ao, len := len, cap := cap, t := t, T := T } j bx x HE.out hm hj60 X54 H54.out Kt _ (fun a' w' hT => hKt a' w' (TAIL.out bx a' w' hT)) wr _ p g tm nd l ha hc' _ _ ⟨rfl, rfl, rfl, rfl⟩ rfl rfl rfl rfl rfl HA.out HR1.out HKS.out
        · rename_i Kt hKt _ _ _ _
          refine wp_mono (Q := Exit.then Kt (Exit.inBlock 4 (Exit.then Kt (Exit.inBlock 1 (Exit.then K3 (Exit.then K Q)))))) (arm_wrap ?_ rfl) (fun e a w h => by cases e <;> exact h)
          exact arm_free W A { most := most, ab := ab, ao := ao, len := len, cap := cap, t := t, T := T } j bx x HE.out hm hj60 X59 H59.out Kt _ (fun a' w' hT => hKt a' w' (TAIL.out bx a' w' hT)) wr _ p g tm nd l ha hc' _ _ ⟨rfl, rfl, rfl, rfl⟩ rfl rfl rfl rfl rfl HA.out HR1.out HKS.out
        · rename_i Kt hKt _ _ _ _ _
          refine wp_mono (Q := Exit.then Kt (Exit.inBlock 4 (Exit.then Kt (Exit.inBlock 1 (Exit.then K3 (Exit.then K Q)))))) (arm_wrap ?_ rfl) (fun e a w h => by cases e <;> exact h)
          exact arm_write W A { most := most, ab := ab, ao := ao, len := len, cap := cap, t := t, T := T } j bx x HE.out hm hj60 X66 H66.out Kt _ (fun a' w' hT => hKt a' w' (TAIL.out bx a' w' hT)) (fun a' w' hO => OUT.out a' w' hO) wr _ p g tm nd l ha hc' _ _ ⟨rfl, rfl, rfl, rfl⟩ rfl rfl rfl rfl rfl HA.out HR1.out HKS.out
        · refine arm_wrap ?_ rfl
          exact TAIL.out bx _ _ ⟨_, p, g, tm, nd, l, ha, hc', rfl, ⟨rfl, rfl, rfl, rfl⟩, rfl, rfl, rfl, HA.out.mono (Nat.le_succ _), HR1.out⟩
      · have HKS : Hid (KSt l x.N x.G r 0) := Or.inr ⟨r, s, rfl, rfl, hs, hN, hG⟩
        clear hs hN hG
        go_wp2_with fail
        · rename_i Kt hKt _
          refine wp_mono (Q := Exit.then Kt (Exit.inBlock 4 (Exit.then Kt (Exit.inBlock 1 (Exit.then K3 (Exit.then K Q)))))) (arm_wrap ?_ rfl) (fun e a w h => by cases e <;> exact h)
          exact arm_add W A { most := most, ab := ab, ao := ao, len := len, cap := cap, t := t, T := T } j bx x HE.out hm hj60 hm1 X26 H26.out Kt _ (fun a' w' hT => hKt a' w' (TAIL.out bx a' w' hT)) (fun a' w' hO => OUT.out a' w' hO) wr _ p g tm nd l ha hc' _ _ ⟨rfl, rfl, rfl, rfl⟩ rfl rfl rfl rfl rfl HA.out HR1.out HKS.out
        · rename_i Kt hKt _ _
          refine wp_mono (Q := Exit.then Kt (Exit.inBlock 4 (Exit.then Kt (Exit.inBlock 1 (Exit.then K3 (Exit.then K Q)))))) (arm_wrap ?_ rfl) (fun e a w h => by cases e <;> exact h)
          exact arm_set W A { most := most, ab := ab, ao := ao, len := len, cap := cap, t := t, T := T } j bx x HE.out hm hj60 X42 H42.out Kt _ (fun a' w' hT => hKt a' w' (TAIL.out bx a' w' hT)) wr _ p g tm nd l ha hc' _ _ ⟨rfl, rfl, rfl, rfl⟩ rfl rfl rfl rfl rfl HA.out HR1.out HKS.out
        · rename_i Kt hKt _ _ _
          refine wp_mono (Q := Exit.then Kt (Exit.inBlock 4 (Exit.then Kt (Exit.inBlock 1 (Exit.then K3 (Exit.then K Q)))))) (arm_wrap ?_ rfl) (fun e a w h => by cases e <;> exact h)
          exact arm_touch W A { most := most, ab := ab, ao := ao, len := len, cap := cap, t := t, T := T } j bx x HE.out hm hj60 X54 H54.out Kt _ (fun a' w' hT => hKt a' w' (TAIL.out bx a' w' hT)) wr _ p g tm nd l ha hc' _ _ ⟨rfl, rfl, rfl, rfl⟩ rfl rfl rfl rfl rfl HA.out HR1.out HKS.out
        · rename_i Kt hKt _ _ _ _
          refine wp_mono (Q := Exit.then Kt (Exit.inBlock 4 (Exit.then Kt (Exit.inBlock 1 (Exit.then K3 (Exit.then K Q)))))) (arm_wrap ?_ rfl) (fun e a w h => by cases e <;> exact h)
          exact arm_free W A { most := most, ab := ab, ao := ao, len := len, cap := cap, t := t, T := T } j bx x HE.out hm hj60 X59 H59.out Kt _ (fun a' w' hT => hKt a' w' (TAIL.out bx a' w' hT)) wr _ p g tm nd l ha hc' _ _ ⟨rfl, rfl, rfl, rfl⟩ rfl rfl rfl rfl rfl HA.out HR1.out HKS.out
        · rename_i Kt hKt _ _ _ _ _
          refine wp_mono (Q := Exit.then Kt (Exit.inBlock 4 (Exit.then Kt (Exit.inBlock 1 (Exit.then K3 (Exit.then K Q)))))) (arm_wrap ?_ rfl) (fun e a w h => by cases e <;> exact h)
          exact arm_write W A { most := most, ab := ab, ao := ao, len := len, cap := cap, t := t, T := T } j bx x HE.out hm hj60 X66 H66.out Kt _ (fun a' w' hT => hKt a' w' (TAIL.out bx a' w' hT)) (fun a' w' hO => OUT.out a' w' hO) wr _ p g tm nd l ha hc' _ _ ⟨rfl, rfl, rfl, rfl⟩ rfl rfl rfl rfl rfl HA.out HR1.out HKS.out
        · refine arm_wrap ?_ rfl
          exact TAIL.out bx _ _ ⟨_, p, g, tm, nd, l, ha, hc', rfl, ⟨rfl, rfl, rfl, rfl⟩, rfl, rfl, rfl, HA.out.mono (Nat.le_succ _), HR1.out⟩
end Go.Proofs.YtohbdpefcmibeacDoor
