/- NodesActs: a node is touched; all that is behind the switch. -/
import Derived.Test.YtohbdpefcmibeacDoorH15
namespace Go.Proofs.YtohbdpefcmibeacDoor
open Go Go.RowKit Go.Deep Go.Maps

theorem nacts_tail (W : World) (A : Nat → Addr) (E : Env) (j bx : Nat) (x : NActM) (hE : Errs W A) (hm : E.most ≤ 300) (hj : j < 60) (c : Code) (hc : piece 76 (Tryd.f4.body.getD .skip) = some c) (K : Act → World → Prop) (Q : Exit → Act → World → Prop) (hK : ∀ a w, OutIn W E j a w → K a w)
    (a : Act) (w : World) (h : TailIn W E j bx x a w) : c.wp Tryd.prog (Exit.then K Q) a w := by
  obtain ⟨u, p, g, tm, nd, l, ha, hc', rfl, hF, h9, h10, h11, hA, hR⟩ := h
  by_cases hex : ∃ s, s ∈ l ∧ s.N = x.N ∧ s.G = x.G
  · obtain ⟨s, hs, hN, hG⟩ := hex
    obtain ⟨r, hr⟩ := List.mem_iff_getElem?.1 hs
    exact tail_found W A E j bx x hE hm hj c hc K Q hK w u p g tm nd l ha hc' hF h9 h10 h11 hA hR r s hr hN hG
  · exact tail_none W A E j bx x hE hm hj c hc K Q hK w u p g tm nd l ha hc' hF h9 h10 h11 hA hR (fun s hs h => hex ⟨s, hs, h.1, h.2⟩)
section
variable {s : Spot} {n : Nod} {c : Nat}
theorem Fits.touched (h : Fits s n c) : Fits { s with C := s.C + 1 } { n with C := n.C + 1 } (c + 1) :=
  ⟨h.kind, h.K, h.L, congrArg (· + 1) h.C, h.UN, h.UG, h.dir, h.file, h.F0, by have := h.F1; show s.F ≤ _; omega, by have := h.C0; show 0 ≤ s.C + 1; omega, by have := h.C1; show s.C + 1 ≤ _; omega⟩
theorem Fits.setFile (h : Fits s n c) (hk : s.K = 1) (b : Int) : Fits { s with L := b, C := s.C + 1 } { n with L := b, C := n.C + 1 } (c + 1) :=
  ⟨h.kind, h.K, rfl, congrArg (· + 1) h.C, h.UN, h.UG, fun e => absurd (hk.symm.trans e) (by decide), h.file, h.F0, by have := h.F1; show s.F ≤ _; omega, by have := h.C0; show 0 ≤ s.C + 1; omega, by have := h.C1; show s.C + 1 ≤ _; omega⟩
theorem Fits.setDir (h : Fits s n c) (hk : s.K = 2) (a b N G : Int) : Fits { s with L := b, C := s.C + 1, Z := a, UN := N, UG := G } { n with Z := a, UN := N, UG := G, L := b, C := n.C + 1 } (c + 1) :=
  ⟨h.kind, h.K, rfl, congrArg (· + 1) h.C, rfl, rfl, fun _ => rfl, fun e => absurd (hk.symm.trans e) (by decide), h.F0, by have := h.F1; show s.F ≤ _; omega, by have := h.C0; show 0 ≤ s.C + 1; omega, by have := h.C1; show s.C + 1 ≤ _; omega⟩
theorem Fits.wrote (h : Fits s n c) (hk : s.K = 1) (S' : ByteArray) (H' : List Bool) (m' : Option Nat) (hS : S'.size = n.S.size + 2) : Fits { s with F := s.F + 2 } { n with S := S', H := H', m := m' } (c + 1) :=
  ⟨h.kind, h.K, h.L, h.C, h.UN, h.UG, fun e => absurd (hk.symm.trans e) (by decide), fun _ => by have := h.file hk; show s.F + 2 = (S'.size : Int); omega, by have := h.F0; show 0 ≤ s.F + 2; omega, by have := h.F1; show s.F + 2 ≤ _; omega, h.C0, by have := h.C1; show s.C ≤ _; omega⟩
end
/-- A node of the table's was turned. -/
theorem Rnd.turned {W w w' : World} {base t most T bx i : Nat} {p : Row} {g tm : Nat → Nat} {nd : Nat → Option Nod} {hv : Value} {l : List Spot} {x : NActM} {n n' : Nod} {L : List Nat} (h : Rnd W w base t p most g nd T tm hv l bx x) (_ : i < most) (hnd : nd i = some n)
    (hT : TabAt w' t p most g (setN nd i (some n'))) (ho : Only L w w') (hL : ∀ k, k ∈ L → k ∈ n.foot) (hs : ∀ k, k ∈ n'.foot → k ∈ n.foot ∨ w.heap.size ≤ k) : Rnd W w' base t p most g (setN nd i (some n')) T tm hv l bx x := by
  refine h.tabStep hT ho (fun k hk => ?_) (fun k hk => ?_)
  · exact InFoot.node hnd (hL k hk)
  · refine foot_set (fun q hq => ?_) hk
    rcases hs q hq with h1 | h1
    · exact Or.inl (InFoot.node hnd h1)
    · exact Or.inr h1
theorem Rnd.turnedB {W w w' : World} {base t most T bx i : Nat} {p : Row} {g tm : Nat → Nat} {nd : Nat → Option Nod} {hv : Value} {l : List Spot} {x : NActM} {n n' : Nod} (h : Rnd W w base t p most g nd T tm hv l bx x) (hi : i < most) (hnd : nd i = some n)
    (hT : TabAt w' t p most g (setN nd i (some n'))) (ho : Only [n.b] w w') (hb : n'.b = n.b) (hm : n'.m = n.m) : Rnd W w' base t p most g (setN nd i (some n')) T tm hv l bx x :=
  h.turned hi hnd hT ho (fun k hk => by
    have : k = n.b := by simpa using hk
    subst this
    exact n.b_foot) (fun k hk => Or.inl (by
    unfold Nod.foot at hk ⊢
    rw [hb, hm] at hk
    exact hk))
/-- Which spot has a handle, and the number of the error, where none has it. -/
def KSt (l : List Spot) (N G : Int) (k sv : Int) : Prop := (k = -1 ∧ sv = 10 ∧ ∀ s, s ∈ l → ¬ (s.N = N ∧ s.G = G)) ∨ ∃ (r : Nat) (s : Spot), k = (r : Int) ∧ sv = 0 ∧ l[r]? = some s ∧ s.N = N ∧ s.G = G
set_option maxRecDepth 100000 in
set_option maxHeartbeats 4000000 in
theorem arm_touch (W : World) (A : Nat → Addr) (E : Env) (j bx : Nat) (x : NActM) (hE : Errs W A) (hm : E.most ≤ 300) (hj : j < 60) (c : Code) (hc : piece 54 (Tryd.f4.body.getD .skip) = some c) (K : Act → World → Prop) (Q : Exit → Act → World → Prop) (hK : ∀ a w, TailIn W E j bx x a w → K a w)
    (w : World) (u : Nat → Value) (p : Row) (g tm : Nat → Nat) (nd : Nat → Option Nod) (l : List Spot) (ha : Option Addr) (hc' : Nat) (kk sv : Int) (hF : Fm E.most E.ab E.ao E.len E.cap E.t E.T u) (h9 : u 9 = .slice ha l.length hc') (h10 : u 10 = .int .i64 j) (h11 : u 11 = .pointer (some ⟨bx, 0, none⟩)) (h12 : u 12 = .int .i64 kk) (h14 : u 14 = .int .i64 sv)
    (hA : Agree E.most g tm nd l j) (hR : Rnd W w W.heap.size E.t p E.most g nd E.T tm (.slice ha l.length hc') l bx x) (hks : KSt l x.N x.G kk sv) : c.wp Tryd.prog (Exit.then K Q) (actU u) w := by
  cases hc.symm.trans (show piece 54 (Tryd.f4.body.getD .skip) = some _ from rfl)
  clear hc
  rw [act_open hF.s0 hF.s1 hF.s6 hF.s8 h9 h10 h11 h12 h14]
  have HE : Hid (Errs W A) := hE
  have HA : Hid (Agree E.most g tm nd l j) := hA
  have HR : Hid (Rnd W w W.heap.size E.t p E.most g nd E.T tm (.slice ha l.length hc') l bx x) := hR
  have HK : Hid (∀ a w, TailIn W E j bx x a w → K a w) := hK
  have hll := hA.len
  clear hE hA hR hK hF h9 h10 h11 h12 h14
  obtain ⟨most, ab, ao, len, cap, t, T⟩ := E
  simp only at HA HR hm ⊢
  have x1 := HR.out.x.c1
  have x2 := HR.out.x.c2
  have x3 := HR.out.x.c3
  have x4 := HR.out.x.c4
  rcases hks with ⟨rfl, rfl, hno⟩ | ⟨r, s, rfl, rfl, hs, hN, hG⟩
  · have htc := ttouch_stale w t p most g nd x.N x.G _ HR.out.l5.tab (HE.out.of_below HR.out.l5.below).stale (Stale.all (HA.out.stale hno) HR.out.l5.tab HR.out.l5.nle)
    unfold errV at htc
    clear hno
    go_wp2_with (first
      | (go_at_call 17; go_must (refine htc.mono ?_); rintro e w1 ⟨rfl, ho1⟩; have HR1 : Hid (Rnd W w1 W.heap.size t p most g nd T tm (.slice ha l.length hc') l bx x) := HR.out.only ho1; have hcd := coded_err A 9 (by decide) w1 (HE.out.of_below HR1.out.l5.below); clear ho1 htc)
      | (go_at_call 13; go_must (refine hcd.mono ?_); rintro e w2 ⟨rfl, hb2⟩; have HR2 : Hid (Rnd W w2 W.heap.size t p most g nd T tm (.slice ha l.length hc') l bx x) := HR1.out.only (Only.of_below hb2 []); clear hb2 hcd)
      | go_in)
    exact HK.out _ _ (TailIn.mk (HA.out.mono (Nat.le_succ _)) HR2.out rfl rfl rfl rfl rfl rfl rfl rfl)
  · obtain ⟨i, n, hi, e1, e2, hnd, hfit⟩ := HA.out.known hs
    have htc := ttouch_ok w t p most i g nd n HR.out.l5.tab hnd (by have h1 := hfit.C; have h2 := hfit.C0; have h3 := hfit.C1; omega)
    rw [← e1, ← e2, hN, hG] at htc
    have HI : Hid (i < most ∧ s.N = (i : Int) ∧ nd i = some n ∧ Fits s n j) := ⟨hi, e1, hnd, hfit⟩
    have HS : Hid (l[r]? = some s) := hs
    have hrl : r < l.length := (List.getElem?_eq_some_iff.1 hs).1
    have hC0 := hfit.C0
    have hC1 := hfit.C1
    clear hi e1 e2 hnd hfit hs hN hG
    go_wp2_with (first
      | (go_at_call 17; go_must (refine htc.mono ?_); rintro e w1 ⟨rfl, hT1, ho1⟩; have HR1 : Hid (Rnd W w1 W.heap.size t p most g (setN nd i (some { n with C := n.C + 1 })) T tm (.slice ha l.length hc') l bx x) := HR.out.turnedB HI.out.1 HI.out.2.2.1 hT1 ho1 rfl rfl; have hcd := coded_nil w1; clear ho1 hT1 htc)
      | (go_at_call 13; go_must (refine hcd.mono ?_); rintro e w2 ⟨rfl, rfl⟩; obtain ⟨b, cap', e, hcs, hfz, hbl⟩ := spot_cells HR1.out.l5.here HS.out; simp only [Value.slice.injEq, true_and] at e; obtain ⟨rfl, rfl⟩ := e; have s5 : w1.cell? ⟨b, r * 9 + 5, none⟩ = some (.int .i64 s.C) := hcs 5 (by decide); clear hcs hcd)
      | go_in)
    have HR2 := HR1.out.put (j := 5) (s' := { s with C := s.C + 1 }) (v := .int .i64 (s.C + 1)) HS.out (by decide) rfl
    obtain ⟨hi, e1, hnd, hfit⟩ := HI.out
    exact HK.out _ _ (TailIn.mk (l := l.set r { s with C := s.C + 1 }) (HA.out.turn HS.out e1 hnd ⟨rfl, rfl⟩ hfit.touched) (by rw [List.length_set]; exact HR2) rfl rfl rfl rfl rfl (by rw [List.length_set]; rfl) rfl rfl)
end Go.Proofs.YtohbdpefcmibeacDoor
