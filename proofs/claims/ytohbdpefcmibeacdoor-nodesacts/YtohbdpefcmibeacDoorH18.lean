/- NodesActs: what is told of a node is set. -/
import Derived.Test.YtohbdpefcmibeacDoorH16
namespace Go.Proofs.YtohbdpefcmibeacDoor
open Go Go.RowKit Go.Deep Go.Maps

theorem Rnd.putN {W w : World} {base t most T bx b cap k j n : Nat} {p : Row} {g tm : Nat → Nat} {nd : Nat → Option Nod} {l : List Spot} {x : NActM} {s s' : Spot} {v : Value} (h : Rnd W w base t p most g nd T tm (.slice (some ⟨b, 0, none⟩) n cap) l bx x) (hn : l.length = n) (hk : l[k]? = some s) (hj : j < 9) (hs : s'.cells = s.cells.set j v) :
    Rnd W (w.setCell ⟨b, k * 9 + j, none⟩ v) base t p most g nd T tm (.slice (some ⟨b, 0, none⟩) n cap) (l.set k s') bx x := by
  subst hn
  exact h.put hk hj hs
theorem set_at {l : List Spot} {r : Nat} {s s' : Spot} (h : l[r]? = some s) : (l.set r s')[r]? = some s' := by
  rw [List.getElem?_set_self (List.getElem?_eq_some_iff.1 h).1]
theorem Rnd.putA {W w : World} {base t most T bx b cap k j n : Nat} {p : Row} {g tm : Nat → Nat} {nd : Nat → Option Nod} {l : List Spot} {x : NActM} {s0 s s' : Spot} {v : Value} (h : Rnd W w base t p most g nd T tm (.slice (some ⟨b, 0, none⟩) n cap) (l.set k s) bx x) (hn : l.length = n) (hk : l[k]? = some s0) (hj : j < 9) (hs : s'.cells = s.cells.set j v) :
    Rnd W (w.setCell ⟨b, k * 9 + j, none⟩ v) base t p most g nd T tm (.slice (some ⟨b, 0, none⟩) n cap) (l.set k s') bx x := by
  have := h.putN (by rw [List.length_set]; exact hn) (set_at hk) hj hs
  rw [List.set_set] at this
  exact this
set_option maxRecDepth 100000 in
set_option maxHeartbeats 4000000 in
theorem arm_set (W : World) (A : Nat → Addr) (E : Env) (j bx : Nat) (x : NActM) (hE : Errs W A) (hm : E.most ≤ 300) (hj : j < 60) (c : Code) (hc : piece 42 (Tryd.f4.body.getD .skip) = some c) (K : Act → World → Prop) (Q : Exit → Act → World → Prop) (hK : ∀ a w, TailIn W E j bx x a w → K a w)
    (w : World) (u : Nat → Value) (p : Row) (g tm : Nat → Nat) (nd : Nat → Option Nod) (l : List Spot) (ha : Option Addr) (hc' : Nat) (kk sv : Int) (hF : Fm E.most E.ab E.ao E.len E.cap E.t E.T u) (h9 : u 9 = .slice ha l.length hc') (h10 : u 10 = .int .i64 j) (h11 : u 11 = .pointer (some ⟨bx, 0, none⟩)) (h12 : u 12 = .int .i64 kk) (h14 : u 14 = .int .i64 sv)
    (hA : Agree E.most g tm nd l j) (hR : Rnd W w W.heap.size E.t p E.most g nd E.T tm (.slice ha l.length hc') l bx x) (hks : KSt l x.N x.G kk sv) : c.wp Tryd.prog (Exit.then K Q) (actU u) w := by
  cases hc.symm.trans (show piece 42 (Tryd.f4.body.getD .skip) = some _ from rfl)
  clear hc
  rw [act_open hF.s0 hF.s1 hF.s6 hF.s8 h9 h10 h11 h12 h14]
  have HE : Hid (Errs W A) := hE
  have HA : Hid (Agree E.most g tm nd l j) := hA
  have HR : Hid (Rnd W w W.heap.size E.t p E.most g nd E.T tm (.slice ha l.length hc') l bx x) := hR
  have HK : Hid (∀ a w, TailIn W E j bx x a w → K a w) := hK
  have hll := hA.len
  clear hE hA hR hK hF h9 h10 h11 h12 h14
  obtain ⟨most, ab, ao, len, cap, t, T⟩ := E
  simp only at HA HR hm ⊢
  have x1 := HR.out.x.c1
  have x2 := HR.out.x.c2
  have x3 := HR.out.x.c3
  have x4 := HR.out.x.c4
  rcases hks with ⟨rfl, rfl, hno⟩ | ⟨r, s, rfl, rfl, hs, hN, hG⟩
  · have htc := tset_stale w t p most g nd x.N x.G x.X x.Y x.N x.G _ HR.out.l5.tab (HE.out.of_below HR.out.l5.below).stale (Stale.all (HA.out.stale hno) HR.out.l5.tab HR.out.l5.nle)
    unfold errV at htc
    clear hno
    go_wp2_with (first
      | (go_at_call 16; go_must (refine htc.mono ?_); rintro e w1 ⟨rfl, ho1⟩; have HR1 : Hid (Rnd W w1 W.heap.size t p most g nd T tm (.slice ha l.length hc') l bx x) := HR.out.only ho1; have hcd := coded_err A 9 (by decide) w1 (HE.out.of_below HR1.out.l5.below); clear ho1 htc)
      | (go_at_call 13; go_must (refine hcd.mono ?_); rintro e w2 ⟨rfl, hb2⟩; have HR2 : Hid (Rnd W w2 W.heap.size t p most g nd T tm (.slice ha l.length hc') l bx x) := HR1.out.only (Only.of_below hb2 []); clear hb2 hcd)
      | go_in)
    exact HK.out _ _ (TailIn.mk (HA.out.mono (Nat.le_succ _)) HR2.out rfl rfl rfl rfl rfl rfl rfl rfl)
  · obtain ⟨i, n, hi, e1, e2, hnd, hfit⟩ := HA.out.known hs
    have HI : Hid (i < most ∧ s.N = (i : Int) ∧ nd i = some n ∧ Fits s n j) := ⟨hi, e1, hnd, hfit⟩
    have HS : Hid (l[r]? = some s) := hs
    have hrl : r < l.length := (List.getElem?_eq_some_iff.1 hs).1
    have hC0 := hfit.C0
    have hC1 := hfit.C1
    by_cases hX : x.X < 0 ∨ x.Y < 0
    · have htc := tset_bound w t p most i g nd n x.X x.Y x.N x.G _ HR.out.l5.tab ((HE.out.of_below HR.out.l5.below).cell 1 (by decide)) hnd hX
      rw [← e1, ← e2, hN, hG] at htc
      clear hi e1 e2 hnd hfit hs hN hG
      by_cases hX1 : x.X < 0
      · have hd1 : decide (x.X < 0) = true := decide_eq_true hX1
        go_wp2_with (first
          | (go_at_call 16; go_must (refine htc.mono ?_); rintro e w1 ⟨rfl, ho1⟩; have HR1 : Hid (Rnd W w1 W.heap.size t p most g nd T tm (.slice ha l.length hc') l bx x) := HR.out.only ho1; have hcd := coded_err A 1 (by decide) w1 (HE.out.of_below HR1.out.l5.below); clear ho1 htc)
          | (go_at_call 13; go_must (refine hcd.mono ?_); rintro e w2 ⟨rfl, hb2⟩; have HR2 : Hid (Rnd W w2 W.heap.size t p most g nd T tm (.slice ha l.length hc') l bx x) := HR1.out.only (Only.of_below hb2 []); clear hb2 hcd)
          | go_in)
        exact HK.out _ _ (TailIn.mk (HA.out.mono (Nat.le_succ _)) HR2.out rfl rfl rfl rfl rfl rfl rfl rfl)
      · have hd1 : decide (x.X < 0) = false := decide_eq_false hX1
        have hd2 : decide (x.Y < 0) = true := decide_eq_true (by omega)
        go_wp2_with (first
          | (go_at_call 16; go_must (refine htc.mono ?_); rintro e w1 ⟨rfl, ho1⟩; have HR1 : Hid (Rnd W w1 W.heap.size t p most g nd T tm (.slice ha l.length hc') l bx x) := HR.out.only ho1; have hcd := coded_err A 1 (by decide) w1 (HE.out.of_below HR1.out.l5.below); clear ho1 htc)
          | (go_at_call 13; go_must (refine hcd.mono ?_); rintro e w2 ⟨rfl, hb2⟩; have HR2 : Hid (Rnd W w2 W.heap.size t p most g nd T tm (.slice ha l.length hc') l bx x) := HR1.out.only (Only.of_below hb2 []); clear hb2 hcd)
          | go_in)
        exact HK.out _ _ (TailIn.mk (HA.out.mono (Nat.le_succ _)) HR2.out rfl rfl rfl rfl rfl rfl rfl rfl)
    · have hd1 : decide (x.X < 0) = false := decide_eq_false (by omega)
      have hd2 : decide (x.Y < 0) = false := decide_eq_false (by omega)
      rcases hfit.kind with hk | hk
      · have htc := tset_file w t p most i g nd n x.X x.Y x.N x.G HR.out.l5.tab hnd (by omega) (hfit.K.trans hk) (by have := hfit.C; omega)
        rw [← e1, ← e2, hN, hG] at htc
        clear hi e1 e2 hnd hfit hs hN hG hX
        go_wp2_with (first
          | (go_at_call 16; go_must (refine htc.mono ?_); rintro e w1 ⟨rfl, hT1, ho1⟩; have HR1 : Hid (Rnd W w1 W.heap.size t p most g (setN nd i (some { n with L := x.Y, C := n.C + 1 })) T tm (.slice ha l.length hc') l bx x) := HR.out.turnedB HI.out.1 HI.out.2.2.1 hT1 ho1 rfl rfl; have hcd := coded_nil w1; clear ho1 hT1 htc)
          | (go_at_call 13; go_must (refine hcd.mono ?_); rintro e w2 ⟨rfl, rfl⟩; have y1 := HR1.out.x.c1; have y2 := HR1.out.x.c2; have y3 := HR1.out.x.c3; have y4 := HR1.out.x.c4; obtain ⟨b, cap', e, hcs, hfz, hbl⟩ := spot_cells HR1.out.l5.here HS.out; simp only [Value.slice.injEq, true_and] at e; obtain ⟨rfl, rfl⟩ := e; have s2 : w1.cell? ⟨b, r * 9 + 2, none⟩ = some (.int .i64 s.K) := hcs 2 (by decide); have s3 : w1.cell? ⟨b, r * 9 + 3, none⟩ = some (.int .i64 s.Z) := hcs 3 (by decide); have s4 : w1.cell? ⟨b, r * 9 + 4, none⟩ = some (.int .i64 s.L) := hcs 4 (by decide); have s5 : w1.cell? ⟨b, r * 9 + 5, none⟩ = some (.int .i64 s.C) := hcs 5 (by decide); have s6 : w1.cell? ⟨b, r * 9 + 6, none⟩ = some (.int .i64 s.UN) := hcs 6 (by decide); have s7 : w1.cell? ⟨b, r * 9 + 7, none⟩ = some (.int .i64 s.UG) := hcs 7 (by decide); rw [hk] at s2; have hbx : b ≠ bx := fun e => HR1.out.xH (by rw [e]; rfl); clear hcs hcd)
          | go_in)
        obtain ⟨hi, e1, hnd, hfit⟩ := HI.out
        have HR2 := (HR1.out.putN (s' := { s with L := x.Y }) (v := .int .i64 x.Y) (j := 4) rfl HS.out (by decide) rfl).putA (s' := { s with L := x.Y, C := s.C + 1 }) (v := .int .i64 (s.C + 1)) (j := 5) rfl HS.out (by decide) rfl
        exact HK.out _ _ (TailIn.mk (l := l.set r { s with L := x.Y, C := s.C + 1 }) (HA.out.turn HS.out e1 hnd ⟨rfl, rfl⟩ (hfit.setFile hk x.Y)) (by rw [List.length_set]; exact HR2) rfl rfl rfl rfl rfl (by rw [List.length_set]; rfl) rfl rfl)
      · have htc := tset_dir w t p most i g nd n x.X x.Y x.N x.G HR.out.l5.tab hnd (by omega) (hfit.K.trans hk) (by have := hfit.C; omega)
        rw [← e1, ← e2, hN, hG] at htc
        clear hi e1 e2 hnd hfit hs hN hG hX
        go_wp2_with (first
          | (go_at_call 16; go_must (refine htc.mono ?_); rintro e w1 ⟨rfl, hT1, ho1⟩; have HR1 : Hid (Rnd W w1 W.heap.size t p most g (setN nd i (some { n with Z := x.X, UN := x.N, UG := x.G, L := x.Y, C := n.C + 1 })) T tm (.slice ha l.length hc') l bx x) := HR.out.turnedB HI.out.1 HI.out.2.2.1 hT1 ho1 rfl rfl; have hcd := coded_nil w1; clear ho1 hT1 htc)
          | (go_at_call 13; go_must (refine hcd.mono ?_); rintro e w2 ⟨rfl, rfl⟩; have y1 := HR1.out.x.c1; have y2 := HR1.out.x.c2; have y3 := HR1.out.x.c3; have y4 := HR1.out.x.c4; obtain ⟨b, cap', e, hcs, hfz, hbl⟩ := spot_cells HR1.out.l5.here HS.out; simp only [Value.slice.injEq, true_and] at e; obtain ⟨rfl, rfl⟩ := e; have s2 : w1.cell? ⟨b, r * 9 + 2, none⟩ = some (.int .i64 s.K) := hcs 2 (by decide); have s3 : w1.cell? ⟨b, r * 9 + 3, none⟩ = some (.int .i64 s.Z) := hcs 3 (by decide); have s4 : w1.cell? ⟨b, r * 9 + 4, none⟩ = some (.int .i64 s.L) := hcs 4 (by decide); have s5 : w1.cell? ⟨b, r * 9 + 5, none⟩ = some (.int .i64 s.C) := hcs 5 (by decide); have s6 : w1.cell? ⟨b, r * 9 + 6, none⟩ = some (.int .i64 s.UN) := hcs 6 (by decide); have s7 : w1.cell? ⟨b, r * 9 + 7, none⟩ = some (.int .i64 s.UG) := hcs 7 (by decide); rw [hk] at s2; have hbx : b ≠ bx := fun e => HR1.out.xH (by rw [e]; rfl); clear hcs hcd)
          | go_in)
        obtain ⟨hi, e1, hnd, hfit⟩ := HI.out
        have HR2 := (HR1.out.putN (s' := { s with L := x.Y }) (v := .int .i64 x.Y) (j := 4) rfl HS.out (by decide) rfl).putA (s' := { s with L := x.Y, C := s.C + 1 }) (v := .int .i64 (s.C + 1)) (j := 5) rfl HS.out (by decide) rfl
        have HR3 := ((HR2.putA (s' := { s with L := x.Y, C := s.C + 1, Z := x.X }) (v := .int .i64 x.X) (j := 3) rfl HS.out (by decide) rfl).putA (s' := { s with L := x.Y, C := s.C + 1, Z := x.X, UN := x.N }) (v := .int .i64 x.N) (j := 6) rfl HS.out (by decide) rfl).putA (s' := { s with L := x.Y, C := s.C + 1, Z := x.X, UN := x.N, UG := x.G }) (v := .int .i64 x.G) (j := 7) rfl HS.out (by decide) rfl
        exact HK.out _ _ (TailIn.mk (l := l.set r { s with L := x.Y, C := s.C + 1, Z := x.X, UN := x.N, UG := x.G }) (HA.out.turn HS.out e1 hnd ⟨rfl, rfl⟩ (hfit.setDir hk x.X x.Y x.N x.G)) (by rw [List.length_set]; exact HR3) rfl rfl rfl rfl rfl (by rw [List.length_set]; rfl) rfl rfl)
end Go.Proofs.YtohbdpefcmibeacDoor
