/- NodesActs: bytes are written into a file. -/
import Derived.Test.YtohbdpefcmibeacDoorH18
namespace Go.Proofs.YtohbdpefcmibeacDoor
open Go Go.RowKit Go.Deep Go.Maps

set_option maxRecDepth 100000 in
set_option maxHeartbeats 4000000 in
theorem arm_write (W : World) (A : Nat → Addr) (E : Env) (j bx : Nat) (x : NActM) (hE : Errs W A) (hm : E.most ≤ 300) (hj : j < 60) (c : Code) (hc : piece 66 (Tryd.f4.body.getD .skip) = some c) (K : Act → World → Prop) (Q : Exit → Act → World → Prop) (hK : ∀ a w, TailIn W E j bx x a w → K a w) (hQ : ∀ a w, OutIn W E j a w → Q (.exit 1) a w)
    (w : World) (u : Nat → Value) (p : Row) (g tm : Nat → Nat) (nd : Nat → Option Nod) (l : List Spot) (ha : Option Addr) (hc' : Nat) (kk sv : Int) (hF : Fm E.most E.ab E.ao E.len E.cap E.t E.T u) (h9 : u 9 = .slice ha l.length hc') (h10 : u 10 = .int .i64 j) (h11 : u 11 = .pointer (some ⟨bx, 0, none⟩)) (h12 : u 12 = .int .i64 kk) (h14 : u 14 = .int .i64 sv)
    (hA : Agree E.most g tm nd l j) (hR : Rnd W w W.heap.size E.t p E.most g nd E.T tm (.slice ha l.length hc') l bx x) (hks : KSt l x.N x.G kk sv) : c.wp Tryd.prog (Exit.then K Q) (actU u) w := by
  cases hc.symm.trans (show piece 66 (Tryd.f4.body.getD .skip) = some _ from rfl)
  clear hc
  rw [act_open hF.s0 hF.s1 hF.s6 hF.s8 h9 h10 h11 h12 h14]
  have HE : Hid (Errs W A) := hE
  have HA : Hid (Agree E.most g tm nd l j) := hA
  have HR : Hid (Rnd W w W.heap.size E.t p E.most g nd E.T tm (.slice ha l.length hc') l bx x) := hR
  have HK : Hid (∀ a w, TailIn W E j bx x a w → K a w) := hK
  have hll := hA.len
  have HQ : Hid (∀ a w, OutIn W E j a w → Q (.exit 1) a w) := hQ
  clear hQ
  clear hE hA hR hK hF h9 h10 h11 h12 h14
  obtain ⟨most, ab, ao, len, cap, t, T⟩ := E
  simp only at HA HR hm HQ ⊢
  have x1 := HR.out.x.c1
  have x2 := HR.out.x.c2
  have x3 := HR.out.x.c3
  have x4 := HR.out.x.c4
  rcases hks with ⟨rfl, rfl, hno⟩ | ⟨r, s, rfl, rfl, hs, hN, hG⟩
  · have htc := tdata_stale w t p most g nd x.N x.G _ HR.out.l5.tab (HE.out.of_below HR.out.l5.below).stale (Stale.all (HA.out.stale hno) HR.out.l5.tab HR.out.l5.nle)
    unfold errV at htc
    clear hno
    go_wp2_with (first
      | (go_at_call 19; go_must (refine htc.mono ?_); rintro e w1 ⟨rfl, ho1⟩; have HR1 : Hid (Rnd W w1 W.heap.size t p most g nd T tm (.slice ha l.length hc') l bx x) := HR.out.only ho1; have hcd := coded_err A 9 (by decide) w1 (HE.out.of_below HR1.out.l5.below); clear ho1 htc)
      | (go_at_call 13; go_must (refine hcd.mono ?_); rintro e w2 ⟨rfl, hb2⟩; have HR2 : Hid (Rnd W w2 W.heap.size t p most g nd T tm (.slice ha l.length hc') l bx x) := HR1.out.only (Only.of_below hb2 []); clear hb2 hcd)
      | go_in)
    exact HQ.out _ _ (OutIn.mk (HA.out.mono (Nat.le_succ _)) HR2.out.l5 rfl rfl rfl rfl rfl rfl rfl)
  · obtain ⟨i, n, hi, e1, e2, hnd, hfit⟩ := HA.out.known hs
    have HI : Hid (i < most ∧ s.N = (i : Int) ∧ nd i = some n ∧ Fits s n j) := ⟨hi, e1, hnd, hfit⟩
    have HS : Hid (l[r]? = some s) := hs
    have hrl : r < l.length := (List.getElem?_eq_some_iff.1 hs).1
    rcases hfit.kind with hk | hk
    · have htc := tdata_ok w t p most i g nd n HR.out.l5.tab hnd (hfit.K.trans hk)
      rw [← e1, ← e2, hN, hG] at htc
      have hF0 := hfit.F0
      have hF1 := hfit.F1
      have hff := hfit.file hk
      have hle : n.S.size ≤ 120 := by omega
      have HTW : Hid (∀ w1, Rnd W w1 W.heap.size t p most g nd T tm (.slice ha l.length hc') l bx x → Calls Tryd.prog 7 #[.pointer (some ⟨n.b, 6, none⟩), .int .i64 s.F, .string ⟨#[120, 121]⟩] w1 fun e w' => e = .returned .nilIface ∧ ∃ S' H' m', S'.size = n.S.size + 2 ∧ Rnd W w' W.heap.size t p most g (setN nd i (some { n with S := S', H := H', m := m' })) T tm (.slice ha l.length hc') l bx x) := fun w1 h1 => by
        have := twrite w1 t p most i g nd n n.S.size ⟨#[120, 121]⟩ h1.l5.tab hnd (by decide) (by show n.S.size + 2 ≤ 4096; omega)
        rw [← hff] at this
        refine this.mono ?_
        rintro e w' ⟨he, H', m', hT, ho, hsub⟩
        exact ⟨he, _, H', m', by rw [writeS_size]; show max n.S.size (n.S.size + 2) = _; omega, h1.turned hi hnd hT ho (fun k hk => hk) hsub⟩
      clear hi e1 e2 hnd hfit hs hN hG hff
      go_wp2_with (first
        | (go_at_call 19; go_must (refine htc.mono ?_); rintro e w1 ⟨rfl, ho1⟩; have HR1 : Hid (Rnd W w1 W.heap.size t p most g nd T tm (.slice ha l.length hc') l bx x) := HR.out.only ho1; obtain ⟨b, cap', e, hcs, hfz, hbl⟩ := spot_cells HR1.out.l5.here HS.out; simp only [Value.slice.injEq, true_and] at e; obtain ⟨rfl, rfl⟩ := e; have s2 : w1.cell? ⟨b, r * 9 + 2, none⟩ = some (.int .i64 s.K) := hcs 2 (by decide); have s8 : w1.cell? ⟨b, r * 9 + 8, none⟩ = some (.int .i64 s.F) := hcs 8 (by decide); rw [hk] at s2; have htw := HTW.out w1 HR1.out; clear ho1 htc hcs)
        | (go_at_call 7; go_must (refine htw.mono ?_); rintro e w2 ⟨rfl, S', H', m', hS', hR2⟩; have HR2 : Hid (Rnd W w2 W.heap.size t p most g (setN nd i (some { n with S := S', H := H', m := m' })) T tm (.slice (some ⟨b, 0, none⟩) l.length hc') l bx x) := hR2; obtain ⟨b', cap', e, hcs, hfz2, hbl2⟩ := spot_cells HR2.out.l5.here HS.out; simp only [Value.slice.injEq, Option.some.injEq, Addr.mk.injEq, true_and, and_true] at e; obtain ⟨rfl, rfl⟩ := e; have q8 : w2.cell? ⟨b, r * 9 + 8, none⟩ = some (.int .i64 s.F) := hcs 8 (by decide); clear hcs hR2 htw)
        | go_in)
      obtain ⟨hi, e1, hnd, hfit⟩ := HI.out
      have HR3 := HR2.out.putN (s' := { s with F := s.F + 2 }) (v := .int .i64 (s.F + 2)) (j := 8) rfl HS.out (by decide) rfl
      exact HK.out _ _ (TailIn.mk (l := l.set r { s with F := s.F + 2 }) (HA.out.turn HS.out e1 hnd ⟨rfl, rfl⟩ (hfit.wrote hk S' H' m' hS')) (by rw [List.length_set]; exact HR3) rfl rfl rfl rfl rfl (by rw [List.length_set]; rfl) rfl rfl)
    · have htc := tdata_dir w t p most i g nd n _ HR.out.l5.tab ((HE.out.of_below HR.out.l5.below).cell 7 (by decide)) hnd (hfit.K.trans hk)
      rw [← e1, ← e2, hN, hG] at htc
      clear hi e1 e2 hnd hfit hs hN hG
      go_wp2_with (first
        | (go_at_call 19; go_must (refine htc.mono ?_); rintro e w1 ⟨rfl, ho1⟩; have HR1 : Hid (Rnd W w1 W.heap.size t p most g nd T tm (.slice ha l.length hc') l bx x) := HR.out.only ho1; obtain ⟨b, cap', e, hcs, hfz, hbl⟩ := spot_cells HR1.out.l5.here HS.out; simp only [Value.slice.injEq, true_and] at e; obtain ⟨rfl, rfl⟩ := e; have s2 : w1.cell? ⟨b, r * 9 + 2, none⟩ = some (.int .i64 s.K) := hcs 2 (by decide); rw [hk] at s2; have hcd := coded_err A 7 (by decide) w1 (HE.out.of_below HR1.out.l5.below); clear ho1 htc hcs)
        | (go_at_call 13; go_must (refine hcd.mono ?_); rintro e w2 ⟨rfl, hb2⟩; have HR2 : Hid (Rnd W w2 W.heap.size t p most g nd T tm (.slice (some ⟨b, 0, none⟩) l.length hc') l bx x) := HR1.out.only (Only.of_below hb2 []); clear hb2 hcd)
        | go_in)
      exact HQ.out _ _ (OutIn.mk (HA.out.mono (Nat.le_succ _)) HR2.out.l5 rfl rfl rfl rfl rfl rfl rfl)
end Go.Proofs.YtohbdpefcmibeacDoor
