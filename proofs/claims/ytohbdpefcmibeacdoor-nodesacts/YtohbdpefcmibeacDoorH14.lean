/- NodesActs: behind the switch, where the act's handle stands for nothing. -/
import Derived.Test.YtohbdpefcmibeacDoorH13
namespace Go.Proofs.YtohbdpefcmibeacDoor
open Go Go.RowKit Go.Deep Go.Maps

/-- Six numbers in a row of their own. -/
structure Six (w : World) (b : Nat) (K Z L C UN UG : Int) : Prop where
  c0 : w.cell? ⟨b, 0, none⟩ = some (.int .i64 K)
  c1 : w.cell? ⟨b, 1, none⟩ = some (.int .i64 Z)
  c2 : w.cell? ⟨b, 2, none⟩ = some (.int .i64 L)
  c3 : w.cell? ⟨b, 3, none⟩ = some (.int .i64 C)
  c4 : w.cell? ⟨b, 4, none⟩ = some (.int .i64 UN)
  c5 : w.cell? ⟨b, 5, none⟩ = some (.int .i64 UG)
  fz : ∀ o, w.frozen? ⟨b, o, none⟩ = false
theorem Six.kept {w w' : World} {b : Nat} {K Z L C UN UG : Int} {M : List Nat} (h : Six w b K Z L C UN UG) (ho : Only M w w') (hn : b ∉ M) : Six w' b K Z L C UN UG := by
  have hb : b < w.heap.size := lt_of_cell h.c0
  exact ⟨(ho.cell (p := ⟨b, 0, none⟩) hb hn).trans h.c0, (ho.cell (p := ⟨b, 1, none⟩) hb hn).trans h.c1, (ho.cell (p := ⟨b, 2, none⟩) hb hn).trans h.c2, (ho.cell (p := ⟨b, 3, none⟩) hb hn).trans h.c3, (ho.cell (p := ⟨b, 4, none⟩) hb hn).trans h.c4, (ho.cell (p := ⟨b, 5, none⟩) hb hn).trans h.c5, fun o => (ho.frozen (p := ⟨b, o, none⟩) hb hn).trans (h.fz o)⟩
theorem Six.made (w : World) (K Z L C UN UG : Int) (ty : TypeId) : Six (w.alloc (.cells #[.int .i64 K, .int .i64 Z, .int .i64 L, .int .i64 C, .int .i64 UN, .int .i64 UG] ty)) w.heap.size K Z L C UN UG := by
  obtain ⟨a, b, c, d, e, f, g, _⟩ := own_six (w := w) (B := w.heap.size) (ty := ty) (Only.refl [] (w.alloc (.cells #[.int .i64 K, .int .i64 Z, .int .i64 L, .int .i64 C, .int .i64 UN, .int .i64 UG] ty))) rfl
  exact ⟨a, b, c, d, e, f, g⟩
set_option maxRecDepth 100000 in
set_option maxHeartbeats 4000000 in
theorem tail_none (W : World) (A : Nat → Addr) (E : Env) (j bx : Nat) (x : NActM) (hE : Errs W A) (hm : E.most ≤ 300) (hj : j < 60) (c : Code) (hc : piece 76 (Tryd.f4.body.getD .skip) = some c) (K : Act → World → Prop) (Q : Exit → Act → World → Prop) (hK : ∀ a w, OutIn W E j a w → K a w)
    (w : World) (u : Nat → Value) (p : Row) (g tm : Nat → Nat) (nd : Nat → Option Nod) (l : List Spot) (ha : Option Addr) (hc' : Nat) (hF : Fm E.most E.ab E.ao E.len E.cap E.t E.T u) (h9 : u 9 = .slice ha l.length hc') (h10 : u 10 = .int .i64 j) (h11 : u 11 = .pointer (some ⟨bx, 0, none⟩))
    (hA : Agree E.most g tm nd l (j + 1)) (hR : Rnd W w W.heap.size E.t p E.most g nd E.T tm (.slice ha l.length hc') l bx x) (hno : ∀ s, s ∈ l → ¬ (s.N = x.N ∧ s.G = x.G)) : c.wp Tryd.prog (Exit.then K Q) (actU u) w := by
  cases hc.symm.trans (show piece 76 (Tryd.f4.body.getD .skip) = some _ from rfl)
  clear hc
  rw [act_open hF.s0 hF.s1 hF.s6 hF.s8 h9 h10 h11 rfl rfl]
  have HE : Hid (Errs W A) := hE
  have HA : Hid (Agree E.most g tm nd l (j + 1)) := hA
  have HR : Hid (Rnd W w W.heap.size E.t p E.most g nd E.T tm (.slice ha l.length hc') l bx x) := hR
  have HNO : Hid (∀ s, s ∈ l → ¬ (s.N = x.N ∧ s.G = x.G)) := hno
  have HK : Hid (∀ a w, OutIn W E j a w → K a w) := hK
  have hll := hA.len
  have hcn := tcount w E.t p E.most g nd hR.l5.tab (Nat.le_trans hR.l5.nle (by omega))
  rw [hR.l5.tab.count hR.l5.nle, show countTo nd E.most = l.length from hA.count] at hcn
  clear hE hA hR hno hK hF h9 h10 h11
  obtain ⟨most, ab, ao, len, cap, t, T⟩ := E
  simp only at hcn HA HR hm ⊢
  go_wp2_with (first
    | (go_at_call 20; go_must (refine hcn.mono ?_); rintro e w1 ⟨rfl, ho1⟩; go_must (have HR1 : Hid (Rnd W w1 W.heap.size t p most g nd T tm (.slice ha l.length hc') l bx x) := HR.out.only ho1); have x1 := HR1.out.x.c1; have x2 := HR1.out.x.c2; go_must (have hat := tattr_stale w1 t p most g nd x.N x.G _ HR1.out.l5.tab (HE.out.of_below HR1.out.l5.below).stale (Stale.all (HA.out.stale HNO.out) HR1.out.l5.tab HR1.out.l5.nle)); unfold errV attrV at hat; clear ho1 hcn)
    | (go_at_call 21; go_must (refine hat.mono ?_); rintro e w2 ⟨rfl, ho2⟩; have HR2 : Hid (Rnd W w2 W.heap.size t p most g nd T tm (.slice ha l.length hc') l bx x) := HR1.out.only ho2; clear ho2 hat x1 x2)
    | go_in)
  have HR3 : Hid (Rnd W ((w2.alloc (.cells #[.int .i64 0, .int .i64 0, .int .i64 0, .int .i64 0, .int .i64 0, .int .i64 0] 47)).alloc (.cells #[.int .i64 0, .int .i64 0, .int .i64 0, .int .i64 0, .int .i64 0, .int .i64 0] 47)) W.heap.size t p most g nd T tm (.slice ha l.length hc') l bx x) := HR2.out.only (((Only.refl _ _).alloc _).alloc _)
  have S1 : Six ((w2.alloc (.cells #[.int .i64 0, .int .i64 0, .int .i64 0, .int .i64 0, .int .i64 0, .int .i64 0] 47)).alloc (.cells #[.int .i64 0, .int .i64 0, .int .i64 0, .int .i64 0, .int .i64 0, .int .i64 0] 47)) w2.heap.size 0 0 0 0 0 0 := (Six.made w2 0 0 0 0 0 0 _).kept ((Only.refl [] _).alloc _) (by simp)
  have S2 := Six.made (w2.alloc (.cells #[.int .i64 0, .int .i64 0, .int .i64 0, .int .i64 0, .int .i64 0, .int .i64 0] 47)) 0 0 0 0 0 0 47
  have hsz : (w2.alloc (.cells #[.int .i64 0, .int .i64 0, .int .i64 0, .int .i64 0, .int .i64 0, .int .i64 0] 47)).heap.size = w2.heap.size + 1 := by simp
  rw [hsz] at S2
  have HS : Hid (Six ((w2.alloc (.cells #[.int .i64 0, .int .i64 0, .int .i64 0, .int .i64 0, .int .i64 0, .int .i64 0] 47)).alloc (.cells #[.int .i64 0, .int .i64 0, .int .i64 0, .int .i64 0, .int .i64 0, .int .i64 0] 47)) w2.heap.size 0 0 0 0 0 0 ∧ Six ((w2.alloc (.cells #[.int .i64 0, .int .i64 0, .int .i64 0, .int .i64 0, .int .i64 0, .int .i64 0] 47)).alloc (.cells #[.int .i64 0, .int .i64 0, .int .i64 0, .int .i64 0, .int .i64 0, .int .i64 0] 47)) (w2.heap.size + 1) 0 0 0 0 0 0) := ⟨S1, S2⟩
  clear S1 S2 hsz HR2 HR1 HR
  generalize (w2.alloc (.cells #[.int .i64 0, .int .i64 0, .int .i64 0, .int .i64 0, .int .i64 0, .int .i64 0] 47)).alloc (.cells #[.int .i64 0, .int .i64 0, .int .i64 0, .int .i64 0, .int .i64 0, .int .i64 0] 47) = w3 at HR3 HS ⊢
  generalize w2.heap.size = b1 at HS ⊢
  go_loopw [27, 28] (fun e i wx => ∃ q : Nat, i = .int .i64 q ∧ e = .int .i64 10 ∧ q ≤ l.length ∧ Only [] w3 wx) (fun _ i _ => l.length - (intOf i).toNat)
  case atStart => exact ⟨0, rfl, rfl, Nat.zero_le _, Only.refl _ _⟩
  case round =>
    obtain ⟨q, rfl, rfl, hq, hox⟩ := hrel
    have HR4 : Hid (Rnd W wr W.heap.size t p most g nd T tm (.slice ha l.length hc') l bx x) := HR3.out.only hox
    have HOX : Hid (Only [] w3 wr) := hox
    clear hox
    by_cases hql : q < l.length
    · obtain ⟨s, hs⟩ : ∃ s, l[q]? = some s := ⟨_, List.getElem?_eq_getElem hql⟩
      obtain ⟨b, cap', e, hcs, _, hbl⟩ := spot_cells HR4.out.l5.here hs
      simp only [Value.slice.injEq, true_and] at e
      obtain ⟨rfl, rfl⟩ := e
      have s0 : wr.cell? ⟨b, q * 9, none⟩ = some (.int .i64 s.N) := hcs 0 (by decide)
      have s1 : wr.cell? ⟨b, q * 9 + 1, none⟩ = some (.int .i64 s.G) := hcs 1 (by decide)
      have x1 := HR4.out.x.c1
      have x2 := HR4.out.x.c2
      have hmis := HNO.out s (List.mem_of_getElem? hs)
      clear hcs hs
      by_cases hN : s.N = x.N
      · have hb : (s.G == x.G) = false := beq_eq_false_iff_ne.2 (fun h => hmis ⟨hN, h⟩)
        rw [hN] at s0
        clear hmis
        go_wp2
        go_big_quiet (fail)
        go_wp2
        go_roundw
        case rel => exact ⟨q + 1, by go_num, rfl, by omega, HOX.out.drewN _⟩
        case measure => simp [intOf]; omega
      · have hb : (s.N == x.N) = false := beq_eq_false_iff_ne.2 hN
        clear hmis
        go_wp2
        go_big_quiet (fail)
        go_wp2
        go_roundw
        case rel => exact ⟨q + 1, by go_num, rfl, by omega, HOX.out.drewN _⟩
        case measure => simp [intOf]; omega
    · obtain rfl : q = l.length := by omega
      have hcd := coded_err A 9 (by decide) wr (HE.out.of_below HR4.out.l5.below)
      have HS4 : Hid (Six wr b1 0 0 0 0 0 0 ∧ Six wr (b1 + 1) 0 0 0 0 0 0) := ⟨HS.out.1.kept HOX.out (by simp), HS.out.2.kept HOX.out (by simp)⟩
      clear HS
      go_wp2_with (first
        | (go_at_call 13; go_must (refine hcd.mono ?_); rintro e w5 ⟨rfl, hb5⟩; have ho5 : Only [] wr w5 := Only.of_below hb5 []; have HR5 : Hid (Rnd W w5 W.heap.size t p most g nd T tm (.slice ha l.length hc') l bx x) := HR4.out.only ho5; obtain ⟨y0, y1, y2, y3, y4, y5, _⟩ := HS4.out.1.kept ho5 (by simp); obtain ⟨z0, z1, z2, z3, z4, z5, _⟩ := HS4.out.2.kept ho5 (by simp); clear hb5 ho5 hcd)
        | go_in)
      exact HK.out _ _ (OutIn.mk HA.out HR5.out.l5 rfl rfl rfl rfl rfl rfl rfl)
end Go.Proofs.YtohbdpefcmibeacDoor
