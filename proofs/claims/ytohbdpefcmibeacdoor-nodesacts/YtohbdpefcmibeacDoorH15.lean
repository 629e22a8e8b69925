/- NodesActs: behind the switch, where the act's handle stands for a node. -/
import Derived.Test.YtohbdpefcmibeacDoorH14
namespace Go.Proofs.YtohbdpefcmibeacDoor
open Go Go.RowKit Go.Deep Go.Maps

theorem Six.put0 {w : World} {b : Nat} {K Z L C UN UG : Int} (h : Six w b K Z L C UN UG) (z : Int) : Six (w.setCell ⟨b, 0, none⟩ (.int .i64 z)) b z Z L C UN UG := ⟨World.cell?_setCell_same _ _ _ h.c0, (World.cell?_setCell_other _ _ _ _ (by simp)).trans h.c1, (World.cell?_setCell_other _ _ _ _ (by simp)).trans h.c2, (World.cell?_setCell_other _ _ _ _ (by simp)).trans h.c3, (World.cell?_setCell_other _ _ _ _ (by simp)).trans h.c4, (World.cell?_setCell_other _ _ _ _ (by simp)).trans h.c5, fun o => (World.frozen?_setCell ..).trans (h.fz o)⟩
theorem Six.put1 {w : World} {b : Nat} {K Z L C UN UG : Int} (h : Six w b K Z L C UN UG) (z : Int) : Six (w.setCell ⟨b, 1, none⟩ (.int .i64 z)) b K z L C UN UG := ⟨(World.cell?_setCell_other _ _ _ _ (by simp)).trans h.c0, World.cell?_setCell_same _ _ _ h.c1, (World.cell?_setCell_other _ _ _ _ (by simp)).trans h.c2, (World.cell?_setCell_other _ _ _ _ (by simp)).trans h.c3, (World.cell?_setCell_other _ _ _ _ (by simp)).trans h.c4, (World.cell?_setCell_other _ _ _ _ (by simp)).trans h.c5, fun o => (World.frozen?_setCell ..).trans (h.fz o)⟩
theorem Six.put2 {w : World} {b : Nat} {K Z L C UN UG : Int} (h : Six w b K Z L C UN UG) (z : Int) : Six (w.setCell ⟨b, 2, none⟩ (.int .i64 z)) b K Z z C UN UG := ⟨(World.cell?_setCell_other _ _ _ _ (by simp)).trans h.c0, (World.cell?_setCell_other _ _ _ _ (by simp)).trans h.c1, World.cell?_setCell_same _ _ _ h.c2, (World.cell?_setCell_other _ _ _ _ (by simp)).trans h.c3, (World.cell?_setCell_other _ _ _ _ (by simp)).trans h.c4, (World.cell?_setCell_other _ _ _ _ (by simp)).trans h.c5, fun o => (World.frozen?_setCell ..).trans (h.fz o)⟩
theorem Six.put3 {w : World} {b : Nat} {K Z L C UN UG : Int} (h : Six w b K Z L C UN UG) (z : Int) : Six (w.setCell ⟨b, 3, none⟩ (.int .i64 z)) b K Z L z UN UG := ⟨(World.cell?_setCell_other _ _ _ _ (by simp)).trans h.c0, (World.cell?_setCell_other _ _ _ _ (by simp)).trans h.c1, (World.cell?_setCell_other _ _ _ _ (by simp)).trans h.c2, World.cell?_setCell_same _ _ _ h.c3, (World.cell?_setCell_other _ _ _ _ (by simp)).trans h.c4, (World.cell?_setCell_other _ _ _ _ (by simp)).trans h.c5, fun o => (World.frozen?_setCell ..).trans (h.fz o)⟩
theorem Six.put4 {w : World} {b : Nat} {K Z L C UN UG : Int} (h : Six w b K Z L C UN UG) (z : Int) : Six (w.setCell ⟨b, 4, none⟩ (.int .i64 z)) b K Z L C z UG := ⟨(World.cell?_setCell_other _ _ _ _ (by simp)).trans h.c0, (World.cell?_setCell_other _ _ _ _ (by simp)).trans h.c1, (World.cell?_setCell_other _ _ _ _ (by simp)).trans h.c2, (World.cell?_setCell_other _ _ _ _ (by simp)).trans h.c3, World.cell?_setCell_same _ _ _ h.c4, (World.cell?_setCell_other _ _ _ _ (by simp)).trans h.c5, fun o => (World.frozen?_setCell ..).trans (h.fz o)⟩
theorem Six.put5 {w : World} {b : Nat} {K Z L C UN UG : Int} (h : Six w b K Z L C UN UG) (z : Int) : Six (w.setCell ⟨b, 5, none⟩ (.int .i64 z)) b K Z L C UN z := ⟨(World.cell?_setCell_other _ _ _ _ (by simp)).trans h.c0, (World.cell?_setCell_other _ _ _ _ (by simp)).trans h.c1, (World.cell?_setCell_other _ _ _ _ (by simp)).trans h.c2, (World.cell?_setCell_other _ _ _ _ (by simp)).trans h.c3, (World.cell?_setCell_other _ _ _ _ (by simp)).trans h.c4, World.cell?_setCell_same _ _ _ h.c5, fun o => (World.frozen?_setCell ..).trans (h.fz o)⟩
/-- The law's own answer, while the spots are looked through. -/
def AtIs (w : World) (b q r0 : Nat) (e : Int) (s : Spot) (zz : Int) : Prop := (q ≤ r0 ∧ e = 10 ∧ Six w b 0 0 0 0 0 0) ∨ (r0 < q ∧ e = 0 ∧ Six w b s.K zz s.L s.C s.UN s.UG)
theorem AtIs.before {w : World} {b q r0 : Nat} {e : Int} {s : Spot} {zz : Int} (h : AtIs w b q r0 e s zz) (hq : q ≤ r0) : e = 10 ∧ Six w b 0 0 0 0 0 0 := by
  rcases h with ⟨_, h1, h2⟩ | ⟨h, _⟩
  · exact ⟨h1, h2⟩
  · omega
theorem AtIs.behind {w : World} {b q r0 : Nat} {e : Int} {s : Spot} {zz : Int} (h : AtIs w b q r0 e s zz) (hq : r0 < q) : e = 0 ∧ Six w b s.K zz s.L s.C s.UN s.UG := by
  rcases h with ⟨h, _⟩ | ⟨_, h1, h2⟩
  · omega
  · exact ⟨h1, h2⟩
theorem AtIs.next {w w' : World} {b q r0 : Nat} {e : Int} {s : Spot} {zz : Int} (h : AtIs w b q r0 e s zz) (hq : q ≠ r0) (ho : Only [] w w') : AtIs w' b (q + 1) r0 e s zz := by
  rcases h with ⟨h, h1, h2⟩ | ⟨h, h1, h2⟩
  · exact Or.inl ⟨by omega, h1, h2.kept ho (by simp)⟩
  · exact Or.inr ⟨by omega, h1, h2.kept ho (by simp)⟩
set_option maxRecDepth 100000 in
set_option maxHeartbeats 4000000 in
theorem tail_found (W : World) (A : Nat → Addr) (E : Env) (j bx : Nat) (x : NActM) (hE : Errs W A) (hm : E.most ≤ 300) (hj : j < 60) (c : Code) (hc : piece 76 (Tryd.f4.body.getD .skip) = some c) (K : Act → World → Prop) (Q : Exit → Act → World → Prop) (hK : ∀ a w, OutIn W E j a w → K a w)
    (w : World) (u : Nat → Value) (p : Row) (g tm : Nat → Nat) (nd : Nat → Option Nod) (l : List Spot) (ha : Option Addr) (hc' : Nat) (hF : Fm E.most E.ab E.ao E.len E.cap E.t E.T u) (h9 : u 9 = .slice ha l.length hc') (h10 : u 10 = .int .i64 j) (h11 : u 11 = .pointer (some ⟨bx, 0, none⟩))
    (hA : Agree E.most g tm nd l (j + 1)) (hR : Rnd W w W.heap.size E.t p E.most g nd E.T tm (.slice ha l.length hc') l bx x) (r0 : Nat) (s : Spot) (hr : l[r0]? = some s) (hsN : s.N = x.N) (hsG : s.G = x.G) : c.wp Tryd.prog (Exit.then K Q) (actU u) w := by
  cases hc.symm.trans (show piece 76 (Tryd.f4.body.getD .skip) = some _ from rfl)
  clear hc
  rw [act_open hF.s0 hF.s1 hF.s6 hF.s8 h9 h10 h11 rfl rfl]
  have HE : Hid (Errs W A) := hE
  have HA : Hid (Agree E.most g tm nd l (j + 1)) := hA
  have HR : Hid (Rnd W w W.heap.size E.t p E.most g nd E.T tm (.slice ha l.length hc') l bx x) := hR
  have HS0 : Hid (l[r0]? = some s) := hr
  have HSG : Hid (s.N = x.N ∧ s.G = x.G) := ⟨hsN, hsG⟩
  have hr0 : r0 < l.length := (List.getElem?_eq_some_iff.1 hr).1
  have HK : Hid (∀ a w, OutIn W E j a w → K a w) := hK
  have hll := hA.len
  have hcn := tcount w E.t p E.most g nd hR.l5.tab (Nat.le_trans hR.l5.nle (by omega))
  rw [hR.l5.tab.count hR.l5.nle, show countTo nd E.most = l.length from hA.count] at hcn
  obtain ⟨i, n, hi, e1, e2, hnd, hfit⟩ := hA.known hr
  obtain ⟨zz, hzz⟩ : ∃ zz : Int, (s.K = 1 ∧ zz = s.F) ∨ (s.K = 2 ∧ zz = s.Z) := by
    rcases hfit.kind with h | h
    · exact ⟨_, Or.inl ⟨h, rfl⟩⟩
    · exact ⟨_, Or.inr ⟨h, rfl⟩⟩
  have HAT : Hid (∀ w1, Rnd W w1 W.heap.size E.t p E.most g nd E.T tm (.slice ha l.length hc') l bx x → Calls Tryd.prog 21 #[.pointer (some ⟨E.t, 0, none⟩), .agg #[.int .i64 x.N, .int .i64 x.G]] w1 fun e w' => e = .returned (.tuple #[.agg #[.int .i64 s.K, .int .i64 zz, .int .i64 s.L, .int .i64 s.C, .int .i64 s.UN, .int .i64 s.UG], .nilIface]) ∧ Only [] w1 w') := fun w1 h1 => by
    have := tattr_ok w1 E.t p E.most i g nd n zz h1.l5.tab hnd (by
      rw [hfit.K]
      rcases hzz with ⟨h, hz⟩ | ⟨h, hz⟩
      · exact Or.inl ⟨h, hz.trans (hfit.file h)⟩
      · exact Or.inr ⟨h, hz.trans (hfit.dir h).symm⟩)
    rw [← e1, ← e2, hsN, hsG, hfit.K, hfit.L, hfit.C, hfit.UN, hfit.UG] at this
    exact this
  have HZZ : Hid ((s.K = 1 ∧ zz = s.F) ∨ (s.K = 2 ∧ zz = s.Z)) := hzz
  clear hE hA hR hK hF h9 h10 h11 hr hsN hsG hi e1 e2 hnd hfit hzz
  obtain ⟨most, ab, ao, len, cap, t, T⟩ := E
  simp only at hcn HA HR hm HAT ⊢
  go_wp2_with (first
    | (go_at_call 20; go_must (refine hcn.mono ?_); rintro e w1 ⟨rfl, ho1⟩; have HR1 : Hid (Rnd W w1 W.heap.size t p most g nd T tm (.slice ha l.length hc') l bx x) := HR.out.only ho1; have x1 := HR1.out.x.c1; have x2 := HR1.out.x.c2; have hat := HAT.out w1 HR1.out; clear ho1 hcn)
    | (go_at_call 21; go_must (refine hat.mono ?_); rintro e w2 ⟨rfl, ho2⟩; have HR2 : Hid (Rnd W w2 W.heap.size t p most g nd T tm (.slice ha l.length hc') l bx x) := HR1.out.only ho2; clear ho2 hat x1 x2)
    | go_in)
  have HO3 : Hid (Only [] w2 ((w2.alloc (.cells #[.int .i64 s.K, .int .i64 zz, .int .i64 s.L, .int .i64 s.C, .int .i64 s.UN, .int .i64 s.UG] 47)).alloc (.cells #[.int .i64 0, .int .i64 0, .int .i64 0, .int .i64 0, .int .i64 0, .int .i64 0] 47))) := ((Only.refl _ _).alloc _).alloc _
  have S1 : Six ((w2.alloc (.cells #[.int .i64 s.K, .int .i64 zz, .int .i64 s.L, .int .i64 s.C, .int .i64 s.UN, .int .i64 s.UG] 47)).alloc (.cells #[.int .i64 0, .int .i64 0, .int .i64 0, .int .i64 0, .int .i64 0, .int .i64 0] 47)) w2.heap.size s.K zz s.L s.C s.UN s.UG := (Six.made w2 s.K zz s.L s.C s.UN s.UG _).kept ((Only.refl [] _).alloc _) (by simp)
  have S2 := Six.made (w2.alloc (.cells #[.int .i64 s.K, .int .i64 zz, .int .i64 s.L, .int .i64 s.C, .int .i64 s.UN, .int .i64 s.UG] 47)) 0 0 0 0 0 0 47
  have hsz : (w2.alloc (.cells #[.int .i64 s.K, .int .i64 zz, .int .i64 s.L, .int .i64 s.C, .int .i64 s.UN, .int .i64 s.UG] 47)).heap.size = w2.heap.size + 1 := by simp
  rw [hsz] at S2
  have HS1 : Hid (Six ((w2.alloc (.cells #[.int .i64 s.K, .int .i64 zz, .int .i64 s.L, .int .i64 s.C, .int .i64 s.UN, .int .i64 s.UG] 47)).alloc (.cells #[.int .i64 0, .int .i64 0, .int .i64 0, .int .i64 0, .int .i64 0, .int .i64 0] 47)) w2.heap.size s.K zz s.L s.C s.UN s.UG) := S1
  have HS2 : Hid (Six ((w2.alloc (.cells #[.int .i64 s.K, .int .i64 zz, .int .i64 s.L, .int .i64 s.C, .int .i64 s.UN, .int .i64 s.UG] 47)).alloc (.cells #[.int .i64 0, .int .i64 0, .int .i64 0, .int .i64 0, .int .i64 0, .int .i64 0] 47)) (w2.heap.size + 1) 0 0 0 0 0 0) := S2
  clear S1 S2 hsz HR1 HR HAT
  generalize ((w2.alloc (.cells #[.int .i64 s.K, .int .i64 zz, .int .i64 s.L, .int .i64 s.C, .int .i64 s.UN, .int .i64 s.UG] 47)).alloc (.cells #[.int .i64 0, .int .i64 0, .int .i64 0, .int .i64 0, .int .i64 0, .int .i64 0] 47)) = w3 at HO3 HS1 HS2 ⊢
  go_loopw [27, 28] (fun e i wx => ∃ (q : Nat) (ev : Int), i = .int .i64 q ∧ e = .int .i64 ev ∧ q ≤ l.length ∧ Only [] w2 wx ∧ Six wx w2.heap.size s.K zz s.L s.C s.UN s.UG ∧ AtIs wx (w2.heap.size + 1) q r0 ev s zz) (fun _ i _ => l.length - (intOf i).toNat)
  case atStart => exact ⟨0, 10, rfl, rfl, Nat.zero_le _, HO3.out, HS1.out, Or.inl ⟨Nat.zero_le _, rfl, HS2.out⟩⟩
  case round =>
    obtain ⟨q, ev, rfl, rfl, hq, hox, hsx, hat⟩ := hrel
    have HR4 : Hid (Rnd W wr W.heap.size t p most g nd T tm (.slice ha l.length hc') l bx x) := HR2.out.only hox
    have HOX : Hid (Only [] w2 wr) := hox
    have HSX : Hid (Six wr w2.heap.size s.K zz s.L s.C s.UN s.UG) := hsx
    clear hox hsx HO3 HS1 HS2
    by_cases hql : q < l.length
    · obtain ⟨s', hs'⟩ : ∃ s, l[q]? = some s := ⟨_, List.getElem?_eq_getElem hql⟩
      obtain ⟨b, cap', e, hcs, _, hbl⟩ := spot_cells HR4.out.l5.here hs'
      simp only [Value.slice.injEq, true_and] at e
      obtain ⟨rfl, rfl⟩ := e
      have s0 : wr.cell? ⟨b, q * 9, none⟩ = some (.int .i64 s'.N) := hcs 0 (by decide)
      have s1 : wr.cell? ⟨b, q * 9 + 1, none⟩ = some (.int .i64 s'.G) := hcs 1 (by decide)
      have x1 := HR4.out.x.c1
      have x2 := HR4.out.x.c2
      by_cases hqr : q = r0
      · subst hqr
        have es := HS0.out.symm.trans hs'
        cases es
        have s2 : wr.cell? ⟨b, q * 9 + 2, none⟩ = some (.int .i64 s.K) := hcs 2 (by decide)
        have s3 : wr.cell? ⟨b, q * 9 + 3, none⟩ = some (.int .i64 s.Z) := hcs 3 (by decide)
        have s4 : wr.cell? ⟨b, q * 9 + 4, none⟩ = some (.int .i64 s.L) := hcs 4 (by decide)
        have s5 : wr.cell? ⟨b, q * 9 + 5, none⟩ = some (.int .i64 s.C) := hcs 5 (by decide)
        have s6 : wr.cell? ⟨b, q * 9 + 6, none⟩ = some (.int .i64 s.UN) := hcs 6 (by decide)
        have s7 : wr.cell? ⟨b, q * 9 + 7, none⟩ = some (.int .i64 s.UG) := hcs 7 (by decide)
        have s8 : wr.cell? ⟨b, q * 9 + 8, none⟩ = some (.int .i64 s.F) := hcs 8 (by decide)
        obtain ⟨rfl, z6⟩ : ev = 10 ∧ Six wr (w2.heap.size + 1) 0 0 0 0 0 0 := hat.before (Nat.le_refl _)
        have HZ6 : Hid (Six wr (w2.heap.size + 1) 0 0 0 0 0 0) := z6
        obtain ⟨z0, z1, z2, z3, z4, z5, zf⟩ := z6
        have hbn : b ≠ w2.heap.size + 1 := fun e => by have h1 := (HR2.out.l5.here.lt b rfl).2; omega
        rw [HSG.out.1] at s0
        rw [HSG.out.2] at s1
        clear hcs hs' hat
        rcases HZZ.out with ⟨hk, hz⟩ | ⟨hk, hz⟩
        · rw [hk] at s2
          have HZ1 : Hid (zz = s.F) := hz
          clear hz
          go_wp2
          go_big_quiet (fail)
          go_wp2
          go_roundw
          case rel =>
            have o0 : Only [w2.heap.size + 1] wr (wr.drewN nq) := (Only.refl _ _).drewN _
            have o : Only [w2.heap.size + 1] wr _ := ((((((o0.setCell (p := ⟨w2.heap.size + 1, 0, none⟩) (Or.inl (by simp)) (.int .i64 1)).setCell (p := ⟨w2.heap.size + 1, 1, none⟩) (Or.inl (by simp)) (.int .i64 s.Z)).setCell (p := ⟨w2.heap.size + 1, 2, none⟩) (Or.inl (by simp)) (.int .i64 s.L)).setCell (p := ⟨w2.heap.size + 1, 3, none⟩) (Or.inl (by simp)) (.int .i64 s.C)).setCell (p := ⟨w2.heap.size + 1, 4, none⟩) (Or.inl (by simp)) (.int .i64 s.UN)).setCell (p := ⟨w2.heap.size + 1, 5, none⟩) (Or.inl (by simp)) (.int .i64 s.UG)).setCell (p := ⟨w2.heap.size + 1, 1, none⟩) (Or.inl (by simp)) (.int .i64 s.F)
            have S := (((((((HZ6.out.kept ((Only.refl [] _).drewN nq) (by simp)).put0 1).put1 s.Z).put2 s.L).put3 s.C).put4 s.UN).put5 s.UG).put1 s.F
            refine ⟨q + 1, 0, by go_num, rfl, by omega, HOX.out.trans o (fun i hi => Or.inr (by simp at hi; omega)), HSX.out.kept o (by simp), Or.inr ⟨by omega, rfl, ?_⟩⟩
            rw [hk, HZ1.out]
            exact S
          case measure => simp [intOf]; omega
        · rw [hk] at s2
          have HZ1 : Hid (zz = s.Z) := hz
          clear hz
          go_wp2
          go_big_quiet (fail)
          go_wp2
          go_roundw
          case rel =>
            have o0 : Only [w2.heap.size + 1] wr (wr.drewN nq) := (Only.refl _ _).drewN _
            have o : Only [w2.heap.size + 1] wr _ := ((((((o0.setCell (p := ⟨w2.heap.size + 1, 0, none⟩) (Or.inl (by simp)) (.int .i64 2)).setCell (p := ⟨w2.heap.size + 1, 1, none⟩) (Or.inl (by simp)) (.int .i64 s.Z)).setCell (p := ⟨w2.heap.size + 1, 2, none⟩) (Or.inl (by simp)) (.int .i64 s.L)).setCell (p := ⟨w2.heap.size + 1, 3, none⟩) (Or.inl (by simp)) (.int .i64 s.C)).setCell (p := ⟨w2.heap.size + 1, 4, none⟩) (Or.inl (by simp)) (.int .i64 s.UN)).setCell (p := ⟨w2.heap.size + 1, 5, none⟩) (Or.inl (by simp)) (.int .i64 s.UG))
            have S := ((((((HZ6.out.kept ((Only.refl [] _).drewN nq) (by simp)).put0 2).put1 s.Z).put2 s.L).put3 s.C).put4 s.UN).put5 s.UG
            refine ⟨q + 1, 0, by go_num, rfl, by omega, HOX.out.trans o (fun i hi => Or.inr (by simp at hi; omega)), HSX.out.kept o (by simp), Or.inr ⟨by omega, rfl, ?_⟩⟩
            rw [hk, HZ1.out]
            exact S
          case measure => simp [intOf]; omega
      · have hb : (s'.N == x.N) = false := beq_eq_false_iff_ne.2 (fun h => hqr (nodup_at HA.out.once hs' HS0.out (h.trans HSG.out.1.symm)))
        have HAT : Hid (AtIs wr (w2.heap.size + 1) q r0 ev s zz) := hat
        clear hcs hs' hat
        go_wp2
        go_big_quiet (fail)
        go_wp2
        go_roundw
        case rel => exact ⟨q + 1, ev, by go_num, rfl, by omega, HOX.out.drewN _, HSX.out.kept ((Only.refl [] _).drewN _) (by simp), HAT.out.next hqr ((Only.refl [] _).drewN _)⟩
        case measure => simp [intOf]; omega
    · obtain rfl : q = l.length := by omega
      obtain ⟨rfl, z6⟩ : ev = 0 ∧ Six wr (w2.heap.size + 1) s.K zz s.L s.C s.UN s.UG := hat.behind hr0
      have hcd := coded_nil wr
      obtain ⟨y0, y1, y2, y3, y4, y5, _⟩ := HSX.out
      obtain ⟨z0, z1, z2, z3, z4, z5, _⟩ := z6
      clear hat
      go_wp2_with (first
        | (go_at_call 13; go_must (refine hcd.mono ?_); rintro e w5 ⟨rfl, rfl⟩; clear hcd)
        | go_in)
      exact HK.out _ _ (OutIn.mk HA.out HR4.out.l5 rfl rfl rfl rfl rfl rfl rfl)
end Go.Proofs.YtohbdpefcmibeacDoor
