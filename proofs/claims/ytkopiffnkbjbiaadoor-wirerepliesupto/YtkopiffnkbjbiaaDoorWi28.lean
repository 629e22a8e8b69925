/- WireReplies: any replies on the wire; they are read. -/
import Derived.Test.YtkopiffnkbjbiaaDoorWi27
import Derived.Test.YtkopiffnkbjbiaaDoorWi24
import Derived.Test.YtkopiffnkbjbiaaDoorWi13
import Derived.Test.YtkopiffnkbjbiaaDoorWi21
namespace Go.Proofs.YtkopiffnkbjbiaaDoor
open Go Go.RowKit Go.Deep

set_option maxRecDepth 100000 in
set_option maxHeartbeats 1500000 in
theorem wireReplies_walk (A : Nat → Addr) (ad : Option Addr) (len cap : Nat) (w : World) (hE : Errs w A) (hI : IsReps w 1048576 ad len) : Calls Tryd.prog 5 #[.slice ad len cap] w fun e w' => e = .returned (.bool true) ∧ Only [] w w' := by
  obtain ⟨hlen, m, rfl, hr, hf⟩ := hI
  have K0 : Hid (∀ _u : Unit, _) := fun _ => wired_any A w hE.er3
  have HE : Hid (Errs w A) := hE
  have HR : Hid (RwA w rpC 9 ad m) := hr
  have HF : Hid (∀ q ∈ m, RpFit w 1048576 q) := hf
  obtain ⟨n, hn⟩ : ∃ n, m.length = n := ⟨_, rfl⟩
  have HN : Hid (m.length = n) := hn
  have hnb : n ≤ 1048576 := hn ▸ hlen
  rw [hn]
  clear hE hr hf hn hlen
  go_enter Tryd.func5, Tryd.ntmps5
  go_wp2_with fail
  refine (K0.out ()).mono ?_
  rintro e w1 ⟨rfl, o1⟩
  have E1 : Hid (Errs w1 A) := HE.out.later o1
  have O1 : Hid (Only [] w w1) := o1
  clear o1 K0 HE
  go_wp2_with fail
  go_loopw [4, 5] (fun v i wr => ∃ (j : Nat) (z : Int), j ≤ n ∧ i = .int .i64 (j : Nat) ∧ v = .int .i64 z ∧ Only [] w1 wr) (fun _ i _ => n - (intOf i).toNat)
  case atStart => exact ⟨0, 0, Nat.zero_le _, rfl, rfl, Only.refl _ _⟩
  case round =>
    obtain ⟨j, z, hj, rfl, rfl, ho⟩ := hrel
    have OA : Hid (Only [] w wr) := O1.out.then ho
    have OB : Hid (Only [] w1 wr) := ho
    clear ho
    by_cases hlt : j < n
    · obtain ⟨⟨x, xv⟩, hx⟩ := at_lt m (j := j) (by rw [HN.out]; exact hlt)
      obtain ⟨g, o, rfl, hc⟩ := (HR.out.later OA.out).at_ j _ hx
      obtain ⟨hin, _, _, _, _, _, _, kT, kL, kE⟩ := HF.out _ (mem_at hx)
      obtain ⟨a2, p2, hv2, _, hr2⟩ := hin.later OA.out
      simp only at hv2 hr2 kT kL kE
      subst hv2
      obtain ⟨nL, hnL⟩ : ∃ nL, x.L.length = nL := ⟨_, rfl⟩
      have HNL : Hid (x.L.length = nL) := hnL
      have hnLb : nL ≤ 1048576 := hnL ▸ kL
      have HK : Hid (∀ e ∈ x.L, e.fits 1048576) := kE
      have HR2 : Hid (RwA wr enC 3 a2 x.L) := hr2
      have c1 : wr.cell? ⟨g, o + j * 9 + 1, none⟩ = some (.string x.T) := hc 1 _ rfl
      have c6 : wr.cell? ⟨g, o + j * 9 + 6, none⟩ = some (.slice a2 nL p2) := by rw [← hnL]; exact hc 6 _ rfl
      have C6 : Hid (wr.cell? ⟨g, o + j * 9 + 6, none⟩ = some (.slice a2 nL p2)) := c6
      obtain ⟨W, hW⟩ : ∃ W, W = wr := ⟨_, rfl⟩
      rw [← hW] at C6 HR2 OA OB
      have HW : Hid (W = wr) := hW
      clear hc hx hr2 kL kE hin hnL hW
      go_wp2_with fail
      go_loopw [4, 6] (fun v i wr => ∃ (kk : Nat) (z : Int), kk ≤ nL ∧ i = .int .i64 (kk : Nat) ∧ v = .int .i64 z ∧ Only [] W wr) (fun _ i _ => nL - (intOf i).toNat)
      case atStart => exact ⟨0, _, Nat.zero_le _, rfl, rfl, HW.out ▸ Only.refl _ _⟩
      case round =>
        obtain ⟨kk, z2, hkk, rfl, rfl, ho⟩ := hrel
        have OC : Hid (Only [] W wr) := ho
        have c6 := (ho.cell (p := ⟨g, o + j * 9 + 6, none⟩) (lt_of_cell C6.out) (by simp)).trans C6.out
        clear ho
        by_cases hlt2 : kk < nL
        · obtain ⟨y, hy⟩ := at_lt x.L (j := kk) (by rw [HNL.out]; exact hlt2)
          obtain ⟨g2, o2, rfl, hcy⟩ := (HR2.out.later OC.out).at_ kk y hy
          have ky := (HK.out y (mem_at hy)).2
          have y0 : wr.cell? ⟨g2, o2 + kk * 3, none⟩ = some (.string y.n) := hcy 0 _ rfl
          clear hcy hy
          go_wp2
          go_roundw
          case rel => exact ⟨kk + 1, _, by omega, by go_num, rfl, OC.out⟩
          case measure => simp [intOf]; omega
        · obtain rfl : nL = kk := by omega
          go_wp2
          go_roundw
          case rel => exact ⟨j + 1, _, by omega, by go_num, rfl, OB.out.then OC.out⟩
          case measure => simp [intOf]; omega
    · obtain rfl : n = j := by omega
      have E2 : Hid (Errs wr A) := E1.out.later OB.out
      have O2 : Hid (Only [] w wr) := OA.out
      obtain ⟨w2, hw2⟩ : ∃ w2, wr = w2 := ⟨_, rfl⟩
      rw [hw2] at E2 O2 ⊢
      clear hw2 OA OB E1
      by_cases hz : 10000 < z
      · go_wp2
        go_ret
        exact ⟨rfl, O2.out⟩
      have KO : Hid (∀ W, Only [] w W → _) := fun W k => lawReps ad cap m W (HR.out.later k) (fun q hq => (HF.out q hq).1.later k) (fun q hq => (HF.out q hq).2.2.2.2.2.2.2.2.1) (by rw [HN.out]; exact hnb)
      rw [HN.out] at KO
      go_wp2_with fail
      refine (KO.out _ O2.out).mono ?_
      rintro e w3 ⟨v3, rfl, o3, hown⟩
      have E3 : Hid (Errs w3 A) := E2.out.later o3
      have O3 : Hid (Only [] w w3) := O2.out.then o3
      obtain ⟨ad3, cp3, e3⟩ := hown.form
      rw [List.length_map, HN.out] at e3
      subst e3
      have HOWN : Hid (RpsOwn w3 w2.heap.size (.slice ad3 n cp3) (m.map Prod.fst)) := hown
      clear o3 hown E2 O2 KO
      by_cases h16 : 16 < n
      · have KW : Hid (∀ _u : Unit, _) := fun _ => wireReps_big A ad3 n cp3 w3 E3.out.er3 h16
        have KT : Hid (∀ W, _) := fun W => docRText_big ad n cap W h16
        go_wp2_with fail
        refine (KW.out ()).mono ?_
        rintro e w4 ⟨rfl, o4⟩
        have E4 : Hid (Errs w4 A) := E3.out.later o4
        have O4 : Hid (Only [] w w4) := O3.out.then o4
        clear o4 E3 O3 KW
        go_wp2_with fail
        refine (KT.out _).mono ?_
        rintro e w5 ⟨rfl, o5⟩
        have E5 : Hid (Errs w5 A) := E4.out.later o5
        have O5 : Hid (Only [] w w5) := O4.out.then o5
        have KC : Hid (∀ _u : Unit, Calls Tryd.prog 13 #[eV A 1, .int .i64 2] w5 fun e w' => e = .returned (.bool true) ∧ Only [] w5 w') := fun _ => coded3_err A 1 (by decide) w5 E5.out
        clear o5 E4 O4 KT E5
        go_wp2_with fail
        refine (KC.out ()).mono ?_
        rintro e w6 ⟨rfl, o6⟩
        have O6 : Hid (Only [] w w6) := O5.out.then o6
        clear o6
        go_wp2
        go_ret
        exact ⟨rfl, O6.out⟩
      have hn16 : n ≤ 16 := by omega
      have HOK : Hid (∀ q ∈ m, q.1.ok) := fun q hq => (HF.out q hq).ok (by decide)
      have KT : Hid (∀ W, Only [] w W → _) := fun W k => docRText ad cap m W (HR.out.later k) (by rw [HN.out]; exact hn16) (fun q hq => ⟨(HF.out q hq).1.later k, (HF.out q hq).2⟩)
      rw [HN.out] at KT
      obtain ⟨p3, em3, hrow3, hen3⟩ := HOWN.out
      have hl3 : p3.length = n := by have := congrArg List.length em3; simp only [List.length_map] at this; rw [this, HN.out]
      obtain ⟨ad3', cp3', e3, hr3⟩ := own_rws (B := w3.heap.size) hrow3 rpC_len (Nat.le_refl _)
      have KW : Hid (∀ _u : Unit, _) := fun _ => wireReps A ad3' cp3' p3 w3 E3.out.er3 (by omega) hr3 (fun q hq => by
        have h1 : q.1 ∈ m.map Prod.fst := em3 ▸ List.mem_map_of_mem hq
        obtain ⟨q', hq', e'⟩ := List.mem_map.1 h1
        rw [← e']
        exact HOK.out q' hq') (fun q hq => (hen3 q hq).rpIn)
      rw [lists_map, em3, ← lists_map] at KW
      rw [hl3] at e3 KW
      cases e3
      clear hrow3 hen3 hr3 em3 hl3
      go_wp2_with fail
      refine (KW.out ()).mono ?_
      rintro e w4 ⟨⟨r4, rfl, hr4⟩, o4⟩
      have E4 : Hid (Errs w4 A) := E3.out.later o4
      have O4 : Hid (Only [] w w4) := O3.out.then o4
      have HW : Hid (WrR A n (listsW (fun p : RpV × Value => rpW p.1) m) r4) := hr4
      clear o4 E3 O3 KW hr4
      obtain ⟨s1, er, hm1⟩ : ∃ s1 er, r4 = .tuple #[s1, er] := by
        rcases HW.out with ⟨_, rfl⟩ | ⟨_, _, _, rfl⟩ | ⟨_, _, _, _, _, rfl⟩ <;> exact ⟨_, _, rfl⟩
      subst hm1
      go_wp2_with fail
      refine (KT.out _ O4.out).mono ?_
      rintro e w5 ⟨⟨r5, rfl, hr5⟩, o5⟩
      have E5 : Hid (Errs w5 A) := E4.out.later o5
      have O5 : Hid (Only [] w w5) := O4.out.then o5
      have HT : Hid (DocTextR n (listsW (fun p : RpV × Value => rpW p.1) m) r5) := hr5
      clear o5 E4 O4 KT hr5
      rcases HW.out with ⟨q, _⟩ | ⟨_, t, q, hv⟩ | ⟨_, k, t, q, hk, hv⟩
      · omega
      rotate_left
      · rcases HT.out with ⟨q2, _⟩ | ⟨_, t2, q2, rfl⟩ | ⟨_, k2, t2, q2, rfl⟩
        · omega
        · rw [q] at q2; cases q2
        rw [q] at q2
        cases q2
        cases hv
        have KC : Hid (∀ _u : Unit, Calls Tryd.prog 13 #[eV A k, .int .i64 ((k : Int) + 1)] w5 fun e w' => e = .returned (.bool true) ∧ Only [] w5 w') := fun _ => coded3_err A k (by omega) w5 E5.out
        have hgt : (0 : Int) < (k : Int) + 1 := by omega
        clear HW HT q E5
        go_wp2_with fail
        refine (KC.out ()).mono ?_
        rintro e w6 ⟨rfl, o6⟩
        have O6 : Hid (Only [] w w6) := O5.out.then o6
        clear o6
        go_wp2
        go_ret
        exact ⟨rfl, O6.out⟩
      · rcases HT.out with ⟨q2, _⟩ | ⟨_, t2, q2, rfl⟩ | ⟨_, k2, t2, q2, rfl⟩
        · omega
        rotate_left
        · rw [q] at q2; cases q2
        rw [q] at q2
        cases q2
        cases hv
        have hts : t.size ≤ 4000 := runW_len (by decide) q
        have HP : Hid (pAll pReply t = some (m.map Prod.fst)) := by
          rw [lists_map] at q
          exact all_back invB_reply q (by rw [List.length_map, HN.out]; omega) (fun x hx => by
            obtain ⟨q', hq', e'⟩ := List.mem_map.1 hx
            rw [← e']
            exact HOK.out q' hq')
        have KR : Hid (∀ _u : Unit, _) := fun _ => wireReadReps A t w5 E5.out.er3 (by omega)
        clear HW HT q
        go_wp2_with fail
        refine (KR.out ()).mono ?_
        rintro e w6 ⟨⟨r6, rfl, hr6⟩, o6⟩
        have O6 : Hid (Only [] w w6) := O5.out.then o6
        rcases hr6 with ⟨g1, _⟩ | ⟨l', v, g1, rfl, g3⟩
        · rw [HP.out] at g1; cases g1
        have e12 : l' = m.map Prod.fst := by rw [HP.out] at g1; exact (Option.some.inj g1).symm
        subst e12
        obtain ⟨p1, em1, hrow1, hen1⟩ := g3
        have hl1 : p1.length = n := by have := congrArg List.length em1; simp only [List.length_map] at this; rw [this, HN.out]
        obtain ⟨ad6, cp6, e6, hr6⟩ := own_arg hrow1 rpC_len
        have HL1 : Hid (p1.length = n) := hl1
        rw [hl1] at e6
        subst e6
        have KB : Hid (∀ _u : Unit, _) := fun _ => backReps_any ad6 cp6 p1 w6 hr6 (fun x hx => (hen1 x hx).rpA.sl) (by omega)
        have KS : Hid (∀ (W : World) (a4 : Option Addr) (c4 : Nat), Only [] w6 W → RwA W rpC 9 a4 p1 → _) := fun W a4 c4 k hr4 =>
          sameReplies a4 ad c4 cap p1 m W em1 hr4 (HR.out.later (O6.out.then k)) (fun q hq => (hen1 q hq).rpA.later k) (fun q hq => ((HF.out q hq).1.later (O6.out.then k)).rpA) (fun q hq => by
            have h1 : q.1 ∈ m.map Prod.fst := em1 ▸ List.mem_map_of_mem hq
            obtain ⟨q', hq', e'⟩ := List.mem_map.1 h1
            have := (HF.out q' hq').2.2.2.2.2.2.2.2.1
            rw [e'] at this
            omega) (by omega)
        rw [HN.out, HL1.out] at KS
        rw [HL1.out] at KB
        clear hl1 g1 hrow1 hen1 hr6 o6 KR O5 E5 HP em1 HF HR HOWN HOK
        go_wp2_with fail
        refine (KB.out ()).mono ?_
        rintro e w7 ⟨v7, rfl, o7, hrow⟩
        have O7 : Hid (Only [] w w7) := O6.out.then o7
        obtain ⟨a7, c7, e7, hr7⟩ := own_arg (l := p1) (by rw [HL1.out]; exact hrow) rpC_len
        rw [HL1.out] at e7
        subst e7
        have KS2 : Hid (∀ _u : Unit, _) := fun _ => KS.out w7 a7 c7 o7 hr7
        clear hrow o7 hr7 KS KB
        go_wp2_with fail
        refine (KS2.out ()).mono ?_
        rintro e w8 ⟨rfl, o8⟩
        have O8 : Hid (Only [] w w8) := O7.out.then o8
        clear o8
        go_wp2
        go_ret
        exact ⟨rfl, O8.out⟩
end Go.Proofs.YtkopiffnkbjbiaaDoor
