/- LockActs: the document's table: Test. -/
import Derived.Test.YtfnniphemlnanaaDoorLa11
namespace Go.Proofs.YtfnniphemlnanaaDoor
open Go Go.RowKit Go.Deep

set_option maxRecDepth 100000 in
set_option maxHeartbeats 2000000 in
theorem rtest_bad (w : World) (m : Nat) (N G O A S : Int) (b : Bool) (hr : rngB A S = false) : Calls Tryd.prog 13 #[.pointer (some ⟨m, 0, none⟩), .agg #[.int .i64 N, .int .i64 G], .int .i64 O, .agg #[.int .i64 A, .int .i64 S], .bool b] w fun e w' => e = .returned (.tuple #[lkV zeroL, .int .i64 2]) ∧ Only [] w w' := by
  have hiR : ∀ W, Calls Tryd.prog 24 #[.agg #[.int .i64 A, .int .i64 S]] W fun e w' => e = .returned (.tuple #[.int .i64 0, .int .i64 0, .bool false]) ∧ Only [] W w' := fun W => by have := rangeOf_any A S W; rw [hr] at this; exact this
  have HO : Hid (Only [] w (((w.alloc (.cells #[.int .i64 N, .int .i64 G] 33)).alloc (.cells #[.int .i64 A, .int .i64 S] 35)).alloc (.cells #[.int .i64 0, .int .i64 0, .int .i64 0, .int .i64 0, .int .i64 0, .bool false] 44))) := (((Only.refl [] w).alloc _).alloc _).alloc _
  clear hr
  go_enter Tryd.func13, Tryd.ntmps13
  go_upto_region 2 with (go_at_call 24; refine (hiR _).mono ?_; rintro e w2 ⟨rfl, ho2⟩; have HO2 : Hid (Only [] (((w.alloc (.cells #[.int .i64 N, .int .i64 G] 33)).alloc (.cells #[.int .i64 A, .int .i64 S] 35)).alloc (.cells #[.int .i64 0, .int .i64 0, .int .i64 0, .int .i64 0, .int .i64 0, .bool false] 44)) w2) := ho2; have HW2 : Hid (Only [] w w2) := only_nil HO.out ho2; clear hiR ho2)
  have HZ : Hid (RkBox w2 (w.heap.size + 1 + 1) zeroL) := (rbox_cells HO2.out).2.2.2.2
  obtain ⟨d0, d1, d2, d3, d4, d5⟩ := HZ.out.cells
  have z0 := HZ.out.frozen 0
  have z1 := HZ.out.frozen 1
  have z2 := HZ.out.frozen 2
  have z3 := HZ.out.frozen 3
  have z4 := HZ.out.frozen 4
  have z5 := HZ.out.frozen 5
  go_wp2
  have hfill := HZ.out.fill zeroL
  have HOF : Hid (Only [] w ((((((w2.setCell ⟨w.heap.size + 1 + 1, 0, none⟩ (.int .i64 0)).setCell ⟨w.heap.size + 1 + 1, 1, none⟩ (.int .i64 0)).setCell ⟨w.heap.size + 1 + 1, 2, none⟩ (.int .i64 0)).setCell ⟨w.heap.size + 1 + 1, 3, none⟩ (.int .i64 0)).setCell ⟨w.heap.size + 1 + 1, 4, none⟩ (.int .i64 0)).setCell ⟨w.heap.size + 1 + 1, 5, none⟩ (.bool false))) := (HW2.out.trans hfill.2 (fun k hk => Or.inr (by rw [List.mem_singleton.1 hk]; omega)))
  have hIF := hfill.1.cells
  clear hfill d0 d1 d2 d3 d4 d5 z0 z1 z2 z3 z4 z5
  change LkIn ((((((w2.setCell ⟨w.heap.size + 1 + 1, 0, none⟩ (.int .i64 0)).setCell ⟨w.heap.size + 1 + 1, 1, none⟩ (.int .i64 0)).setCell ⟨w.heap.size + 1 + 1, 2, none⟩ (.int .i64 0)).setCell ⟨w.heap.size + 1 + 1, 3, none⟩ (.int .i64 0)).setCell ⟨w.heap.size + 1 + 1, 4, none⟩ (.int .i64 0)).setCell ⟨w.heap.size + 1 + 1, 5, none⟩ (.bool false)) _ zeroL at hIF
  generalize ((((((w2.setCell ⟨w.heap.size + 1 + 1, 0, none⟩ (.int .i64 0)).setCell ⟨w.heap.size + 1 + 1, 1, none⟩ (.int .i64 0)).setCell ⟨w.heap.size + 1 + 1, 2, none⟩ (.int .i64 0)).setCell ⟨w.heap.size + 1 + 1, 3, none⟩ (.int .i64 0)).setCell ⟨w.heap.size + 1 + 1, 4, none⟩ (.int .i64 0)).setCell ⟨w.heap.size + 1 + 1, 5, none⟩ (.bool false)) = wf at HOF hIF ⊢
  obtain ⟨k0, k1, k2, k3, k4, k5⟩ := hIF
  refine bodyPost_ret (v := .tuple #[lkV zeroL, .int .i64 2]) (by simp [results, Tryd.results13, go_sem, k0, k1, k2, k3, k4, k5, lkV]) rfl ⟨rfl, HOF.out⟩
set_option maxRecDepth 100000 in
set_option maxHeartbeats 4000000 in
theorem rtest_go (w : World) (base m : Nat) (u : Value) (P : List Pt) (l : List Lk) (N G O A S : Int) (b : Bool) (h : RlAt w base m u P) (hl : P.length ≤ 100) (hP : ∀ p ∈ P, p.Ok) (hr : rngB A S = true) (hD : ∀ D, ListOf P D → D = l) (hok : ∀ x ∈ l, x.Ok) : Calls Tryd.prog 13 #[.pointer (some ⟨m, 0, none⟩), .agg #[.int .i64 N, .int .i64 G], .int .i64 O, .agg #[.int .i64 A, .int .i64 S], .bool b] w fun e w' => ∃ (c : Int) (res : Lk), e = .returned (.tuple #[lkV res, .int .i64 c]) ∧ ((FirstAg ⟨N, G, O, A, S, b⟩ l res ∧ c = 11) ∨ ((∀ x ∈ l, agB ⟨N, G, O, A, S, b⟩ x = false) ∧ c = 0 ∧ res = zeroL)) ∧ Only [] w w' := by
  have hiR : ∀ W, Calls Tryd.prog 24 #[.agg #[.int .i64 A, .int .i64 S]] W fun e w' => e = .returned (.tuple #[.int .i64 A, .int .i64 (toR A S), .bool true]) ∧ Only [] W w' := fun W => by have := rangeOf_any A S W; rw [hr] at this; exact this
  have HO : Hid (Only [] w (((w.alloc (.cells #[.int .i64 N, .int .i64 G] 33)).alloc (.cells #[.int .i64 A, .int .i64 S] 35)).alloc (.cells #[.int .i64 0, .int .i64 0, .int .i64 0, .int .i64 0, .int .i64 0, .bool false] 44))) := (((Only.refl [] w).alloc _).alloc _).alloc _
  have HLI : Hid (∀ W, Only [] w W → Calls Tryd.prog 20 #[.pointer (some ⟨m, 0, none⟩)] W fun e w' => ∃ v', e = .returned v' ∧ Rks w' W.heap.size v' l ∧ l.length ≤ 2010000 ∧ Only [] W w') := fun W ho => (rlist_any W base m u P (h.only ho) hl hP).mono fun e w' hh => by
    obtain ⟨v', D, he, h1, h2, h3, h4⟩ := hh
    have := hD D h2
    subst this
    exact ⟨v', he, h1, h3, h4⟩
  have HOV : Hid (∀ W x, x ∈ l → Calls Tryd.prog 30 #[.agg #[.int .i64 x.N, .int .i64 x.G, .int .i64 x.O, .int .i64 x.A, .int .i64 x.S, .bool x.W], .int .i64 A, .int .i64 (toR A S)] W fun e w' => e = .returned (.bool (meetB x.A x.S A S)) ∧ Only [] W w') := fun W x hx => by
    have hh := overlap_any W x A (toR A S) (hok x hx)
    rw [ov_meet (v := ⟨N, G, O, A, S, b⟩) (hok x hx) hr] at hh
    exact hh
  clear hr h hok hP hD hl
  generalize toR A S = T at *
  go_enter Tryd.func13, Tryd.ntmps13
  go_wp2_with (first
    | (go_at_call 24; refine (hiR _).mono ?_; rintro e w2 ⟨rfl, ho2⟩; have HO2 : Hid (Only [] (((w.alloc (.cells #[.int .i64 N, .int .i64 G] 33)).alloc (.cells #[.int .i64 A, .int .i64 S] 35)).alloc (.cells #[.int .i64 0, .int .i64 0, .int .i64 0, .int .i64 0, .int .i64 0, .bool false] 44)) w2) := ho2; have HW2 : Hid (Only [] w w2) := only_nil HO.out ho2; clear hiR ho2)
    | (go_at_call 20; refine (HLI.out _ HW2.out).mono ?_; rintro e w3 ⟨v3, rfl, h3, hl3, ho3⟩; obtain ⟨ad, cp, rfl, had, _⟩ := row_form h3; have HAD : Hid (l ≠ [] → ∃ g, ad = some ⟨g, 0, none⟩) := had; have H3 : Hid (Rks w3 w2.heap.size (.slice ad l.length cp) l) := h3; have HL3 : Hid (l.length ≤ 2010000) := hl3; have HO3 : Hid (Only [] w2 w3) := ho3; clear h3 ho3 had hl3))
  have hll := HL3.out
  obtain ⟨n, hn⟩ : ∃ n, l.length = n := ⟨_, rfl⟩
  have HN : Hid (l.length = n) := hn
  rw [hn] at hll H3 ⊢
  clear hn
  have HW3 : Hid (Only [] w w3) := only_nil HW2.out HO3.out
  have HBX : Hid (∀ W, Only [] w3 W → W.cell? ⟨w.heap.size, 0, none⟩ = some (.int .i64 N) ∧ W.cell? ⟨w.heap.size, 1, none⟩ = some (.int .i64 G) ∧ RkBox W (w.heap.size + 1 + 1) zeroL) := fun W ho => by
    have hh := rbox_cells (only_nil HO2.out (only_nil HO3.out ho))
    exact ⟨hh.1, hh.2.1, hh.2.2.2.2⟩
  go_loopw [16, 17] (fun i _ wr => ∃ j : Nat, i = .int .i64 j ∧ j ≤ n ∧ (∀ (k : Nat) (y : Lk), k < j → l[k]? = some y → agB ⟨N, G, O, A, S, b⟩ y = false) ∧ Only [] w3 wr) (fun i _ _ => n - (intOf i).toNat)
  case atStart => exact ⟨0, rfl, Nat.zero_le _, (fun k y hk => by omega), Only.refl _ _⟩
  case round =>
    obtain ⟨j, rfl, hj, hno, ho⟩ := hrel
    have HNO : Hid (∀ (k : Nat) (y : Lk), k < j → l[k]? = some y → agB ⟨N, G, O, A, S, b⟩ y = false) := hno
    have HOW : Hid (Only [] w3 wr) := ho
    clear hno ho
    by_cases hlt : j < n
    · obtain ⟨x, hx⟩ : ∃ x, l[j]? = some x := ⟨_, List.getElem?_eq_getElem (by rw [HN.out]; exact hlt)⟩
      obtain ⟨gL, rfl⟩ := HAD.out (fun e => by rw [e] at hx; cases hx)
      have HX : Hid (l[j]? = some x) := hx
      have HOX := HOV.out wr x (List.mem_of_getElem? hx)
      have HOVX : Hid (∀ _q : Unit, Calls Tryd.prog 30 #[.agg #[.int .i64 x.N, .int .i64 x.G, .int .i64 x.O, .int .i64 x.A, .int .i64 x.S, .bool x.W], .int .i64 A, .int .i64 T] wr fun e w' => e = .returned (.bool (meetB x.A x.S A S)) ∧ Only [] wr w') := fun _q => HOX
      have HAGE : Hid (agB ⟨N, G, O, A, S, b⟩ x = (decide (x.N = N) && decide (x.G = G) && !decide (x.O = O) && (x.W || b) && meetB x.A x.S A S)) := rfl
      have HCX : Hid (∀ W, Only [] w3 W → W.cell? ⟨gL, j * 6, none⟩ = some (.int .i64 x.N) ∧ W.cell? ⟨gL, j * 6 + 1, none⟩ = some (.int .i64 x.G) ∧ W.cell? ⟨gL, j * 6 + 2, none⟩ = some (.int .i64 x.O) ∧ W.cell? ⟨gL, j * 6 + 3, none⟩ = some (.int .i64 x.A) ∧ W.cell? ⟨gL, j * 6 + 4, none⟩ = some (.int .i64 x.S) ∧ W.cell? ⟨gL, j * 6 + 5, none⟩ = some (.bool x.W)) := fun W ho => rk_cells (H3.out.only ho (fun _ _ => by simp)) HN.out HX.out
      have hj2 : (j : Int) < n := by omega
      clear hx HOX
      generalize meetB x.A x.S A S = mt at HOVX HAGE
      obtain ⟨c0, c1, c2, c3, c4, c5⟩ := HCX.out wr HOW.out
      go_upto_region 9 with (go_at_call 30; refine (HOVX.out ()).mono ?_; rintro e w4 ⟨rfl, ho4⟩; have HW4 : Hid (Only [] w3 w4) := only_nil HOW.out ho4; clear ho4 c0 c1 c2 c3 c4 c5)
      go_cut [70] from 29 to 74 (fun c wx => c = .bool (agB ⟨N, G, O, A, S, b⟩ x) ∧ Only [] w3 wx)
      case first =>
        obtain ⟨c0, c1, c2, c3, c4, c5⟩ := HCX.out w4 HW4.out
        obtain ⟨b0, b1, _⟩ := HBX.out w4 HW4.out
        have hbl := lt_of_cell b0
        by_cases k1 : x.N = N
        · rw [k1] at c0
          by_cases k2 : x.G = G
          · rw [k2] at c1
            by_cases k3 : x.O = O
            · rw [k3] at c2
              have HG : Hid (agB ⟨N, G, O, A, S, b⟩ x = false) := by show _ = _; rw [HAGE.out]; simp [k3]
              clear k1 k2 k3
              go_big_quiet (fail)
              go_wp2
              go_meet
              exact ⟨by rw [HG.out], HW4.out.drewsN _⟩
            · have d3 : (x.O == O) = false := beq_eq_false_iff_ne.2 k3
              have d3a : (x.O != O) = true := bne_iff_ne.2 k3
              have d3b : decide (x.O = O) = false := decide_eq_false k3
              cases mt with
              | false =>
                have HG : Hid (agB ⟨N, G, O, A, S, b⟩ x = false) := by show _ = _; rw [HAGE.out]; simp
                clear k1 k2 k3
                go_big_quiet (fail)
                go_wp2
                go_meet
                exact ⟨by rw [HG.out], HW4.out.drewsN _⟩
              | true =>
                cases b with
                | true =>
                  have HG : Hid (agB ⟨N, G, O, A, S, true⟩ x = true) := by show _ = _; rw [HAGE.out]; simp [k1, k2, k3]
                  clear k1 k2 k3
                  go_big_quiet (fail)
                  go_wp2
                  go_meet
                  exact ⟨by rw [HG.out], HW4.out.drewsN _⟩
                | false =>
                  cases hw : x.W with
                  | true =>
                    rw [hw] at c5
                    have HG : Hid (agB ⟨N, G, O, A, S, false⟩ x = true) := by show _ = _; rw [HAGE.out]; simp [k1, k2, k3, hw]
                    clear k1 k2 k3 hw
                    go_big_quiet (fail)
                    go_wp2
                    go_meet
                    exact ⟨by rw [HG.out], HW4.out.drewsN _⟩
                  | false =>
                    rw [hw] at c5
                    have HG : Hid (agB ⟨N, G, O, A, S, false⟩ x = false) := by show _ = _; rw [HAGE.out]; simp [hw]
                    clear k1 k2 k3 hw
                    go_big_quiet (fail)
                    go_wp2
                    go_meet
                    exact ⟨by rw [HG.out], HW4.out.drewsN _⟩
          · have d2 : (x.G == G) = false := beq_eq_false_iff_ne.2 k2
            have HG : Hid (agB ⟨N, G, O, A, S, b⟩ x = false) := by show _ = _; rw [HAGE.out]; simp [k2]
            clear k1 k2
            go_big_quiet (fail)
            go_wp2
            go_meet
            exact ⟨by rw [HG.out], HW4.out.drewsN _⟩
        · have d1 : (x.N == N) = false := beq_eq_false_iff_ne.2 k1
          have HG : Hid (agB ⟨N, G, O, A, S, b⟩ x = false) := by show _ = _; rw [HAGE.out]; simp [k1]
          clear k1
          go_big_quiet (fail)
          go_wp2
          go_meet
          exact ⟨by rw [HG.out], HW4.out.drewsN _⟩
      case rest =>
        obtain ⟨rfl, hoc⟩ := hcut
        have HOC : Hid (Only [] w3 wc) := hoc
        clear hoc
        generalize wc = wt at HOC ⊢
        cases hag : agB ⟨N, G, O, A, S, b⟩ x with
        | false =>
          have HG : Hid (agB ⟨N, G, O, A, S, b⟩ x = false) := hag
          clear hag HAGE
          go_wp2
          go_roundw
          case rel => exact ⟨j + 1, by go_num, by omega, (fun k y hk hy => by
                        rcases Nat.lt_or_ge k j with h1 | h1
                        · exact HNO.out k y h1 hy
                        · obtain rfl : k = j := by omega
                          rw [HX.out] at hy
                          cases hy
                          exact HG.out), HOC.out⟩
          case measure => simp [intOf]; omega
        | true =>
          have HG : Hid (agB ⟨N, G, O, A, S, b⟩ x = true) := hag
          clear hag HAGE
          obtain ⟨c0, c1, c2, c3, c4, c5⟩ := HCX.out wt HOC.out
          have HZ : Hid (RkBox wt (w.heap.size + 1 + 1) zeroL) := (HBX.out wt HOC.out).2.2
          have HWT : Hid (Only [] w wt) := only_nil HW3.out HOC.out
          obtain ⟨d0, d1, d2, d3, d4, d5⟩ := HZ.out.cells
          have z0 := HZ.out.frozen 0
          have z1 := HZ.out.frozen 1
          have z2 := HZ.out.frozen 2
          have z3 := HZ.out.frozen 3
          have z4 := HZ.out.frozen 4
          have z5 := HZ.out.frozen 5
          go_wp2
          have hfill := HZ.out.fill x
          have HOF : Hid (Only [] w ((((((wt.setCell ⟨w.heap.size + 1 + 1, 0, none⟩ (.int .i64 x.N)).setCell ⟨w.heap.size + 1 + 1, 1, none⟩ (.int .i64 x.G)).setCell ⟨w.heap.size + 1 + 1, 2, none⟩ (.int .i64 x.O)).setCell ⟨w.heap.size + 1 + 1, 3, none⟩ (.int .i64 x.A)).setCell ⟨w.heap.size + 1 + 1, 4, none⟩ (.int .i64 x.S)).setCell ⟨w.heap.size + 1 + 1, 5, none⟩ (.bool x.W))) := (HWT.out.trans hfill.2 (fun k hk => Or.inr (by rw [List.mem_singleton.1 hk]; omega)))
          have hIF := hfill.1.cells
          clear hfill d0 d1 d2 d3 d4 d5 z0 z1 z2 z3 z4 z5 c0 c1 c2 c3 c4 c5
          generalize ((((((wt.setCell ⟨w.heap.size + 1 + 1, 0, none⟩ (.int .i64 x.N)).setCell ⟨w.heap.size + 1 + 1, 1, none⟩ (.int .i64 x.G)).setCell ⟨w.heap.size + 1 + 1, 2, none⟩ (.int .i64 x.O)).setCell ⟨w.heap.size + 1 + 1, 3, none⟩ (.int .i64 x.A)).setCell ⟨w.heap.size + 1 + 1, 4, none⟩ (.int .i64 x.S)).setCell ⟨w.heap.size + 1 + 1, 5, none⟩ (.bool x.W)) = wf at HOF hIF ⊢
          obtain ⟨k0, k1, k2, k3, k4, k5⟩ := hIF
          refine bodyPost_ret (v := .tuple #[lkV x, .int .i64 11]) (by simp [results, Tryd.results13, go_sem, k0, k1, k2, k3, k4, k5, lkV]) rfl ⟨11, x, rfl, Or.inl ⟨⟨j, HX.out, HG.out, HNO.out⟩, rfl⟩, HOF.out⟩
    · obtain rfl : j = n := by omega
      have hj2 : decide ((j : Int) < j) = false := decide_eq_false (by omega)
      have HZ : Hid (RkBox wr (w.heap.size + 1 + 1) zeroL) := (HBX.out wr HOW.out).2.2
      have HWT : Hid (Only [] w wr) := only_nil HW3.out HOW.out
      obtain ⟨d0, d1, d2, d3, d4, d5⟩ := HZ.out.cells
      have z0 := HZ.out.frozen 0
      have z1 := HZ.out.frozen 1
      have z2 := HZ.out.frozen 2
      have z3 := HZ.out.frozen 3
      have z4 := HZ.out.frozen 4
      have z5 := HZ.out.frozen 5
      go_wp2
      have hfill := HZ.out.fill zeroL
      have HOF : Hid (Only [] w ((((((wr.setCell ⟨w.heap.size + 1 + 1, 0, none⟩ (.int .i64 0)).setCell ⟨w.heap.size + 1 + 1, 1, none⟩ (.int .i64 0)).setCell ⟨w.heap.size + 1 + 1, 2, none⟩ (.int .i64 0)).setCell ⟨w.heap.size + 1 + 1, 3, none⟩ (.int .i64 0)).setCell ⟨w.heap.size + 1 + 1, 4, none⟩ (.int .i64 0)).setCell ⟨w.heap.size + 1 + 1, 5, none⟩ (.bool false))) := (HWT.out.trans hfill.2 (fun k hk => Or.inr (by rw [List.mem_singleton.1 hk]; omega)))
      have hIF := hfill.1.cells
      clear hfill d0 d1 d2 d3 d4 d5 z0 z1 z2 z3 z4 z5
      change LkIn ((((((wr.setCell ⟨w.heap.size + 1 + 1, 0, none⟩ (.int .i64 0)).setCell ⟨w.heap.size + 1 + 1, 1, none⟩ (.int .i64 0)).setCell ⟨w.heap.size + 1 + 1, 2, none⟩ (.int .i64 0)).setCell ⟨w.heap.size + 1 + 1, 3, none⟩ (.int .i64 0)).setCell ⟨w.heap.size + 1 + 1, 4, none⟩ (.int .i64 0)).setCell ⟨w.heap.size + 1 + 1, 5, none⟩ (.bool false)) _ zeroL at hIF
      generalize ((((((wr.setCell ⟨w.heap.size + 1 + 1, 0, none⟩ (.int .i64 0)).setCell ⟨w.heap.size + 1 + 1, 1, none⟩ (.int .i64 0)).setCell ⟨w.heap.size + 1 + 1, 2, none⟩ (.int .i64 0)).setCell ⟨w.heap.size + 1 + 1, 3, none⟩ (.int .i64 0)).setCell ⟨w.heap.size + 1 + 1, 4, none⟩ (.int .i64 0)).setCell ⟨w.heap.size + 1 + 1, 5, none⟩ (.bool false)) = wf at HOF hIF ⊢
      obtain ⟨k0, k1, k2, k3, k4, k5⟩ := hIF
      refine bodyPost_ret (v := .tuple #[lkV zeroL, .int .i64 0]) (by simp [results, Tryd.results13, go_sem, k0, k1, k2, k3, k4, k5, lkV]) rfl ⟨0, zeroL, rfl, Or.inr ⟨(fun x hx => by obtain ⟨i, hi, e⟩ := List.mem_iff_getElem.1 hx; exact HNO.out i x (by have := HN.out; omega) (by rw [List.getElem?_eq_getElem hi, e])), rfl, rfl⟩, HOF.out⟩
end Go.Proofs.YtfnniphemlnanaaDoor
