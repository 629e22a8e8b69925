/- DiskActs: the document's Do: write. -/
import Derived.Test.YtlddnbpcinoenaaDoorDn2
import Derived.Test.YtlddnbpcinoenaaDoorQt
namespace Go.Proofs.YtlddnbpcinoenaaDoor
open Go Go.RowKit Go.Deep

theorem wtInfo : (Tryd.prog.info? 63).map (fun i => (i.zero, i.size, i.bytes)) = some (some (.agg #[.int .i64 0, .string ⟨#[]⟩]), 2, 24) := by kernel_rfl
theorem wtsUnd : Tryd.prog.underlying 42 = some (.slice 63) := by kernel_rfl
theorem undo_snoc (sec : List Sec) (wt : List Wr) {n : Nat} (hn : n < sec.length) (p : Sec) : undo (sec.set n p) (wt ++ [⟨n, sec.getD n zeroS, p⟩]) = undo sec wt := by
  unfold undo
  rw [List.foldr_append]
  simp [hn]
set_option maxRecDepth 100000 in
set_option maxHeartbeats 4000000 in
theorem do_write {w : World} {base t : Nat} {vk vn vw : Value} {s : DSt} (h : DnAt w base t s.pw vk vn vw (undo s.sec s.wt) s.sec s.wt) (hb0 : base ≤ w.heap.size) (hpos : 1 ≤ s.sec.length) (hmost : s.sec.length ≤ 4000) (hq : ∀ k, s.pw = some k → k < 9223372036854775808) (hw : s.wt.length ≤ 100000) (x : Ac) (hk1 : (x.K.toList == [119, 114, 105, 116, 101]) = true) :
    Calls Tryd.prog 11 #[.pointer (some ⟨t, 0, none⟩), .agg #[.string x.K, .int .i64 x.N, .string x.S, .slice x.ka x.B.length x.kc]] w fun e w' => DnR w w' base t vk vn vw x s e := by
  obtain ⟨k0, k1, k2, k3, hkl⟩ := acO_cells w x
  have hd : DnAt (acO w x) base t s.pw vk vn vw (undo s.sec s.wt) s.sec s.wt := h.keep ((Only.refl [] w).alloc _)
  have ht := hd.lt
  have hbt : w.heap.size ≠ t := by have := h.lt; omega
  obtain ⟨gn, cn, hvn, hgb, hgl⟩ : ∃ gn cn, vn = .slice (some ⟨gn, 0, none⟩) s.sec.length cn ∧ base ≤ gn ∧ gn < w.heap.size := by
    rcases h.nr.2 with ⟨_, e⟩ | ⟨g, c, cur, e, hb, hg, _⟩
    · omega
    · exact ⟨g, c, e, hb, (Array.getElem?_eq_some_iff.1 hg).1⟩
  subst hvn
  have HP : Hid (Calls Tryd.prog 23 #[.pointer (some ⟨t, 0, none⟩)] (acO w x) fun e w' => e = .returned (.bool (hasP s.pw)) ∧ DnAt w' base t (s.pw.map (· - 1)) vk (.slice (some ⟨gn, 0, none⟩) s.sec.length cn) vw (undo s.sec s.wt) s.sec s.wt ∧ Only [t] (acO w x) w') := dpower_any hd hq
  have hbs : base ≤ (acO w x).heap.size := Nat.le_trans hb0 (Nat.le_of_lt (by simp [acO]))
  have c1 := hd.cells.2.1
  have HD : Hid (DnAt (acO w x) base t s.pw vk (.slice (some ⟨gn, 0, none⟩) s.sec.length cn) vw (undo s.sec s.wt) s.sec s.wt) := hd
  have HSH : Hid (∀ c W, W.heap = (acO w x).heap → W.os = (acO w x).os → W.tape = (acO w x).tape → W.output = (acO w x).output → stepD x s = (c, s) → DnR w W base t vk (.slice (some ⟨gn, 0, none⟩) s.sec.length cn) vw x s (.returned (.int .i64 (c : Nat)))) := fun c W e1 e2 e3 e4 he => by
    have ho : Only [] (acO w x) W := ⟨e2, e3, e4, by rw [e1]; exact Nat.le_refl _, fun k _ _ => by rw [e1]⟩
    exact DnR.of he (HD.out.keep ho) (ho.mono (fun _ h => by cases h))
  unfold acO at k0 k1 k2 k3 hkl ht hbs c1
  clear h hd
  by_cases hn0 : x.N < 0
  · have d0 : decide (x.N < 0) = true := decide_eq_true hn0
    go_enter Tryd.func11, Tryd.ntmps11
    go_wp2
    go_quiet (fail)
    go_wp2
    go_ret
    exact HSH.out 2 _ rfl rfl rfl rfl (by simp [stepD, hk1]; omega)
  · have d0 : decide (x.N < 0) = false := decide_eq_false hn0
    by_cases hn1 : (s.sec.length : Int) ≤ x.N
    · have d1 : decide ((s.sec.length : Int) ≤ x.N) = true := decide_eq_true hn1
      go_enter Tryd.func11, Tryd.ntmps11
      go_wp2
      go_quiet (fail)
      go_wp2
      go_ret
      exact HSH.out 2 _ rfl rfl rfl rfl (by simp [stepD, hk1]; omega)
    · have d1 : decide ((s.sec.length : Int) ≤ x.N) = false := decide_eq_false hn1
      have hin : 0 ≤ x.N ∧ x.N < s.sec.length := ⟨by omega, by omega⟩
      by_cases hs : 64 < x.S.size
      · have d2 : decide ((64 : Int) < (x.S.size : Int)) = true := decide_eq_true (by omega)
        go_enter Tryd.func11, Tryd.ntmps11
        go_wp2
        go_quiet (fail)
        go_wp2
        go_ret
        exact HSH.out 3 _ rfl rfl rfl rfl (by simp [stepD, hk1, hin, hs])
      · have d2 : decide ((64 : Int) < (x.S.size : Int)) = false := decide_eq_false (by omega)
        cases hp : hasP s.pw with
        | false =>
          rw [hp] at HP
          go_enter Tryd.func11, Tryd.ntmps11
          go_wp2
          go_quiet (fail)
          have HPQ : Hid (Calls Tryd.prog 23 #[.pointer (some ⟨t, 0, none⟩)] ((acO w x).drewN nq) fun e w' => e = .returned (.bool false) ∧ DnAt w' base t (s.pw.map (· - 1)) vk (.slice (some ⟨gn, 0, none⟩) s.sec.length cn) vw (undo s.sec s.wt) s.sec s.wt ∧ Only [t] (acO w x) w') := by
            have ho : Only [] (acO w x) ((acO w x).drewN nq) := drewsD (Only.refl [] _) nq
            have := dpower_any (HD.out.keep ho) hq
            rw [hp] at this
            exact this.mono fun e w' q => ⟨q.1, q.2.1, (ho.mono (fun _ h => by cases h)).trans q.2.2 (fun k hk => Or.inl hk)⟩
          go_wp2_with (go_at_call 23; refine HPQ.out.mono ?_; rintro e w1 ⟨rfl, hd1, ho1⟩; have H1 : Hid (DnAt w1 base t (s.pw.map (· - 1)) vk (.slice (some ⟨gn, 0, none⟩) s.sec.length cn) vw (undo s.sec s.wt) s.sec s.wt ∧ Only [t] (acO w x) w1) := ⟨hd1, ho1⟩; clear hd1 ho1)
          go_ret
          have e0 := (hasP_iff s.pw).1 hp
          have e1 : s.pw.map (· - 1) = s.pw := by rw [e0]; rfl
          exact DnR.of (c := 15) (s' := s) (by simp [stepD, hk1, hin, hs, e0]) (by rw [← e1]; exact H1.out.1) (H1.out.2.mono (fun k hk => Or.inl (mem_dn.2 (Or.inl (by simpa using hk)))))
        | true =>
          go_enter Tryd.func11, Tryd.ntmps11
          go_wp2
          go_quiet (fail)
          have HPQ : Hid (Calls Tryd.prog 23 #[.pointer (some ⟨t, 0, none⟩)] ((acO w x).drewN nq) fun e w' => e = .returned (.bool true) ∧ DnAt w' base t (s.pw.map (· - 1)) vk (.slice (some ⟨gn, 0, none⟩) s.sec.length cn) vw (undo s.sec s.wt) s.sec s.wt ∧ Only [t] (acO w x) w') := by
            have ho : Only [] (acO w x) ((acO w x).drewN nq) := drewsD (Only.refl [] _) nq
            have := dpower_any (HD.out.keep ho) hq
            rw [hp] at this
            exact this.mono fun e w' q => ⟨q.1, q.2.1, (ho.mono (fun _ h => by cases h)).trans q.2.2 (fun k hk => Or.inl hk)⟩
          have HNE : Hid (s.pw ≠ some 0) := fun e => by
            rw [(hasP_iff s.pw).2 e] at hp
            cases hp
          have hzs := zer_size (64 - x.S.size)
          have hs64 : x.S.size ≤ 64 := by omega
          have w64 : IntKind.i64.wrap ((64 : Int) - (x.S.size : Int)) = (64 : Int) - (x.S.size : Int) := by rw [IntKind.wrap_i64]; omega
          go_upto_region 10 with (first
            | (go_at_call 23; refine HPQ.out.mono ?_; rintro e w1 ⟨rfl, hd1, ho1⟩; have H1 : Hid (DnAt w1 base t (s.pw.map (· - 1)) vk (.slice (some ⟨gn, 0, none⟩) s.sec.length cn) vw (undo s.sec s.wt) s.sec s.wt ∧ Only [t] (acO w x) w1) := ⟨hd1, ho1⟩; have q1 := (ho1.cell (p := ⟨w.heap.size, 1, none⟩) hkl (by simpa using hbt)).trans k1; have q2 := (ho1.cell (p := ⟨w.heap.size, 2, none⟩) hkl (by simpa using hbt)).trans k2; have ht1 := hd1.lt; have hql := lt_of_cell q1; clear hd1 ho1)
            | go_in)
          have z2 : ∀ p : OnlyBy w1, p.w.cell? ⟨w.heap.size, 2, none⟩ = some (.string x.S) := fun p => (p.ho.cell (p := ⟨w.heap.size, 2, none⟩) hql (by simp)).trans q2
          have HZ : Hid (∀ W, Calls Tryd.prog 18 #[.int .i64 ((64 : Int) - (x.S.size : Int))] W fun e w' => e = .returned (.string (zer (64 - x.S.size))) ∧ Only [] W w') := fun W => by
            have ez : ((64 : Int) - (x.S.size : Int)) = ((64 - x.S.size : Nat) : Int) := by omega
            rw [ez]
            exact zeros_dk (64 - x.S.size) W (by omega)
          haveI : Nonempty (OnlyBy w1) := ⟨⟨_, Only.refl _ _⟩⟩
          refine wp_region_quiet_only (w0 := w1) (Only.refl [] _) (by kernel_rfl) (by kernel_rfl) ?_
          repeat (first | go_big_quiet_skip | quiet_step (first | (go_at_call 18; refine Calls.only_of (HZ.out _))))
          refine wpQuiet_nil ?_
          intro _ hw'
          obtain ⟨p, hw2⟩ := hw'
          subst hw2
          obtain ⟨w2, hw2⟩ : ∃ w2, p.w = w2 := ⟨_, rfl⟩
          have O2 : Hid (Only [] w1 w2) := by rw [← hw2]; exact p.ho
          have q12 := (O2.out.cell (p := ⟨w.heap.size, 1, none⟩) hql (by simp)).trans q1
          rw [hw2]
          clear hw2 z2 q2 q1
          obtain ⟨n, hn⟩ : ∃ n : Nat, x.N = (n : Int) := ⟨x.N.toNat, by omega⟩
          have hd2 := H1.out.1.keep O2.out
          have hw12 := O2.out.size
          have hw01 := H1.out.2.size
          have hnl : n < s.sec.length := by omega
          have b0 : (0 : Int) ≤ (n : Int) := by omega
          have b1 : (n : Int) < (s.sec.length : Int) := by omega
          obtain ⟨st, hst⟩ : ∃ st : ByteArray, x.S ++ zer (64 - x.S.size) = st := ⟨_, rfl⟩
          have HTX : Hid (txt (padB x.S) = .string st) := by
            show txt (padB x.S) = .string st
            rw [← hst]
            unfold txt
            rw [zer_pad hs64]
          rw [hst]
          have HNN : Hid (x.N = (n : Int)) := hn
          rw [hn] at q12
          have HS64 : Hid (¬ 64 < x.S.size) := hs
          clear hst hzs hn0 hn1 d0 d1 d2 k0 k1 k2 k3 c1 HSH HP HPQ hin hs hs64 w64 HZ
          have y0 : ∀ p : OnlyBy w2, p.w.cell? ⟨t, 1, none⟩ = some (.slice (some ⟨gn, 0, none⟩) s.sec.length cn) := fun p => (hd2.keep p.ho).cells.2.1
          have hql2 := lt_of_cell q12
          have y1 : ∀ p : OnlyBy w2, p.w.cell? ⟨w.heap.size, 1, none⟩ = some (.int .i64 (n : Nat)) := fun p => (p.ho.cell (p := ⟨w.heap.size, 1, none⟩) hql2 (by simp)).trans q12
          have HD2 : Hid (∀ p : OnlyBy w2, DnAt p.w base t (s.pw.map (· - 1)) vk (.slice (some ⟨gn, 0, none⟩) s.sec.length cn) vw (undo s.sec s.wt) s.sec s.wt) := fun p => hd2.keep p.ho
          haveI : Nonempty (OnlyBy w2) := ⟨⟨_, Only.refl _ _⟩⟩
          go_upto_region 11 with (fail)
          refine wp_region_any (by kernel_rfl) ?_
          change wpAny _ _ _ _ _ _ _ (World.drew _)
          refine wpAny_pre2 (w0 := w2) (k0 := 0) 8 1 _ rfl (by decide) (by kernel_rfl) (by kernel_rfl) (by kernel_rfl) (by kernel_rfl) (Only.refl [] _).drew ?_
          simp only [List.drop_zero, List.take_succ_cons, List.take_zero]
          repeat (first | go_big_quiet_skip | quiet_step (fail))
          refine wpQuiet_nil ?_
          intro _ hw'
          obtain ⟨p2, hw2⟩ := hw'
          subst hw2
          have hd3 := HD2.out p2
          obtain ⟨_, _, cur, hcg⟩ := own_blk hd3.nr (b := gn) rfl
          have cn3 : p2.w.cell? ⟨gn, n, none⟩ = (s.sec.map txt)[n]? := World.ownsRow.cellAt hd3.nr n (by omega)
          rw [List.getElem?_map, List.getElem?_eq_getElem hnl] at cn3
          have fn3 : p2.w.frozen? ⟨gn, n, none⟩ = false := frozen_of_row _ _ _ _ _ hcg
          refine wpAny_ready (rs := [8]) (by kernel_rfl) (by simp) ?_
          refine AllReady.cons rfl (fun K hK => ?_) AllReady.nil
          go_simp
          refine hK _ _ ?_
          clear hK K
          refine wpAny_done (by kernel_rfl) ?_ _
          have hoS : Only [gn] p2.w (p2.w.setCell ⟨gn, n, none⟩ (.string st)) := (Only.refl [gn] p2.w).setCell (Or.inl (by simp)) _
          have hnr := own_cell_set (c := txt) hd3.nr n (padB x.S)
          rw [HTX.out] at hnr
          have HD3 : Hid (DnAt (p2.w.setCell ⟨gn, n, none⟩ (.string st)) base t (s.pw.map (· - 1)) vk (.slice (some ⟨gn, 0, none⟩) s.sec.length cn) vw (undo s.sec s.wt) (s.sec.set n (padB x.S)) s.wt) :=
            ⟨(hoS.block t hd3.lt (by simpa using fun e => hd3.nen (k := gn) rfl e.symm)).trans hd3.blk, hd3.tb, hoS.owns hd3.kr (fun k hk hm => hd3.ne k hk (by rw [List.mem_singleton.1 hm]; rfl)), hnr, hoS.owns hd3.wr (fun k hk hm => hd3.nsw (k := gn) (Or.inr rfl) hk (List.mem_singleton.1 hm).symm), hd3.ne⟩
          have q13 := (hoS.cell (p := ⟨w.heap.size, 1, none⟩) (lt_of_cell (y1 p2)) (by simp; omega)).trans (y1 p2)
          have O3 : Hid (Only (dnFoot t vk (.slice (some ⟨gn, 0, none⟩) s.sec.length cn) vw) (acO w x) (p2.w.setCell ⟨gn, n, none⟩ (.string st))) :=
            (((H1.out.2.mono (fun k hk => Or.inl (mem_dn.2 (Or.inl (by simpa using hk))))).trans O2.out (fun _ h => by cases h)).trans p2.ho (fun _ h => by cases h)).trans hoS (fun k hk => Or.inl (mem_dn.2 (Or.inr (Or.inr (Or.inl (by simp at hk; simp [Value.ownBlock, hk]))))))
          clear hoS hnr cn3 fn3 hcg hd3 y0 y1 hd2 HD2 q12 hql2
          generalize p2.w.setCell ⟨gn, n, none⟩ (.string st) = w3 at HD3 q13 O3 ⊢
          obtain ⟨aw, cw, hvw⟩ := own_slice HD3.out.wr
          subst hvw
          obtain ⟨m, hm⟩ : ∃ m, s.wt.length = m := ⟨_, rfl⟩
          rw [hm] at HD3 O3 hw
          have HM : Hid (s.wt.length = m) := hm
          have c2 := HD3.out.cells.2.2.1
          have ht3 := HD3.out.lt
          have hq3 := lt_of_cell q13
          obtain ⟨i0, hi0, hz⟩ := Option.map_eq_some_iff.1 wtInfo
          simp only [Prod.mk.injEq] at hz
          obtain ⟨hz0, hz1, hz2⟩ := hz
          have oA : Only [] w3 (w3.drew.alloc (.cells #[.int .i64 (n : Nat), .string st] 63)) := ((Only.refl [] w3).drew).alloc _
          have hS0 : w3.drew.cell? ⟨t, 2, none⟩ = some (.slice aw m cw) ∧ w3.drew.cell? ⟨w.heap.size, 1, none⟩ = some (.int .i64 (n : Nat)) := ⟨c2, q13⟩
          have hS1 : (w3.drew.alloc (.cells #[.int .i64 (n : Nat), .string st] 63)).cell? ⟨t, 2, none⟩ = some (.slice aw m cw) ∧ (w3.drew.alloc (.cells #[.int .i64 (n : Nat), .string st] 63)).cell? ⟨w.heap.size, 1, none⟩ = some (.int .i64 (n : Nat)) := ⟨(oA.cell (p := ⟨t, 2, none⟩) ht3 (by simp)).trans c2, (oA.cell (p := ⟨w.heap.size, 1, none⟩) hq3 (by simp)).trans q13⟩
          have HRA : Hid ((w3.drew.alloc (.cells #[.int .i64 (n : Nat), .string st] 63)).ownsRow base 63 2 (.slice aw m cw) m (rowOf wtC s.wt)) := by
            have := (HD3.out.keep oA).wr
            rw [hm] at this
            exact this
          have HNW : Hid (∀ (r1 : Nat) (q1 : Value), [Value.int .i64 (n : Nat), .string st][r1]? = some q1 → (w3.drew.alloc (.cells #[.int .i64 (n : Nat), .string st] 63)).cell? ((⟨w3.heap.size, 0, none⟩ : Addr).add r1) = some q1) := World.news_of_block (w := w3.drew.alloc (.cells #[.int .i64 (n : Nat), .string st] 63)) (heap_alloc_last w3.drew (.cells #[.int .i64 (n : Nat), .string st] 63))
          have HB2 : Hid (base ≤ (w3.drew.alloc (.cells #[.int .i64 (n : Nat), .string st] 63)).heap.size) := Nat.le_trans hbs (Nat.le_trans O3.out.size oA.size)
          have HSA : Hid ((w3.drew.alloc (.cells #[.int .i64 (n : Nat), .string st] 63)).heap.size = w3.heap.size + 1) := (by simp : (w3.drew.alloc (.cells #[.int .i64 (n : Nat), .string st] 63)).heap.size = w3.heap.size + 1)
          have HEND : Hid (∀ g6 c6 w6, w6.ownsRow base 63 2 (.slice (some ⟨g6, 0, none⟩) (m + 1) c6) (m + 1) (rowOf wtC s.wt ++ [.int .i64 (n : Nat), .string st]) → (w3.drew.alloc (.cells #[.int .i64 (n : Nat), .string st] 63)).grownBy w6 (Value.slice aw m cw).ownBlock → ((Value.slice aw m cw).ownBlock = some g6 ∨ g6 = w3.heap.size + 1) → (w6.cell? ⟨t, 2, none⟩ = some (.slice aw m cw) ∧ w6.cell? ⟨w.heap.size, 1, none⟩ = some (.int .i64 (n : Nat))) ∧ w6.frozen? ⟨t, 2, none⟩ = false ∧ t < w6.heap.size ∧ DnR w (w6.setCell ⟨t, 2, none⟩ (.slice (some ⟨g6, 0, none⟩) (m + 1) c6)) base t vk (.slice (some ⟨gn, 0, none⟩) s.sec.length cn) (.slice aw m cw) x s (.returned (.int .i64 0))) := fun g6 c6 w6 hr hg hat => by
            have hd := HD3.out
            have ho6 : Only (Value.slice aw m cw).ownBlock.toList w3 w6 := (oA.mono (fun _ h => by cases h)).grown hg (fun k hk => Or.inl (by rw [hk]; simp))
            have hr2 : w6.ownsRow base 63 2 (.slice (some ⟨g6, 0, none⟩) (m + 1) c6) (s.wt ++ ([⟨n, s.sec.getD n zeroS, padB x.S⟩] : List Wr)).length (rowOf wtC (s.wt ++ ([⟨n, s.sec.getD n zeroS, padB x.S⟩] : List Wr))) := by
              rw [List.length_append, List.length_singleton, hm, rowOf_append]
              have e : rowOf wtC ([⟨n, s.sec.getD n zeroS, padB x.S⟩] : List Wr) = [.int .i64 (n : Nat), .string st] := by simp [rowOf, wtC, HTX.out]
              rw [e]
              exact hr
            obtain ⟨h1, h2, h3, h4, h5⟩ := hd.put2 (v' := .slice (some ⟨g6, 0, none⟩) (m + 1) c6) (wt' := s.wt ++ [⟨n, s.sec.getD n zeroS, padB x.S⟩]) ho6 (fun k hk => by simpa using hk) hr2 (fun k hk => by
              have h9 : some g6 = some k := hk
              injection h9 with h9
              subst h9
              rcases hat with e | e
              · exact Or.inl e
              · exact Or.inr (by omega))
            refine ⟨⟨h1, (ho6.cell (p := ⟨w.heap.size, 1, none⟩) hq3 (fun hm2 => ?_)).trans q13⟩, h2, h3, DnR.of (c := 0) (s' := ⟨s.pw.map (· - 1), s.sec.set n (padB x.S), s.wt ++ [⟨n, s.sec.getD n zeroS, padB x.S⟩]⟩) (vk' := vk) (vn' := .slice (some ⟨gn, 0, none⟩) s.sec.length cn) (vw' := .slice (some ⟨g6, 0, none⟩) (m + 1) c6) ?_ ?_ (O3.out.trans h5 (fun k hk => Or.inl hk))⟩
            · have hbk := (own_blk hd.wr (b := w.heap.size) (by simpa using hm2)).2.2
              obtain ⟨cur, hcur⟩ := hbk
              have hc3 := q13
              rw [cell_of_row _ _ _ _ _ _ hcur] at hc3
              have hbx := O3.out.block w.heap.size hkl (fun hm3 => by
                rcases mem_dn.1 hm3 with e | e | e | e
                · exact hbt e
                · have := (own_blk HD.out.kr e).2.1
                  have h8 := heap_alloc_last w (.cells #[.string x.K, .int .i64 x.N, .string x.S, .slice x.ka x.B.length x.kc] 36)
                  obtain ⟨_, _, cu, hcu⟩ := own_blk HD.out.kr e
                  rw [show (acO w x).heap[w.heap.size]? = _ from h8] at hcu
                  simp at hcu
                · have e9 : some gn = some w.heap.size := e
                  injection e9 with e9
                  omega
                · rw [← HM.out] at e
                  obtain ⟨_, _, cu, hcu⟩ := own_blk HD.out.wr e
                  have h8 := heap_alloc_last w (.cells #[.string x.K, .int .i64 x.N, .string x.S, .slice x.ka x.B.length x.kc] 36)
                  rw [show (acO w x).heap[w.heap.size]? = _ from h8] at hcu
                  simp at hcu)
              have h8 := heap_alloc_last w (.cells #[.string x.K, .int .i64 x.N, .string x.S, .slice x.ka x.B.length x.kc] 36)
              rw [hbx, show (acO w x).heap[w.heap.size]? = _ from h8] at hcur
              simp at hcur
            · have e1 : x.N.toNat = n := by rw [HNN.out]; simp
              have e2 : (0 ≤ x.N ∧ x.N < s.sec.length) := by rw [HNN.out]; omega
              have e3 : ¬ 64 < x.S.size := HS64.out
              simp only [stepD, hk1, if_pos e2, if_neg e3, if_neg HNE.out, e1, ↓reduceIte]
            · rw [undo_snoc s.sec s.wt hnl]
              exact h4
          clear oA HD3 O3 c2 q13 hm
          go_upto_region 12 with (fail)
          go_region_held3 (fun W => W.cell? ⟨t, 2, none⟩ = some (.slice aw m cw) ∧ W.cell? ⟨w.heap.size, 1, none⟩ = some (.int .i64 (n : Nat))) (first | exact hS0 | exact hS1 | exact hS6)
            ((refine step_append_lies _ (by rfl) (.tmp 56) (.tmp 61) 42 (by rfl) base 63 i0 _ 2 24 wtsUnd hi0 hz0 hz1 hz2 (by rfl) (by decide) (.slice aw m cw) m (rowOf wtC s.wt) (by rfl) HRA.out ⟨w3.heap.size, 0, none⟩ 1 1 [.int .i64 (n : Nat), .string st] (by rfl) rfl HNW.out (fun q hq => by simp at hq; rcases hq with rfl | rfl <;> rfl) (by decide) (by unfold maxLen; omega) (by omega) HB2.out (w3.heap.size + 1) HSA.out ?_; intro g6 c6 w6 hown6 hgr6 hat6 hlt6; obtain ⟨hS6, e1, e2, hR⟩ := HEND.out g6 c6 w6 hown6 hgr6 hat6; have HR : Hid (DnR w (w6.setCell ⟨t, 2, none⟩ (.slice (some ⟨g6, 0, none⟩) (m + 1) c6)) base t vk (.slice (some ⟨gn, 0, none⟩) s.sec.length cn) (.slice aw m cw) x s (.returned (.int .i64 0))) := hR; have e0 := hS6.1; clear hown6 hgr6 hat6 hlt6 hR))
          go_wp2
          go_ret
          rw [HM.out]
          exact HR.out
end Go.Proofs.YtlddnbpcinoenaaDoor
