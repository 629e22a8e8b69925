/- DiskActs: the document's Do: crash; Do as a whole. -/
import Derived.Test.YtlddnbpcinoenaaDoorDn3
namespace Go.Proofs.YtlddnbpcinoenaaDoor
open Go Go.RowKit Go.Deep

theorem AcKeep.at_ {W : World} {x : Ac} (h : AcKeep W x) {j : Nat} (hj : j < x.B.length) : ∃ kb ko, x.ka = some ⟨kb, ko, none⟩ ∧ W.cell? ⟨kb, ko + j, none⟩ = some (.bool (keepB x.B j)) := by
  rcases h with ⟨_, e, _⟩ | ⟨ad, e, h⟩
  · rw [e] at hj
    simp at hj
  · have hc := h j (.bool (keepB x.B j)) (by simp [keepB, hj])
    obtain ⟨kb, ko, sp⟩ := ad
    have hs : sp = none := by
      have h2 := World.cell?_spot (h 0 (.bool (keepB x.B 0)) (by simp [keepB, (Nat.lt_of_le_of_lt (Nat.zero_le _) hj : 0 < x.B.length)]))
      simpa [Addr.add] using h2
    subst hs
    exact ⟨kb, ko, e, by rw [add_none] at hc; exact hc⟩
set_option maxRecDepth 100000 in
set_option maxHeartbeats 4000000 in
theorem do_crash {w : World} {base t : Nat} {vk vn vw : Value} {s : DSt} (h : DnAt w base t s.pw vk vn vw (undo s.sec s.wt) s.sec s.wt) (hb0 : base ≤ w.heap.size) (hpos : 1 ≤ s.sec.length) (hmost : s.sec.length ≤ 4000) (hins : ∀ y ∈ s.wt, y.n < s.sec.length) (hw : s.wt.length ≤ 100000) (x : Ac) (hx : ∀ W, Below base w W → AcKeep W x) (hbl : x.B.length ≤ 2000000) (hk1 : (x.K.toList == [119, 114, 105, 116, 101]) = false) (hk2 : (x.K.toList == [102, 108, 117, 115, 104]) = false) (hk3 : (x.K.toList == [102, 97, 105, 108]) = false) (hk4 : (x.K.toList == [99, 114, 97, 115, 104]) = true) :
    Calls Tryd.prog 11 #[.pointer (some ⟨t, 0, none⟩), .agg #[.string x.K, .int .i64 x.N, .string x.S, .slice x.ka x.B.length x.kc]] w fun e w' => DnR w w' base t vk vn vw x s e := by
  obtain ⟨k0, k1, k2, k3, hkl⟩ := acO_cells w x
  have hoA : Only [] w (acO w x) := (Only.refl [] w).alloc _
  have hd : DnAt (acO w x) base t s.pw vk vn vw (undo s.sec s.wt) s.sec s.wt := h.keep hoA
  have HFL : Hid (∀ k ∈ dnFoot t vk vn vw, k < w.heap.size) := h.foot_lt
  obtain ⟨gk, ck, hvk⟩ : ∃ gk ck, vk = .slice (some ⟨gk, 0, none⟩) s.sec.length ck := by
    rcases h.kr.2 with ⟨_, e⟩ | ⟨g, c, cur, e, _⟩
    · rw [undo_len] at e
      omega
    · rw [undo_len] at e
      exact ⟨g, c, e⟩
  subst hvk
  obtain ⟨aw, cw, hvw⟩ := own_slice h.wr
  obtain ⟨m, hm⟩ : ∃ m, s.wt.length = m := ⟨_, rfl⟩
  rw [hm] at hvw hw
  subst hvw
  have HM : Hid (s.wt.length = m) := hm
  have HD : Hid (DnAt (acO w x) base t s.pw (.slice (some ⟨gk, 0, none⟩) s.sec.length ck) vn (.slice aw m cw) (undo s.sec s.wt) s.sec s.wt) := hd
  have HX : Hid (∀ W, Only (dnFoot t (.slice (some ⟨gk, 0, none⟩) s.sec.length ck) vn (.slice aw m cw)) (acO w x) W → W.cell? ⟨w.heap.size, 0, none⟩ = some (.string x.K) ∧ W.cell? ⟨w.heap.size, 3, none⟩ = some (.slice x.ka x.B.length x.kc) ∧ AcKeep W x) := fun W ho => by
    have hbw : Below base w W := ((hoA.mono (fun _ h => by cases h)).trans ho (fun k hk => Or.inl hk)).to_below hb0 h.foot_ge
    have hn : ∀ k, w.heap.size ≤ k → k ∉ dnFoot t (.slice (some ⟨gk, 0, none⟩) s.sec.length ck) vn (.slice aw m cw) := fun k hk hm => by
      have := HFL.out k hm
      omega
    refine ⟨(ho.cell (p := ⟨w.heap.size, 0, none⟩) hkl (hn _ (Nat.le_refl _))).trans k0, (ho.cell (p := ⟨w.heap.size, 3, none⟩) hkl (hn _ (Nat.le_refl _))).trans k3, hx W hbw⟩
  unfold acO at k0 k1 k2 k3 hkl
  clear h hd hm hx
  go_enter Tryd.func11, Tryd.ntmps11
  go_wp2
  go_loopw [10] (fun i wr => ∃ j : Nat, i = .int .i64 (j : Nat) ∧ j ≤ m ∧ DnAt wr base t s.pw (.slice (some ⟨gk, 0, none⟩) s.sec.length ck) vn (.slice aw m cw) (redo (keepB x.B) s.wt (undo s.sec s.wt) j) s.sec s.wt ∧ Only (dnFoot t (.slice (some ⟨gk, 0, none⟩) s.sec.length ck) vn (.slice aw m cw)) (acO w x) wr) (fun i _ => m - (intOf i).toNat)
  case atStart => exact ⟨0, rfl, Nat.zero_le _, HD.out, Only.refl _ _⟩
  case round =>
    obtain ⟨j, rfl, hj, hd, ho⟩ := hrel
    have H : Hid (DnAt wr base t s.pw (.slice (some ⟨gk, 0, none⟩) s.sec.length ck) vn (.slice aw m cw) (redo (keepB x.B) s.wt (undo s.sec s.wt) j) s.sec s.wt ∧ Only (dnFoot t (.slice (some ⟨gk, 0, none⟩) s.sec.length ck) vn (.slice aw m cw)) (acO w x) wr) := ⟨hd, ho⟩
    have c0 := hd.cells.1
    have c2 := hd.cells.2.2.1
    have ht := hd.lt
    by_cases hlt : j < m
    · have hl : decide ((j : Int) < (m : Int)) = true := decide_eq_true (by omega)
      obtain ⟨y, hy⟩ : ∃ y, s.wt[j]? = some y := ⟨s.wt[j]'(by have := HM.out; omega), List.getElem?_eq_getElem _⟩
      have hyn : y.n < s.sec.length := hins y (List.mem_of_getElem? hy)
      obtain ⟨b0, b3, bk⟩ := HX.out wr ho
      have hb3 := lt_of_cell b3
      have hwr := hd.wr
      rw [HM.out] at hwr
      obtain ⟨gw, rfl⟩ : ∃ gw, aw = some ⟨gw, 0, none⟩ := by
        rcases hwr.2 with ⟨_, e2⟩ | ⟨gw, cap2, cur2, e1, _⟩
        · omega
        · cases e1
          exact ⟨_, rfl⟩
      have HRD : Hid (redo (keepB x.B) s.wt (undo s.sec s.wt) (j + 1) = if keepB x.B j then (redo (keepB x.B) s.wt (undo s.sec s.wt) j).set y.n y.now else redo (keepB x.B) s.wt (undo s.sec s.wt) j) := by
        show _ = _
        simp only [redo, hy]
      have bm : (j : Int) < (m : Int) := by omega
      have fin : Hid (keepB x.B j = false → ∃ j' : Nat, Value.int .i64 ((j : Int) + 1) = .int .i64 (j' : Nat) ∧ j' ≤ m ∧ DnAt wr base t s.pw (.slice (some ⟨gk, 0, none⟩) s.sec.length ck) vn (.slice (some ⟨gw, 0, none⟩) m cw) (redo (keepB x.B) s.wt (undo s.sec s.wt) j') s.sec s.wt ∧ Only (dnFoot t (.slice (some ⟨gk, 0, none⟩) s.sec.length ck) vn (.slice (some ⟨gw, 0, none⟩) m cw)) (acO w x) wr) := fun hf => ⟨j + 1, by simp, by omega, by rw [HRD.out, hf]; exact H.out.1, H.out.2⟩
      by_cases hjk : j < x.B.length
      · have d1 : decide ((j : Int) < (x.B.length : Int)) = true := decide_eq_true (by omega)
        have b2 : (j : Int) < (x.B.length : Int) := by omega
        obtain ⟨kb, ko, hka, hkc⟩ := bk.at_ hjk
        rw [hka] at b3
        have hkcl := lt_of_cell hkc
        cases hkf : keepB x.B j with
        | false =>
          rw [hkf] at hkc
          have FF : Hid _ := fin.out hkf
          clear hd ho bk fin hwr
          go_wp2
          go_roundw
          case rel => exact FF.out
          case measure => simp [intOf]; omega
        | true =>
          rw [hkf] at hkc
          have y0 : ∀ p : OnlyBy wr, p.w.cell? ⟨t, 0, none⟩ = some (.slice (some ⟨gk, 0, none⟩) s.sec.length ck) := fun p => (hd.keep p.ho).cells.1
          have y1 : ∀ p : OnlyBy wr, p.w.cell? ⟨t, 2, none⟩ = some (.slice (some ⟨gw, 0, none⟩) m cw) := fun p => (hd.keep p.ho).cells.2.2.1
          have hcw : ∀ p : OnlyBy wr, ∀ i, i < 2 → p.w.cell? ⟨gw, j * 2 + i, none⟩ = (wtC y)[i]? := fun p i hi => by
            have hr2 := (hd.keep p.ho).wr
            rw [HM.out] at hr2
            rw [World.ownsRow.cellAt hr2 _ (by omega)]
            exact rowOf_get wtC_len s.wt j i y hi hy
          have y2 : ∀ p : OnlyBy wr, p.w.cell? ⟨gw, j * 2, none⟩ = some (.int .i64 (y.n : Nat)) := fun p => hcw p 0 (by decide)
          have y3 : ∀ p : OnlyBy wr, p.w.cell? ⟨gw, j * 2 + 1, none⟩ = some (.string (bs y.now.1)) := fun p => hcw p 1 (by decide)
          have HST : Hid (∀ p : OnlyBy wr, p.w.cell? ⟨gk, y.n, none⟩ ≠ none ∧ p.w.frozen? ⟨gk, y.n, none⟩ = false ∧ DnAt (p.w.setCell ⟨gk, y.n, none⟩ (.string (bs y.now.1))) base t s.pw (.slice (some ⟨gk, 0, none⟩) s.sec.length ck) vn (.slice (some ⟨gw, 0, none⟩) m cw) (redo (keepB x.B) s.wt (undo s.sec s.wt) (j + 1)) s.sec s.wt ∧ Only (dnFoot t (.slice (some ⟨gk, 0, none⟩) s.sec.length ck) vn (.slice (some ⟨gw, 0, none⟩) m cw)) (acO w x) (p.w.setCell ⟨gk, y.n, none⟩ (.string (bs y.now.1)))) := fun p => by
            have hdp := hd.keep p.ho
            have hlen : (redo (keepB x.B) s.wt (undo s.sec s.wt) j).length = s.sec.length := by rw [redo_len, undo_len]
            have hoS : Only [gk] p.w (p.w.setCell ⟨gk, y.n, none⟩ (.string (bs y.now.1))) := (Only.refl [gk] p.w).setCell (Or.inl (by simp)) _
            have hc : p.w.cell? ⟨gk, y.n, none⟩ = ((redo (keepB x.B) s.wt (undo s.sec s.wt) j).map txt)[y.n]? := by
              have hkr := hdp.kr
              rw [hlen] at hkr
              exact World.ownsRow.cellAt hkr y.n (by omega)
            obtain ⟨_, _, cur, hcg⟩ := own_blk hdp.kr (b := gk) rfl
            have hkr := own_cell_set (c := txt) hdp.kr y.n y.now
            refine ⟨by rw [hc, List.getElem?_map, List.getElem?_eq_getElem (by rw [hlen]; exact hyn)]; simp, frozen_of_row _ _ _ _ _ hcg, ⟨(hoS.block t hdp.lt (by simpa using fun e => hdp.nek (k := gk) rfl e.symm)).trans hdp.blk, hdp.tb, ?_, hoS.owns hdp.nr (fun k hk hm => hdp.ne gk rfl (by rw [← List.mem_singleton.1 hm]; exact hk)), hoS.owns hdp.wr (fun k hk hm => hdp.nsw (k := gk) (Or.inl rfl) hk (List.mem_singleton.1 hm).symm), hdp.ne⟩, ?_⟩
            · rw [HRD.out, hkf]
              exact hkr
            · exact (ho.trans p.ho (fun _ h => by cases h)).trans hoS (fun k hk => Or.inl (mem_dn.2 (Or.inr (Or.inl (by simp at hk; simp [Value.ownBlock, hk])))))
          haveI : Nonempty (OnlyBy wr) := ⟨⟨_, Only.refl _ _⟩⟩
          have bn0 : (0 : Int) ≤ (y.n : Int) := by omega
          have bn1 : (y.n : Int) < (s.sec.length : Int) := by omega
          clear hd ho bk fin hwr hcw
          go_upto_region 30 with (fail)
          refine wp_region_any (by kernel_rfl) ?_
          change wpAny _ _ _ _ _ _ _ (World.drew _)
          refine wpAny_pre2 (w0 := wr) (k0 := 0) 21 1 _ rfl (by decide) (by kernel_rfl) (by kernel_rfl) (by kernel_rfl) (by kernel_rfl) (Only.refl [] _).drew ?_
          simp only [List.drop_zero, List.take_succ_cons, List.take_zero]
          repeat (first | go_big_quiet_skip | quiet_step (fail))
          refine wpQuiet_nil ?_
          intro _ hw'
          obtain ⟨p2, hw2⟩ := hw'
          subst hw2
          obtain ⟨hs1, fn3, hs3, hs4⟩ := HST.out p2
          obtain ⟨v3, cn3⟩ := Option.ne_none_iff_exists'.1 hs1
          have HF : Hid (DnAt (p2.w.setCell ⟨gk, y.n, none⟩ (.string (bs y.now.1))) base t s.pw (.slice (some ⟨gk, 0, none⟩) s.sec.length ck) vn (.slice (some ⟨gw, 0, none⟩) m cw) (redo (keepB x.B) s.wt (undo s.sec s.wt) (j + 1)) s.sec s.wt ∧ Only (dnFoot t (.slice (some ⟨gk, 0, none⟩) s.sec.length ck) vn (.slice (some ⟨gw, 0, none⟩) m cw)) (acO w x) (p2.w.setCell ⟨gk, y.n, none⟩ (.string (bs y.now.1)))) := ⟨hs3, hs4⟩
          clear hs1 hs3 hs4 HST
          refine wpAny_ready (rs := [21]) (by kernel_rfl) (by simp) ?_
          refine AllReady.cons rfl (fun K hK => ?_) AllReady.nil
          go_simp
          refine hK _ _ ?_
          clear hK K
          refine wpAny_done (by kernel_rfl) ?_ _
          go_wp2
          go_roundw
          case rel => exact ⟨j + 1, by go_num, by omega, HF.out.1, HF.out.2⟩
          case measure => simp [intOf]; omega
      · have d1 : decide ((j : Int) < (x.B.length : Int)) = false := decide_eq_false (by omega)
        have FF : Hid _ := fin.out (by simp [keepB, List.getD, List.getElem?_eq_none (Nat.le_of_not_lt hjk)])
        clear hd ho bk fin hwr
        go_wp2
        go_roundw
        case rel => exact FF.out
        case measure => simp [intOf]; omega
    · obtain rfl : m = j := by omega
      have hl : decide ((m : Int) < (m : Int)) = false := decide_eq_false (by omega)
      obtain ⟨R, hR⟩ : ∃ R, redo (keepB x.B) s.wt (undo s.sec s.wt) m = R := ⟨_, rfl⟩
      have hRl : R.length = s.sec.length := by rw [← hR, redo_len, undo_len]
      rw [hR] at hd
      have HRR : Hid (redo (keepB x.B) s.wt (undo s.sec s.wt) s.wt.length = R) := by rw [HM.out]; exact hR
      have hkr := hd.kr
      rw [hRl] at hkr
      have HNW : Hid (∀ j u, (R.map txt)[j]? = some u → wr.cell? ((⟨gk, 0, none⟩ : Addr).add j) = some u) := World.ownsRow.cells hkr rfl
      have hz1' : base ≤ wr.heap.size := Nat.le_trans hb0 (Nat.le_trans hoA.size ho.size)
      have HEND : Hid (∀ g6 c6 w6, w6.ownsRow base 9 1 (.slice (some ⟨g6, 0, none⟩) (0 + s.sec.length) c6) (0 + s.sec.length) ([] ++ R.map txt) → wr.grownBy w6 (Value.slice none 0 0).ownBlock → ((Value.slice none 0 0).ownBlock = some g6 ∨ g6 = wr.heap.size) → w6.cell? ⟨t, 1, none⟩ = some vn ∧ w6.frozen? ⟨t, 1, none⟩ = false ∧ t < w6.heap.size ∧ w6.cell? ⟨t, 2, none⟩ = some (.slice aw m cw) ∧ w6.frozen? ⟨t, 2, none⟩ = false ∧ w6.cell? ⟨t, 3, none⟩ = some (.int .i64 (leftI s.pw)) ∧ w6.frozen? ⟨t, 3, none⟩ = false ∧ DnR w (((w6.setCell ⟨t, 1, none⟩ (.slice (some ⟨g6, 0, none⟩) (0 + s.sec.length) c6)).setCell ⟨t, 2, none⟩ (.slice none 0 0)).setCell ⟨t, 3, none⟩ (.int .i64 (-1))) base t (.slice (some ⟨gk, 0, none⟩) s.sec.length ck) vn (.slice aw m cw) x s (.returned (.int .i64 0))) := fun g6 c6 w6 hr hg hat => by
        rw [Nat.zero_add, List.nil_append] at hr
        have ho6 : Only [] wr w6 := (Only.refl [] wr).grown hg (fun k hk => by cases hk)
        have hg6 : g6 = wr.heap.size := by
          rcases hat with e | e
          · cases e
          · exact e
        have hd6 := hd.keep ho6
        obtain ⟨h1, h2, h3, h4, h5⟩ := hd.put1 (v' := .slice (some ⟨g6, 0, none⟩) s.sec.length c6) (now' := R) ho6 (fun k hk => by cases hk) (by rw [hRl]; exact hr) (fun k hk => by
          have h9 : some g6 = some k := hk
          injection h9 with h9
          subst h9
          exact Or.inr (by omega))
        obtain ⟨q1, q2, q3, q4, q5⟩ := h4.put2 (v' := .slice none 0 0) (wt' := []) (Only.refl [] _) (fun k hk => by cases hk) (World.ownsRow_nil _ _ _ _) (fun k hk => by cases hk)
        have hoL : Only [t] ((w6.setCell ⟨t, 1, none⟩ (.slice (some ⟨g6, 0, none⟩) s.sec.length c6)).setCell ⟨t, 2, none⟩ (.slice none 0 0)) (((w6.setCell ⟨t, 1, none⟩ (.slice (some ⟨g6, 0, none⟩) s.sec.length c6)).setCell ⟨t, 2, none⟩ (.slice none 0 0)).setCell ⟨t, 3, none⟩ (.int .i64 (-1))) := (Only.refl _ _).setCell (Or.inl (by simp)) _
        rw [Nat.zero_add]
        refine ⟨h1, h2, h3, hd6.cells.2.2.1, hd6.cells.2.2.2.2 2, hd6.cells.2.2.2.1, hd6.cells.2.2.2.2 3, DnR.of (c := 0) (s' := ⟨none, R, []⟩) (vk' := .slice (some ⟨gk, 0, none⟩) s.sec.length ck) (vn' := .slice (some ⟨g6, 0, none⟩) s.sec.length c6) (vw' := .slice none 0 0) ?_ ⟨?_, q4.tb, hoL.owns q4.kr (fun k hk => by simpa using q4.nek hk), hoL.owns q4.nr (fun k hk => by simpa using q4.nen hk), World.ownsRow_nil _ _ _ _, q4.ne⟩ ?_⟩
        · simp [stepD, hk1, hk2, hk3, hk4, HRR.out]
        · rw [heap_setCell_same _ t 3 _ _ _ q4.blk]
          simp [leftI]
        · refine ((ho.trans h5 (fun k hk => Or.inl hk)).trans q5 (fun k hk => ?_)).trans hoL (fun k hk => Or.inl (mem_dn.2 (Or.inl (by simpa using hk))))
          rcases mem_dn.1 hk with e | e | e | e
          · exact Or.inl (mem_dn.2 (Or.inl e))
          · exact Or.inl (mem_dn.2 (Or.inr (Or.inl e)))
          · have h9 : some g6 = some k := e
            injection h9 with h9
            have := ho.size
            exact Or.inr (by omega)
          · exact Or.inl (mem_dn.2 (Or.inr (Or.inr (Or.inr e))))
      obtain ⟨i0, hi0, hz⟩ := Option.map_eq_some_iff.1 strInfo
      simp only [Prod.mk.injEq] at hz
      obtain ⟨hz0, hz1, hz2⟩ := hz
      have hRm : (R.map txt).length = s.sec.length * 1 := by simp [hRl]
      clear hd ho hkr hR
      go_wp2_with (at_builtin; refine wpList_append_lies _ rfl (.tmp 140) (.tmp 144) 41 rfl base 9 i0 _ 1 16 strsUnd hi0 hz0 hz1 hz2 rfl (by decide) (.slice none 0 0) 0 [] rfl (World.ownsRow_nil _ _ _ _) ⟨gk, 0, none⟩ s.sec.length ck (R.map txt) rfl hRm HNW.out (fun q hq => by obtain ⟨y, _, rfl⟩ := List.mem_map.1 hq; rfl) (by omega) (by unfold maxLen; omega) (by omega) hz1' wr.heap.size rfl ?_; intro g6 c6 w6 hown6 hgr6 hat6 hlt6; obtain ⟨e0, e1, e2, e3, e4, e5, e6, hR⟩ := HEND.out g6 c6 w6 hown6 hgr6 hat6; have HR : Hid (DnR w (((w6.setCell ⟨t, 1, none⟩ (.slice (some ⟨g6, 0, none⟩) (0 + s.sec.length) c6)).setCell ⟨t, 2, none⟩ (.slice none 0 0)).setCell ⟨t, 3, none⟩ (.int .i64 (-1))) base t (.slice (some ⟨gk, 0, none⟩) s.sec.length ck) vn (.slice aw m cw) x s (.returned (.int .i64 0))) := hR; clear hown6 hgr6 hat6 hlt6 hR)
      go_ret
      have := HR.out
      rw [Nat.zero_add] at this
      exact this
theorem do_all {w : World} {base t : Nat} {vk vn vw : Value} {s : DSt} (h : DnAt w base t s.pw vk vn vw (undo s.sec s.wt) s.sec s.wt) (hb0 : base ≤ w.heap.size) (hpos : 1 ≤ s.sec.length) (hmost : s.sec.length ≤ 4000) (hins : ∀ y ∈ s.wt, y.n < s.sec.length) (hq : ∀ k, s.pw = some k → k < 9223372036854775808) (hw : s.wt.length ≤ 100000) (x : Ac) (hx : ∀ W, Below base w W → AcKeep W x) (hbl : x.B.length ≤ 2000000) :
    Calls Tryd.prog 11 #[.pointer (some ⟨t, 0, none⟩), .agg #[.string x.K, .int .i64 x.N, .string x.S, .slice x.ka x.B.length x.kc]] w fun e w' => DnR w w' base t vk vn vw x s e := by
  cases hk1 : (x.K.toList == [119, 114, 105, 116, 101]) with
  | true => exact do_write h hb0 hpos hmost hq hw x hk1
  | false =>
    cases hk2 : (x.K.toList == [102, 108, 117, 115, 104]) with
    | true => exact do_flush h hb0 hpos hmost hq x hk1 hk2
    | false =>
      cases hk3 : (x.K.toList == [102, 97, 105, 108]) with
      | true => exact do_fail h x hk1 hk2 hk3
      | false =>
        cases hk4 : (x.K.toList == [99, 114, 97, 115, 104]) with
        | true => exact do_crash h hb0 hpos hmost hins hw x hx hbl hk1 hk2 hk3 hk4
        | false => exact do_none h x hk1 hk2 hk3 hk4
end Go.Proofs.YtlddnbpcinoenaaDoor
