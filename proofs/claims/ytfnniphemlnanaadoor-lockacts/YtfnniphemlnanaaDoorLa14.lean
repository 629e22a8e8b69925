/- LockActs: the document's table: Drop. -/
import Derived.Test.YtfnniphemlnanaaDoorLa13
namespace Go.Proofs.YtfnniphemlnanaaDoor
open Go Go.RowKit Go.Deep

theorem filter_take {l : List Pt} {f : Pt → Bool} {j : Nat} {p : Pt} (h : l[j]? = some p) : (l.take (j + 1)).filter f = (l.take j).filter f ++ (if f p then [p] else []) := by
  obtain ⟨hj, rfl⟩ := List.getElem?_eq_some_iff.1 h
  rw [← List.take_append_getElem hj, List.filter_append]
  congr 1
  cases hf : f l[j] <;> simp [hf]
set_option maxRecDepth 100000 in
set_option maxHeartbeats 4000000 in
theorem rdrop_any (w : World) (base m : Nat) (u : Value) (P : List Pt) (N G O : Int) (h : RlAt w base m u P) (hb : base ≤ w.heap.size) (hl : P.length ≤ 100) (hP : ∀ p ∈ P, p.Ok) : Calls Tryd.prog 17 #[.pointer (some ⟨m, 0, none⟩), .agg #[.int .i64 N, .int .i64 G], .int .i64 O] w fun e w' => ∃ ps, IsPlaces P N G O ps ∧ e = .returned (.int .i64 ((runsP P N G O ps).length : Nat)) ∧ ∃ u', RlAt w' base m u' (P.filter (fun p => !keyP N G O p)) ∧ Only [m] w w' ∧ (∀ k, u'.ownBlock = some k → w.heap.size ≤ k) := by
  obtain ⟨i0, hi0, hz0, hz1, hz2⟩ := ptInfo'
  obtain ⟨adP, cpP, rfl, had, _⟩ := row_form h.own
  have HA : Hid (P ≠ [] → ∃ g, adP = some ⟨g, 0, none⟩) := had
  obtain ⟨n, hn⟩ : ∃ n, P.length = n := ⟨_, rfl⟩
  have HN : Hid (P.length = n) := hn
  rw [hn] at hl h
  have HU : Hid (∀ W, Only [] w W → Pts W base (.slice adP n cpP) P) := fun W ho => (h.only ho).own
  have HCM : Hid (∀ W, Only [] w W → W.cell? ⟨m, 0, none⟩ = some (.slice adP n cpP) ∧ W.frozen? ⟨m, 0, none⟩ = false) := fun W ho => ⟨(h.only ho).c0, (h.only ho).fr⟩
  have HRU : Hid (∀ W, Only [] w W → Calls Tryd.prog 34 #[.slice adP n cpP, .agg #[.int .i64 N, .int .i64 G], .int .i64 O] W fun e w' => ∃ (ps : List Int) (ad : Option Addr) (rn cp : Nat), e = .returned (.slice ad rn cp) ∧ IsPlaces P N G O ps ∧ (runsP P N G O ps).length = rn ∧ rn ≤ 201 ∧ Only [] W w') := fun W ho => (runs_any W base _ P N G O (HU.out W ho) (by rw [HN.out]; exact hl) hP).mono fun e w' hh => by
    obtain ⟨v', ps, he, h1, h2, h3, h4⟩ := hh
    obtain ⟨ad, cp, rfl, _⟩ := row_form h2
    exact ⟨ps, ad, _, cp, he, h1, rfl, h3, h4⟩
  have HTL : Hid (m < w.heap.size) := lt_of_cell h.c0
  have HBB : Hid (base ≤ w.heap.size) := hb
  have HBL : Hid (∀ W, Only [] w W → ∃ cs, W.heap[m]? = some (.cells cs 31 (0, 0))) := fun W ho => (h.only ho).bl
  have HO1 : Hid (Only [] w (w.alloc (.cells #[.int .i64 N, .int .i64 G] 33))) := (Only.refl [] w).alloc _
  have HS3 : Hid (∀ W, Only [] (w.alloc (.cells #[.int .i64 N, .int .i64 G] 33)) W → W.cell? ⟨m, 0, none⟩ = some (.slice adP n cpP) ∧ W.cell? ⟨w.heap.size, 0, none⟩ = some (.int .i64 N) ∧ W.cell? ⟨w.heap.size, 1, none⟩ = some (.int .i64 G)) := fun W ho => by
    have := two_own (B := w.heap.size) ho rfl
    exact ⟨(HCM.out W (only_nil HO1.out ho)).1, this.1, this.2.1⟩
  have HS0 : Hid ((w.alloc (.cells #[.int .i64 N, .int .i64 G] 33)).drew.cell? ⟨m, 0, none⟩ = some (.slice adP n cpP) ∧ (w.alloc (.cells #[.int .i64 N, .int .i64 G] 33)).drew.cell? ⟨w.heap.size, 0, none⟩ = some (.int .i64 N) ∧ (w.alloc (.cells #[.int .i64 N, .int .i64 G] 33)).drew.cell? ⟨w.heap.size, 1, none⟩ = some (.int .i64 G)) := HS3.out _ (Only.refl [] _).drew
  clear h hn had hP hb
  go_enter Tryd.func17, Tryd.ntmps17
  go_wp2
  have HO1D : Hid (Only [] w (w.alloc (.cells #[.int .i64 N, .int .i64 G] 33)).drew) := HO1.out.drew
  have htl0 := lt_of_cell HS0.out.1
  have htl1 : m < (w.alloc (.cells #[.int .i64 N, .int .i64 G] 33)).heap.size := htl0
  clear htl0
  go_region_held3 (fun W => W.cell? ⟨m, 0, none⟩ = some (.slice adP n cpP) ∧ W.cell? ⟨w.heap.size, 0, none⟩ = some (.int .i64 N) ∧ W.cell? ⟨w.heap.size, 1, none⟩ = some (.int .i64 G)) (with_reducible first | exact HS0.out | exact HS4.out)
    (first | (go_at_call 34; refine (HRU.out _ HO1D.out).mono ?_; rintro e w2 ⟨ps, ad2, rn, cp2, rfl, hip, hrn, hrl, ho2⟩; have HIP : Hid (IsPlaces P N G O ps ∧ (runsP P N G O ps).length = rn) := ⟨hip, hrn⟩; have HB2 : Hid (Only [] (w.alloc (.cells #[.int .i64 N, .int .i64 G] 33)) w2) := only_nil (Only.refl [] _).drew ho2; have HO2 : Hid (Only [] w w2) := only_nil HO1.out HB2.out; have HS4 : Hid (w2.cell? ⟨m, 0, none⟩ = some (.slice adP n cpP) ∧ w2.cell? ⟨w.heap.size, 0, none⟩ = some (.int .i64 N) ∧ w2.cell? ⟨w.heap.size, 1, none⟩ = some (.int .i64 G)) := HS3.out w2 HB2.out; clear hip hrn ho2))
  have HSW : Hid (∀ W, Only [] w2 W → W.cell? ⟨m, 0, none⟩ = some (.slice adP n cpP) ∧ W.cell? ⟨w.heap.size, 0, none⟩ = some (.int .i64 N) ∧ W.cell? ⟨w.heap.size, 1, none⟩ = some (.int .i64 G)) := fun W ho => HS3.out W (only_nil HB2.out ho)
  clear HS3 HS0 htl1
  go_wp2
  go_loopw [8, 9] (fun o i wr => ∃ j : Nat, i = .int .i64 j ∧ j ≤ n ∧ Pts wr base o ((P.take j).filter (fun p => !keyP N G O p)) ∧ Only [] w2 wr ∧ (∀ k, o.ownBlock = some k → w2.heap.size ≤ k)) (fun _ i _ => n - (intOf i).toNat)
  case atStart => exact ⟨0, rfl, Nat.zero_le _, World.ownsRow_nil _ _ _ _, Only.refl _ _, (fun k hk => by cases hk)⟩
  case round =>
    obtain ⟨j, rfl, hj, hO, ho, hfr⟩ := hrel
    have HOO : Hid (Pts wr base u8 ((P.take j).filter (fun p => !keyP N G O p))) := hO
    have HOW : Hid (Only [] w2 wr) := ho
    have HFR : Hid (∀ k, u8.ownBlock = some k → w2.heap.size ≤ k) := hfr
    clear hO ho hfr
    obtain ⟨s0, b0, b1⟩ := HSW.out wr HOW.out
    have hsl := lt_of_cell s0
    have hbl := lt_of_cell b0
    by_cases hlt : j < n
    · obtain ⟨p, hp⟩ : ∃ p, P[j]? = some p := ⟨_, List.getElem?_eq_getElem (by rw [HN.out]; exact hlt)⟩
      obtain ⟨g, rfl⟩ := HA.out (fun e => by rw [e] at hp; cases hp)
      have HP : Hid (P[j]? = some p) := hp
      have hj2 : (j : Int) < n := by omega
      have HCX : Hid (∀ W, Only [] w2 W → W.cell? ⟨g, j * 6, none⟩ = some (.int .i64 p.N) ∧ W.cell? ⟨g, j * 6 + 1, none⟩ = some (.int .i64 p.G) ∧ W.cell? ⟨g, j * 6 + 2, none⟩ = some (.int .i64 p.O) ∧ W.cell? ⟨g, j * 6 + 3, none⟩ = some (.int .i64 p.F) ∧ W.cell? ⟨g, j * 6 + 4, none⟩ = some (.int .i64 p.T) ∧ W.cell? ⟨g, j * 6 + 5, none⟩ = some (.int .i64 p.K)) := fun W ho => pt_cells (HU.out W (only_nil HO2.out ho)) HN.out HP.out
      clear hp
      go_upto_region 6 with fail
      go_cut [48] from 18 to 58 (fun c wx => c = .bool (!keyP N G O p) ∧ Only [] wr wx)
      case first =>
        obtain ⟨c0, c1, c2, c3, c4, c5⟩ := HCX.out wr HOW.out
        by_cases k1 : p.N = N
        · rw [k1] at c0
          by_cases k2 : p.G = G
          · rw [k2] at c1
            by_cases k3 : p.O = O
            · rw [k3] at c2
              have HG : Hid ((!keyP N G O p) = false) := by show _ = _; rw [keyP_iff.2 ⟨k1, k2, k3⟩]; rfl
              clear k1 k2 k3
              go_big_quiet (fail)
              go_wp2
              go_meet
              exact ⟨by rw [HG.out], (Only.refl [] wr).drewsN _⟩
            · have d3 : (p.O == O) = false := beq_eq_false_iff_ne.2 k3
              have d3a : (p.O != O) = true := bne_iff_ne.2 k3
              have HG : Hid ((!keyP N G O p) = true) := by show _ = _; unfold keyP; simp [k3]
              clear k1 k2 k3
              go_big_quiet (fail)
              go_wp2
              go_meet
              exact ⟨by rw [HG.out], (Only.refl [] wr).drewsN _⟩
          · have d2 : (p.G == G) = false := beq_eq_false_iff_ne.2 k2
            have HG : Hid ((!keyP N G O p) = true) := by show _ = _; unfold keyP; simp [k2]
            clear k1 k2
            go_big_quiet (fail)
            go_wp2
            go_meet
            exact ⟨by rw [HG.out], (Only.refl [] wr).drewsN _⟩
        · have d1 : (p.N == N) = false := beq_eq_false_iff_ne.2 k1
          have HG : Hid ((!keyP N G O p) = true) := by show _ = _; unfold keyP; simp [k1]
          clear k1
          go_big_quiet (fail)
          go_wp2
          go_meet
          exact ⟨by rw [HG.out], (Only.refl [] wr).drewsN _⟩
      case rest =>
        obtain ⟨rfl, hoc⟩ := hcut
        have HR4 : Hid (Only [] wr wc) := hoc
        clear hoc s0 b0 b1 hsl hbl
        generalize wc = wt at HR4 ⊢
        have HW4 : Hid (Only [] w2 wt) := only_nil HOW.out HR4.out
        obtain ⟨s0, b0, b1⟩ := HSW.out wt HW4.out
        have hsl := lt_of_cell s0
        cases hk : keyP N G O p with
        | true =>
          have HST : Hid ((P.take (j + 1)).filter (fun p => !keyP N G O p) = (P.take j).filter (fun p => !keyP N G O p)) := by show _ = _; rw [filter_take HP.out]; simp [hk]
          clear hk
          go_wp2
          go_roundw
          case rel => exact ⟨j + 1, by go_num, by omega, (by rw [HST.out]; exact HOO.out.only HR4.out (fun _ _ => by simp)), HW4.out, HFR.out⟩
          case measure => simp [intOf]; omega
        | false =>
          have HST : Hid ((P.take (j + 1)).filter (fun p => !keyP N G O p) = (P.take j).filter (fun p => !keyP N G O p) ++ [p]) := by show _ = _; rw [filter_take HP.out]; simp [hk]
          obtain ⟨dn, hdn⟩ : ∃ dn, ((P.take j).filter (fun p => !keyP N G O p)).length = dn := ⟨_, rfl⟩
          have HDN : Hid (((P.take j).filter (fun p => !keyP N G O p)).length = dn) := hdn
          have hdb : dn ≤ 100 := by
            have h1 := List.length_filter_le (fun p => !keyP N G O p) (P.take j)
            rw [List.length_take] at h1
            omega
          have HRO4 : Hid (wt.ownsRow base 66 6 u8 dn (rowOf ptC ((P.take j).filter (fun p => !keyP N G O p)))) := by
            show wt.ownsRow _ _ _ _ _ _
            have hh := HOO.out.only HR4.out (fun _ _ => by simp)
            unfold Pts at hh
            rw [HDN.out] at hh
            exact hh
          have HNW : Hid (∀ (r : Nat) (q : Value), (ptC p)[r]? = some q → (wt.alloc (.cells #[.int .i64 p.N, .int .i64 p.G, .int .i64 p.O, .int .i64 p.F, .int .i64 p.T, .int .i64 p.K] 66)).cell? ((⟨wt.heap.size, 0, none⟩ : Addr).add r) = some q) := World.news_of_block (w := wt.alloc (.cells #[.int .i64 p.N, .int .i64 p.G, .int .i64 p.O, .int .i64 p.F, .int .i64 p.T, .int .i64 p.K] 66)) (heap_alloc_last wt _)
          have HB2 : Hid (base ≤ (wt.alloc (.cells #[.int .i64 p.N, .int .i64 p.G, .int .i64 p.O, .int .i64 p.F, .int .i64 p.T, .int .i64 p.K] 66)).heap.size) := by show base ≤ _; rw [World.size_alloc]; have := HBB.out; have := HO2.out.size; have := HW4.out.size; omega
          obtain ⟨c0, c1, c2, c3, c4, c5⟩ := HCX.out wt HW4.out
          clear hk hdn
          go_wp2_with (first
            | (at_builtin; refine wpList_append_lies _ rfl (.tmp 49) (.tmp 57) 29 rfl base 66 i0 _ 6 48 ptsUnd hi0 hz0 hz1 hz2 rfl (by decide) u8 dn (rowOf ptC ((P.take j).filter (fun p => !keyP N G O p))) rfl (World.ownsRow.alloc HRO4.out _) ⟨wt.heap.size, 0, none⟩ 1 1 (ptC p) rfl rfl HNW.out (ptC_one _) (by decide) (by unfold maxLen; omega) (by omega) HB2.out (wt.heap.size + 1) (by simp) ?_; intro g5 c5' w5 hown5 hgr5 hat5 hlt5; have HV5 : Hid (Pts w5 base (.slice (some ⟨g5, 0, none⟩) (dn + 1) c5') ((P.take (j + 1)).filter (fun p => !keyP N G O p))) := (by show Pts _ _ _ _; rw [HST.out]; exact pts_snoc HDN.out hown5); have HW5 : Hid (Only [] w2 w5) := (HW4.out.alloc _).grown hgr5 (fun k hk => Or.inr (HFR.out k hk)); have HG5 : Hid (w2.heap.size ≤ g5) := (by show w2.heap.size ≤ g5; rcases hat5 with e | e; exact HFR.out g5 e; have := HW4.out.size; omega); clear hown5 hgr5 hat5 hlt5 c0 c1 c2 c3 c4 c5 s0 b0 b1 hsl)
            | go_in)
          go_roundw
          case rel => exact ⟨j + 1, by go_num, by omega, HV5.out, HW5.out, (fun k hk => by obtain rfl : g5 = k := Option.some.inj hk; exact HG5.out)⟩
          case measure => simp [intOf]; omega
    · obtain rfl : j = n := by omega
      have hj2 : decide ((j : Int) < j) = false := decide_eq_false (by omega)
      have HE : Hid (Pts wr base u8 (P.filter (fun p => !keyP N G O p))) := by show Pts _ _ _ _; have hh := HOO.out; rw [← HN.out, List.take_length] at hh; exact hh
      obtain ⟨adO, cpO, rfl, _⟩ := row_form HE.out
      have HW6 : Hid (Only [] w wr) := only_nil HO2.out HOW.out
      obtain ⟨k1, k2⟩ := HCM.out wr HW6.out
      generalize (P.filter (fun p => !keyP N G O p)).length = fn at HE HFR HOO ⊢
      go_wp2
      have hx : Only [m] wr (wr.setCell ⟨m, 0, none⟩ (.slice adO fn cpO)) := (Only.refl [m] wr).setCell (Or.inl (by simp)) _
      have kx : (wr.setCell ⟨m, 0, none⟩ (.slice adO fn cpO)).cell? ⟨m, 0, none⟩ = some (.slice adO fn cpO) := World.cell?_setCell_same _ _ _ k1
      have hg : ∀ k, (Value.slice adO fn cpO).ownBlock = some k → w.heap.size ≤ k := fun k hk => Nat.le_trans HO2.out.size (HFR.out k hk)
      have hne : ∀ k, (Value.slice adO fn cpO).ownBlock = some k → k ≠ m := fun k hk e => by have := hg k hk; have := HTL.out; omega
      go_ret
      exact ⟨ps, HIP.out.1, congrArg (fun z : Nat => Ending.returned (Value.int IntKind.i64 (z : Int))) HIP.out.2.symm, _, ⟨kx, by simpa using k2, HE.out.only hx (fun k hk => by simpa using hne k hk), hne, (HBL.out wr HW6.out).elim (fun cs hc => ⟨_, heap_setCell_same wr m 0 cs _ _ hc⟩)⟩, (HW6.out.mono (fun _ hk => by cases hk)).trans hx (fun k hk => Or.inl hk), hg⟩
end Go.Proofs.YtfnniphemlnanaaDoor
