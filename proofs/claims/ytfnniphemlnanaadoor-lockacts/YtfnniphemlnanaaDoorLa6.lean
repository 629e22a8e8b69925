/- LockActs: the document's runs of an owner at a node. -/
import Derived.Test.YtfnniphemlnanaaDoorLa5
namespace Go.Proofs.YtfnniphemlnanaaDoor
open Go Go.RowKit Go.Deep

theorem rkInfo' : ∃ i, Tryd.prog.info? 44 = some i ∧ i.zero = some (.agg #[.int .i64 0, .int .i64 0, .int .i64 0, .int .i64 0, .int .i64 0, .bool false]) ∧ i.size = 6 ∧ i.bytes = 48 := by
  have h : (Tryd.prog.info? 44).map (fun i => (i.zero, i.size, i.bytes)) = some (some (.agg #[.int .i64 0, .int .i64 0, .int .i64 0, .int .i64 0, .int .i64 0, .bool false]), 6, 48) := by kernel_rfl
  cases hi : Tryd.prog.info? 44 with
  | none => rw [hi] at h; cases h
  | some i =>
    rw [hi] at h
    simp only [Option.map_some, Option.some.injEq, Prod.mk.injEq] at h
    exact ⟨i, rfl, h.1, h.2.1, h.2.2⟩
theorem rksUnd : Tryd.prog.underlying 54 = some (.slice 44) := by kernel_rfl
/-- The document's runs in a row of one's own. -/
def Rks (w : World) (base : Nat) (v : Value) (l : List Lk) : Prop := w.ownsRow base 44 6 v l.length (rowOf lkC l)
theorem Rks.only {w w' : World} {base : Nat} {v : Value} {l : List Lk} {L : List Nat} (h : Rks w base v l) (ho : Only L w w') (hn : ∀ k, v.ownBlock = some k → k ∉ L) : Rks w' base v l := ho.owns h hn
def mkRun (N G O : Int) (r : Int × Int × Int) : Lk := ⟨N, G, O, r.1, sizR r.1 r.2.1, r.2.2 == 2⟩
/-- While the places are gone through. -/
structure RunsAt (P : List Pt) (N G O : Int) (ps : List Int) (R : List Lk) (what fr : Int) (j : Nat) : Prop where
  eq : runsP P N G O ps = R ++ (runR (atP P N G O) what fr (ps.drop j)).map (mkRun N G O)
  len : R.length ≤ j
  f0 : 0 ≤ fr
  f1 : fr ≤ 2199023255552
theorem drop_cons {ps : List Int} {j : Nat} {p : Int} (h : ps[j]? = some p) : ps.drop j = p :: ps.drop (j + 1) := by
  obtain ⟨hj, rfl⟩ := List.getElem?_eq_some_iff.1 h
  exact List.drop_eq_getElem_cons hj
theorem RunsAt.stay {P : List Pt} {N G O : Int} {ps : List Int} {R : List Lk} {what fr p : Int} {j : Nat} (h : RunsAt P N G O ps R what fr j) (hp : ps[j]? = some p) (hv : atP P N G O p = what) : RunsAt P N G O ps R what fr (j + 1) := by
  refine ⟨?_, by have := h.len; omega, h.f0, h.f1⟩
  rw [h.eq, drop_cons hp, runR, if_pos hv]
theorem RunsAt.turn0 {P : List Pt} {N G O : Int} {ps : List Int} {R : List Lk} {what fr p : Int} {j : Nat} (h : RunsAt P N G O ps R what fr j) (hp : ps[j]? = some p) (hv : atP P N G O p ≠ what) (hw : ¬ 0 < what) (hb : 0 ≤ p ∧ p ≤ 2199023255552) : RunsAt P N G O ps R (atP P N G O p) p (j + 1) := by
  refine ⟨?_, by have := h.len; omega, hb.1, hb.2⟩
  rw [h.eq, drop_cons hp, runR, if_neg hv, if_neg hw, List.nil_append]
theorem RunsAt.turn1 {P : List Pt} {N G O : Int} {ps : List Int} {R : List Lk} {what fr p : Int} {j : Nat} (h : RunsAt P N G O ps R what fr j) (hp : ps[j]? = some p) (hv : atP P N G O p ≠ what) (hw : 0 < what) (hb : 0 ≤ p ∧ p ≤ 2199023255552) : RunsAt P N G O ps (R ++ [⟨N, G, O, fr, p - fr, what == 2⟩]) (atP P N G O p) p (j + 1) := by
  have hs : sizR fr p = p - fr := by unfold sizR farE; rw [if_neg (by omega)]
  refine ⟨?_, by have := h.len; rw [List.length_append, List.length_singleton]; omega, hb.1, hb.2⟩
  rw [h.eq, drop_cons hp, runR, if_neg hv, if_pos hw, List.map_append, List.append_assoc]
  show _ ++ ([mkRun N G O (fr, p, what)] ++ _) = _
  unfold mkRun
  simp only [hs]
theorem RunsAt.end0 {P : List Pt} {N G O : Int} {ps : List Int} {R : List Lk} {what fr : Int} (h : RunsAt P N G O ps R what fr ps.length) (hw : ¬ 0 < what) : runsP P N G O ps = R := by
  rw [h.eq, List.drop_length, runR, if_neg hw, List.map_nil, List.append_nil]
theorem RunsAt.end1 {P : List Pt} {N G O : Int} {ps : List Int} {R : List Lk} {what fr : Int} (h : RunsAt P N G O ps R what fr ps.length) (hw : 0 < what) : runsP P N G O ps = R ++ [⟨N, G, O, fr, 0, what == 2⟩] := by
  rw [h.eq, List.drop_length, runR, if_pos hw]
  show _ ++ [mkRun N G O (fr, farE, what)] = _
  unfold mkRun sizR
  simp
theorem rks_snoc {w' : World} {base g cap n : Nat} {R : List Lk} {x : Lk} (hn : R.length = n) (h : w'.ownsRow base 44 6 (.slice (some ⟨g, 0, none⟩) (n + 1) cap) (n + 1) (rowOf lkC R ++ lkC x)) : Rks w' base (.slice (some ⟨g, 0, none⟩) (n + 1) cap) (R ++ [x]) := by
  unfold Rks
  rw [rowOf_append, List.length_append, List.length_singleton, hn, show rowOf lkC [x] = lkC x by simp [rowOf]]
  exact h
theorem runs_grown {w1 w4 w7 : World} {o : Value} {ob : Obj} (h4 : Only [] w1 w4) (hz : ∀ k, o.ownBlock = some k → w1.heap.size ≤ k) (hg : ((w4.alloc ob).drew).grownBy w7 o.ownBlock) : Only [] w1 w7 :=
  (h4.alloc ob).drew.grown hg (fun k hk => Or.inr (hz k hk))
set_option maxRecDepth 100000 in
set_option maxHeartbeats 8000000 in
theorem runs_any (w : World) (base : Nat) (v : Value) (l : List Pt) (N G O : Int) (h : Pts w base v l) (hl : l.length ≤ 100) (hP : ∀ p ∈ l, p.Ok) : Calls Tryd.prog 34 #[v, .agg #[.int .i64 N, .int .i64 G], .int .i64 O] w fun e w' => ∃ v' ps, e = .returned v' ∧ IsPlaces l N G O ps ∧ Rks w' w.heap.size v' (runsP l N G O ps) ∧ (runsP l N G O ps).length ≤ 201 ∧ Only [] w w' := by
  have HP : Hid (Pts w base v l) := h
  have HOK : Hid (∀ p ∈ l, p.Ok) := hP
  have HPL : Hid (∀ W, Only [] w W → Calls Tryd.prog 47 #[v, .agg #[.int .i64 N, .int .i64 G], .int .i64 O] W fun e w' => ∃ v' os, e = .returned v' ∧ Ints w' W.heap.size v' os ∧ IsPlaces l N G O os ∧ os.length ≤ 2 * l.length ∧ Only [] W w') := fun W ho => places_any W base v l N G O (h.only ho (fun _ _ => by simp)) hl
  have HAT : Hid (∀ W b, Only [] w W → Calls Tryd.prog 48 #[v, .agg #[.int .i64 N, .int .i64 G], .int .i64 O, .int .i64 b] W fun e w' => e = .returned (.int .i64 (atP l N G O b)) ∧ Only [] W w') := fun W b ho => at_any W base v l N G O b (h.only ho (fun _ _ => by simp)) hl
  have HH : Hid (∀ W, Only [] (w.alloc (.cells #[.int .i64 N, .int .i64 G] 33)) W → W.cell? ⟨w.heap.size, 0, none⟩ = some (.int .i64 N) ∧ W.cell? ⟨w.heap.size, 1, none⟩ = some (.int .i64 G)) := fun W ho => by
    have := two_own (B := w.heap.size) ho rfl
    exact ⟨this.1, this.2.1⟩
  have HO0 : Hid (Only [] w (w.alloc (.cells #[.int .i64 N, .int .i64 G] 33))) := (Only.refl [] w).alloc _
  have HLL : Hid (l.length ≤ 100) := hl
  clear h hl hP
  obtain ⟨i0, hi0, hz0, hz1, hz2⟩ := rkInfo'
  go_enter Tryd.func34, Tryd.ntmps34
  go_wp2_with (go_at_call 47; refine (HPL.out _ HO0.out).mono ?_; rintro e w1 ⟨v1, ps, rfl, h1, hs1, hl1, ho1⟩; obtain ⟨ad, cp, rfl, had, _⟩ := row_form h1; have HAD : Hid (ps ≠ [] → ∃ g, ad = some ⟨g, 0, none⟩) := had; have H1 : Hid (Ints w1 (w.alloc (.cells #[.int .i64 N, .int .i64 G] 33)).heap.size (.slice ad ps.length cp) ps) := h1; have HS1 : Hid (IsPlaces l N G O ps) := hs1; have HO1 : Hid (Only [] (w.alloc (.cells #[.int .i64 N, .int .i64 G] 33)) w1) := ho1; have HL1 : Hid (ps.length ≤ 200) := (by have := HLL.out; show ps.length ≤ 200; omega); clear h1 hs1 ho1 had hl1)
  have hpl := HL1.out
  have HW1 : Hid (Only [] w w1) := only_nil HO0.out HO1.out
  obtain ⟨B, hB⟩ : ∃ B, w.heap.size = B := ⟨_, rfl⟩
  have HBS : Hid (w.heap.size = B) := hB
  have HHB : Hid (∀ W, Only [] w1 W → W.cell? ⟨B, 0, none⟩ = some (.int .i64 N) ∧ W.cell? ⟨B, 1, none⟩ = some (.int .i64 G)) := fun W ho => by rw [← hB]; exact HH.out W (only_nil HO1.out ho)
  have HPB : Hid (∀ q ∈ ps, 0 ≤ q ∧ q ≤ 2199023255552) := fun q hq => by
    obtain ⟨p, hp, _, hc⟩ := (HS1.out.2 q).1 hq
    have ho := HOK.out p hp
    have := ho.f0; have := ho.f1; have := ho.t
    omega
  rw [hB] at ⊢
  clear hB HH HPL
  obtain ⟨n, hn⟩ : ∃ n, ps.length = n := ⟨_, rfl⟩
  have HN : Hid (ps.length = n) := hn
  rw [hn] at hpl H1 ⊢
  clear hn
  go_loopw [7, 9, 10, 11, 12] (fun o wh fr i _nw wr => ∃ (j : Nat) (R : List Lk) (what f : Int), i = .int .i64 j ∧ j ≤ n ∧ wh = .int .i64 what ∧ fr = .int .i64 f ∧ Rks wr B o R ∧ RunsAt l N G O ps R what f j ∧ Only [] w1 wr ∧ (∀ k, o.ownBlock = some k → w1.heap.size ≤ k)) (fun _ _ _ i _ _ => n - (intOf i).toNat)
  case atStart => exact ⟨0, [], 0, 0, rfl, Nat.zero_le _, rfl, rfl, World.ownsRow_nil _ _ _ _, ⟨rfl, Nat.le_refl _, Int.le_refl _, by decide⟩, Only.refl _ _, (fun k hk => by cases hk)⟩
  case round =>
    obtain ⟨j, R, wt, fr, rfl, hj, rfl, rfl, hR, hA, ho, hfr⟩ := hrel
    have HFR : Hid (∀ k, u7.ownBlock = some k → w1.heap.size ≤ k) := hfr
    have HR : Hid (Rks wr B u7 R) := hR
    have HA : Hid (RunsAt l N G O ps R wt fr j) := hA
    have HO : Hid (Only [] w1 wr) := ho
    have hf0 := hA.f0
    have hf1 := hA.f1
    have hrl := hA.len
    clear hR hA ho hfr
    by_cases hlt : j < n
    · obtain ⟨p, hp⟩ : ∃ p, ps[j]? = some p := ⟨_, List.getElem?_eq_getElem (by rw [HN.out]; exact hlt)⟩
      obtain ⟨gp, rfl⟩ := HAD.out (fun e => by rw [e] at hp; cases hp)
      have HP2 : Hid (ps[j]? = some p) := hp
      have hpb := HPB.out p (List.mem_of_getElem? hp)
      have HS3 : Hid (∀ W, Only [] w1 W → W.cell? ⟨B, 0, none⟩ = some (.int .i64 N) ∧ W.cell? ⟨B, 1, none⟩ = some (.int .i64 G) ∧ W.cell? ⟨gp, j, none⟩ = some (.int .i64 p)) := fun W ho => ⟨(HHB.out W ho).1, (HHB.out W ho).2, int_cell (H1.out.only ho (fun _ _ => by simp)) HN.out HP2.out⟩
      have HS0 : Hid (wr.drew.cell? ⟨B, 0, none⟩ = some (.int .i64 N) ∧ wr.drew.cell? ⟨B, 1, none⟩ = some (.int .i64 G) ∧ wr.drew.cell? ⟨gp, j, none⟩ = some (.int .i64 p)) := HS3.out _ HO.out.drew
      have hj2 : (j : Int) < n := by omega
      have hsub : IntKind.i64.wrap (p - fr) = p - fr := by simp [IntKind.wrap, IntKind.bits, IntKind.signed]; omega
      clear hp
      go_wp2
      go_region_held3 (fun W => W.cell? ⟨B, 0, none⟩ = some (.int .i64 N) ∧ W.cell? ⟨B, 1, none⟩ = some (.int .i64 G) ∧ W.cell? ⟨gp, j, none⟩ = some (.int .i64 p)) (with_reducible first | exact HS0.out | exact HS4.out)
        (first
          | (go_at_call 48; refine (HAT.out _ _ (only_nil HW1.out HO.out.drew)).mono ?_; rintro e w4 ⟨rfl, ho4⟩; have HO4 : Hid (Only [] w1 w4) := only_nil HO.out.drew ho4; have HD4 : Hid (Only [] wr w4) := only_nil (Only.refl [] wr).drew ho4; have HS4 : Hid (w4.cell? ⟨B, 0, none⟩ = some (.int .i64 N) ∧ w4.cell? ⟨B, 1, none⟩ = some (.int .i64 G) ∧ w4.cell? ⟨gp, j, none⟩ = some (.int .i64 p)) := HS3.out w4 HO4.out; clear ho4))
      obtain ⟨b0, b1, b2⟩ := HS4.out
      have hbl := lt_of_cell b0
      have hpl2 := lt_of_cell b2
      by_cases hv : atP l N G O p = wt
      · have dv : (atP l N G O p == wt) = true := beq_iff_eq.2 hv
        have HST := HA.out.stay HP2.out hv
        have HST2 : Hid (RunsAt l N G O ps R wt fr (j + 1)) := HST
        clear HST
        generalize atP l N G O p = nw at dv ⊢
        go_wp2
        go_roundw
        case rel => exact ⟨j + 1, R, wt, fr, by go_num, by omega, rfl, rfl, HR.out.only HD4.out (fun _ _ => by simp), HST2.out, HO4.out, HFR.out⟩
        case measure => simp [intOf]; omega
      · have dv : (atP l N G O p == wt) = false := beq_eq_false_iff_ne.2 hv
        by_cases hw : 0 < wt
        · have dw : decide (0 < wt) = true := decide_eq_true hw
          have HST2 : Hid (RunsAt l N G O ps (R ++ [⟨N, G, O, fr, p - fr, wt == 2⟩]) (atP l N G O p) p (j + 1)) := HA.out.turn1 HP2.out hv hw hpb
          generalize atP l N G O p = nw at dv HST2 ⊢
          obtain ⟨rn, hrn⟩ : ∃ rn, R.length = rn := ⟨_, rfl⟩
          have HRN : Hid (R.length = rn) := hrn
          rw [hrn] at hrl
          have HR4 : Hid (∀ W, Only [] wr W → W.ownsRow B 44 6 u7 rn (rowOf lkC R)) := fun W ho => by have hh := HR.out.only ho (fun _ _ => by simp); unfold Rks at hh; rw [HRN.out] at hh; exact hh
          clear hrn
          go_upto_region 11 with fail
          clear b0 b1 b2 hbl hpl2
          have HS5 : Hid (w4.drew.cell? ⟨B, 0, none⟩ = some (.int .i64 N) ∧ w4.drew.cell? ⟨B, 1, none⟩ = some (.int .i64 G) ∧ w4.drew.cell? ⟨gp, j, none⟩ = some (.int .i64 p)) := HS3.out _ HO4.out.drew
          have HS6 : Hid (((w4.alloc (.cells #[.int .i64 N, .int .i64 G, .int .i64 O, .int .i64 fr, .int .i64 (p - fr), .bool (wt == 2)] 44)).drew).cell? ⟨B, 0, none⟩ = some (.int .i64 N) ∧ ((w4.alloc (.cells #[.int .i64 N, .int .i64 G, .int .i64 O, .int .i64 fr, .int .i64 (p - fr), .bool (wt == 2)] 44)).drew).cell? ⟨B, 1, none⟩ = some (.int .i64 G) ∧ ((w4.alloc (.cells #[.int .i64 N, .int .i64 G, .int .i64 O, .int .i64 fr, .int .i64 (p - fr), .bool (wt == 2)] 44)).drew).cell? ⟨gp, j, none⟩ = some (.int .i64 p)) := HS3.out _ (HO4.out.alloc _).drew
          have HDA : Hid (Only [] wr ((w4.alloc (.cells #[.int .i64 N, .int .i64 G, .int .i64 O, .int .i64 fr, .int .i64 (p - fr), .bool (wt == 2)] 44)).drew)) := (HD4.out.alloc _).drew
          have HBB : Hid (B ≤ w4.heap.size) := by have := HBS.out; have := HW1.out.size; have := HO4.out.size; show B ≤ _; omega
          go_region_held3 (fun W => W.cell? ⟨B, 0, none⟩ = some (.int .i64 N) ∧ W.cell? ⟨B, 1, none⟩ = some (.int .i64 G) ∧ W.cell? ⟨gp, j, none⟩ = some (.int .i64 p)) (with_reducible first | exact HS5.out | exact HS6.out | exact HS7.out)
            ((refine step_append_lies _ (by rfl) (.tmp 36) (.tmp 50) 54 (by rfl) B 44 i0 _ 6 48 rksUnd hi0 hz0 hz1 hz2 rfl (by decide) u7 rn (rowOf lkC R) (by rfl) (HR4.out _ HDA.out) ⟨w4.heap.size, 0, none⟩ 1 1 (lkC ⟨N, G, O, fr, p - fr, wt == 2⟩) (by rfl) rfl (World.news_of_block (w := (w4.alloc (.cells #[.int .i64 N, .int .i64 G, .int .i64 O, .int .i64 fr, .int .i64 (p - fr), .bool (wt == 2)] 44)).drew) (heap_alloc_last w4 _)) (lkC_one _) (by decide) (by unfold maxLen; omega) (by omega) (by show B ≤ (w4.alloc _).heap.size; rw [World.size_alloc]; have := HBB.out; omega) (w4.heap.size + 1) (by show (w4.alloc _).heap.size = _; simp) ?_; intro g7 c7 w7 hown7 hgr7 hat7 hlt7; have HR7 : Hid (Rks w7 B (.slice (some ⟨g7, 0, none⟩) (rn + 1) c7) (R ++ [⟨N, G, O, fr, p - fr, wt == 2⟩])) := rks_snoc HRN.out hown7; have HO7 : Hid (Only [] w1 w7) := runs_grown HO4.out HFR.out hgr7; have HG7 : Hid (w1.heap.size ≤ g7) := (by show w1.heap.size ≤ g7; rcases hat7 with e | e; exact HFR.out _ e; have := HO4.out.size; omega); have HS7 : Hid (w7.cell? ⟨B, 0, none⟩ = some (.int .i64 N) ∧ w7.cell? ⟨B, 1, none⟩ = some (.int .i64 G) ∧ w7.cell? ⟨gp, j, none⟩ = some (.int .i64 p)) := HS3.out w7 HO7.out; clear hown7 hgr7 hat7 hlt7))
          obtain ⟨b0, b1, b2⟩ := HS7.out
          have hbl := lt_of_cell b0
          have hpl2 := lt_of_cell b2
          go_wp2
          go_roundw
          case rel => exact ⟨j + 1, _, nw, p, by go_num, by omega, rfl, rfl, HR7.out, HST2.out, HO7.out, (fun k hk => by obtain rfl : g7 = k := Option.some.inj hk; exact HG7.out)⟩
          case measure => simp [intOf]; omega
        · have dw : decide (0 < wt) = false := decide_eq_false hw
          have HST2 : Hid (RunsAt l N G O ps R (atP l N G O p) p (j + 1)) := HA.out.turn0 HP2.out hv hw hpb
          generalize atP l N G O p = nw at dv HST2 ⊢
          go_wp2
          go_roundw
          case rel => exact ⟨j + 1, R, nw, p, by go_num, by omega, rfl, rfl, HR.out.only HD4.out (fun _ _ => by simp), HST2.out, HO4.out, HFR.out⟩
          case measure => simp [intOf]; omega
    · obtain rfl : j = n := by omega
      have hj2 : decide ((j : Int) < j) = false := decide_eq_false (by omega)
      obtain ⟨b0, b1⟩ := HHB.out wr HO.out
      have hbl := lt_of_cell b0
      have HAE : Hid (RunsAt l N G O ps R wt fr ps.length) := by rw [← HN.out] at HA; exact HA.out
      by_cases hw : 0 < wt
      · have dw : decide (0 < wt) = true := decide_eq_true hw
        have HEQ : Hid (runsP l N G O ps = R ++ [⟨N, G, O, fr, 0, wt == 2⟩]) := HAE.out.end1 hw
        obtain ⟨rn, hrn⟩ : ∃ rn, R.length = rn := ⟨_, rfl⟩
        have HRN : Hid (R.length = rn) := hrn
        rw [hrn] at hrl
        have HR4 : Hid (wr.ownsRow B 44 6 u7 rn (rowOf lkC R)) := by have hh := HR.out; unfold Rks at hh; rw [HRN.out] at hh; exact hh
        have HNW : Hid (∀ (q : Nat) (u : Value), (lkC ⟨N, G, O, fr, 0, wt == 2⟩)[q]? = some u → (wr.alloc (.cells #[.int .i64 N, .int .i64 G, .int .i64 O, .int .i64 fr, .int .i64 0, .bool (wt == 2)] 44)).cell? ((⟨wr.heap.size, 0, none⟩ : Addr).add q) = some u) := World.news_of_block (w := wr.alloc (.cells #[.int .i64 N, .int .i64 G, .int .i64 O, .int .i64 fr, .int .i64 0, .bool (wt == 2)] 44)) (heap_alloc_last wr _)
        have HBB : Hid (B ≤ (wr.alloc (.cells #[.int .i64 N, .int .i64 G, .int .i64 O, .int .i64 fr, .int .i64 0, .bool (wt == 2)] 44)).heap.size) := by have := HBS.out; have := HW1.out.size; have := HO.out.size; show B ≤ _; rw [World.size_alloc]; omega
        clear hrn
        go_wp2_with (first
          | (at_builtin; refine wpList_append_lies _ rfl (.tmp 59) (.tmp 67) 54 rfl B 44 i0 _ 6 48 rksUnd hi0 hz0 hz1 hz2 rfl (by decide) u7 rn (rowOf lkC R) rfl (World.ownsRow.alloc HR4.out _) ⟨wr.heap.size, 0, none⟩ 1 1 (lkC ⟨N, G, O, fr, 0, wt == 2⟩) rfl rfl HNW.out (lkC_one _) (by decide) (by unfold maxLen; omega) (by omega) HBB.out (wr.heap.size + 1) (by simp) ?_; intro g7 c7 w7 hown7 hgr7 hat7 hlt7; have HR7 : Hid (Rks w7 B (.slice (some ⟨g7, 0, none⟩) (rn + 1) c7) (R ++ [⟨N, G, O, fr, 0, wt == 2⟩])) := rks_snoc HRN.out hown7; have HO7 : Hid (Only [] w w7) := (only_nil HW1.out (HO.out.alloc _)).grown hgr7 (fun k hk => Or.inr (by rw [HBS.out]; exact (World.ownsRow.lt HR4.out k hk).1)); clear hown7 hgr7 hat7 hlt7 b0 b1 hbl)
          | go_in)
        go_ret
        exact ⟨_, ps, rfl, HS1.out, (by rw [HEQ.out, HBS.out]; exact HR7.out), (by rw [HEQ.out, List.length_append, List.length_singleton, HRN.out]; omega), HO7.out⟩
      · have dw : decide (0 < wt) = false := decide_eq_false hw
        have HEQ : Hid (runsP l N G O ps = R) := HAE.out.end0 hw
        go_wp2
        go_ret
        exact ⟨_, rfl, ps, HS1.out, (by rw [HEQ.out, HBS.out]; exact HR.out), (by rw [HEQ.out]; omega), only_nil HW1.out HO.out⟩
end Go.Proofs.YtfnniphemlnanaaDoor
