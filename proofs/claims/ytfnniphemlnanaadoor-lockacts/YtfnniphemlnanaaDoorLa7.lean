/- LockActs: the document's handles that are painted. -/
import Derived.Test.YtfnniphemlnanaaDoorLa6
namespace Go.Proofs.YtfnniphemlnanaaDoor
open Go Go.RowKit Go.Deep

theorem rless_is (aN aG bN bG : Int) (w : World) : Calls Tryd.prog 68 #[.agg #[.int .i64 aN, .int .i64 aG], .agg #[.int .i64 bN, .int .i64 bG]] w fun e w' => e = .returned (.bool (decide (aN < bN ∨ aN = bN ∧ aG < bG))) ∧ w' = (w.alloc (.cells #[.int .i64 aN, .int .i64 aG] 33)).alloc (.cells #[.int .i64 bN, .int .i64 bG] 33) := by
  by_cases h1 : aN < bN
  · have d1 : decide (aN < bN) = true := decide_eq_true h1
    have HD : Hid (decide (aN < bN ∨ aN = bN ∧ aG < bG) = true) := decide_eq_true (Or.inl h1)
    rw [HD.out]
    go_enter Tryd.func68, Tryd.ntmps68
    go_wp2
    go_ret
    exact ⟨rfl, rfl⟩
  · have d1 : decide (aN < bN) = false := decide_eq_false h1
    by_cases h2 : aN = bN
    · subst h2
      by_cases h3 : aG < bG
      · have d3 : decide (aG < bG) = true := decide_eq_true h3
        have HD : Hid (decide (aN < aN ∨ aN = aN ∧ aG < bG) = true) := decide_eq_true (Or.inr ⟨rfl, h3⟩)
        rw [HD.out]
        go_enter Tryd.func68, Tryd.ntmps68
        go_wp2
        go_ret
        exact ⟨rfl, rfl⟩
      · have d3 : decide (aG < bG) = false := decide_eq_false h3
        have HD : Hid (decide (aN < aN ∨ aN = aN ∧ aG < bG) = false) := decide_eq_false (by omega)
        rw [HD.out]
        go_enter Tryd.func68, Tryd.ntmps68
        go_wp2
        go_ret
        exact ⟨rfl, rfl⟩
    · have d2 : (aN == bN) = false := beq_eq_false_iff_ne.2 h2
      have d22 : decide (aN = bN) = false := decide_eq_false h2
      have HD : Hid (decide (aN < bN ∨ aN = bN ∧ aG < bG) = false) := decide_eq_false (by omega)
      rw [HD.out]
      go_enter Tryd.func68, Tryd.ntmps68
      go_wp2
      go_ret
      exact ⟨rfl, rfl⟩
theorem rless_grown (aN aG bN bG : Int) (w : World) : Calls Tryd.prog 68 #[.agg #[.int .i64 aN, .int .i64 aG], .agg #[.int .i64 bN, .int .i64 bG]] w fun e w' => e = .returned (.bool (decide (aN < bN ∨ aN = bN ∧ aG < bG))) ∧ ∃ q os', w' = Sort.grow (w.drewN q) os' :=
  (rless_is aN aG bN bG w).mono fun _ _ hh => ⟨hh.1, 0, #[.cells #[.int .i64 aN, .int .i64 aG] 33] ++ #[.cells #[.int .i64 bN, .int .i64 bG] 33], by rw [hh.2, Sort.alloc_eq_grow, Sort.alloc_eq_grow, Sort.grow_grow]; rfl⟩
def Hds (w : World) (base : Nat) (v : Value) (l : List (Int × Int)) : Prop := w.ownsRow base 33 2 v l.length (rowOf rgC l)
theorem Hds.only {w w' : World} {base : Nat} {v : Value} {l : List (Int × Int)} {L : List Nat} (h : Hds w base v l) (ho : Only L w w') (hn : ∀ k, v.ownBlock = some k → k ∉ L) : Hds w' base v l := ho.owns h hn
theorem hdInfo' : ∃ i, Tryd.prog.info? 33 = some i ∧ i.zero = some (.agg #[.int .i64 0, .int .i64 0]) ∧ i.size = 2 ∧ i.bytes = 16 := by
  have h : (Tryd.prog.info? 33).map (fun i => (i.zero, i.size, i.bytes)) = some (some (.agg #[.int .i64 0, .int .i64 0]), 2, 16) := by kernel_rfl
  cases hi : Tryd.prog.info? 33 with
  | none => rw [hi] at h; cases h
  | some i =>
    rw [hi] at h
    simp only [Option.map_some, Option.some.injEq, Prod.mk.injEq] at h
    exact ⟨i, rfl, h.1, h.2.1, h.2.2⟩
theorem hdsUnd : Tryd.prog.underlying 94 = some (.slice 33) := by kernel_rfl
theorem rgC_len (p : Int × Int) : (rgC p).length = 2 := rfl
theorem hd_cells {w : World} {base g cap n i : Nat} {l : List (Int × Int)} {p : Int × Int} (h : Hds w base (.slice (some ⟨g, 0, none⟩) n cap) l) (hn : l.length = n) (hi : l[i]? = some p) : w.cell? ⟨g, i * 2, none⟩ = some (.int .i64 p.1) ∧ w.cell? ⟨g, i * 2 + 1, none⟩ = some (.int .i64 p.2) :=
  ⟨row_cells (enc := rgC) rgC_len h hn hi 0 (by decide), row_cells (enc := rgC) rgC_len h hn hi 1 (by decide)⟩
theorem hds_take {w : World} {base g n cap : Nat} {l : List (Int × Int)} (h : Hds w base (.slice (some ⟨g, 0, none⟩) n cap) l) (hn : l.length = n) (k : Nat) : ∀ j u, (rowOf rgC (l.take k))[j]? = some u → w.cell? ((⟨g, 0, none⟩ : Addr).add j) = some u := by
  subst hn
  intro j u hu
  rw [rowOf_take rgC_len, List.getElem?_take] at hu
  split at hu
  · have hj : j < l.length * 2 := by rw [← rowOf_len rgC_len l]; exact (List.getElem?_eq_some_iff.1 hu).1
    rw [add_none, Nat.zero_add, World.ownsRow.cellAt h j hj]
    exact hu
  · cases hu
theorem hds_drop {w : World} {base g n cap : Nat} {l : List (Int × Int)} (h : Hds w base (.slice (some ⟨g, 0, none⟩) n cap) l) (hn : l.length = n) (k : Nat) (ad : Addr) (ha : (l.drop k).length = 0 ∨ ad = ⟨g, k * 2, none⟩) : ∀ j u, (rowOf rgC (l.drop k))[j]? = some u → w.cell? (ad.add j) = some u := by
  subst hn
  intro j u hu
  rcases ha with ha | rfl
  · rw [List.length_eq_zero_iff.1 ha] at hu
    cases hu
  · rw [rowOf_drop rgC_len, List.getElem?_drop] at hu
    have hj : k * 2 + j < l.length * 2 := by rw [← rowOf_len rgC_len l]; exact (List.getElem?_eq_some_iff.1 hu).1
    rw [add_none, World.ownsRow.cellAt h _ hj]
    exact hu
def ltH (a b : Int × Int) : Prop := a.1 < b.1 ∨ a.1 = b.1 ∧ a.2 < b.2
theorem sortedH_ins {l : List (Int × Int)} {q : Nat} {x : Int × Int} (hs : l.Pairwise ltH) (hq : q ≤ l.length) (hlow : ∀ p y, p < q → l[p]? = some y → ltH y x) (hhigh : ∀ y, l[q]? = some y → ltH x y) : (l.take q ++ [x] ++ l.drop q).Pairwise ltH := by
  have tr : ∀ {a b c : Int × Int}, ltH a b → ltH b c → ltH a c := fun {a b c} h1 h2 => by unfold ltH at *; omega
  have hlo : ∀ y ∈ l.take q, ltH y x := fun y hy => by
    obtain ⟨p, hp⟩ := List.mem_iff_getElem?.1 hy
    rw [List.getElem?_take] at hp
    split at hp
    · exact hlow p y (by assumption) hp
    · cases hp
  have hhi : ∀ y ∈ l.drop q, ltH x y := fun y hy => by
    obtain ⟨p, hp⟩ := List.mem_iff_getElem?.1 hy
    rw [List.getElem?_drop] at hp
    have hlt := (List.getElem?_eq_some_iff.1 hp).1
    have h0 := hhigh _ (List.getElem?_eq_getElem (by omega))
    rcases Nat.eq_zero_or_pos p with e | e
    · subst e
      rw [Nat.add_zero] at hp
      exact hhigh y hp
    · have := List.pairwise_iff_getElem.1 hs q (q + p) (by omega) hlt (by omega)
      obtain ⟨_, e2⟩ := List.getElem?_eq_some_iff.1 hp
      rw [e2] at this
      exact tr h0 this
  rw [List.append_assoc]
  refine List.pairwise_append.2 ⟨hs.sublist (List.take_sublist _ _), ?_, fun a ha b hb => ?_⟩
  · exact List.pairwise_cons.2 ⟨hhi, hs.sublist (List.drop_sublist _ _)⟩
  · rcases List.mem_cons.1 hb with e | e
    · rw [e]; exact hlo a ha
    · exact tr (hlo a ha) (hhi b e)
def IsHandles (l : List Pt) (hs : List (Int × Int)) : Prop := hs.Pairwise ltH ∧ ∀ x, x ∈ hs ↔ ∃ p ∈ l, (p.N, p.G) = x
theorem handles_in {l : List Pt} {j : Nat} {p : Pt} {hs : List (Int × Int)} (hp : l[j]? = some p) (h : IsHandles (l.take j) hs) (hin : (p.N, p.G) ∈ hs) : IsHandles (l.take (j + 1)) hs := by
  refine ⟨h.1, fun x => ?_⟩
  rw [h.2]
  constructor
  · rintro ⟨r, hr, hh⟩; exact ⟨r, (take_mem_succ hp r).2 (Or.inl hr), hh⟩
  · rintro ⟨r, hr, hh⟩
    rcases (take_mem_succ hp r).1 hr with hr | hr
    · exact ⟨r, hr, hh⟩
    · rw [hr] at hh; rw [← hh]; exact (h.2 _).1 hin
theorem handles_new {l : List Pt} {j q : Nat} {p : Pt} {hs : List (Int × Int)} (hp : l[j]? = some p) (h : IsHandles (l.take j) hs) (hq : q ≤ hs.length) (hlow : ∀ i y, i < q → hs[i]? = some y → ltH y (p.N, p.G)) (hhigh : ∀ y, hs[q]? = some y → ¬ ltH y (p.N, p.G)) (hne : hs[q]? ≠ some (p.N, p.G)) : IsHandles (l.take (j + 1)) (hs.take q ++ [(p.N, p.G)] ++ hs.drop q) := by
  refine ⟨sortedH_ins h.1 hq hlow (fun y hy => ?_), fun x => ?_⟩
  · have h1 := hhigh y hy
    have h2 : y ≠ (p.N, p.G) := fun e => hne (by rw [hy, e])
    unfold ltH at *
    simp only at *
    by_cases e1 : p.N = y.1
    · by_cases e2 : p.G = y.2
      · exact absurd (Prod.ext e1.symm e2.symm) h2
      · omega
    · omega
  · rw [List.append_assoc, List.mem_append, List.mem_append, List.mem_singleton]
    constructor
    · rintro (e | e | e)
      · obtain ⟨r, hr, hh⟩ := (h.2 x).1 (List.mem_of_mem_take e)
        exact ⟨r, (take_mem_succ hp r).2 (Or.inl hr), hh⟩
      · exact ⟨p, (take_mem_succ hp p).2 (Or.inr rfl), e.symm⟩
      · obtain ⟨r, hr, hh⟩ := (h.2 x).1 (List.mem_of_mem_drop e)
        exact ⟨r, (take_mem_succ hp r).2 (Or.inl hr), hh⟩
    · rintro ⟨r, hr, hh⟩
      rcases (take_mem_succ hp r).1 hr with hr | hr
      · have := (h.2 x).2 ⟨r, hr, hh⟩
        rw [← List.take_append_drop q hs, List.mem_append] at this
        rcases this with e | e
        · exact Or.inl e
        · exact Or.inr (Or.inr e)
      · rw [hr] at hh; exact Or.inr (Or.inl hh.symm)
set_option maxRecDepth 100000 in
set_option maxHeartbeats 8000000 in
theorem handles_any (w : World) (base : Nat) (v : Value) (l : List Pt) (h : Pts w base v l) (hl : l.length ≤ 100) : Calls Tryd.prog 49 #[v] w fun e w' => ∃ v' hs, e = .returned v' ∧ Hds w' w.heap.size v' hs ∧ IsHandles l hs ∧ hs.length ≤ l.length ∧ Only [] w w' := by
  obtain ⟨adT, capT, rfl, had, _⟩ := row_form h
  have HA : Hid (l ≠ [] → ∃ g, adT = some ⟨g, 0, none⟩) := had
  obtain ⟨n, hn⟩ : ∃ n, l.length = n := ⟨_, rfl⟩
  have HN : Hid (l.length = n) := hn
  rw [hn] at hl h ⊢
  have H : Hid (Pts w base (.slice adT n capT) l) := h
  clear h hn had
  obtain ⟨i0, hi0, hz0, hz1, hz2⟩ := hdInfo'
  have mixed : Tryd.prog.follows Departure.mixedOrders = true := by kernel_rfl
  go_enter Tryd.func49, Tryd.ntmps49
  go_wp2
  go_loopw [3, 4, 5, 6] (fun o i _k _x wr => ∃ (j : Nat) (hs : List (Int × Int)), i = .int .i64 j ∧ j ≤ n ∧ Hds wr w.heap.size o hs ∧ IsHandles (l.take j) hs ∧ hs.length ≤ j ∧ Only [] w wr) (fun _ i _ _ _ => n - (intOf i).toNat)
  case atStart => exact ⟨0, [], rfl, Nat.zero_le _, World.ownsRow_nil _ _ _ _, ⟨List.Pairwise.nil, (fun o => ⟨(fun hh => by cases hh), (fun hh => by obtain ⟨p, hp, _⟩ := hh; cases hp)⟩)⟩, Nat.le_refl _, Only.refl _ _⟩
  case round =>
    obtain ⟨j, hs, rfl, hj, hI, hOs, hol, ho⟩ := hrel
    have HO : Hid (Only [] w wr) := ho
    have HI : Hid (Hds wr w.heap.size u3 hs) := hI
    have HOs : Hid (IsHandles (l.take j) hs) := hOs
    have HLE : Hid (hs.length ≤ j) := hol
    clear ho hI hOs
    by_cases hlt : j < n
    · obtain ⟨p, hp⟩ : ∃ p, l[j]? = some p := ⟨_, List.getElem?_eq_getElem (by rw [HN.out]; exact hlt)⟩
      obtain ⟨gT, rfl⟩ := HA.out (fun e => by rw [e] at hp; cases hp)
      have HCX : Hid (∀ W, Only [] w W → W.cell? ⟨gT, j * 6, none⟩ = some (.int .i64 p.N) ∧ W.cell? ⟨gT, j * 6 + 1, none⟩ = some (.int .i64 p.G)) := fun W ho' => by
        have hh := pt_cells (H.out.only ho' (fun _ _ => by simp)) HN.out hp
        exact ⟨hh.1, hh.2.1⟩
      have hj2 : (j : Int) < n := by omega
      have HP : Hid (l[j]? = some p) := hp
      clear hp
      obtain ⟨ad, cp, rfl, had, hc1, hc2⟩ := row_form HI.out
      have HAD : Hid (hs ≠ [] → ∃ g, ad = some ⟨g, 0, none⟩) := had
      unfold maxLen at hc2
      obtain ⟨m, hm⟩ : ∃ m, hs.length = m := ⟨_, rfl⟩
      have HM : Hid (hs.length = m) := hm
      rw [hm] at HI hc1 hol ⊢
      clear hm had
      obtain ⟨W0, hW0⟩ : ∃ W0, wr = W0 := ⟨_, rfl⟩
      rw [hW0] at HO HI ⊢
      clear hW0
      go_upto_block 2 with fail
      go_cut [5] from 7 to 64 (fun k wx => ∃ q : Nat, k = .int .i64 q ∧ q ≤ m ∧ (∀ i y, i < q → hs[i]? = some y → ltH y (p.N, p.G)) ∧ (∀ y, hs[q]? = some y → ¬ ltH y (p.N, p.G)) ∧ Only [] W0 wx)
      case first =>
        go_wp2_with fail
        go_loopw [5] (fun k wx => ∃ q : Nat, k = .int .i64 q ∧ q ≤ m ∧ (∀ i y, i < q → hs[i]? = some y → ltH y (p.N, p.G)) ∧ Only [] W0 wx) (fun k _ => m - (intOf k).toNat)
        case atStart => exact ⟨0, rfl, Nat.zero_le _, (fun i y hi => by omega), Only.refl _ _⟩
        case round =>
          obtain ⟨q, rfl, hq, hlow, hox⟩ := hrel
          have HLOW : Hid (∀ i y, i < q → hs[i]? = some y → ltH y (p.N, p.G)) := hlow
          have HOX : Hid (Only [] W0 wr) := hox
          clear hlow hox
          by_cases hqm : q < m
          · obtain ⟨y, hy⟩ : ∃ y, hs[q]? = some y := ⟨_, List.getElem?_eq_getElem (by rw [HM.out]; exact hqm)⟩
            obtain ⟨g, rfl⟩ := HAD.out (fun e => by rw [e] at hy; cases hy)
            obtain ⟨y0, y1⟩ := hd_cells (HI.out.only HOX.out (fun _ _ => by simp)) HM.out hy
            obtain ⟨x0, x1⟩ := HCX.out wr (only_nil HO.out HOX.out)
            have hqi : (q : Int) < m := by omega
            have HY : Hid (hs[q]? = some y) := hy
            have z0 := fun n os => cell_grown (w := wr) (lt_of_cell y0) y0 n os
            have z1 := fun n os => cell_grown (w := wr) (lt_of_cell y1) y1 n os
            have z3 := fun n os => cell_grown (w := wr) (lt_of_cell x0) x0 n os
            have z4 := fun n os => cell_grown (w := wr) (lt_of_cell x1) x1 n os
            clear hy
            cases hls : decide (y.1 < p.N ∨ y.1 = p.N ∧ y.2 < p.G) with
            | true =>
              have HLT : Hid (ltH y (p.N, p.G)) := show y.1 < p.N ∨ y.1 = p.N ∧ y.2 < p.G from of_decide_eq_true hls
              have HLS : Hid (∀ W, Calls Tryd.prog 68 #[.agg #[.int .i64 y.1, .int .i64 y.2], .agg #[.int .i64 p.N, .int .i64 p.G]] W fun e w' => e = .returned (.bool true) ∧ ∃ q os', w' = Sort.grow (W.drewN q) os') := fun W => by have hh := rless_grown y.1 y.2 p.N p.G W; rw [hls] at hh; exact hh
              go_wp2
              refine wp_region_quiet_grown (by assumption) (by kernel_rfl) ?_
              repeat (first | go_big_quiet_skip | quiet_step (first | (go_at_call 68; refine Calls.grown_of (HLS.out _))))
              refine wpQuiet_nil ?_
              intro _ hw'
              obtain ⟨⟨nq, osq⟩, hw2⟩ := hw'
              subst hw2
              have HO4 : Hid (Only [] W0 (Sort.grow (wr.drewN nq) osq)) := only_grow (HOX.out.drewsN nq) osq
              clear z0 z1 z3 z4 x0 x1 y0 y1
              generalize Sort.grow (wr.drewN nq) osq = wg at HO4 ⊢
              go_wp2
              go_roundw
              case rel => exact ⟨q + 1, by go_num, by omega, (fun i z hi hz => by
                            rcases Nat.lt_or_ge i q with h1 | h1
                            · exact HLOW.out i z h1 hz
                            · obtain rfl : i = q := by omega
                              rw [HY.out] at hz
                              cases hz
                              exact HLT.out), HO4.out⟩
              case measure => simp [intOf]; omega
            | false =>
              have HLT : Hid (¬ ltH y (p.N, p.G)) := show ¬ (y.1 < p.N ∨ y.1 = p.N ∧ y.2 < p.G) from of_decide_eq_false hls
              have HLS : Hid (∀ W, Calls Tryd.prog 68 #[.agg #[.int .i64 y.1, .int .i64 y.2], .agg #[.int .i64 p.N, .int .i64 p.G]] W fun e w' => e = .returned (.bool false) ∧ ∃ q os', w' = Sort.grow (W.drewN q) os') := fun W => by have hh := rless_grown y.1 y.2 p.N p.G W; rw [hls] at hh; exact hh
              go_wp2
              refine wp_region_quiet_grown (by assumption) (by kernel_rfl) ?_
              repeat (first | go_big_quiet_skip | quiet_step (first | (go_at_call 68; refine Calls.grown_of (HLS.out _))))
              refine wpQuiet_nil ?_
              intro _ hw'
              obtain ⟨⟨nq, osq⟩, hw2⟩ := hw'
              subst hw2
              have HO4 : Hid (Only [] W0 (Sort.grow (wr.drewN nq) osq)) := only_grow (HOX.out.drewsN nq) osq
              clear z0 z1 z3 z4 x0 x1 y0 y1
              generalize Sort.grow (wr.drewN nq) osq = wg at HO4 ⊢
              go_wp2
              go_meet
              exact ⟨q, rfl, hq, HLOW.out, (fun z hz => by rw [HY.out] at hz; cases hz; exact HLT.out), HO4.out⟩
          · have hqd : decide ((q : Int) < (m : Int)) = false := decide_eq_false (by omega)
            go_wp2
            go_big_quiet (fail)
            go_wp2
            go_meet
            exact ⟨q, rfl, hq, HLOW.out, (fun z hz => by have := (List.getElem?_eq_some_iff.1 hz).1; have := HM.out; omega), HOX.out.drewsN _⟩
      case rest =>
        obtain ⟨q, rfl, hq, hlow, hhigh, hot⟩ := hcut
        have HLOW : Hid (∀ i y, i < q → hs[i]? = some y → ltH y (p.N, p.G)) := hlow
        have HHIGH : Hid (∀ y, hs[q]? = some y → ¬ ltH y (p.N, p.G)) := hhigh
        have HOT : Hid (Only [] W0 wc) := hot
        clear hlow hhigh hot
        generalize wc = wt at HOT ⊢
        go_upto_region 8 with fail
        go_cut [46] from 7 to 64 (fun c wx => ∃ b : Bool, c = .bool b ∧ (b = true → hs[q]? = some (p.N, p.G)) ∧ (b = false → hs[q]? ≠ some (p.N, p.G)) ∧ Only [] W0 wx)
        case first =>
          obtain ⟨x0, x1⟩ := HCX.out wt (only_nil HO.out HOT.out)
          by_cases hqm : q < m
          · obtain ⟨y, hy⟩ : ∃ y, hs[q]? = some y := ⟨_, List.getElem?_eq_getElem (by rw [HM.out]; exact hqm)⟩
            obtain ⟨g, rfl⟩ := HAD.out (fun e => by rw [e] at hy; cases hy)
            obtain ⟨y0, y1⟩ := hd_cells (HI.out.only HOT.out (fun _ _ => by simp)) HM.out hy
            have hqi : (q : Int) < m := by omega
            have HY : Hid (hs[q]? = some y) := hy
            clear hy
            obtain ⟨yN, yG⟩ := y
            simp only at y0 y1
            by_cases k1 : yN = p.N
            · by_cases k2 : yG = p.G
              · rw [k1] at y0
                rw [k2] at y1
                go_big_quiet (fail)
                go_wp2
                go_meet
                exact ⟨true, rfl, (fun _ => by rw [HY.out, k1, k2]), (fun e => by cases e), HOT.out.drewsN _⟩
              · have d2 : (yG == p.G) = false := beq_eq_false_iff_ne.2 k2
                rw [k1] at y0
                go_big_quiet (fail)
                go_wp2
                go_meet
                exact ⟨false, rfl, (fun e => by cases e), (fun _ e => by rw [HY.out] at e; exact k2 (Prod.mk.inj (Option.some.inj e)).2), HOT.out.drewsN _⟩
            · have d1 : (yN == p.N) = false := beq_eq_false_iff_ne.2 k1
              go_big_quiet (fail)
              go_wp2
              go_meet
              exact ⟨false, rfl, (fun e => by cases e), (fun _ e => by rw [HY.out] at e; exact k1 (Prod.mk.inj (Option.some.inj e)).1), HOT.out.drewsN _⟩
          · have hqd : decide ((q : Int) < (m : Int)) = false := decide_eq_false (by omega)
            go_big_quiet (fail)
            go_wp2
            go_meet
            exact ⟨false, rfl, (fun e => by cases e), (fun _ e => by have := (List.getElem?_eq_some_iff.1 e).1; have := HM.out; omega), HOT.out.drewsN _⟩
        case rest =>
          obtain ⟨b, rfl, hbt, hbf, hoc⟩ := hcut
          have HOC : Hid (Only [] W0 wc) := hoc
          clear hoc HOT
          generalize wc = wt at HOC ⊢
          cases b with
          | true =>
            have HNX : Hid (IsHandles (l.take (j + 1)) hs) := handles_in HP.out HOs.out (List.mem_of_getElem? (hbt rfl))
            clear hbt hbf
            go_wp2
            go_roundw
            case rel => exact ⟨j + 1, hs, by go_num, by omega, HI.out.only HOC.out (fun _ _ => by simp), HNX.out, by have := HLE.out; omega, only_nil HO.out HOC.out⟩
            case measure => simp [intOf]; omega
          | false =>
            have HNX : Hid (IsHandles (l.take (j + 1)) (hs.take q ++ [(p.N, p.G)] ++ hs.drop q)) := handles_new HP.out HOs.out (by rw [HM.out]; exact hq) HLOW.out HHIGH.out (hbf rfl)
            have HLN : Hid ((hs.take q ++ [(p.N, p.G)] ++ hs.drop q).length = m + 1) := by show _ = _; rw [List.length_append, List.length_append, List.length_take, List.length_drop, List.length_singleton, HM.out]; omega
            clear hbt hbf
            have HBB : Hid (w.heap.size ≤ wt.heap.size) := (only_nil HO.out HOC.out).size
            obtain ⟨x0, x1⟩ := HCX.out wt (only_nil HO.out HOC.out)
            rcases row_open HI.out with ⟨hv, hl0⟩ | ⟨g, cq, cur, hv, _⟩
            · obtain ⟨rfl, rfl, rfl⟩ : ad = none ∧ m = 0 ∧ cp = 0 := by simpa using hv
              obtain rfl : q = 0 := by omega
              have HNW : Hid (∀ (r : Nat) (u : Value), (rgC (p.N, p.G))[r]? = some u → (wt.alloc (.cells #[.int .i64 p.N, .int .i64 p.G] 33)).cell? ((⟨wt.heap.size, 0, none⟩ : Addr).add r) = some u) := World.news_of_block (w := wt.alloc (.cells #[.int .i64 p.N, .int .i64 p.G] 33)) (heap_alloc_last wt _)
              have HB2 : Hid (w.heap.size ≤ (wt.alloc (.cells #[.int .i64 p.N, .int .i64 p.G] 33)).heap.size) := by show w.heap.size ≤ _; rw [World.size_alloc]; have := HBB.out; omega
              clear hv
              go_wp2_with (first
                | (at_builtin; refine wpList_append_own_none rfl (.tmp 47) (.tmp 50) 94 rfl w.heap.size 33 i0 2 hdsUnd hi0 (.slice none 0 0) 0 [] rfl (World.ownsRow_nil _ _ _ _) rfl ?_)
                | (at_builtin; refine wpList_append_lies _ rfl (.tmp 52) (.tmp 58) 94 rfl w.heap.size 33 i0 _ 2 16 hdsUnd hi0 hz0 hz1 hz2 rfl (by decide) (.slice none 0 0) 0 [] rfl (World.ownsRow_nil _ _ _ _) ⟨wt.heap.size, 0, none⟩ 1 1 (rgC (p.N, p.G)) rfl rfl HNW.out (rgC_one _) (by decide) (by unfold maxLen; omega) (by omega) HB2.out (wt.heap.size + 1) (by simp) ?_; intro gl cl w6 hown6 hgr6 hat6 hlt6; have HOW : Hid (w6.ownsRow w.heap.size 33 2 (.slice (some ⟨gl, 0, none⟩) (0 + 1) cl) (0 + 1) ([] ++ rgC (p.N, p.G))) := hown6; have HO6 : Hid (Only [] W0 w6) := ((HOC.out.alloc _).grown hgr6 (fun k hk => by cases hk)); clear hown6 hgr6 hat6 hlt6 x0 x1)
                | (at_builtin; refine wpList_append_own_none rfl (.tmp 60) (.tmp 63) 94 rfl w.heap.size 33 i0 2 hdsUnd hi0 _ (0 + 1) ([] ++ rgC (p.N, p.G)) rfl HOW.out rfl ?_)
                | go_in)
              go_roundw
              case rel => exact ⟨j + 1, [(p.N, p.G)], by go_num, by omega, HOW.out, (by have := HNX.out; rw [hl0] at this; exact this), (by simp), only_nil HO.out HO6.out⟩
              case measure => simp [intOf]; omega
            · obtain ⟨rfl, rfl⟩ : ad = some ⟨g, 0, none⟩ ∧ cp = cq := by
                simp only [Value.slice.injEq] at hv
                exact ⟨hv.1, hv.2.2⟩
              clear hv
              have e2 : (q : Int) ≤ (m : Int) := by omega
              have e4 : (q : Int) ≤ (cp : Int) := by omega
              obtain ⟨ad, had, hadr⟩ : ∃ ad : Addr, (if cp = q then some (⟨g, 0, none⟩ : Addr) else some ⟨g, q * 2, none⟩) = some ad ∧ ((hs.drop q).length = 0 ∨ ad = ⟨g, q * 2, none⟩) := by
                by_cases hc : cp = q
                · exact ⟨_, if_pos hc, Or.inl (by rw [List.length_drop, HM.out]; omega)⟩
                · exact ⟨_, if_neg hc, Or.inr rfl⟩
              have HADR : Hid ((hs.drop q).length = 0 ∨ ad = ⟨g, q * 2, none⟩) := hadr
              have HL1 : Hid ((rowOf rgC (hs.take q)).length = q * 2) := by show (rowOf rgC (hs.take q)).length = q * 2; rw [rowOf_len rgC_len, List.length_take, HM.out]; congr 1; omega
              have HL2 : Hid ((rowOf rgC (hs.drop q)).length = (m - q) * 2) := by show (rowOf rgC (hs.drop q)).length = (m - q) * 2; rw [rowOf_len rgC_len, List.length_drop, HM.out]
              clear hadr x0 x1
              go_wp2_with (first
                | (at_builtin; refine wpList_append_own_at _ rfl (.tmp 47) (.tmp 50) 94 rfl w.heap.size 33 i0 _ 2 16 hdsUnd hi0 hz0 hz1 hz2 rfl (by decide) _ 0 [] rfl (World.ownsRow_nil _ _ _ _) ⟨g, 0, none⟩ q cp (rowOf rgC (hs.take q)) rfl HL1.out (hds_take (HI.out.only HOC.out (fun _ _ => by simp)) HM.out q) (rowOf_one rgC_one _) (by unfold maxLen; omega) (by omega) HBB.out ?_; intro v1 w6 hown1 hgr1 _ hat1; have HO6 : Hid (Only [] W0 w6) := HOC.out.grown hgr1 (fun k hk => by cases hk); have HV1 : Hid (w6.ownsRow w.heap.size 33 2 v1 q (rowOf rgC (hs.take q))) := (by have hh := hown1; rw [Nat.zero_add, List.nil_append] at hh; exact hh); have HF1 : Hid (∀ k, v1.ownBlock = some k → W0.heap.size ≤ k) := (fun k hk => by rcases hat1 with e | e; rw [e] at hk; cases hk; rw [e] at hk; cases hk; exact HOC.out.size); have HNW : Hid (∀ (r : Nat) (u : Value), (rgC (p.N, p.G))[r]? = some u → (w6.alloc (.cells #[.int .i64 p.N, .int .i64 p.G] 33)).cell? ((⟨w6.heap.size, 0, none⟩ : Addr).add r) = some u) := World.news_of_block (w := w6.alloc (.cells #[.int .i64 p.N, .int .i64 p.G] 33)) (heap_alloc_last w6 _); have HB2 : Hid (w.heap.size ≤ (w6.alloc (.cells #[.int .i64 p.N, .int .i64 p.G] 33)).heap.size) := (by show w.heap.size ≤ _; rw [World.size_alloc]; have := HO6.out.size; have := HO.out.size; omega); obtain ⟨x0, x1⟩ := HCX.out w6 (only_nil HO.out HO6.out); have hxl := lt_of_cell x0; clear hown1 hgr1 hat1)
                | (at_builtin; refine wpList_append_own_at _ rfl (.tmp 52) (.tmp 58) 94 rfl w.heap.size 33 i0 _ 2 16 hdsUnd hi0 hz0 hz1 hz2 rfl (by decide) v1 q (rowOf rgC (hs.take q)) rfl (World.ownsRow.alloc HV1.out _) ⟨w6.heap.size, 0, none⟩ 1 1 (rgC (p.N, p.G)) rfl rfl HNW.out (rgC_one _) (by unfold maxLen; omega) (by omega) HB2.out ?_; intro v2 w7 hown2 hgr2 _ hat2; have HO7 : Hid (Only [] W0 w7) := (HO6.out.alloc _).grown hgr2 (fun k hk => Or.inr (HF1.out k hk)); have HV2 : Hid (w7.ownsRow w.heap.size 33 2 v2 (q + 1) (rowOf rgC (hs.take q) ++ rgC (p.N, p.G))) := hown2; have HF2 : Hid (∀ k, v2.ownBlock = some k → W0.heap.size ≤ k) := (fun k hk => by rcases hat2 with e | e; rw [e] at hk; exact HF1.out k hk; rw [e] at hk; cases hk; rw [World.size_alloc]; exact Nat.le_trans HO6.out.size (Nat.le_succ _)); clear hown2 hgr2 hat2 x0 x1 hxl)
                | (at_builtin; refine wpList_append_own_at _ rfl (.tmp 60) (.tmp 63) 94 rfl w.heap.size 33 i0 _ 2 16 hdsUnd hi0 hz0 hz1 hz2 rfl (by decide) v2 (q + 1) (rowOf rgC (hs.take q) ++ rgC (p.N, p.G)) rfl HV2.out ad (m - q) _ (rowOf rgC (hs.drop q)) rfl HL2.out (hds_drop (HI.out.only HO7.out (fun _ _ => by simp)) HM.out q ad HADR.out) (rowOf_one rgC_one _) (by unfold maxLen; omega) (by omega) (Nat.le_trans HO.out.size HO7.out.size) ?_; intro v3 w8 hown3 hgr3 _ hat3; have HO8 : Hid (Only [] W0 w8) := HO7.out.grown hgr3 (fun k hk => Or.inr (HF2.out k hk)); have HV3 : Hid (Hds w8 w.heap.size v3 (hs.take q ++ [(p.N, p.G)] ++ hs.drop q)) := (by show Hds _ _ _ _; unfold Hds; rw [HLN.out, rowOf_append, rowOf_append, show m + 1 = q + 1 + (m - q) by omega, show rowOf rgC [(p.N, p.G)] = rgC (p.N, p.G) by simp [rowOf]]; exact hown3); clear hown3 hgr3 hat3)
                | go_in)
              go_roundw
              case rel => exact ⟨j + 1, _, by go_num, by omega, HV3.out, HNX.out, (by rw [HLN.out]; omega), only_nil HO.out HO8.out⟩
              case measure => simp [intOf]; omega
    · obtain rfl : j = n := by omega
      have HE : Hid (l.take j = l) := by show l.take j = l; rw [← HN.out, List.take_length]
      have hj2 : decide ((j : Int) < j) = false := decide_eq_false (by omega)
      go_wp2
      go_ret
      exact ⟨_, hs, rfl, HI.out, (by have := HOs.out; rw [HE.out] at this; exact this), hol, HO.out⟩
end Go.Proofs.YtfnniphemlnanaaDoor
