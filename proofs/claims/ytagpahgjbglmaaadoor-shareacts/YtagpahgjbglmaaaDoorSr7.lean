/- Shares: the document's List. -/
import Derived.Test.YtagpahgjbglmaaaDoorSr6
import Derived.Laws.AppendOwnNone
import Derived.Shelf.SlSortCmp.QuietGrown
import Derived.Deep.CutBlock
namespace Go.Proofs.YtagpahgjbglmaaaDoor
open Go Go.RowKit Go.Deep

theorem rless_is (aN aG bN bG : Int) (w : World) : Calls Tryd.prog 42 #[.agg #[.int .i64 aN, .int .i64 aG], .agg #[.int .i64 bN, .int .i64 bG]] w fun e w' => e = .returned (.bool (decide (aN < bN ∨ aN = bN ∧ aG < bG))) ∧ w' = (w.alloc (.cells #[.int .i64 aN, .int .i64 aG] 33)).alloc (.cells #[.int .i64 bN, .int .i64 bG] 33) := by
  by_cases h1 : aN < bN
  · have d1 : decide (aN < bN) = true := decide_eq_true h1
    have HD : Hid (decide (aN < bN ∨ aN = bN ∧ aG < bG) = true) := decide_eq_true (Or.inl h1)
    rw [HD.out]
    go_enter Tryd.func42, Tryd.ntmps42
    go_wp2
    go_ret
    exact ⟨rfl, rfl⟩
  · have d1 : decide (aN < bN) = false := decide_eq_false h1
    by_cases h2 : aN = bN
    · subst h2
      by_cases h3 : aG < bG
      · have d3 : decide (aG < bG) = true := decide_eq_true h3
        have HD : Hid (decide (aN < aN ∨ aN = aN ∧ aG < bG) = true) := decide_eq_true (Or.inr ⟨rfl, h3⟩)
        rw [HD.out]
        go_enter Tryd.func42, Tryd.ntmps42
        go_wp2
        go_ret
        exact ⟨rfl, rfl⟩
      · have d3 : decide (aG < bG) = false := decide_eq_false h3
        have HD : Hid (decide (aN < aN ∨ aN = aN ∧ aG < bG) = false) := decide_eq_false (by omega)
        rw [HD.out]
        go_enter Tryd.func42, Tryd.ntmps42
        go_wp2
        go_ret
        exact ⟨rfl, rfl⟩
    · have d2 : (aN == bN) = false := beq_eq_false_iff_ne.2 h2
      have d22 : decide (aN = bN) = false := decide_eq_false h2
      have HD : Hid (decide (aN < bN ∨ aN = bN ∧ aG < bG) = false) := decide_eq_false (by omega)
      rw [HD.out]
      go_enter Tryd.func42, Tryd.ntmps42
      go_wp2
      go_ret
      exact ⟨rfl, rfl⟩
theorem rless_any (aN aG bN bG : Int) (w : World) : Calls Tryd.prog 42 #[.agg #[.int .i64 aN, .int .i64 aG], .agg #[.int .i64 bN, .int .i64 bG]] w fun e w' => e = .returned (.bool (decide (aN < bN ∨ aN = bN ∧ aG < bG))) ∧ Only [] w w' :=
  (rless_is aN aG bN bG w).mono fun _ _ hh => ⟨hh.1, by rw [hh.2]; exact ((Only.refl [] w).alloc _).alloc _⟩
theorem rless_grown (aN aG bN bG : Int) (w : World) : Calls Tryd.prog 42 #[.agg #[.int .i64 aN, .int .i64 aG], .agg #[.int .i64 bN, .int .i64 bG]] w fun e w' => e = .returned (.bool (decide (aN < bN ∨ aN = bN ∧ aG < bG))) ∧ ∃ q os', w' = Sort.grow (w.drewN q) os' :=
  (rless_is aN aG bN bG w).mono fun _ _ hh => ⟨hh.1, 0, #[.cells #[.int .i64 aN, .int .i64 aG] 33] ++ #[.cells #[.int .i64 bN, .int .i64 bG] 33], by rw [hh.2, Sort.alloc_eq_grow, Sort.alloc_eq_grow, Sort.grow_grow]; rfl⟩
theorem only_grow {L : List Nat} {a w : World} (h : Only L a w) (os : Array Obj) : Only L a (Sort.grow w os) :=
  ⟨h.os, h.tape, h.output, by rw [Sort.size_grow]; have := h.size; omega, fun k hk hn => (Sort.heap_grow_old w os (Nat.lt_of_lt_of_le hk h.size)).trans (h.block k hk hn)⟩
/-- No two have one key. -/
def Apart (l : List Opn) : Prop := l.Pairwise (fun x y => ¬ sameO x y)
theorem Apart.get {l : List Opn} (h : Apart l) {i j : Nat} {x y : Opn} (hij : i < j) (hi : l[i]? = some x) (hj : l[j]? = some y) : ¬ sameO x y := by
  obtain ⟨h1, rfl⟩ := List.getElem?_eq_some_iff.1 hi
  obtain ⟨h2, rfl⟩ := List.getElem?_eq_some_iff.1 hj
  exact List.pairwise_iff_getElem.1 h i j h1 h2 hij
/-- While the first ones are put in order. -/
structure Srt (w : World) (base : Nat) (l : List Opn) (o : Value) (j : Nat) (s : List Opn) (wr : World) : Prop where
  own : Rns wr base o s
  fresh : ∀ q, o.ownBlock = some q → w.heap.size ≤ q
  only : Only [] w wr
  perm : s.Perm (l.take j)
  sorted : SortedO s
theorem Srt.step {w wr w8 : World} {base : Nat} {l s : List Opn} {o v3 : Value} {j q : Nat} {x : Opn} (h : Srt w base l o j s wr) (hx : l[j]? = some x) (hkd : Apart l) (hq : q ≤ s.length) (hlow : ∀ p y, p < q → s[p]? = some y → ltO y x) (hhigh : ∀ y, s[q]? = some y → ¬ ltO y x) (ob : Obj) (ho : Only [] (wr.alloc ob) w8) (hown : w8.ownsRow base 61 5 v3 (q + 1 + (s.length - q)) (rowOf opC (s.take q) ++ opC x ++ rowOf opC (s.drop q))) (hf : ∀ k, v3.ownBlock = some k → (wr.alloc ob).heap.size ≤ k) : Srt w base l v3 (j + 1) (insAt s q x) w8 := by
  have hnot : ∀ y ∈ s, ¬ sameO y x := fun y hy hs => by
    have hm := h.perm.mem_iff.1 hy
    obtain ⟨p, hp⟩ := List.mem_iff_getElem?.1 hm
    rw [List.getElem?_take] at hp
    split at hp
    · rename_i hpj
      exact hkd.get hpj hp hx hs
    · cases hp
  refine ⟨?_, fun k hk => ?_, only_nil (h.only.alloc ob) ho, ?_, ?_⟩
  · unfold Rns
    rw [insAt_len hq, show s.length + 1 = q + 1 + (s.length - q) by omega, show rowOf opC (insAt s q x) = rowOf opC (s.take q) ++ opC x ++ rowOf opC (s.drop q) by simp [insAt, rowOf_append, rowOf]]
    exact hown
  · have h1 := hf k hk
    have h2 := h.only.size
    rw [World.size_alloc] at h1
    omega
  · rw [take_one hx]
    unfold insAt
    refine List.perm_middle.trans ?_
    rw [List.take_append_drop]
    exact (List.Perm.cons x h.perm).trans (List.perm_append_singleton x _).symm
  · refine h.sorted.ins (t := x) ⟨hq, hlow, fun p y hp hy hlt => ?_, ?_⟩ ⟨rfl, rfl, rfl⟩
    · rcases Nat.eq_or_lt_of_le hp with rfl | hp
      · exact hhigh y hy hlt
      · have hql : q < s.length := by have := (List.getElem?_eq_some_iff.1 hy).1; omega
        exact hhigh _ (List.getElem?_eq_getElem hql) (ltO_trans (h.sorted.get hp (List.getElem?_eq_getElem hql) hy) hlt)
    · constructor
      · intro e; cases e
      · rintro ⟨y, hy, hs⟩
        exact absurd hs (hnot y (List.mem_of_getElem? hy))
set_option maxRecDepth 100000 in
set_option maxHeartbeats 8000000 in
theorem rlist_any (w : World) (base t : Nat) (v : Value) (l : List Opn) (h : RsAt w base t v l) (hl : l.length ≤ 40) (hbs : base ≤ w.heap.size) (hkd : Apart l) :
    Calls Tryd.prog 22 #[.pointer (some ⟨t, 0, none⟩)] w fun e w' => ∃ v' s, e = .returned v' ∧ Rns w' base v' s ∧ s.Perm l ∧ SortedO s ∧ Only [] w w' := by
  obtain ⟨adT, cap, rfl, had, _⟩ := h.own.form
  have HA : Hid (l ≠ [] → ∃ g, adT = some ⟨g, 0, none⟩) := had
  obtain ⟨n, hn⟩ : ∃ n, l.length = n := ⟨_, rfl⟩
  have HN : Hid (l.length = n) := hn
  rw [hn] at hl h
  have H : Hid (RsAt w base t (.slice adT n cap) l) := h
  have HBS0 : Hid (base ≤ w.heap.size) := hbs
  have HKD : Hid (Apart l) := hkd
  clear h hn had hbs hkd
  go_enter Tryd.func22, Tryd.ntmps22
  go_wp2
  go_loopw [3, 4] (fun o i wr => ∃ (j : Nat) (s : List Opn), i = .int .i64 j ∧ j ≤ n ∧ Srt w base l o j s wr) (fun _ i _ => n - (intOf i).toNat)
  case atStart => exact ⟨0, [], rfl, Nat.zero_le _, Rns.nil _ _, (fun q hq => by cases hq), Only.refl _ _, List.Perm.nil, List.Pairwise.nil⟩
  case round =>
    obtain ⟨j, s, rfl, hj, hS⟩ := hrel
    have HS : Hid (Srt w base l u3 j s wr) := hS
    have hR := H.out.only hS.only
    have hc0 := hR.c0
    have hsl : s.length ≤ j := by have := hS.perm.length_eq; rw [this, List.length_take]; omega
    by_cases hlt : j < n
    · obtain ⟨x, hx⟩ : ∃ x, l[j]? = some x := ⟨_, List.getElem?_eq_getElem (by rw [HN.out]; exact hlt)⟩
      obtain ⟨gT, rfl⟩ := HA.out (fun e => by rw [e] at hx; cases hx)
      obtain ⟨c0, c1, c2, c3, c4⟩ := rn_cells hR.own HN.out hx
      have HX : Hid (l[j]? = some x) := hx
      have HBS : Hid (base ≤ (wr.alloc (.cells #[.int .i64 x.N, .int .i64 x.G, .int .i64 x.O, .int .i64 x.A, .int .i64 x.D] 61)).heap.size) := by show base ≤ _; rw [World.size_alloc]; have := hS.only.size; have := HBS0.out; omega
      have HSTEP : Hid (∀ (q : Nat) (v3 : Value) (w8 : World), q ≤ s.length → (∀ p y, p < q → s[p]? = some y → ltO y x) → (∀ y, s[q]? = some y → ¬ ltO y x) → Only [] (wr.alloc (.cells #[.int .i64 x.N, .int .i64 x.G, .int .i64 x.O, .int .i64 x.A, .int .i64 x.D] 61)) w8 → w8.ownsRow base 61 5 v3 (q + 1 + (s.length - q)) (rowOf opC (s.take q) ++ opC x ++ rowOf opC (s.drop q)) → (∀ k, v3.ownBlock = some k → (wr.alloc (.cells #[.int .i64 x.N, .int .i64 x.G, .int .i64 x.O, .int .i64 x.A, .int .i64 x.D] 61)).heap.size ≤ k) → Srt w base l v3 (j + 1) (insAt s q x) w8) := fun q v3 w8 a1 a2 a3 a4 a5 a6 => HS.out.step HX.out HKD.out a1 a2 a3 _ a4 a5 a6
      have HCEL : Hid (∀ W, Only [] (wr.alloc (.cells #[.int .i64 x.N, .int .i64 x.G, .int .i64 x.O, .int .i64 x.A, .int .i64 x.D] 61)) W → W.cell? ⟨wr.heap.size, 0, none⟩ = some (.int .i64 x.N) ∧ W.cell? ⟨wr.heap.size, 1, none⟩ = some (.int .i64 x.G) ∧ W.cell? ⟨wr.heap.size, 2, none⟩ = some (.int .i64 x.O) ∧ W.cell? ⟨wr.heap.size, 3, none⟩ = some (.int .i64 x.A) ∧ W.cell? ⟨wr.heap.size, 4, none⟩ = some (.int .i64 x.D)) := fun W ho => by
        have hh := heap_alloc_last wr (.cells #[.int .i64 x.N, .int .i64 x.G, .int .i64 x.O, .int .i64 x.A, .int .i64 x.D] 61)
        have hbl : wr.heap.size < (wr.alloc (.cells #[.int .i64 x.N, .int .i64 x.G, .int .i64 x.O, .int .i64 x.A, .int .i64 x.D] 61)).heap.size := by simp
        exact ⟨(ho.cell (p := ⟨wr.heap.size, 0, none⟩) hbl (by simp)).trans (cell_of_row _ _ 0 _ _ _ hh), (ho.cell (p := ⟨wr.heap.size, 1, none⟩) hbl (by simp)).trans (cell_of_row _ _ 1 _ _ _ hh), (ho.cell (p := ⟨wr.heap.size, 2, none⟩) hbl (by simp)).trans (cell_of_row _ _ 2 _ _ _ hh), (ho.cell (p := ⟨wr.heap.size, 3, none⟩) hbl (by simp)).trans (cell_of_row _ _ 3 _ _ _ hh), (ho.cell (p := ⟨wr.heap.size, 4, none⟩) hbl (by simp)).trans (cell_of_row _ _ 4 _ _ _ hh)⟩
      clear hR hx
      rcases hS.own.open with ⟨rfl, rfl⟩ | ⟨g, oc, cur, rfl, _, _, _, hoc1, hoc2, _⟩
      · clear hS HS
        obtain ⟨i0, hi0, hz0, hz1, hz2⟩ := roInfo'
        go_wp2
        generalize wr.alloc (.cells #[.int .i64 x.N, .int .i64 x.G, .int .i64 x.O, .int .i64 x.A, .int .i64 x.D] 61) = WB at HCEL HBS HSTEP ⊢
        generalize wr.heap.size = B at HCEL ⊢
        clear hc0 c0 c1 c2 c3 c4
        refine wp_loop_rounds 1 ?_
        rw [rounds_succ]
        go_wp2
        go_big_quiet (fail)
        have HOT : Hid (Only [] WB (WB.drewN nq)) := (Only.refl [] WB).drewsN nq
        generalize WB.drewN nq = wt at HOT ⊢
        obtain ⟨x0, x1, x2, x3, x4⟩ := HCEL.out wt HOT.out
        have HNW : Hid (∀ (p : Nat) (u : Value), (opC x)[p]? = some u → (wt.alloc (.cells #[.int .i64 x.N, .int .i64 x.G, .int .i64 x.O, .int .i64 x.A, .int .i64 x.D] 61)).cell? ((⟨wt.heap.size, 0, none⟩ : Addr).add p) = some u) := World.news_of_block (w := wt.alloc (.cells #[.int .i64 x.N, .int .i64 x.G, .int .i64 x.O, .int .i64 x.A, .int .i64 x.D] 61)) (heap_alloc_last wt _)
        have HB2 : Hid (base ≤ (wt.alloc (.cells #[.int .i64 x.N, .int .i64 x.G, .int .i64 x.O, .int .i64 x.A, .int .i64 x.D] 61)).heap.size) := by show base ≤ _; rw [World.size_alloc]; have := HOT.out.size; have := HBS.out; omega
        go_wp2_with (first
          | (at_builtin; refine wpList_append_own_none rfl (.tmp 60) (.tmp 63) 29 rfl base 61 i0 5 rosUnd hi0 (.slice none 0 0) 0 [] rfl (World.ownsRow_nil _ _ _ _) rfl ?_)
          | (at_builtin; refine wpList_append_lies _ rfl (.tmp 65) (.tmp 67) 29 rfl base 61 i0 _ 5 40 rosUnd hi0 hz0 hz1 hz2 rfl (by decide) (.slice none 0 0) 0 [] rfl (World.ownsRow_nil _ _ _ _) ⟨wt.heap.size, 0, none⟩ 1 1 (opC x) rfl rfl HNW.out (opC_one x) (by decide) (by unfold maxLen; omega) (by omega) HB2.out (wt.heap.size + 1) (by simp) ?_; intro gl cp w6 hown6 hgr6 hat6 hlt6; have HOW : Hid (w6.ownsRow base 61 5 (.slice (some ⟨gl, 0, none⟩) (0 + 1) cp) (0 + 1) ([] ++ opC x)) := hown6; have HST : Hid (Srt w base l (.slice (some ⟨gl, 0, none⟩) (0 + 1) cp) (j + 1) (insAt [] 0 x) w6) := HSTEP.out 0 _ w6 (Nat.le_refl _) (fun p y hp => by omega) (fun y hy => by cases hy) ((HOT.out.alloc _).grown hgr6 (fun k hk => by cases hk)) (by simpa [rowOf] using hown6) (fun k hk => by cases hk; rcases hat6 with e | e; cases e; rw [e]; exact Nat.le_trans HOT.out.size (Nat.le_succ _)); clear hown6 hgr6 hat6 hlt6 x0 x1 x2 x3 x4)
          | (at_builtin; refine wpList_append_own_none rfl (.tmp 69) (.tmp 72) 29 rfl base 61 i0 5 rosUnd hi0 _ (0 + 1) ([] ++ opC x) rfl HOW.out rfl ?_)
          | go_in)
        go_roundw
        case rel => exact ⟨j + 1, _, by go_num, by omega, HST.out⟩
        case measure => simp [intOf]; omega
      · have HSB : Hid (Rns (wr.alloc (.cells #[.int .i64 x.N, .int .i64 x.G, .int .i64 x.O, .int .i64 x.A, .int .i64 x.D] 61)) base (.slice (some ⟨g, 0, none⟩) s.length oc) s) := hS.own.only ((Only.refl [] wr).alloc _) (fun _ _ => by simp)
        obtain ⟨m, hm⟩ : ∃ m, s.length = m := ⟨_, rfl⟩
        have HM : Hid (s.length = m) := hm
        rw [hm] at HSB HSTEP hoc1 hsl ⊢
        clear hS HS hm
        unfold maxLen at hoc2
        go_upto_block 2 with fail
        generalize wr.alloc (.cells #[.int .i64 x.N, .int .i64 x.G, .int .i64 x.O, .int .i64 x.A, .int .i64 x.D] 61) = WB at HCEL HBS HSTEP HSB ⊢
        generalize wr.heap.size = B at HCEL ⊢
        clear hc0 c0 c1 c2 c3 c4
        go_cut [6] from 8 to 73 (fun k wx => ∃ q : Nat, k = .int .i64 q ∧ q ≤ m ∧ (∀ p y, p < q → s[p]? = some y → ltO y x) ∧ (∀ y, s[q]? = some y → ¬ ltO y x) ∧ Only [] WB wx)
        case first =>
          go_wp2_with fail
          go_loopw [6] (fun k wx => ∃ q : Nat, k = .int .i64 q ∧ q ≤ m ∧ (∀ p y, p < q → s[p]? = some y → ltO y x) ∧ Only [] WB wx) (fun k _ => m - (intOf k).toNat)
          case atStart => exact ⟨0, rfl, Nat.zero_le _, (fun p y hp => by omega), Only.refl _ _⟩
          case round =>
            obtain ⟨q, rfl, hq, hlow, hox⟩ := hrel
            have HLOW : Hid (∀ p y, p < q → s[p]? = some y → ltO y x) := hlow
            have HOX : Hid (Only [] WB wr) := hox
            obtain ⟨x0, x1, x2, x3, x4⟩ := HCEL.out wr hox
            clear hlow hox
            by_cases hqm : q < m
            · obtain ⟨y, hy⟩ : ∃ y, s[q]? = some y := ⟨_, List.getElem?_eq_getElem (by rw [HM.out]; exact hqm)⟩
              obtain ⟨y0, y1, y2, y3, y4⟩ := rn_cells (HSB.out.only HOX.out (fun _ _ => by simp)) HM.out hy
              have HY : Hid (s[q]? = some y) := hy
              have hqi : (q : Int) < m := by omega
              have mixed : Tryd.prog.follows Departure.mixedOrders = true := by kernel_rfl
              have HNXT : Hid (ltO y x → ∀ p z, p < q + 1 → s[p]? = some z → ltO z x) := fun hlt p z hp hz => by
                rcases Nat.lt_or_ge p q with h1 | h1
                · exact HLOW.out p z h1 hz
                · obtain rfl : p = q := by omega
                  rw [HY.out] at hz
                  cases hz
                  exact hlt
              have HSTOP : Hid (¬ ltO y x → ∀ z, s[q]? = some z → ¬ ltO z x) := fun hlt z hz => by
                rw [HY.out] at hz
                cases hz
                exact hlt
              clear hy
              by_cases hless : y.N < x.N ∨ y.N = x.N ∧ y.G < x.G
              · have HLB : Hid (decide (y.N < x.N ∨ y.N = x.N ∧ y.G < x.G) = true) := decide_eq_true hless
                have HLT : Hid (ltO y x) := by show ltO y x; unfold ltO; omega
                clear hless
                have HLS : Hid (∀ W, Calls Tryd.prog 42 #[.agg #[.int .i64 y.N, .int .i64 y.G], .agg #[.int .i64 x.N, .int .i64 x.G]] W fun e w' => e = .returned (.bool true) ∧ ∃ q os', w' = Sort.grow (W.drewN q) os') := fun W => by have hh := rless_grown y.N y.G x.N x.G W; rw [HLB.out] at hh; exact hh
                have z0 := fun n os => cell_grown (w := wr) (lt_of_cell y0) y0 n os
                have z1 := fun n os => cell_grown (w := wr) (lt_of_cell y1) y1 n os
                have z2 := fun n os => cell_grown (w := wr) (lt_of_cell y2) y2 n os
                have z3 := fun n os => cell_grown (w := wr) (lt_of_cell x0) x0 n os
                have z4 := fun n os => cell_grown (w := wr) (lt_of_cell x1) x1 n os
                have z5 := fun n os => cell_grown (w := wr) (lt_of_cell x2) x2 n os
                go_wp2
                refine wp_region_quiet_grown (by assumption) (by kernel_rfl) ?_
                repeat (first | go_big_quiet_skip | quiet_step (first | (go_at_call 42; refine Calls.grown_of (HLS.out _))))
                refine wpQuiet_nil ?_
                intro _ hw'
                obtain ⟨⟨nq, osq⟩, hw2⟩ := hw'
                subst hw2
                have HO4 : Hid (Only [] WB (Sort.grow (wr.drewN nq) osq)) := only_grow (HOX.out.drewsN nq) osq
                clear z0 z1 z2 z3 z4 z5 x0 x1 x2 x3 x4 y0 y1 y2 y3 y4
                generalize Sort.grow (wr.drewN nq) osq = wg at HO4 ⊢
                go_wp2
                go_roundw
                case rel => exact ⟨q + 1, by go_num, by omega, HNXT.out HLT.out, HO4.out⟩
                case measure => simp [intOf]; omega
              · have HLB : Hid (decide (y.N < x.N ∨ y.N = x.N ∧ y.G < x.G) = false) := decide_eq_false hless
                by_cases hN : y.N = x.N
                · by_cases hG : y.G = x.G
                  · by_cases hO : y.O < x.O
                    · have HLT : Hid (ltO y x) := by show ltO y x; unfold ltO; omega
                      have dO : decide (y.O < x.O) = true := decide_eq_true hO
                      clear hless
                      rw [hN, hG] at HLB
                      rw [hN] at y0
                      rw [hG] at y1
                      clear hN hG
                      have HLS : Hid (∀ W, Calls Tryd.prog 42 #[.agg #[.int .i64 x.N, .int .i64 x.G], .agg #[.int .i64 x.N, .int .i64 x.G]] W fun e w' => e = .returned (.bool false) ∧ ∃ q os', w' = Sort.grow (W.drewN q) os') := fun W => by have hh := rless_grown x.N x.G x.N x.G W; rw [HLB.out] at hh; exact hh
                      have z0 := fun n os => cell_grown (w := wr) (lt_of_cell y0) y0 n os
                      have z1 := fun n os => cell_grown (w := wr) (lt_of_cell y1) y1 n os
                      have z2 := fun n os => cell_grown (w := wr) (lt_of_cell y2) y2 n os
                      have z3 := fun n os => cell_grown (w := wr) (lt_of_cell x0) x0 n os
                      have z4 := fun n os => cell_grown (w := wr) (lt_of_cell x1) x1 n os
                      have z5 := fun n os => cell_grown (w := wr) (lt_of_cell x2) x2 n os
                      go_wp2
                      refine wp_region_quiet_grown (by assumption) (by kernel_rfl) ?_
                      repeat (first | go_big_quiet_skip | quiet_step (first | (go_at_call 42; refine Calls.grown_of (HLS.out _))))
                      refine wpQuiet_nil ?_
                      intro _ hw'
                      obtain ⟨⟨nq, osq⟩, hw2⟩ := hw'
                      subst hw2
                      have HO4 : Hid (Only [] WB (Sort.grow (wr.drewN nq) osq)) := only_grow (HOX.out.drewsN nq) osq
                      clear z0 z1 z2 z3 z4 z5 x0 x1 x2 x3 x4 y0 y1 y2 y3 y4
                      generalize Sort.grow (wr.drewN nq) osq = wg at HO4 ⊢
                      go_wp2
                      go_roundw
                      case rel => exact ⟨q + 1, by go_num, by omega, HNXT.out HLT.out, HO4.out⟩
                      case measure => simp [intOf]; omega
                    · have HLT : Hid (¬ ltO y x) := by show ¬ ltO y x; unfold ltO; omega
                      have dO : decide (y.O < x.O) = false := decide_eq_false hO
                      clear hless
                      rw [hN, hG] at HLB
                      rw [hN] at y0
                      rw [hG] at y1
                      clear hN hG
                      have HLS : Hid (∀ W, Calls Tryd.prog 42 #[.agg #[.int .i64 x.N, .int .i64 x.G], .agg #[.int .i64 x.N, .int .i64 x.G]] W fun e w' => e = .returned (.bool false) ∧ ∃ q os', w' = Sort.grow (W.drewN q) os') := fun W => by have hh := rless_grown x.N x.G x.N x.G W; rw [HLB.out] at hh; exact hh
                      have z0 := fun n os => cell_grown (w := wr) (lt_of_cell y0) y0 n os
                      have z1 := fun n os => cell_grown (w := wr) (lt_of_cell y1) y1 n os
                      have z2 := fun n os => cell_grown (w := wr) (lt_of_cell y2) y2 n os
                      have z3 := fun n os => cell_grown (w := wr) (lt_of_cell x0) x0 n os
                      have z4 := fun n os => cell_grown (w := wr) (lt_of_cell x1) x1 n os
                      have z5 := fun n os => cell_grown (w := wr) (lt_of_cell x2) x2 n os
                      go_wp2
                      refine wp_region_quiet_grown (by assumption) (by kernel_rfl) ?_
                      repeat (first | go_big_quiet_skip | quiet_step (first | (go_at_call 42; refine Calls.grown_of (HLS.out _))))
                      refine wpQuiet_nil ?_
                      intro _ hw'
                      obtain ⟨⟨nq, osq⟩, hw2⟩ := hw'
                      subst hw2
                      have HO4 : Hid (Only [] WB (Sort.grow (wr.drewN nq) osq)) := only_grow (HOX.out.drewsN nq) osq
                      clear z0 z1 z2 z3 z4 z5 x0 x1 x2 x3 x4 y0 y1 y2 y3 y4
                      generalize Sort.grow (wr.drewN nq) osq = wg at HO4 ⊢
                      go_wp2
                      go_meet
                      exact ⟨q, rfl, hq, HLOW.out, HSTOP.out HLT.out, HO4.out⟩
                  · have HLT : Hid (¬ ltO y x) := by show ¬ ltO y x; unfold ltO; omega
                    have dG : (y.G == x.G) = false := beq_eq_false_iff_ne.2 hG
                    have dG2 : decide (y.G = x.G) = false := decide_eq_false hG
                    clear hless
                    rw [hN] at HLB y0
                    have dN : (x.N == x.N) = true := beq_self_eq_true _
                    clear hN
                    have HLS : Hid (∀ W, Calls Tryd.prog 42 #[.agg #[.int .i64 x.N, .int .i64 y.G], .agg #[.int .i64 x.N, .int .i64 x.G]] W fun e w' => e = .returned (.bool false) ∧ ∃ q os', w' = Sort.grow (W.drewN q) os') := fun W => by have hh := rless_grown x.N y.G x.N x.G W; rw [HLB.out] at hh; exact hh
                    have z0 := fun n os => cell_grown (w := wr) (lt_of_cell y0) y0 n os
                    have z1 := fun n os => cell_grown (w := wr) (lt_of_cell y1) y1 n os
                    have z2 := fun n os => cell_grown (w := wr) (lt_of_cell y2) y2 n os
                    have z3 := fun n os => cell_grown (w := wr) (lt_of_cell x0) x0 n os
                    have z4 := fun n os => cell_grown (w := wr) (lt_of_cell x1) x1 n os
                    have z5 := fun n os => cell_grown (w := wr) (lt_of_cell x2) x2 n os
                    go_wp2
                    refine wp_region_quiet_grown (by assumption) (by kernel_rfl) ?_
                    repeat (first | go_big_quiet_skip | quiet_step (first | (go_at_call 42; refine Calls.grown_of (HLS.out _))))
                    refine wpQuiet_nil ?_
                    intro _ hw'
                    obtain ⟨⟨nq, osq⟩, hw2⟩ := hw'
                    subst hw2
                    have HO4 : Hid (Only [] WB (Sort.grow (wr.drewN nq) osq)) := only_grow (HOX.out.drewsN nq) osq
                    clear z0 z1 z2 z3 z4 z5 x0 x1 x2 x3 x4 y0 y1 y2 y3 y4
                    generalize Sort.grow (wr.drewN nq) osq = wg at HO4 ⊢
                    go_wp2
                    go_meet
                    exact ⟨q, rfl, hq, HLOW.out, HSTOP.out HLT.out, HO4.out⟩
                · have HLT : Hid (¬ ltO y x) := by show ¬ ltO y x; unfold ltO; omega
                  have dN : (y.N == x.N) = false := beq_eq_false_iff_ne.2 hN
                  have dN2 : decide (y.N = x.N) = false := decide_eq_false hN
                  clear hless
                  have HLS : Hid (∀ W, Calls Tryd.prog 42 #[.agg #[.int .i64 y.N, .int .i64 y.G], .agg #[.int .i64 x.N, .int .i64 x.G]] W fun e w' => e = .returned (.bool false) ∧ ∃ q os', w' = Sort.grow (W.drewN q) os') := fun W => by have hh := rless_grown y.N y.G x.N x.G W; rw [HLB.out] at hh; exact hh
                  have z0 := fun n os => cell_grown (w := wr) (lt_of_cell y0) y0 n os
                  have z1 := fun n os => cell_grown (w := wr) (lt_of_cell y1) y1 n os
                  have z2 := fun n os => cell_grown (w := wr) (lt_of_cell y2) y2 n os
                  have z3 := fun n os => cell_grown (w := wr) (lt_of_cell x0) x0 n os
                  have z4 := fun n os => cell_grown (w := wr) (lt_of_cell x1) x1 n os
                  have z5 := fun n os => cell_grown (w := wr) (lt_of_cell x2) x2 n os
                  go_wp2
                  refine wp_region_quiet_grown (by assumption) (by kernel_rfl) ?_
                  repeat (first | go_big_quiet_skip | quiet_step (first | (go_at_call 42; refine Calls.grown_of (HLS.out _))))
                  refine wpQuiet_nil ?_
                  intro _ hw'
                  obtain ⟨⟨nq, osq⟩, hw2⟩ := hw'
                  subst hw2
                  have HO4 : Hid (Only [] WB (Sort.grow (wr.drewN nq) osq)) := only_grow (HOX.out.drewsN nq) osq
                  clear z0 z1 z2 z3 z4 z5 x0 x1 x2 x3 x4 y0 y1 y2 y3 y4
                  generalize Sort.grow (wr.drewN nq) osq = wg at HO4 ⊢
                  go_wp2
                  go_meet
                  exact ⟨q, rfl, hq, HLOW.out, HSTOP.out HLT.out, HO4.out⟩
            · have HHIGH : Hid (∀ z, s[q]? = some z → ¬ ltO z x) := fun z hz => by
                have := (List.getElem?_eq_some_iff.1 hz).1
                have := HM.out
                omega
              have hqd : decide ((q : Int) < (m : Int)) = false := decide_eq_false (by omega)
              go_wp2
              go_big_quiet (fail)
              have HOT : Hid (Only [] WB (wr.drewN nq)) := HOX.out.drewsN nq
              clear x0 x1 x2 x3 x4
              generalize wr.drewN nq = wt at HOT ⊢
              go_wp2
              go_meet
              exact ⟨q, rfl, hq, HLOW.out, HHIGH.out, HOT.out⟩
        case rest =>
          obtain ⟨q, rfl, hq, hlow, hhigh, hot⟩ := hcut
          have HLOW : Hid (∀ p y, p < q → s[p]? = some y → ltO y x) := hlow
          have HHIGH : Hid (∀ z, s[q]? = some z → ¬ ltO z x) := hhigh
          have HOT : Hid (Only [] WB wc) := hot
          clear hlow hhigh hot
          generalize wc = wt at HOT ⊢
          have e2 : (q : Int) ≤ (m : Int) := by omega
          have e4 : (q : Int) ≤ (oc : Int) := by omega
          obtain ⟨ad, had, hadr⟩ : ∃ ad : Addr, (if oc = q then some (⟨g, 0, none⟩ : Addr) else some ⟨g, q * 5, none⟩) = some ad ∧ ((s.drop q).length = 0 ∨ ad = ⟨g, q * 5, none⟩) := by
            by_cases hc : oc = q
            · exact ⟨_, if_pos hc, Or.inl (by rw [List.length_drop, HM.out]; omega)⟩
            · exact ⟨_, if_neg hc, Or.inr rfl⟩
          have HADR : Hid ((s.drop q).length = 0 ∨ ad = ⟨g, q * 5, none⟩) := hadr
          have HL1 : Hid ((rowOf opC (s.take q)).length = q * 5) := by show (rowOf opC (s.take q)).length = q * 5; rw [rowOf_len opC_len, List.length_take, HM.out]; congr 1; omega
          have HL2 : Hid ((rowOf opC (s.drop q)).length = (m - q) * 5) := by show (rowOf opC (s.drop q)).length = (m - q) * 5; rw [rowOf_len opC_len, List.length_drop, HM.out]
          clear hadr
          obtain ⟨i0, hi0, hz0, hz1, hz2⟩ := roInfo'
          go_wp2_with (first
            | (at_builtin; refine wpList_append_own_at _ rfl (.tmp 60) (.tmp 63) 29 rfl base 61 i0 _ 5 40 rosUnd hi0 hz0 hz1 hz2 rfl (by decide) _ 0 [] rfl (World.ownsRow_nil _ _ _ _) ⟨g, 0, none⟩ q oc (rowOf opC (s.take q)) rfl HL1.out (Rns.news_take (HSB.out.only HOT.out (fun _ _ => by simp)) HM.out q) (rowOf_one opC_one _) (by unfold maxLen; omega) (by omega) (Nat.le_trans HBS.out HOT.out.size) ?_; intro v1 w6 hown1 hgr1 _ hat1; have HO6 : Hid (Only [] WB w6) := HOT.out.grown hgr1 (fun k hk => by cases hk); have HV1 : Hid (w6.ownsRow base 61 5 v1 q (rowOf opC (s.take q))) := (by have hh := hown1; rw [Nat.zero_add, List.nil_append] at hh; exact hh); have HF1 : Hid (∀ k, v1.ownBlock = some k → WB.heap.size ≤ k) := (fun k hk => by rcases hat1 with e | e; rw [e] at hk; cases hk; rw [e] at hk; cases hk; exact HOT.out.size); obtain ⟨x0, x1, x2, x3, x4⟩ := HCEL.out w6 HO6.out; have HNW : Hid (∀ (p : Nat) (u : Value), (opC x)[p]? = some u → (w6.alloc (.cells #[.int .i64 x.N, .int .i64 x.G, .int .i64 x.O, .int .i64 x.A, .int .i64 x.D] 61)).cell? ((⟨w6.heap.size, 0, none⟩ : Addr).add p) = some u) := World.news_of_block (w := w6.alloc (.cells #[.int .i64 x.N, .int .i64 x.G, .int .i64 x.O, .int .i64 x.A, .int .i64 x.D] 61)) (heap_alloc_last w6 _); have HB2 : Hid (base ≤ (w6.alloc (.cells #[.int .i64 x.N, .int .i64 x.G, .int .i64 x.O, .int .i64 x.A, .int .i64 x.D] 61)).heap.size) := (by show base ≤ _; rw [World.size_alloc]; have := HO6.out.size; have := HBS.out; omega); clear hown1 hgr1 hat1)
            | (at_builtin; refine wpList_append_own_at _ rfl (.tmp 65) (.tmp 67) 29 rfl base 61 i0 _ 5 40 rosUnd hi0 hz0 hz1 hz2 rfl (by decide) v1 q (rowOf opC (s.take q)) rfl (World.ownsRow.alloc HV1.out _) ⟨w6.heap.size, 0, none⟩ 1 1 (opC x) rfl rfl HNW.out (opC_one x) (by unfold maxLen; omega) (by omega) HB2.out ?_; intro v2 w7 hown2 hgr2 _ hat2; have HO7 : Hid (Only [] WB w7) := (HO6.out.alloc _).grown hgr2 (fun k hk => Or.inr (HF1.out k hk)); have HV2 : Hid (w7.ownsRow base 61 5 v2 (q + 1) (rowOf opC (s.take q) ++ opC x)) := hown2; have HF2 : Hid (∀ k, v2.ownBlock = some k → WB.heap.size ≤ k) := (fun k hk => by rcases hat2 with e | e; rw [e] at hk; exact HF1.out k hk; rw [e] at hk; cases hk; rw [World.size_alloc]; exact Nat.le_trans HO6.out.size (Nat.le_succ _)); clear hown2 hgr2 hat2 x0 x1 x2 x3 x4)
            | (at_builtin; refine wpList_append_own_at _ rfl (.tmp 69) (.tmp 72) 29 rfl base 61 i0 _ 5 40 rosUnd hi0 hz0 hz1 hz2 rfl (by decide) v2 (q + 1) (rowOf opC (s.take q) ++ opC x) rfl HV2.out ad (m - q) _ (rowOf opC (s.drop q)) rfl HL2.out (Rns.news_drop (HSB.out.only HO7.out (fun _ _ => by simp)) HM.out q ad HADR.out) (rowOf_one opC_one _) (by unfold maxLen; omega) (by omega) (Nat.le_trans HBS.out HO7.out.size) ?_; intro v3 w8 hown3 hgr3 _ hat3; have HST : Hid (Srt w base l v3 (j + 1) (insAt s q x) w8) := HSTEP.out q v3 w8 hq HLOW.out HHIGH.out (HO7.out.grown hgr3 (fun k hk => Or.inr (HF2.out k hk))) hown3 (fun k hk => by rcases hat3 with e | e; rw [e] at hk; exact HF2.out k hk; rw [e] at hk; cases hk; exact HO7.out.size); clear hown3 hgr3 hat3)
            | go_in)
          go_roundw
          case rel => exact ⟨j + 1, _, by go_num, by omega, HST.out⟩
          case measure => simp [intOf]; omega
    · obtain rfl : j = n := by omega
      have htk : l.take j = l := by rw [← HN.out, List.take_length]
      have HE : Hid (Rns wr base u3 s ∧ s.Perm l ∧ SortedO s ∧ Only [] w wr) := ⟨hS.own, by have := hS.perm; rw [htk] at this; exact this, hS.sorted, hS.only⟩
      clear hS HS hR htk
      go_wp2
      go_ret
      exact ⟨_, s, rfl, HE.out⟩
end Go.Proofs.YtagpahgjbglmaaaDoor
