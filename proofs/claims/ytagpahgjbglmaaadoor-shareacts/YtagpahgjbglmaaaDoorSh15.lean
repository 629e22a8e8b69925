/- Shares: slices.DeleteFunc of an owner's opens. -/
import Derived.Test.YtagpahgjbglmaaaDoorSh14
import Derived.Test.YtagpahgjbglmaaaDoorSh5
namespace Go.Proofs.YtagpahgjbglmaaaDoor
open Go Go.RowKit Go.Deep

def keptO (o : Int) (l : List Opn) : List Opn := l.filter (fun x => !byB o x)
theorem kept_none {o : Int} {l : List Opn} (h : ∀ x ∈ l, byB o x = false) : keptO o l = l := by
  unfold keptO
  rw [List.filter_eq_self]
  intro x hx
  rw [h x hx]
  rfl
theorem kept_snoc (o : Int) (l : List Opn) (x : Opn) : keptO o (l ++ [x]) = keptO o l ++ if byB o x then [] else [x] := by
  unfold keptO
  rw [List.filter_append]
  cases h : byB o x <;> simp [h]
theorem take_succ_of {l : List Opn} {j : Nat} {x : Opn} (h : l[j]? = some x) : l.take (j + 1) = l.take j ++ [x] := by
  rw [List.take_add_one, h]
  rfl
theorem opn_cellsM {w : World} {base g cap n m : Nat} {l : List Opn} {x : Opn} (h : Opns w base (.slice (some ⟨g, 0, none⟩) n cap) l) (hn : l.length = n) (hx : l[m]? = some x) : w.cell? ⟨g, m * 5, none⟩ = some (.int .i64 x.N) ∧ w.cell? ⟨g, m * 5 + 1, none⟩ = some (.int .i64 x.G) ∧ w.cell? ⟨g, m * 5 + 2, none⟩ = some (.int .i64 x.O) ∧ w.cell? ⟨g, m * 5 + 3, none⟩ = some (.int .i64 x.A) ∧ w.cell? ⟨g, m * 5 + 4, none⟩ = some (.int .i64 x.D) := by
  subst hn
  obtain ⟨a, b, c, d, e, _⟩ := h.cells hx
  exact ⟨a, b, c, d, e⟩
theorem opn_frozen {w : World} {base g cap n : Nat} {l : List Opn} (h : Opns w base (.slice (some ⟨g, 0, none⟩) n cap) l) (hn : l.length = n) (o : Nat) : w.frozen? ⟨g, o, none⟩ = false := by
  subst hn
  exact World.ownsRow.frozenAt h o
/-- While those that stay move up. -/
structure Moved (w : World) (base g n cap : Nat) (o : Int) (l : List Opn) (j k : Nat) (wr : World) : Prop where
  own : ∃ M, Opns wr base (.slice (some ⟨g, 0, none⟩) n cap) M ∧ M.length = n ∧ M.take k = keptO o (l.take j) ∧ M.drop j = l.drop j
  kj : k < j
  jn : j ≤ n
  only : Only [g] w wr
theorem Moved.only' {w wr w' : World} {base g n cap : Nat} {o : Int} {l : List Opn} {j k : Nat} (h : Moved w base g n cap o l j k wr) (ho : Only [] wr w') : Moved w base g n cap o l j k w' := by
  obtain ⟨M, h1, h2⟩ := h.own
  exact ⟨⟨M, h1.only ho (fun _ _ => by simp), h2⟩, h.kj, h.jn, h.only.trans ho (fun _ hk => by cases hk)⟩
theorem kept_len {M l : List Opn} {o : Int} {j k n : Nat} (h : M.take k = keptO o (l.take j)) (hk : k ≤ n) (hM : M.length = n) : (keptO o (l.take j)).length = k := by
  rw [← h, List.length_take]
  omega
theorem set_take {M : List Opn} {k : Nat} {x : Opn} (h : k < M.length) : (M.set k x).take (k + 1) = M.take k ++ [x] := by
  rw [take_succ_of (x := x) (by simp [h]), List.take_set_of_le (Nat.le_refl _)]
theorem set_drop {M : List Opn} {k j : Nat} {x : Opn} (h : k < j) : (M.set k x).drop j = M.drop j := by
  rw [List.drop_set_of_lt h]
theorem drop_clear {w wr : World} {base g n cap k : Nat} {o : Int} {l : List Opn} (h : Moved w base g n cap o l n k wr) (hn : l.length = n) :
    ∃ w', (∀ ty, (Builtin.clear_ #[25] ty #[.slice (some ⟨g, k * 5, none⟩) (n - k) (cap - k)]).run Tryd.prog wr = .ok (.tuple #[]) w') ∧ (Opns w' base (.slice (some ⟨g, 0, none⟩) (keptO o l).length cap) (keptO o l) ∧ (keptO o l).length = k) ∧ Only [g] w w' := by
  obtain ⟨M, h1, h2, h3, _⟩ := h.own
  have hkj := h.kj
  rw [show l.take n = l by rw [← hn]; exact List.take_length] at h3
  rcases h1.open with ⟨e, _⟩ | ⟨g', cap', cur, e, hbg, hgl, hg, hnc, hcm, hcs, htk⟩
  · cases e
  simp only [Value.slice.injEq, Option.some.injEq, Addr.mk.injEq, and_true] at e
  obtain ⟨rfl, -, rfl⟩ := e
  have hcl : cur.toList.length = cap * 5 := by rw [Array.length_toList, hcs]
  have hkl : (keptO o l).length = k := by rw [← h3, List.length_take]; omega
  obtain ⟨w3, cs, hc3, hh3, hcsl, o3⟩ := clear_at (g := g) (o := k * 5) (n := n - k) (cap := cap - k) hg (by omega) (by omega)
  refine ⟨w3, hc3, ⟨⟨by rw [rowOf_len opC_len], Or.inr ⟨g, cap, _, rfl, hbg, hh3, by omega, hcm, ?_, ?_⟩⟩, hkl⟩, h.only.trans o3 (fun _ hk => Or.inl hk)⟩
  · rw [List.size_toArray, overV_len (by omega), hcl]
  · rw [List.toList_toArray, hkl]
    rw [overV, List.append_assoc, List.take_append_of_le_length (by rw [List.length_take]; omega), List.take_take, Nat.min_self, ← h3, rowOf_take opC_len, ← htk, List.take_take, Nat.min_eq_left (by omega)]
set_option maxRecDepth 100000 in
set_option maxHeartbeats 4000000 in
theorem drop_walk (w : World) (base g n cap b : Nat) (o : Int) (l : List Opn) (h : Opns w base (.slice (some ⟨g, 0, none⟩) n cap) l) (hn : l.length = n) (hl : n ≤ 1000) (hok : ∀ x ∈ l, OkO x) (hb : w.cell? ⟨b, 0, none⟩ = some (.int .i64 o)) (hbg : b ≠ g) :
    Calls Tryd.prog 38 #[.slice (some ⟨g, 0, none⟩) n cap, .func (.func 52) #[] #[.pointer (some ⟨b, 0, none⟩)]] w fun e w' => e = .returned (.slice (some ⟨g, 0, none⟩) (keptO o l).length cap) ∧ Opns w' base (.slice (some ⟨g, 0, none⟩) (keptO o l).length cap) (keptO o l) ∧ Only [g] w w' := by
  have hidx := index_by w base (.pointer (some ⟨b, 0, none⟩)) (byB o) _ l h (by omega) hok (by1_any w b o hb)
  have hop : l.length ≤ cap ∧ cap ≤ maxLen := by
    rcases h.open with ⟨h1, _⟩ | ⟨g', cap', cur, h1, _, _, _, h2, h3, _⟩
    · cases h1
    · simp only [Value.slice.injEq, Option.some.injEq, Addr.mk.injEq, and_true] at h1
      obtain ⟨-, -, rfl⟩ := h1
      exact ⟨h2, h3⟩
  have hcap : (cap : Int) ≤ 9223372036854775807 := by have := hop.2; unfold maxLen at this; omega
  have hnc : n ≤ cap := by omega
  have H : Hid (Opns w base (.slice (some ⟨g, 0, none⟩) n cap) l) := h
  have HN : Hid (l.length = n) := hn
  have HB : Hid (∀ W, Only [g] w W → W.cell? ⟨b, 0, none⟩ = some (.int .i64 o)) := fun W ho => (ho.cell (p := ⟨b, 0, none⟩) (lt_of_cell hb) (by simpa using hbg)).trans hb
  have HK : Hid (∀ x ∈ l, OkO x) := hok
  clear h hn hb hok hop
  by_cases hall : ∀ x ∈ l, byB o x = false
  · have hidx' : Calls Tryd.prog 43 #[.slice (some ⟨g, 0, none⟩) n cap, .func (.func 52) #[] #[.pointer (some ⟨b, 0, none⟩)]] w fun e w' => e = .returned (.int .i64 (-1)) ∧ Only [] w w' := hidx.mono fun e w' hh => by
      obtain ⟨r, he, hr, ho⟩ := hh
      rcases hr with ⟨rfl, _⟩ | ⟨q, rfl, x, hx, hp, _⟩
      · exact ⟨he, ho⟩
      · rw [hall x (List.mem_of_getElem? hx)] at hp
        cases hp
    have hk := kept_none hall
    rw [hk]
    clear hidx hall hk
    go_enter Tryd.func38, Tryd.ntmps38
    go_wp2_with (go_at_call 43; refine hidx'.mono ?_; rintro e w2 ⟨rfl, ho2⟩; have HO2 : Hid (Only [] w w2) := ho2; clear hidx' ho2)
    go_ret
    exact ⟨by rw [HN.out]; rfl, by rw [HN.out]; exact H.out.only HO2.out (fun _ _ => by simp), HO2.out.mono (fun _ hk => by cases hk)⟩
  · have hidx' : Calls Tryd.prog 43 #[.slice (some ⟨g, 0, none⟩) n cap, .func (.func 52) #[] #[.pointer (some ⟨b, 0, none⟩)]] w fun e w' => ∃ i : Nat, e = .returned (.int .i64 i) ∧ i < n ∧ Moved w base g n cap o l (i + 1) i w' := hidx.mono fun e w' hh => by
      obtain ⟨r, he, hr, ho⟩ := hh
      rcases hr with ⟨rfl, h1⟩ | ⟨q, rfl, x, hx, hp, h1⟩
      · exact absurd h1 hall
      · have hq : q < n := by have := (List.getElem?_eq_some_iff.1 hx).1; rw [HN.out] at this; exact this
        have hkt : keptO o (l.take q) = l.take q := kept_none (fun y hy => by
          obtain ⟨m, hm⟩ := List.mem_iff_getElem?.1 hy
          rw [List.getElem?_take] at hm
          split at hm
          · exact h1 m y (by omega) hm
          · cases hm)
        refine ⟨q, he, hq, ⟨l, H.out.only ho (fun _ _ => by simp), HN.out, ?_, rfl⟩, by omega, by omega, ho.mono (fun _ hk => by cases hk)⟩
        rw [take_succ_of hx, kept_snoc, hp, hkt]
        simp
    clear hidx hall
    go_enter Tryd.func38, Tryd.ntmps38
    go_wp2_with (go_at_call 43; refine hidx'.mono ?_; rintro e w2 ⟨i, rfl, hin, hM⟩; have HM0 : Hid (Moved w base g n cap o l (i + 1) i w2) := hM; have hi1 : ((i : Int) == -1) = false := (by rw [beq_eq_false_iff_ne]; omega); clear hidx' hM)
    clear hi1
    go_loopw [5, 6] (fun a c wr => ∃ k j : Nat, a = .int .i64 k ∧ c = .int .i64 j ∧ Moved w base g n cap o l j k wr) (fun _ c _ => n - (intOf c).toNat)
    case atStart => exact ⟨i, i + 1, rfl, by go_num, HM0.out⟩
    case round =>
      obtain ⟨k, j, rfl, rfl, hM⟩ := hrel
      have HM : Hid (Moved w base g n cap o l j k wr) := hM
      have hkj := hM.kj
      have hjn := hM.jn
      clear hM HM0
      by_cases hlt : j < n
      · obtain ⟨M, hM1, hM2, hM3, hM4⟩ := HM.out.own
        obtain ⟨x, hx⟩ : ∃ x, l[j]? = some x := ⟨_, List.getElem?_eq_getElem (by rw [HN.out]; exact hlt)⟩
        have hMx : M[j]? = some x := by
          have h1 : (M.drop j)[0]? = some x := by rw [hM4, List.getElem?_drop]; exact hx
          rw [List.getElem?_drop] at h1
          exact h1
        obtain ⟨c0, c1, c2, c3, c4⟩ := opn_cellsM hM1 hM2 hMx
        have HX : Hid (l[j]? = some x) := hx
        have hcall : Calls Tryd.prog 52 #[.agg #[.int .i64 x.N, .int .i64 x.G, .int .i64 x.O, .int .i64 x.A, .int .i64 x.D], .pointer (some ⟨b, 0, none⟩)] (wr.alloc (.cells #[.int .i64 x.N, .int .i64 x.G, .int .i64 x.O, .int .i64 x.A, .int .i64 x.D] 52)) fun e w' => e = .returned (.bool (byB o x)) ∧ Only [] (wr.alloc (.cells #[.int .i64 x.N, .int .i64 x.G, .int .i64 x.O, .int .i64 x.A, .int .i64 x.D] 52)) w' := by1_any (wr.alloc (.cells #[.int .i64 x.N, .int .i64 x.G, .int .i64 x.O, .int .i64 x.A, .int .i64 x.D] 52)) b o (HB.out _ (HM.out.only.alloc _)) (wr.alloc (.cells #[.int .i64 x.N, .int .i64 x.G, .int .i64 x.O, .int .i64 x.A, .int .i64 x.D] 52)) x (Only.refl [] _) (HK.out x (List.mem_of_getElem? hx))
        have hgl : g < wr.heap.size := lt_of_cell c0
        have HC : Hid (Opns wr base (.slice (some ⟨g, 0, none⟩) n cap) M ∧ M.length = n ∧ M.take k = keptO o (l.take j) ∧ M.drop j = l.drop j) := ⟨hM1, hM2, hM3, hM4⟩
        clear hM1 hM2 hM3 hM4 hx hMx
        have hln : (j : Int) < n := by omega
        cases hp : byB o x with
        | true =>
          rw [hp] at hcall
          go_wp2_with (go_at_call 52; refine hcall.mono ?_; rintro e w3 ⟨rfl, ho3⟩; have HO3 : Hid (Only [] wr w3) := ((Only.refl [] wr).alloc _).trans ho3 (fun _ hk => by cases hk); clear hcall c0 c1 c2 c3 c4 ho3)
          go_roundw
          case rel =>
            refine ⟨k, j + 1, rfl, by go_num, ⟨M, HC.out.1.only HO3.out (fun _ _ => by simp), HC.out.2.1, ?_, ?_⟩, by omega, by omega, HM.out.only.trans HO3.out (fun _ hk => by cases hk)⟩
            · rw [take_succ_of HX.out, kept_snoc, hp, HC.out.2.2.1]
              simp
            · rw [← List.drop_drop, HC.out.2.2.2, List.drop_drop]
          case measure => simp [intOf]; omega
        | false =>
          rw [hp] at hcall
          have HXC : Hid (∀ W, Only [] (wr.alloc (.cells #[.int .i64 x.N, .int .i64 x.G, .int .i64 x.O, .int .i64 x.A, .int .i64 x.D] 52)) W → W.cell? ⟨wr.heap.size, 0, none⟩ = some (.int .i64 x.N) ∧ W.cell? ⟨wr.heap.size, 1, none⟩ = some (.int .i64 x.G) ∧ W.cell? ⟨wr.heap.size, 2, none⟩ = some (.int .i64 x.O) ∧ W.cell? ⟨wr.heap.size, 3, none⟩ = some (.int .i64 x.A) ∧ W.cell? ⟨wr.heap.size, 4, none⟩ = some (.int .i64 x.D)) := fun W ho => by
            have hh := heap_alloc_last wr (.cells #[.int .i64 x.N, .int .i64 x.G, .int .i64 x.O, .int .i64 x.A, .int .i64 x.D] 52)
            have hl : wr.heap.size < (wr.alloc (.cells #[.int .i64 x.N, .int .i64 x.G, .int .i64 x.O, .int .i64 x.A, .int .i64 x.D] 52)).heap.size := by simp
            exact ⟨(ho.cell (p := ⟨wr.heap.size, 0, none⟩) hl (by simp)).trans (cell_of_row _ _ 0 _ _ _ hh), (ho.cell (p := ⟨wr.heap.size, 1, none⟩) hl (by simp)).trans (cell_of_row _ _ 1 _ _ _ hh), (ho.cell (p := ⟨wr.heap.size, 2, none⟩) hl (by simp)).trans (cell_of_row _ _ 2 _ _ _ hh), (ho.cell (p := ⟨wr.heap.size, 3, none⟩) hl (by simp)).trans (cell_of_row _ _ 3 _ _ _ hh), (ho.cell (p := ⟨wr.heap.size, 4, none⟩) hl (by simp)).trans (cell_of_row _ _ 4 _ _ _ hh)⟩
          have hkn : (k : Int) < n := by omega
          go_wp2_with (go_at_call 52; refine hcall.mono ?_; rintro e w3 ⟨rfl, ho3⟩; have HO3 : Hid (Only [] wr w3) := ((Only.refl [] wr).alloc _).trans ho3 (fun _ hk => by cases hk); obtain ⟨d0, d1, d2, d3, d4⟩ := HXC.out w3 ho3; have HY : Hid (Opns w3 base (.slice (some ⟨g, 0, none⟩) n cap) M) := HC.out.1.only HO3.out (fun _ _ => by simp); obtain ⟨y, hy⟩ : ∃ y, M[k]? = some y := ⟨_, List.getElem?_eq_getElem (by have := HC.out.2.1; omega)⟩; obtain ⟨f0, f1, f2, f3, f4⟩ := opn_cellsM HY.out HC.out.2.1 hy; have ff := opn_frozen HY.out HC.out.2.1; clear hcall c0 c1 c2 c3 c4 ho3 hy)
          go_roundw
          case rel =>
            refine ⟨k + 1, j + 1, by go_num, by go_num, ⟨M.set k x, HY.out.set HC.out.2.1 (by omega) x, by rw [List.length_set]; exact HC.out.2.1, ?_, ?_⟩, by omega, by omega, ?_⟩
            · rw [take_succ_of HX.out, kept_snoc, hp, ← HC.out.2.2.1, set_take (by rw [HC.out.2.1]; omega)]
              simp
            · rw [set_drop (by omega), ← List.drop_drop, HC.out.2.2.2, List.drop_drop]
            · have hg1 : g ∈ [g] := by simp
              exact ((((((HM.out.only.trans HO3.out (fun _ hk => by cases hk)).setCell (Or.inl hg1) _).setCell (Or.inl hg1) _).setCell (Or.inl hg1) _).setCell (Or.inl hg1) _).setCell (Or.inl hg1) _)
          case measure => simp [intOf]; omega
      · obtain rfl : j = n := by omega
        obtain ⟨w3, hc3, hF3, ho3⟩ := drop_clear HM.out HN.out
        have HF3 : Hid (Opns w3 base (.slice (some ⟨g, 0, none⟩) (keptO o l).length cap) (keptO o l) ∧ (keptO o l).length = k) := hF3
        have HO3 : Hid (Only [g] w w3) := ho3
        have hkn : (k : Int) ≤ j := by omega
        have hck : ¬ (cap = k) := by omega
        have hkc : (k : Int) ≤ cap := by omega
        clear hF3 ho3
        go_wp2_with (at_builtin; refine wpList_clear_known rfl _ 25 rfl _ rfl (hc3 _) ?_)
        go_ret
        exact ⟨by rw [HF3.out.2]; rfl, HF3.out.1, HO3.out⟩
end Go.Proofs.YtagpahgjbglmaaaDoor
