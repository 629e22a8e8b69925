/- Locks: runs without those that a test takes; runs with one that is wanted. -/
import Derived.Test.YtfnniphemlnanaaDoorLk9
import Derived.Deep.DeepCutAuto
namespace Go.Proofs.YtfnniphemlnanaaDoor
open Go Go.RowKit Go.Deep

set_option maxHeartbeats 1000000 in
theorem del_by_none (w : World) (b1 b2 : Value) : Calls Tryd.prog 32 #[.slice none 0 0, .func (.func 46) #[] #[b1, b2]] w fun e w' => e = .returned (.slice none 0 0) ∧ Only [] w w' := by
  have hidx : Calls Tryd.prog 28 #[.slice none 0 0, .func (.func 46) #[] #[b1, b2]] w fun e w' => e = .returned (.int .i64 (-1)) ∧ Only [] w w' := by
    go_enter Tryd.func28, Tryd.ntmps28
    go_wp2
    refine wp_loop_rounds 1 ?_
    rw [rounds_succ]
    go_wp2
    go_ret
    exact ⟨rfl, Only.refl _ _⟩
  go_enter Tryd.func32, Tryd.ntmps32
  go_wp2_with (go_at_call 28; refine hidx.mono ?_; rintro e w2 ⟨rfl, ho2⟩; have HO2 : Hid (Only [] w w2) := ho2; clear hidx ho2)
  go_ret
  exact ⟨rfl, HO2.out⟩
theorem del_by_any (w : World) (base : Nat) (b1 b2 : Value) (p : Lk → Bool) (v : Value) (l : List Lk) (h : Lks w base v l) (hl : l.length ≤ 1000) (hok : ∀ x ∈ l, x.Ok) (ht : TestOf w v.ownBlock.toList 46 #[b1, b2] p) : Calls Tryd.prog 32 #[v, .func (.func 46) #[] #[b1, b2]] w fun e w' => ∃ v', e = .returned v' ∧ Lks w' base v' (keptB p l) ∧ v'.ownBlock = v.ownBlock ∧ Only v.ownBlock.toList w w' := by
  rcases row_open h with ⟨rfl, rfl⟩ | ⟨g, cap, cur, rfl, _⟩
  · exact (del_by_none w b1 b2).mono fun e w' hh => ⟨_, hh.1, Lks.nil _ _, rfl, hh.2⟩
  · exact (drop_by w base g l.length cap b1 b2 p l h rfl hl hok ht).mono fun e w' hh => ⟨_, hh.1, hh.2.1, rfl, hh.2.2⟩
set_option maxHeartbeats 1000000 in
theorem del_continuing_none (w : World) (b1 b2 : Value) : Calls Tryd.prog 32 #[.slice none 0 0, .func (.func 55) #[] #[b1, b2]] w fun e w' => e = .returned (.slice none 0 0) ∧ Only [] w w' := by
  have hidx : Calls Tryd.prog 28 #[.slice none 0 0, .func (.func 55) #[] #[b1, b2]] w fun e w' => e = .returned (.int .i64 (-1)) ∧ Only [] w w' := by
    go_enter Tryd.func28, Tryd.ntmps28
    go_wp2
    refine wp_loop_rounds 1 ?_
    rw [rounds_succ]
    go_wp2
    go_ret
    exact ⟨rfl, Only.refl _ _⟩
  go_enter Tryd.func32, Tryd.ntmps32
  go_wp2_with (go_at_call 28; refine hidx.mono ?_; rintro e w2 ⟨rfl, ho2⟩; have HO2 : Hid (Only [] w w2) := ho2; clear hidx ho2)
  go_ret
  exact ⟨rfl, HO2.out⟩
theorem del_continuing_any (w : World) (base : Nat) (b1 b2 : Value) (p : Lk → Bool) (v : Value) (l : List Lk) (h : Lks w base v l) (hl : l.length ≤ 1000) (hok : ∀ x ∈ l, x.Ok) (ht : TestOf w v.ownBlock.toList 55 #[b1, b2] p) : Calls Tryd.prog 32 #[v, .func (.func 55) #[] #[b1, b2]] w fun e w' => ∃ v', e = .returned v' ∧ Lks w' base v' (keptB p l) ∧ v'.ownBlock = v.ownBlock ∧ Only v.ownBlock.toList w w' := by
  rcases row_open h with ⟨rfl, rfl⟩ | ⟨g, cap, cur, rfl, _⟩
  · exact (del_continuing_none w b1 b2).mono fun e w' hh => ⟨_, hh.1, Lks.nil _ _, rfl, hh.2⟩
  · exact (drop_continuing w base g l.length cap b1 b2 p l h rfl hl hok ht).mono fun e w' hh => ⟨_, hh.1, hh.2.1, rfl, hh.2.2⟩
theorem with_six {w w7 : World} {B : Nat} {J : Lk} {r : Option Nat} (h : LkIn w B J) (hg : w.grownBy w7 r) (hf : ∀ k, r = some k → B < k) : LkIn w7 B J := by
  have k : ∀ (o : Nat) (u : Value), w.cell? ⟨B, o, none⟩ = some u → w7.cell? ⟨B, o, none⟩ = some u := fun o u hc => (World.cell?_of_block (w := w) (a := ⟨B, o, none⟩) (hg.block B (lt_of_cell hc) (fun e => by have := hf B e.symm; omega))).trans hc
  exact ⟨k _ _ h.1, k _ _ h.2.1, k _ _ h.2.2.1, k _ _ h.2.2.2.1, k _ _ h.2.2.2.2.1, k _ _ h.2.2.2.2.2⟩
theorem with_end {w w6 w7 : World} {base kn g7 c7 : Nat} {K : List Lk} {J : Lk} {r : Option Nat} (hk : K.length = kn) (hown : w7.ownsRow base 39 6 (.slice (some ⟨g7, 0, none⟩) (kn + 1) c7) (kn + 1) (rowOf lkC K ++ lkC J)) (ho : Only [] w w6) (hg : w6.grownBy w7 r) (hf : ∀ k, r = some k → w.heap.size ≤ k) (hat : r = some g7 ∨ w.heap.size ≤ g7) : Lks w7 base (.slice (some ⟨g7, 0, none⟩) (kn + 1) c7) (K ++ [J]) ∧ w.heap.size ≤ g7 ∧ Only [] w w7 := by
  refine ⟨?_, ?_, ho.grown hg (fun k hk => Or.inr (hf k hk))⟩
  · unfold Lks
    rw [rowOf_append, List.length_append, List.length_singleton, hk, show rowOf lkC [J] = lkC J by simp [rowOf]]
    exact hown
  · rcases hat with e | e
    · exact hf _ e
    · exact e
theorem own_lt {w : World} {base : Nat} {v : Value} {l : List Lk} (h : Lks w base v l) : ∀ k ∈ v.ownBlock.toList, k < w.heap.size := by
  rcases row_open h with ⟨rfl, rfl⟩ | ⟨g, cap, cur, rfl, _, hg, _⟩
  · intro k hk; cases hk
  · intro k hk
    rw [List.mem_singleton.1 hk]
    exact hg
theorem joinL_take {v : Lk} {l : List Lk} {j : Nat} {x : Lk} (h : l[j]? = some x) : joinL v v (l.take (j + 1)) = if goesB v x then joinK (joinL v v (l.take j)) x else joinL v v (l.take j) := by
  obtain ⟨hj, rfl⟩ := List.getElem?_eq_some_iff.1 h
  rw [← List.take_append_getElem hj, joinL_snoc]
theorem joinK_put (a x : Lk) : joinK a x = putR a (min a.A x.A, sizR (min a.A x.A) (max (endR a.A a.S) (endR x.A x.S))) := rfl
set_option maxRecDepth 100000 in
set_option maxHeartbeats 8000000 in
theorem with_any (w : World) (base t : Nat) (vT : Value) (l : List Lk) (v : Lk) (h : TbAt w base t vT l) (hb : base ≤ w.heap.size) (hl : l.length ≤ 100) (hok : ∀ x ∈ l, x.Ok) (hv : v.Ok) (hokw : ∀ x ∈ withoutL v.N v.G v.O v.A v.S l, x.Ok) : Calls Tryd.prog 23 #[.pointer (some ⟨t, 0, none⟩), lkV v] w fun e w' => ∃ v', e = .returned v' ∧ Lks w' base v' (withL v l) ∧ (∀ k, v'.ownBlock = some k → w.heap.size ≤ k) ∧ Only [] w w' := by
  have HT : Hid (TbAt w base t vT l) := h
  have HB : Hid (base ≤ w.heap.size) := hb
  have HV : Hid (v.Ok) := hv
  have hml := without_len v.N v.G v.O v.A v.S l
  have HW : Hid (∀ W, Only [] w W → Calls Tryd.prog 31 #[.pointer (some ⟨t, 0, none⟩), .agg #[.int .i64 v.N, .int .i64 v.G], .int .i64 v.O, .agg #[.int .i64 v.A, .int .i64 v.S]] W fun e w' => ∃ v', e = .returned v' ∧ Lks w' base v' (withoutL v.N v.G v.O v.A v.S l) ∧ (∀ k, v'.ownBlock = some k → W.heap.size ≤ k) ∧ Only [] W w') := fun W ho => without_any W base t vT l v.N v.G v.O v.A v.S (h.only ho) (Nat.le_trans hb ho.size) (by omega) hok hv
  unfold withL
  generalize withoutL v.N v.G v.O v.A v.S l = m at HW hokw hml ⊢
  have HOK : Hid (∀ x ∈ m, x.Ok) := hokw
  have hm : m.length ≤ 200 := by omega
  have HJ : Hid (∀ j, (joinL v v (m.take j)).Ok) := fun j => (joined_is v hv _ (fun x hx => hokw x (List.mem_of_mem_take hx))).ok
  have HCT : Hid (∀ W L, (∀ k ∈ L, k < W.heap.size) → Calls Tryd.prog 39 #[.agg #[.int .i64 v.N, .int .i64 v.G, .int .i64 v.O, .int .i64 v.A, .int .i64 v.S, .bool v.W]] W fun e w' => ∃ a b, e = .returned (.func (.func 55) #[] #[.pointer (some ⟨a, 0, none⟩), .pointer (some ⟨b, 0, none⟩)]) ∧ TestOf w' L 55 #[.pointer (some ⟨a, 0, none⟩), .pointer (some ⟨b, 0, none⟩)] (goesB v) ∧ Only [] W w') := fun W L hL => continuing_any W v hv L hL
  have HO1 : Hid (Only [] w (w.alloc (.cells #[.int .i64 v.N, .int .i64 v.G, .int .i64 v.O, .int .i64 v.A, .int .i64 v.S, .bool v.W] 39))) := (Only.refl [] w).alloc _
  have HX1 : Hid (LkBox (w.alloc (.cells #[.int .i64 v.N, .int .i64 v.G, .int .i64 v.O, .int .i64 v.A, .int .i64 v.S, .bool v.W] 39)) w.heap.size v) := LkBox.new w v
  obtain ⟨d0, d1, d2, d3, d4, d5⟩ := HX1.out.cells
  unfold lkV
  clear h hb hok hv hokw hml
  obtain ⟨i0, hi0, hz0, hz1, hz2⟩ := lkInfo'
  go_enter Tryd.func23, Tryd.ntmps23
  go_wp2_with (first
    | (go_at_call 31; refine (HW.out _ HO1.out).mono ?_; rintro e w2 ⟨v5, rfl, hM, hfr, ho2⟩; obtain ⟨ad, cp, rfl, had, hcp1, hcp2⟩ := row_form hM; have HAD : Hid (m ≠ [] → ∃ g, ad = some ⟨g, 0, none⟩) := had; have HM : Hid (Lks w2 base (.slice ad m.length cp) m) := hM; have HF2 : Hid (∀ k, (Value.slice ad m.length cp).ownBlock = some k → w.heap.size < k) := (fun k hk => by have := hfr k hk; rw [World.size_alloc] at this; omega); have HO2 : Hid (Only [] (w.alloc (.cells #[.int .i64 v.N, .int .i64 v.G, .int .i64 v.O, .int .i64 v.A, .int .i64 v.S, .bool v.W] 39)) w2) := ho2; have HX2 : Hid (LkBox w2 w.heap.size v) := HX1.out.only ho2 (by simp); clear d0 d1 d2 d3 d4 d5; obtain ⟨d0, d1, d2, d3, d4, d5⟩ := HX2.out.cells; clear hM hfr ho2 had)
    | (go_at_call 39; refine (HCT.out _ (w.heap.size :: (Value.slice ad m.length cp).ownBlock.toList) (fun k hk => by rcases List.mem_cons.1 hk with e | e; rw [e]; exact HX2.out.pos; exact own_lt HM.out k e)).mono ?_; rintro e w3 ⟨ca, cb, rfl, ht3, ho3⟩; have HT3 : Hid (TestOf w3 (w.heap.size :: (Value.slice ad m.length cp).ownBlock.toList) 55 #[.pointer (some ⟨ca, 0, none⟩), .pointer (some ⟨cb, 0, none⟩)] (goesB v)) := ht3; have HO3 : Hid (Only [] w w3) := only_nil (only_nil HO1.out HO2.out) ho3; have HX3 : Hid (LkBox w3 w.heap.size v) := HX2.out.only ho3 (by simp); have HM3 : Hid (Lks w3 base (.slice ad m.length cp) m) := HM.out.only ho3 (fun _ _ => by simp); clear ht3 ho3 d0 d1 d2 d3 d4 d5))
  obtain ⟨B, hB⟩ : ∃ B, w.heap.size = B := ⟨_, rfl⟩
  have HBS : Hid (w.heap.size = B) := hB
  rw [hB] at HX3 HF2 HT3 ⊢
  clear hB HX1 HX2 HO1 HO2
  go_loopw [8, 21] (fun _x i wr => ∃ j : Nat, i = .int .i64 j ∧ j ≤ m.length ∧ LkBox wr B (joinL v v (m.take j)) ∧ Only [B] w3 wr) (fun _ i _ => m.length - (intOf i).toNat)
  case atStart => exact ⟨0, rfl, Nat.zero_le _, HX3.out, Only.refl _ _⟩
  case round =>
    obtain ⟨j, rfl, hj, hX, hO⟩ := hrel
    have HX : Hid (LkBox wr B (joinL v v (m.take j))) := hX
    have HOW : Hid (Only [B] w3 wr) := hO
    clear hX hO
    by_cases hlt : j < m.length
    · obtain ⟨x, hx⟩ : ∃ x, m[j]? = some x := ⟨_, List.getElem?_eq_getElem hlt⟩
      obtain ⟨gM, rfl⟩ := HAD.out (fun e => by rw [e] at hx; cases hx)
      have hgB : B < gM := HF2.out gM rfl
      obtain ⟨c0, c1, c2, c3, c4, c5⟩ := lk_cells (HM3.out.only HOW.out (fun k hk => by obtain rfl : gM = k := Option.some.inj hk; rw [List.mem_singleton]; omega)) rfl hx
      have HXJ : Hid (m[j]? = some x) := hx
      have HOX : Hid (x.Ok) := HOK.out x (List.mem_of_getElem? hx)
      have HOB : Hid (Only [] wr (wr.alloc (.cells #[.int .i64 x.N, .int .i64 x.G, .int .i64 x.O, .int .i64 x.A, .int .i64 x.S, .bool x.W] 39))) := (Only.refl [] wr).alloc _
      have HIN : Hid (LkBox (wr.alloc (.cells #[.int .i64 x.N, .int .i64 x.G, .int .i64 x.O, .int .i64 x.A, .int .i64 x.S, .bool x.W] 39)) wr.heap.size x) := LkBox.new wr x
      have hj2 : (j : Int) < m.length := by omega
      have hBr : B < wr.heap.size := HX.out.pos
      clear hx
      go_upto_region 6 with fail
      obtain ⟨D, hD⟩ : ∃ D, wr.heap.size = D := ⟨_, rfl⟩
      have HDS : Hid (wr.heap.size = D) := hD
      generalize wr.alloc (.cells #[.int .i64 x.N, .int .i64 x.G, .int .i64 x.O, .int .i64 x.A, .int .i64 x.S, .bool x.W] 39) = wq at HOB HIN ⊢
      rw [hD] at HIN hBr ⊢
      clear c0 c1 c2 c3 c4 c5 hD
      have HOQ : Hid (Only [B] w3 wq) := only_nil HOW.out HOB.out
      have HGO : Hid (∀ W, Only [] wq W → Calls Tryd.prog 55 #[.agg #[.int .i64 x.N, .int .i64 x.G, .int .i64 x.O, .int .i64 x.A, .int .i64 x.S, .bool x.W], .pointer (some ⟨ca, 0, none⟩), .pointer (some ⟨cb, 0, none⟩)] W fun e w' => e = .returned (.bool (goesB v x)) ∧ Only [] W w') := fun W ho => HT3.out W x ((only_nil HOQ.out ho).mono (fun k hk => Or.inl (by rw [List.mem_singleton.1 hk]; exact List.mem_cons_self))) HOX.out
      obtain ⟨c0, c1, c2, c3, c4, c5⟩ := HIN.out.cells
      cases hg : goesB v x with
      | false =>
        rw [hg] at HGO
        have HNX : Hid (joinL v v (m.take (j + 1)) = joinL v v (m.take j)) := by show joinL v v (m.take (j + 1)) = joinL v v (m.take j); rw [joinL_take HXJ.out, hg]; rfl
        go_wp2_with (go_at_call 55; refine (HGO.out _ (Only.refl [] _)).mono ?_; rintro e w4 ⟨rfl, ho4⟩; have HO4 : Hid (Only [B] w3 w4) := only_nil HOQ.out ho4; have HX4 : Hid (LkBox w4 B (joinL v v (m.take j))) := HX.out.only (only_nil HOB.out ho4) (by simp); clear ho4 c0 c1 c2 c3 c4 c5)
        go_roundw
        case rel => exact ⟨j + 1, by go_num, by omega, by rw [HNX.out]; exact HX4.out, HO4.out⟩
        case measure => simp [intOf]; omega
      | true =>
        rw [hg] at HGO
        obtain ⟨y, hy⟩ : ∃ y, joinL v v (m.take j) = y := ⟨_, rfl⟩
        have hyo : y.Ok := by rw [← hy]; exact HJ.out j
        have HNX : Hid (joinL v v (m.take (j + 1)) = putR y (min y.A x.A, sizR (min y.A x.A) (max (endR y.A y.S) (endR x.A x.S)))) := by show joinL v v (m.take (j + 1)) = _; rw [joinL_take HXJ.out, hg, hy]; rfl
        rw [hy] at HX
        have HJN : Hid (∀ W, Calls Tryd.prog 40 #[.agg #[.int .i64 y.A, .int .i64 y.S], .agg #[.int .i64 x.A, .int .i64 x.S]] W fun e w' => e = .returned (.agg #[.int .i64 (min y.A x.A), .int .i64 (sizR (min y.A x.A) (max (endR y.A y.S) (endR x.A x.S)))]) ∧ Only [] W w') := fun W => join_any _ _ _ _ W hyo HOX.out
        clear hy hyo hg
        generalize min y.A x.A = mA at HNX HJN
        generalize sizR mA (max (endR y.A y.S) (endR x.A x.S)) = mS at HNX HJN
        go_wp2_with (first
          | (go_at_call 55; refine (HGO.out _ (Only.refl [] _)).mono ?_; rintro e w4 ⟨rfl, ho4⟩; have HO4 : Hid (Only [B] w3 w4) := only_nil HOQ.out ho4; have HX4 : Hid (LkBox w4 B y) := HX.out.only (only_nil HOB.out ho4) (by simp); have HI4 : Hid (LkBox w4 D x) := HIN.out.only ho4 (by simp); clear ho4 c0 c1 c2 c3 c4 c5; obtain ⟨c0, c1, c2, c3, c4, c5⟩ := HI4.out.cells; obtain ⟨d0, d1, d2, d3, d4, d5⟩ := HX4.out.cells)
          | (go_at_call 40; refine (HJN.out _).mono ?_; rintro e w5 ⟨rfl, ho5⟩; have HO5 : Hid (Only [B] w3 w5) := only_nil HO4.out ho5; have HX5 : Hid (LkBox w5 B y) := HX4.out.only ho5 (by simp); clear ho5 c0 c1 c2 c3 c4 c5 d0 d1 d2 d3 d4 d5; obtain ⟨d0, d1, d2, d3, d4, d5⟩ := HX5.out.cells; have z3 := HX5.out.frozen 3; have z4 := HX5.out.frozen 4))
        go_roundw
        case rel => exact ⟨j + 1, by go_num, by omega, by rw [HNX.out]; exact HX5.out.put mA mS, (HO5.out.setCell (p := ⟨B, 3, none⟩) (Or.inl (List.mem_singleton.2 rfl)) _).setCell (p := ⟨B, 4, none⟩) (Or.inl (List.mem_singleton.2 rfl)) _⟩
        case measure => simp [intOf]; omega
    · obtain rfl : j = m.length := by omega
      rw [List.take_length] at HX
      have hj2 : decide ((m.length : Int) < m.length) = false := decide_eq_false (by omega)
      obtain ⟨J, hJ⟩ : ∃ J, joinL v v m = J := ⟨_, rfl⟩
      have HJE : Hid (joinL v v m = J) := hJ
      rw [hJ] at HX
      clear hJ
      have hkl : (m.filter (fun x => !goesB v x)).length ≤ m.length := List.length_filter_le _ _
      have HDC0 : Hid (∀ W, Only [] wr W → Calls Tryd.prog 32 #[.slice ad m.length cp, .func (.func 55) #[] #[.pointer (some ⟨ca, 0, none⟩), .pointer (some ⟨cb, 0, none⟩)]] W fun e w' => ∃ v', e = .returned v' ∧ Lks w' base v' (m.filter (fun x => !goesB v x)) ∧ v'.ownBlock = (Value.slice ad m.length cp).ownBlock ∧ Only (Value.slice ad m.length cp).ownBlock.toList W w') := fun W ho => by
        have h1 : Only [B] w3 W := only_nil HOW.out ho
        have h2 : TestOf W (B :: (Value.slice ad m.length cp).ownBlock.toList) 55 #[.pointer (some ⟨ca, 0, none⟩), .pointer (some ⟨cb, 0, none⟩)] (goesB v) := HT3.out.only (h1.mono (fun k hk => Or.inl (by rw [List.mem_singleton.1 hk]; exact List.mem_cons_self)))
        exact del_continuing_any W base _ _ (goesB v) _ m (HM3.out.only h1 (fun k hk => by have := HF2.out k hk; rw [List.mem_singleton]; omega)) (by omega) HOK.out (h2.less (fun k hk => Or.inl (List.mem_cons_of_mem _ hk)))
      have HW0 : Hid (Only [] w wr) := HO3.out.trans HOW.out (fun k hk => Or.inr (by rw [List.mem_singleton.1 hk, HBS.out]; exact Nat.le_refl _))
      have HOWN : Hid (∀ k ∈ (Value.slice ad m.length cp).ownBlock.toList, B < k ∧ k < wr.heap.size) := fun k hk => ⟨HF2.out k (by simpa using hk), Nat.lt_of_lt_of_le (own_lt HM3.out k hk) HOW.out.size⟩
      have HFO : Hid (∀ k, (Value.slice ad m.length cp).ownBlock = some k → B < k) := HF2.out
      obtain ⟨K, hK⟩ : ∃ K, m.filter (fun x => !goesB v x) = K := ⟨_, rfl⟩
      have HKE : Hid (m.filter (fun x => !goesB v x) = K) := hK
      rw [hK] at HDC0 hkl
      clear hK
      obtain ⟨kn, hkn⟩ : ∃ kn, K.length = kn := ⟨_, rfl⟩
      have HKN : Hid (K.length = kn) := hkn
      rw [hkn] at hkl
      have hkn2 : kn ≤ 200 := by omega
      clear hkl hkn HT3 HCT HJ HW HOK HV HAD
      have HBP : Hid (B < wr.heap.size) := HX.out.pos
      have HI0 : Hid (LkIn wr B J) := HX.out.cells
      have HDC : Hid (∀ W, Only [] wr W → Calls Tryd.prog 32 #[.slice ad m.length cp, .func (.func 55) #[] #[.pointer (some ⟨ca, 0, none⟩), .pointer (some ⟨cb, 0, none⟩)]] W fun e w' => ∃ v', e = .returned v' ∧ w'.ownsRow base 39 6 v' kn (rowOf lkC K) ∧ (∀ k, v'.ownBlock = some k → B < k) ∧ Only [] w w' ∧ LkIn w' B J ∧ (∀ c u, wr.heap.size ≤ c → (∃ o, W.cell? ⟨c, o, none⟩ = some u) → ∀ o, W.cell? ⟨c, o, none⟩ = some u → w'.cell? ⟨c, o, none⟩ = some u)) := fun W ho => (HDC0.out W ho).mono fun e w' hh => by
        obtain ⟨v', he, h1, h2, h3⟩ := hh
        refine ⟨v', he, by have h4 := h1; unfold Lks at h4; rw [HKN.out] at h4; exact h4, fun k hk => HFO.out k (h2.symm.trans hk), (only_nil HW0.out ho).trans h3 (fun k hk => Or.inr (by have := HOWN.out k hk; have := HBS.out; omega)), (HI0.out.only ho (by simp)).only h3 (fun hk => by have := HOWN.out B hk; omega), fun c u hc _ o hu => (h3.cell (p := ⟨c, o, none⟩) (lt_of_cell hu) (fun hk => by have := HOWN.out c hk; omega)).trans hu⟩
      clear HDC0 HX HM3 HM HX3 HF2 HFO HOWN HOW
      have HD0 : Hid (Only [] wr wr.drew) := (Only.refl [] wr).drew
      have HDA : Hid (Only [] wr ((wr.alloc (.cells #[.int .i64 J.N, .int .i64 J.G, .int .i64 J.O, .int .i64 J.A, .int .i64 J.S, .bool J.W] 39)).drew)) := ((Only.refl [] wr).alloc _).drew
      have HS0 : Hid (wr.drew.cell? ⟨B, 0, none⟩ = some (.int .i64 J.N) ∧ wr.drew.cell? ⟨B, 1, none⟩ = some (.int .i64 J.G) ∧ wr.drew.cell? ⟨B, 2, none⟩ = some (.int .i64 J.O) ∧ wr.drew.cell? ⟨B, 3, none⟩ = some (.int .i64 J.A) ∧ wr.drew.cell? ⟨B, 4, none⟩ = some (.int .i64 J.S) ∧ wr.drew.cell? ⟨B, 5, none⟩ = some (.bool J.W)) := HI0.out.only HD0.out (by simp)
      have HSa : Hid (((wr.alloc (.cells #[.int .i64 J.N, .int .i64 J.G, .int .i64 J.O, .int .i64 J.A, .int .i64 J.S, .bool J.W] 39)).drew).cell? ⟨B, 0, none⟩ = some (.int .i64 J.N) ∧ ((wr.alloc (.cells #[.int .i64 J.N, .int .i64 J.G, .int .i64 J.O, .int .i64 J.A, .int .i64 J.S, .bool J.W] 39)).drew).cell? ⟨B, 1, none⟩ = some (.int .i64 J.G) ∧ ((wr.alloc (.cells #[.int .i64 J.N, .int .i64 J.G, .int .i64 J.O, .int .i64 J.A, .int .i64 J.S, .bool J.W] 39)).drew).cell? ⟨B, 2, none⟩ = some (.int .i64 J.O) ∧ ((wr.alloc (.cells #[.int .i64 J.N, .int .i64 J.G, .int .i64 J.O, .int .i64 J.A, .int .i64 J.S, .bool J.W] 39)).drew).cell? ⟨B, 3, none⟩ = some (.int .i64 J.A) ∧ ((wr.alloc (.cells #[.int .i64 J.N, .int .i64 J.G, .int .i64 J.O, .int .i64 J.A, .int .i64 J.S, .bool J.W] 39)).drew).cell? ⟨B, 4, none⟩ = some (.int .i64 J.S) ∧ ((wr.alloc (.cells #[.int .i64 J.N, .int .i64 J.G, .int .i64 J.O, .int .i64 J.A, .int .i64 J.S, .bool J.W] 39)).drew).cell? ⟨B, 5, none⟩ = some (.bool J.W)) := HI0.out.only HDA.out (by simp)
      have HNA : Hid (∀ (q : Nat) (u : Value), (lkC J)[q]? = some u → ((wr.alloc (.cells #[.int .i64 J.N, .int .i64 J.G, .int .i64 J.O, .int .i64 J.A, .int .i64 J.S, .bool J.W] 39)).drew).cell? ((⟨wr.heap.size, 0, none⟩ : Addr).add q) = some u) := World.news_of_block (w := (wr.alloc (.cells #[.int .i64 J.N, .int .i64 J.G, .int .i64 J.O, .int .i64 J.A, .int .i64 J.S, .bool J.W] 39)).drew) (heap_alloc_last wr _)
      go_wp2
      go_region_held3 (fun W => W.cell? ⟨B, 0, none⟩ = some (.int .i64 J.N) ∧ W.cell? ⟨B, 1, none⟩ = some (.int .i64 J.G) ∧ W.cell? ⟨B, 2, none⟩ = some (.int .i64 J.O) ∧ W.cell? ⟨B, 3, none⟩ = some (.int .i64 J.A) ∧ W.cell? ⟨B, 4, none⟩ = some (.int .i64 J.S) ∧ W.cell? ⟨B, 5, none⟩ = some (.bool J.W)) (with_reducible first | exact HS0.out | exact HSa.out | exact HS6.out | exact HS6a.out | exact HS7.out)
        (first
          | (go_at_call 32; first
              | (refine (HDC.out wr.drew HD0.out).mono ?_; rintro e w6 ⟨v6, rfl, h6, hf6, ho6, hs6, _⟩; have HS6 : Hid (w6.cell? ⟨B, 0, none⟩ = some (.int .i64 J.N) ∧ w6.cell? ⟨B, 1, none⟩ = some (.int .i64 J.G) ∧ w6.cell? ⟨B, 2, none⟩ = some (.int .i64 J.O) ∧ w6.cell? ⟨B, 3, none⟩ = some (.int .i64 J.A) ∧ w6.cell? ⟨B, 4, none⟩ = some (.int .i64 J.S) ∧ w6.cell? ⟨B, 5, none⟩ = some (.bool J.W)) := hs6; have H6 : Hid (w6.ownsRow base 39 6 v6 kn (rowOf lkC K)) := h6; have HF6 : Hid (∀ k, v6.ownBlock = some k → B < k) := hf6; have HO6 : Hid (Only [] w w6) := ho6; have HS6a : Hid ((w6.alloc (.cells #[.int .i64 J.N, .int .i64 J.G, .int .i64 J.O, .int .i64 J.A, .int .i64 J.S, .bool J.W] 39)).cell? ⟨B, 0, none⟩ = some (.int .i64 J.N) ∧ (w6.alloc (.cells #[.int .i64 J.N, .int .i64 J.G, .int .i64 J.O, .int .i64 J.A, .int .i64 J.S, .bool J.W] 39)).cell? ⟨B, 1, none⟩ = some (.int .i64 J.G) ∧ (w6.alloc (.cells #[.int .i64 J.N, .int .i64 J.G, .int .i64 J.O, .int .i64 J.A, .int .i64 J.S, .bool J.W] 39)).cell? ⟨B, 2, none⟩ = some (.int .i64 J.O) ∧ (w6.alloc (.cells #[.int .i64 J.N, .int .i64 J.G, .int .i64 J.O, .int .i64 J.A, .int .i64 J.S, .bool J.W] 39)).cell? ⟨B, 3, none⟩ = some (.int .i64 J.A) ∧ (w6.alloc (.cells #[.int .i64 J.N, .int .i64 J.G, .int .i64 J.O, .int .i64 J.A, .int .i64 J.S, .bool J.W] 39)).cell? ⟨B, 4, none⟩ = some (.int .i64 J.S) ∧ (w6.alloc (.cells #[.int .i64 J.N, .int .i64 J.G, .int .i64 J.O, .int .i64 J.A, .int .i64 J.S, .bool J.W] 39)).cell? ⟨B, 5, none⟩ = some (.bool J.W)) := LkIn.only hs6 ((Only.refl [] w6).alloc _) (by simp); clear h6 hf6 ho6 hs6)
              | (refine (HDC.out ((wr.alloc (.cells #[.int .i64 J.N, .int .i64 J.G, .int .i64 J.O, .int .i64 J.A, .int .i64 J.S, .bool J.W] 39)).drew) HDA.out).mono ?_; rintro e w6 ⟨v6, rfl, h6, hf6, ho6, hs6, hn6⟩; have HS6 : Hid (w6.cell? ⟨B, 0, none⟩ = some (.int .i64 J.N) ∧ w6.cell? ⟨B, 1, none⟩ = some (.int .i64 J.G) ∧ w6.cell? ⟨B, 2, none⟩ = some (.int .i64 J.O) ∧ w6.cell? ⟨B, 3, none⟩ = some (.int .i64 J.A) ∧ w6.cell? ⟨B, 4, none⟩ = some (.int .i64 J.S) ∧ w6.cell? ⟨B, 5, none⟩ = some (.bool J.W)) := hs6; have H6 : Hid (w6.ownsRow base 39 6 v6 kn (rowOf lkC K)) := h6; have HF6 : Hid (∀ k, v6.ownBlock = some k → B < k) := hf6; have HO6 : Hid (Only [] w w6) := ho6; have HN6 : Hid (∀ (q : Nat) (u : Value), (lkC J)[q]? = some u → w6.cell? ((⟨wr.heap.size, 0, none⟩ : Addr).add q) = some u) := (fun q u hq => by have hh := HNA.out q u hq; rw [add_none] at hh ⊢; exact hn6 _ u (Nat.le_refl _) ⟨_, hh⟩ _ hh); clear h6 hf6 ho6 hs6 hn6))
          | (refine step_append_lies _ (by rfl) (.tmp 37) (.tmp 39) 25 (by rfl) base 39 i0 _ 6 48 lksUnd hi0 hz0 hz1 hz2 rfl (by decide) v6 kn (rowOf lkC K) (by rfl) (World.ownsRow.alloc H6.out _) ⟨w6.heap.size, 0, none⟩ 1 1 (lkC J) (by rfl) rfl (World.news_of_block (heap_alloc_last w6 _)) (lkC_one _) (by decide) (by unfold maxLen; omega) (by omega) (by rw [World.size_alloc]; have := HO6.out.size; have := HB.out; omega) (w6.heap.size + 1) (by simp) ?_; intro g7 c7 w7 hown7 hgr7 hat7 hlt7; have HS7 : Hid (w7.cell? ⟨B, 0, none⟩ = some (.int .i64 J.N) ∧ w7.cell? ⟨B, 1, none⟩ = some (.int .i64 J.G) ∧ w7.cell? ⟨B, 2, none⟩ = some (.int .i64 J.O) ∧ w7.cell? ⟨B, 3, none⟩ = some (.int .i64 J.A) ∧ w7.cell? ⟨B, 4, none⟩ = some (.int .i64 J.S) ∧ w7.cell? ⟨B, 5, none⟩ = some (.bool J.W)) := with_six HS6a.out hgr7 HF6.out; have HE : Hid (Lks w7 base (.slice (some ⟨g7, 0, none⟩) (kn + 1) c7) (K ++ [J]) ∧ w.heap.size ≤ g7 ∧ Only [] w w7) := with_end HKN.out hown7 (HO6.out.alloc _) hgr7 (fun k hk => by have := HF6.out k hk; have := HBS.out; omega) (by rcases hat7 with e | e; exact Or.inl e; exact Or.inr (by have := HO6.out.size; omega)); clear hown7 hgr7 hat7 hlt7)
          | (refine step_append_lies _ (by rfl) (.tmp 37) (.tmp 39) 25 (by rfl) base 39 i0 _ 6 48 lksUnd hi0 hz0 hz1 hz2 rfl (by decide) v6 kn (rowOf lkC K) (by rfl) H6.out ⟨wr.heap.size, 0, none⟩ 1 1 (lkC J) (by rfl) rfl HN6.out (lkC_one _) (by decide) (by unfold maxLen; omega) (by omega) (by have := HO6.out.size; have := HB.out; omega) w6.heap.size rfl ?_; intro g7 c7 w7 hown7 hgr7 hat7 hlt7; have HS7 : Hid (w7.cell? ⟨B, 0, none⟩ = some (.int .i64 J.N) ∧ w7.cell? ⟨B, 1, none⟩ = some (.int .i64 J.G) ∧ w7.cell? ⟨B, 2, none⟩ = some (.int .i64 J.O) ∧ w7.cell? ⟨B, 3, none⟩ = some (.int .i64 J.A) ∧ w7.cell? ⟨B, 4, none⟩ = some (.int .i64 J.S) ∧ w7.cell? ⟨B, 5, none⟩ = some (.bool J.W)) := with_six HS6.out hgr7 HF6.out; have HE : Hid (Lks w7 base (.slice (some ⟨g7, 0, none⟩) (kn + 1) c7) (K ++ [J]) ∧ w.heap.size ≤ g7 ∧ Only [] w w7) := with_end HKN.out hown7 HO6.out hgr7 (fun k hk => by have := HF6.out k hk; have := HBS.out; omega) (by rcases hat7 with e | e; exact Or.inl e; exact Or.inr (by have := HO6.out.size; omega)); clear hown7 hgr7 hat7 hlt7))
      all_goals (go_wp2; go_ret; exact ⟨_, rfl, (by rw [HKE.out, HJE.out]; exact HE.out.1), (fun k hk => by obtain rfl : g7 = k := Option.some.inj hk; exact HE.out.2.1), HE.out.2.2⟩)
end Go.Proofs.YtfnniphemlnanaaDoor
