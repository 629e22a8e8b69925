/- LockActs: the document's table: overlap, List, brush, Unlock. -/
import Derived.Test.YtfnniphemlnanaaDoorLa9
namespace Go.Proofs.YtfnniphemlnanaaDoor
open Go Go.RowKit Go.Deep

def ovB (x : Lk) (f t : Int) : Bool := !(decide (0 < x.S) && decide (x.A + x.S ≤ f)) && !(decide (0 ≤ t) && decide (t ≤ x.A))
theorem ov_meet {x v : Lk} (hx : x.Ok) (hv : rngB v.A v.S = true) : ovB x v.A (toR v.A v.S) = meetB x.A x.S v.A v.S := by
  have h1 := hx.a0; have h2 := hx.a1; have h3 := hx.s0; have h4 := hx.s1
  obtain ⟨g0, g1, g2, g3⟩ := rngB_ok hv
  unfold ovB meetB toR endR farE
  rw [Bool.eq_iff_iff]
  by_cases e1 : x.S = 0 <;> by_cases e2 : v.S = 0 <;> simp [e1, e2] <;> omega
set_option maxRecDepth 100000 in
set_option maxHeartbeats 4000000 in
theorem overlap_any (w : World) (x : Lk) (f t : Int) (hx : x.Ok) : Calls Tryd.prog 30 #[.agg #[.int .i64 x.N, .int .i64 x.G, .int .i64 x.O, .int .i64 x.A, .int .i64 x.S, .bool x.W], .int .i64 f, .int .i64 t] w fun e w' => e = .returned (.bool (ovB x f t)) ∧ Only [] w w' := by
  have h1 := hx.a0; have h2 := hx.a1; have h3 := hx.s0; have h4 := hx.s1
  have HO : Hid (Only [] w (w.alloc (.cells #[.int .i64 x.N, .int .i64 x.G, .int .i64 x.O, .int .i64 x.A, .int .i64 x.S, .bool x.W] 44))) := (Only.refl [] w).alloc _
  have hadd : IntKind.i64.wrap (x.A + x.S) = x.A + x.S := by simp [IntKind.wrap, IntKind.bits, IntKind.signed]; omega
  clear hx h1 h2 h3 h4
  unfold ovB
  cases d1 : decide (0 < x.S) <;> cases d2 : decide (x.A + x.S ≤ f) <;> cases d3 : decide (0 ≤ t) <;> cases d4 : decide (t ≤ x.A)
  all_goals
    go_enter Tryd.func30, Tryd.ntmps30
    go_wp2
    go_ret
    exact ⟨rfl, HO.out⟩
/-- The document's table. -/
structure RlAt (w : World) (base m : Nat) (u : Value) (P : List Pt) : Prop where
  c0 : w.cell? ⟨m, 0, none⟩ = some u
  fr : w.frozen? ⟨m, 0, none⟩ = false
  own : Pts w base u P
  ne : ∀ k, u.ownBlock = some k → k ≠ m
  bl : ∃ cs, w.heap[m]? = some (.cells cs 31 (0, 0))
theorem RlAt.only {w w' : World} {base m : Nat} {u : Value} {P : List Pt} (h : RlAt w base m u P) (ho : Only [] w w') : RlAt w' base m u P :=
  ⟨(ho.cell (p := ⟨m, 0, none⟩) (lt_of_cell h.c0) (by simp)).trans h.c0, (ho.frozen (p := ⟨m, 0, none⟩) (lt_of_cell h.c0) (by simp)).trans h.fr, h.own.only ho (fun _ _ => by simp), h.ne, h.bl.imp (fun _ hc => (ho.block m (lt_of_cell h.c0) (by simp)).trans hc)⟩
theorem rlist_any (w : World) (base m : Nat) (u : Value) (P : List Pt) (h : RlAt w base m u P) (hl : P.length ≤ 100) (hP : ∀ p ∈ P, p.Ok) : Calls Tryd.prog 20 #[.pointer (some ⟨m, 0, none⟩)] w fun e w' => ∃ v' D, e = .returned v' ∧ Rks w' w.heap.size v' D ∧ ListOf P D ∧ D.length ≤ 2010000 ∧ Only [] w w' := by
  have hc := listOf_any w base u P h.own hl hP
  have ct := h.c0
  have htl := lt_of_cell ct
  clear h hP
  go_enter Tryd.func20, Tryd.ntmps20
  go_wp2_with (go_at_call 36; refine hc.mono ?_; rintro e w2 ⟨v2, D, rfl, h2, hd2, hl2, ho2⟩; have HE : Hid (Rks w2 w.heap.size v2 D ∧ ListOf P D ∧ D.length ≤ 2010000 ∧ Only [] w w2) := ⟨h2, hd2, hl2, ho2⟩; clear hc h2 hd2 hl2 ho2)
  go_ret
  exact ⟨_, D, rfl, HE.out⟩
theorem paint_new (w : World) (p : Pt) : ∀ W, Only [] (w.alloc (.cells #[.int .i64 p.N, .int .i64 p.G, .int .i64 p.O, .int .i64 p.F, .int .i64 p.T, .int .i64 p.K] 66)) W → W.cell? ⟨w.heap.size, 0, none⟩ = some (.int .i64 p.N) ∧ W.cell? ⟨w.heap.size, 1, none⟩ = some (.int .i64 p.G) ∧ W.cell? ⟨w.heap.size, 2, none⟩ = some (.int .i64 p.O) ∧ W.cell? ⟨w.heap.size, 3, none⟩ = some (.int .i64 p.F) ∧ W.cell? ⟨w.heap.size, 4, none⟩ = some (.int .i64 p.T) ∧ W.cell? ⟨w.heap.size, 5, none⟩ = some (.int .i64 p.K) := fun W ho => by
  have hh := heap_alloc_last w (.cells #[.int .i64 p.N, .int .i64 p.G, .int .i64 p.O, .int .i64 p.F, .int .i64 p.T, .int .i64 p.K] 66)
  have hk : ∀ o, W.cell? ⟨w.heap.size, o, none⟩ = (w.alloc (.cells #[.int .i64 p.N, .int .i64 p.G, .int .i64 p.O, .int .i64 p.F, .int .i64 p.T, .int .i64 p.K] 66)).cell? ⟨w.heap.size, o, none⟩ := fun o => ho.cell (p := ⟨w.heap.size, o, none⟩) (by simp) (by simp)
  refine ⟨(hk 0).trans (cell_of_row _ _ 0 _ _ _ hh), (hk 1).trans (cell_of_row _ _ 1 _ _ _ hh), (hk 2).trans (cell_of_row _ _ 2 _ _ _ hh), (hk 3).trans (cell_of_row _ _ 3 _ _ _ hh), (hk 4).trans (cell_of_row _ _ 4 _ _ _ hh), (hk 5).trans (cell_of_row _ _ 5 _ _ _ hh)⟩
theorem pts_snoc {w' : World} {base g cap n : Nat} {R : List Pt} {x : Pt} (hn : R.length = n) (h : w'.ownsRow base 66 6 (.slice (some ⟨g, 0, none⟩) (n + 1) cap) (n + 1) (rowOf ptC R ++ ptC x)) : Pts w' base (.slice (some ⟨g, 0, none⟩) (n + 1) cap) (R ++ [x]) := by
  unfold Pts
  rw [rowOf_append, List.length_append, List.length_singleton, hn, show rowOf ptC [x] = ptC x by simp [rowOf]]
  exact h
set_option maxRecDepth 100000 in
set_option maxHeartbeats 4000000 in
theorem brush_any (w : World) (base m : Nat) (u : Value) (P : List Pt) (p : Pt) (h : RlAt w base m u P) (hb : base ≤ w.heap.size) (hl : P.length ≤ 99) (hP : ∀ q ∈ P, q.Ok) (hp : p.Ok) : Calls Tryd.prog 25 #[.pointer (some ⟨m, 0, none⟩), .agg #[.int .i64 p.N, .int .i64 p.G, .int .i64 p.O, .int .i64 p.F, .int .i64 p.T, .int .i64 p.K]] w fun e w' => ∃ D, ListOf (P ++ [p]) D ∧ ((60 < D.length ∧ e = .returned (.int .i64 9) ∧ Only [] w w') ∨ (D.length ≤ 60 ∧ e = .returned (.int .i64 0) ∧ ∃ u', RlAt w' base m u' (P ++ [p]) ∧ Only [m] w w' ∧ (∀ k, u'.ownBlock = some k → w.heap.size ≤ k))) := by
  obtain ⟨i0, hi0, hz0, hz1, hz2⟩ := ptInfo'
  have HH : Hid (RlAt w base m u P) := h
  have HOKS : Hid (∀ q ∈ P ++ [p], q.Ok) := fun q hq => by
    rcases List.mem_append.1 hq with e | e
    · exact hP q e
    · rw [List.mem_singleton.1 e]; exact hp
  have HTL : Hid (m < w.heap.size) := lt_of_cell h.c0
  have HB1 : Hid (Only [] w (w.alloc (.cells #[.int .i64 p.N, .int .i64 p.G, .int .i64 p.O, .int .i64 p.F, .int .i64 p.T, .int .i64 p.K] 66))) := (Only.refl [] w).alloc _
  have HBC : Hid (∀ W, Only [] (w.alloc (.cells #[.int .i64 p.N, .int .i64 p.G, .int .i64 p.O, .int .i64 p.F, .int .i64 p.T, .int .i64 p.K] 66)) W → W.cell? ⟨w.heap.size, 0, none⟩ = some (.int .i64 p.N) ∧ W.cell? ⟨w.heap.size, 1, none⟩ = some (.int .i64 p.G) ∧ W.cell? ⟨w.heap.size, 2, none⟩ = some (.int .i64 p.O) ∧ W.cell? ⟨w.heap.size, 3, none⟩ = some (.int .i64 p.F) ∧ W.cell? ⟨w.heap.size, 4, none⟩ = some (.int .i64 p.T) ∧ W.cell? ⟨w.heap.size, 5, none⟩ = some (.int .i64 p.K)) := paint_new w p
  obtain ⟨n, hn⟩ : ∃ n, P.length = n := ⟨_, rfl⟩
  have HN : Hid (P.length = n) := hn
  rw [hn] at hl
  have HU : Hid (∀ W, Only [] w W → W.ownsRow base 66 6 u n (rowOf ptC P)) := fun W ho => by have hh := h.own.only ho (fun _ _ => by simp); unfold Pts at hh; rw [hn] at hh; exact hh
  have HLO : Hid (∀ W v, Pts W base v (P ++ [p]) → Calls Tryd.prog 36 #[v] W fun e w' => ∃ (ad : Option Addr) (D : List Lk) (dn cp : Nat), e = .returned (.slice ad dn cp) ∧ D.length = dn ∧ dn ≤ 2010000 ∧ ListOf (P ++ [p]) D ∧ Only [] W w') := fun W v hv => (listOf_any W base v _ hv (by rw [List.length_append, List.length_singleton, HN.out]; omega) HOKS.out).mono fun e w' hh => by
    obtain ⟨v', D, he, hr, hd, hdl, ho⟩ := hh
    obtain ⟨ad, cp, rfl, _⟩ := row_form hr
    exact ⟨ad, D, D.length, cp, he, rfl, hdl, hd, ho⟩
  have HBB : Hid (base ≤ w.heap.size) := hb
  have HBL : Hid (∀ W, Only [] w W → ∃ cs, W.heap[m]? = some (.cells cs 31 (0, 0))) := fun W ho => (h.only ho).bl
  have HCM : Hid (∀ W, Only [] w W → W.cell? ⟨m, 0, none⟩ = some u ∧ W.frozen? ⟨m, 0, none⟩ = false) := fun W ho => ⟨(h.only ho).c0, (h.only ho).fr⟩
  have ct := (HCM.out _ HB1.out).1
  have htl := lt_of_cell ct
  clear h hn hP hp hb
  go_enter Tryd.func25, Tryd.ntmps25
  go_upto_if 19 with (first
    | (at_builtin; refine wpList_append_rows rfl (.tmp 6) (.tmp 10) 29 rfl base 66 i0 _ 6 48 ptsUnd hi0 hz0 hz1 hz2 rfl (by decide) (.slice none 0 0) 0 [] rfl (World.ownsRow_nil _ _ _ _) u n base (rowOf ptC P) rfl (HU.out _ HB1.out) (rowOf_one ptC_one _) (by unfold maxLen; omega) (by omega) (Nat.le_trans HBB.out HB1.out.size) ?_; intro v4 w4 hown4 hgr4 hat4; have HV4 : Hid (w4.ownsRow base 66 6 v4 n (rowOf ptC P)) := (by have hh := hown4; rw [Nat.zero_add, List.nil_append] at hh; exact hh); have HO4 : Hid (Only [] (w.alloc (.cells #[.int .i64 p.N, .int .i64 p.G, .int .i64 p.O, .int .i64 p.F, .int .i64 p.T, .int .i64 p.K] 66)) w4) := (Only.refl [] _).grown hgr4 (fun k hk => by cases hk); have HF4 : Hid (∀ k, v4.ownBlock = some k → w.heap.size ≤ k) := (fun k hk => by rcases hat4 with e | e; rw [e] at hk; cases hk; rw [e] at hk; cases hk; exact HB1.out.size); have HW4 : Hid (Only [] w w4) := only_nil HB1.out HO4.out; obtain ⟨b0, b1, b2, b3, b4, b5⟩ := HBC.out w4 HO4.out; have hbl := lt_of_cell b0; have HNW : Hid (∀ (r : Nat) (q : Value), (ptC p)[r]? = some q → (w4.alloc (.cells #[.int .i64 p.N, .int .i64 p.G, .int .i64 p.O, .int .i64 p.F, .int .i64 p.T, .int .i64 p.K] 66)).cell? ((⟨w4.heap.size, 0, none⟩ : Addr).add r) = some q) := World.news_of_block (w := w4.alloc (.cells #[.int .i64 p.N, .int .i64 p.G, .int .i64 p.O, .int .i64 p.F, .int .i64 p.T, .int .i64 p.K] 66)) (heap_alloc_last w4 _); have HB2 : Hid (base ≤ (w4.alloc (.cells #[.int .i64 p.N, .int .i64 p.G, .int .i64 p.O, .int .i64 p.F, .int .i64 p.T, .int .i64 p.K] 66)).heap.size) := (by show base ≤ _; rw [World.size_alloc]; have := HBB.out; have := HW4.out.size; omega); clear hown4 hgr4 hat4 ct htl)
    | (at_builtin; refine wpList_append_lies _ rfl (.tmp 12) (.tmp 14) 29 rfl base 66 i0 _ 6 48 ptsUnd hi0 hz0 hz1 hz2 rfl (by decide) v4 n (rowOf ptC P) rfl (World.ownsRow.alloc HV4.out _) ⟨w4.heap.size, 0, none⟩ 1 1 (ptC p) rfl rfl HNW.out (ptC_one _) (by decide) (by unfold maxLen; omega) (by omega) HB2.out (w4.heap.size + 1) (by simp) ?_; intro g5 c5 w5 hown5 hgr5 hat5 hlt5; have HV5 : Hid (Pts w5 base (.slice (some ⟨g5, 0, none⟩) (n + 1) c5) (P ++ [p])) := pts_snoc HN.out hown5; have HW5 : Hid (Only [] w w5) := (HW4.out.alloc _).grown hgr5 (fun k hk => Or.inr (HF4.out k hk)); have HG5 : Hid (w.heap.size ≤ g5) := (by show w.heap.size ≤ g5; rcases hat5 with e | e; exact HF4.out g5 e; have := HW4.out.size; omega); clear hown5 hgr5 hat5 hlt5 b0 b1 b2 b3 b4 b5 hbl)
    | (go_at_call 36; refine (HLO.out w5 _ HV5.out).mono ?_; rintro e w6 ⟨ad6, D, dn, cp6, rfl, hdn, hdl, hd, ho6⟩; have HD : Hid (D.length = dn ∧ ListOf (P ++ [p]) D) := ⟨hdn, hd⟩; have HO6 : Hid (Only [] w5 w6) := ho6; have HW6 : Hid (Only [] w w6) := only_nil HW5.out ho6; clear hdn hd ho6)
    | go_in)
  by_cases hbig : 60 < dn
  · have hbi : (60 : Int) < dn := by omega
    go_wp2
    go_ret
    exact ⟨D, HD.out.2, Or.inl ⟨by rw [HD.out.1]; exact hbig, rfl, HW6.out⟩⟩
  · have hbi : decide ((60 : Int) < dn) = false := decide_eq_false (by omega)
    obtain ⟨k1, k2⟩ := HCM.out w6 HW6.out
    have htl6 := lt_of_cell k1
    go_wp2
    have hx : Only [m] w6 (w6.setCell ⟨m, 0, none⟩ (.slice (some ⟨g5, 0, none⟩) (n + 1) c5)) := (Only.refl [m] w6).setCell (Or.inl (by simp)) _
    have kx : (w6.setCell ⟨m, 0, none⟩ (.slice (some ⟨g5, 0, none⟩) (n + 1) c5)).cell? ⟨m, 0, none⟩ = some (.slice (some ⟨g5, 0, none⟩) (n + 1) c5) := World.cell?_setCell_same _ _ _ k1
    have hg : ∀ k, (Value.slice (some ⟨g5, 0, none⟩) (n + 1) c5).ownBlock = some k → w.heap.size ≤ k := fun k hk => by obtain rfl : g5 = k := Option.some.inj hk; exact HG5.out
    have hne : ∀ k, (Value.slice (some ⟨g5, 0, none⟩) (n + 1) c5).ownBlock = some k → k ≠ m := fun k hk e => by have := hg k hk; have := HTL.out; omega
    go_ret
    exact ⟨D, HD.out.2, Or.inr ⟨by rw [HD.out.1]; omega, rfl, _, ⟨kx, by simpa using k2, (HV5.out.only HO6.out (fun _ _ => by simp)).only hx (fun k hk => by simpa using hne k hk), hne, (HBL.out w6 HW6.out).elim (fun cs hc => ⟨_, heap_setCell_same w6 m 0 cs _ _ hc⟩)⟩, (HW6.out.mono (fun _ hk => by cases hk)).trans hx (fun k hk => Or.inl hk), hg⟩⟩
end Go.Proofs.YtfnniphemlnanaaDoor
