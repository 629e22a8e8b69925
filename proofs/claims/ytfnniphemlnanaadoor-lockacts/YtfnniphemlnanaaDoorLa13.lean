/- LockActs: the document's table: Lock. -/
import Derived.Test.YtfnniphemlnanaaDoorLa12
namespace Go.Proofs.YtfnniphemlnanaaDoor
open Go Go.RowKit Go.Deep

theorem FirstAg.uniq {v : Lk} {l : List Lk} {x y : Lk} (h : FirstAg v l x) (h' : FirstAg v l y) : x = y := by
  obtain ⟨i, h1, h2, h3⟩ := h
  obtain ⟨j, g1, g2, g3⟩ := h'
  rcases Nat.lt_trichotomy i j with e | e | e
  · rw [g3 i x e h1] at h2; cases h2
  · subst e; rw [h1] at g1; exact Option.some.inj g1
  · rw [h3 j y e g1] at g2; cases g2
theorem FirstAg.not {v : Lk} {l : List Lk} {x : Lk} (h : FirstAg v l x) (hn : ∀ x ∈ l, agB v x = false) : False := by
  obtain ⟨i, h1, h2, _⟩ := h
  rw [hn x (List.mem_of_getElem? h1)] at h2
  cases h2
theorem rtest_held (w : World) (base m : Nat) (u : Value) (P : List Pt) (l : List Lk) (N G O A S : Int) (b : Bool) (x : Lk) (h : RlAt w base m u P) (hl : P.length ≤ 100) (hP : ∀ p ∈ P, p.Ok) (hr : rngB A S = true) (hD : ∀ D, ListOf P D → D = l) (hok : ∀ x ∈ l, x.Ok) (hx : FirstAg ⟨N, G, O, A, S, b⟩ l x) : Calls Tryd.prog 13 #[.pointer (some ⟨m, 0, none⟩), .agg #[.int .i64 N, .int .i64 G], .int .i64 O, .agg #[.int .i64 A, .int .i64 S], .bool b] w fun e w' => e = .returned (.tuple #[lkV x, .int .i64 11]) ∧ Only [] w w' :=
  (rtest_go w base m u P l N G O A S b h hl hP hr hD hok).mono fun e w' hh => by
    obtain ⟨c, res, he, hc, ho⟩ := hh
    rcases hc with ⟨h1, rfl⟩ | ⟨h1, _⟩
    · exact ⟨by rw [he, h1.uniq hx], ho⟩
    · exact (hx.not h1).elim
theorem rtest_free (w : World) (base m : Nat) (u : Value) (P : List Pt) (l : List Lk) (N G O A S : Int) (b : Bool) (h : RlAt w base m u P) (hl : P.length ≤ 100) (hP : ∀ p ∈ P, p.Ok) (hr : rngB A S = true) (hD : ∀ D, ListOf P D → D = l) (hok : ∀ x ∈ l, x.Ok) (hn : ∀ x ∈ l, agB ⟨N, G, O, A, S, b⟩ x = false) : Calls Tryd.prog 13 #[.pointer (some ⟨m, 0, none⟩), .agg #[.int .i64 N, .int .i64 G], .int .i64 O, .agg #[.int .i64 A, .int .i64 S], .bool b] w fun e w' => e = .returned (.tuple #[lkV zeroL, .int .i64 0]) ∧ Only [] w w' :=
  (rtest_go w base m u P l N G O A S b h hl hP hr hD hok).mono fun e w' hh => by
    obtain ⟨c, res, he, hc, ho⟩ := hh
    rcases hc with ⟨h1, _⟩ | ⟨h1, rfl, rfl⟩
    · exact (h1.not hn).elim
    · exact ⟨he, ho⟩
theorem Brushed.one {w w' : World} {base m : Nat} {P : List Pt} {p : Pt} {c : Int} (h : Brushed w w' base m P p c) : Only [m] w w' := by
  obtain ⟨D, _, h⟩ := h
  rcases h with ⟨_, _, h⟩ | ⟨_, _, _, _, h, _⟩
  · exact h.mono (fun _ hk => by cases hk)
  · exact h
theorem Brushed.fill {w wB w4 wf : World} {base m B : Nat} {P : List Pt} {p : Pt} {c : Int} (h : Brushed wB w4 base m P p c) (ho : Only [B] w4 wf) (hB : B < wB.heap.size) (hm : m ≠ B) (h0 : Only [] w wB) (hw : w.heap.size ≤ B) : Brushed w wf base m P p c := by
  obtain ⟨D, hD, h⟩ := h
  refine ⟨D, hD, ?_⟩
  rcases h with ⟨h1, h2, h3⟩ | ⟨h1, h2, u', h3, h4, h5⟩
  · exact Or.inl ⟨h1, h2, (only_nil h0 h3).trans ho (fun k hk => Or.inr (by rw [List.mem_singleton.1 hk]; exact hw))⟩
  · have hml := lt_of_cell h3.c0
    have hmn : m ∉ [B] := by simpa using hm
    refine Or.inr ⟨h1, h2, u', ⟨(ho.cell (p := ⟨m, 0, none⟩) hml hmn).trans h3.c0, (ho.frozen (p := ⟨m, 0, none⟩) hml hmn).trans h3.fr, h3.own.only ho (fun k hk => ?_), h3.ne, h3.bl.imp (fun _ hc => (ho.block m hml hmn).trans hc)⟩, ((h0.mono (fun _ hk => by cases hk)).trans h4 (fun k hk => Or.inl hk)).trans ho (fun k hk => Or.inr (by rw [List.mem_singleton.1 hk]; exact hw)), fun k hk => Nat.le_trans h0.size (h5 k hk)⟩
    have := h5 k hk
    simp
    omega
set_option maxRecDepth 100000 in
set_option maxHeartbeats 4000000 in
theorem rlock_err (w : World) (t : Nat) (N G O A S : Int) (b : Bool) (res : Lk) (c : Int) (hc : 0 < c) (ht : ∀ W, Only [] w W → Calls Tryd.prog 13 #[.pointer (some ⟨t, 0, none⟩), .agg #[.int .i64 N, .int .i64 G], .int .i64 O, .agg #[.int .i64 A, .int .i64 S], .bool b] W fun e w' => e = .returned (.tuple #[lkV res, .int .i64 c]) ∧ Only [] W w') : Calls Tryd.prog 9 #[.pointer (some ⟨t, 0, none⟩), .agg #[.int .i64 N, .int .i64 G], .int .i64 O, .agg #[.int .i64 A, .int .i64 S], .bool b] w fun e w' => e = .returned (.tuple #[lkV res, .int .i64 c]) ∧ Only [] w w' := by
  have HT : Hid (∀ W, Only [] w W → Calls Tryd.prog 13 #[.pointer (some ⟨t, 0, none⟩), .agg #[.int .i64 N, .int .i64 G], .int .i64 O, .agg #[.int .i64 A, .int .i64 S], .bool b] W fun e w' => e = .returned (.tuple #[.agg #[.int .i64 res.N, .int .i64 res.G, .int .i64 res.O, .int .i64 res.A, .int .i64 res.S, .bool res.W], .int .i64 c]) ∧ Only [] W w') := ht
  clear ht
  have HO : Hid (Only [] w (((w.alloc (.cells #[.int .i64 N, .int .i64 G] 33)).alloc (.cells #[.int .i64 A, .int .i64 S] 35)).alloc (.cells #[.int .i64 0, .int .i64 0, .int .i64 0, .int .i64 0, .int .i64 0, .bool false] 44))) := (((Only.refl [] w).alloc _).alloc _).alloc _
  obtain ⟨b0, b1, b2, b3, hz0⟩ := rbox_cells (w := w) (N := N) (G := G) (A := A) (S := S) (Only.refl [] _)
  have HZ0 : Hid (RkBox (((w.alloc (.cells #[.int .i64 N, .int .i64 G] 33)).alloc (.cells #[.int .i64 A, .int .i64 S] 35)).alloc (.cells #[.int .i64 0, .int .i64 0, .int .i64 0, .int .i64 0, .int .i64 0, .bool false] 44)) (w.heap.size + 1 + 1) zeroL) := hz0
  clear hz0
  go_enter Tryd.func9, Tryd.ntmps9
  go_upto_region 3 with (go_at_call 13; refine (HT.out _ HO.out).mono ?_; rintro e w2 ⟨rfl, ho2⟩; have HO2 : Hid (Only [] (((w.alloc (.cells #[.int .i64 N, .int .i64 G] 33)).alloc (.cells #[.int .i64 A, .int .i64 S] 35)).alloc (.cells #[.int .i64 0, .int .i64 0, .int .i64 0, .int .i64 0, .int .i64 0, .bool false] 44)) w2) := ho2; have HW2 : Hid (Only [] w w2) := only_nil HO.out ho2; have HZ2 : Hid (RkBox w2 (w.heap.size + 1 + 1) zeroL) := HZ0.out.only ho2 (by simp); clear b0 b1 b2 b3; obtain ⟨b0, b1, b2, b3, _⟩ := rbox_cells ho2; have hbz : w.heap.size + 1 + 1 < w2.heap.size := HZ2.out.pos; clear ho2)
  have HI : Hid (LkIn (w2.alloc (.cells #[.int .i64 res.N, .int .i64 res.G, .int .i64 res.O, .int .i64 res.A, .int .i64 res.S, .bool res.W] 44)) w2.heap.size res) := LkIn.new w2 res 44
  have HWA : Hid (Only [] w (w2.alloc (.cells #[.int .i64 res.N, .int .i64 res.G, .int .i64 res.O, .int .i64 res.A, .int .i64 res.S, .bool res.W] 44))) := HW2.out.alloc _
  have HZA : Hid (RkBox (w2.alloc (.cells #[.int .i64 res.N, .int .i64 res.G, .int .i64 res.O, .int .i64 res.A, .int .i64 res.S, .bool res.W] 44)) (w.heap.size + 1 + 1) zeroL) := HZ2.out.only ((Only.refl [] _).alloc _) (by simp)
  obtain ⟨D, hD⟩ : ∃ D, w2.heap.size = D := ⟨_, rfl⟩
  generalize w2.alloc (.cells #[.int .i64 res.N, .int .i64 res.G, .int .i64 res.O, .int .i64 res.A, .int .i64 res.S, .bool res.W] 44) = wq at HI HWA HZA ⊢
  rw [hD] at HI ⊢
  clear b0 b1 b2 b3 hD hbz
  obtain ⟨e0, e1, e2, e3, e4, e5⟩ := HI.out
  obtain ⟨d0, d1, d2, d3, d4, d5⟩ := HZA.out.cells
  have z0 := HZA.out.frozen 0
  have z1 := HZA.out.frozen 1
  have z2 := HZA.out.frozen 2
  have z3 := HZA.out.frozen 3
  have z4 := HZA.out.frozen 4
  have z5 := HZA.out.frozen 5
  go_wp2
  have hfill := HZA.out.fill res
  have HOF : Hid (Only [] w ((((((wq.setCell ⟨w.heap.size + 1 + 1, 0, none⟩ (.int .i64 res.N)).setCell ⟨w.heap.size + 1 + 1, 1, none⟩ (.int .i64 res.G)).setCell ⟨w.heap.size + 1 + 1, 2, none⟩ (.int .i64 res.O)).setCell ⟨w.heap.size + 1 + 1, 3, none⟩ (.int .i64 res.A)).setCell ⟨w.heap.size + 1 + 1, 4, none⟩ (.int .i64 res.S)).setCell ⟨w.heap.size + 1 + 1, 5, none⟩ (.bool res.W))) := HWA.out.trans hfill.2 (fun k hk => Or.inr (by rw [List.mem_singleton.1 hk]; omega))
  have hIF := hfill.1.cells
  clear hfill d0 d1 d2 d3 d4 d5 z0 z1 z2 z3 z4 z5 e0 e1 e2 e3 e4 e5
  generalize ((((((wq.setCell ⟨w.heap.size + 1 + 1, 0, none⟩ (.int .i64 res.N)).setCell ⟨w.heap.size + 1 + 1, 1, none⟩ (.int .i64 res.G)).setCell ⟨w.heap.size + 1 + 1, 2, none⟩ (.int .i64 res.O)).setCell ⟨w.heap.size + 1 + 1, 3, none⟩ (.int .i64 res.A)).setCell ⟨w.heap.size + 1 + 1, 4, none⟩ (.int .i64 res.S)).setCell ⟨w.heap.size + 1 + 1, 5, none⟩ (.bool res.W)) = wf at HOF hIF ⊢
  obtain ⟨k0, k1, k2, k3, k4, k5⟩ := hIF
  refine bodyPost_ret (v := .tuple #[lkV res, .int .i64 c]) (by simp [results, Tryd.results9, go_sem, k0, k1, k2, k3, k4, k5, lkV]) rfl ⟨rfl, HOF.out⟩
set_option maxRecDepth 100000 in
set_option maxHeartbeats 4000000 in
theorem rlock_k (w : World) (base m : Nat) (P : List Pt) (N G O A S T K : Int) (b : Bool) (hK : K = if b then 2 else 1) (hm : m < w.heap.size) (ht : ∀ W, Only [] w W → Calls Tryd.prog 13 #[.pointer (some ⟨m, 0, none⟩), .agg #[.int .i64 N, .int .i64 G], .int .i64 O, .agg #[.int .i64 A, .int .i64 S], .bool b] W fun e w' => e = .returned (.tuple #[lkV zeroL, .int .i64 0]) ∧ Only [] W w') (hiR : ∀ W, Calls Tryd.prog 24 #[.agg #[.int .i64 A, .int .i64 S]] W fun e w' => e = .returned (.tuple #[.int .i64 A, .int .i64 T, .bool true]) ∧ Only [] W w')
    (hbr : ∀ W, Only [] w W → Calls Tryd.prog 25 #[.pointer (some ⟨m, 0, none⟩), .agg #[.int .i64 N, .int .i64 G, .int .i64 O, .int .i64 A, .int .i64 T, .int .i64 K]] W fun e w' => ∃ c, e = .returned (.int .i64 c) ∧ (c = 9 ∨ c = 0) ∧ Brushed W w' base m P ⟨N, G, O, A, T, K⟩ c) : Calls Tryd.prog 9 #[.pointer (some ⟨m, 0, none⟩), .agg #[.int .i64 N, .int .i64 G], .int .i64 O, .agg #[.int .i64 A, .int .i64 S], .bool b] w fun e w' => ∃ c, e = .returned (.tuple #[lkV zeroL, .int .i64 c]) ∧ (c = 9 ∨ c = 0) ∧ Brushed w w' base m P ⟨N, G, O, A, T, K⟩ c := by
  have HT : Hid (∀ W, Only [] w W → Calls Tryd.prog 13 #[.pointer (some ⟨m, 0, none⟩), .agg #[.int .i64 N, .int .i64 G], .int .i64 O, .agg #[.int .i64 A, .int .i64 S], .bool b] W fun e w' => e = .returned (.tuple #[.agg #[.int .i64 0, .int .i64 0, .int .i64 0, .int .i64 0, .int .i64 0, .bool false], .int .i64 0]) ∧ Only [] W w') := ht
  have HBR : Hid (∀ W, Only [] w W → Calls Tryd.prog 25 #[.pointer (some ⟨m, 0, none⟩), .agg #[.int .i64 N, .int .i64 G, .int .i64 O, .int .i64 A, .int .i64 T, .int .i64 K]] W fun e w' => ∃ c, e = .returned (.int .i64 c) ∧ (c = 9 ∨ c = 0) ∧ Brushed W w' base m P ⟨N, G, O, A, T, K⟩ c) := hbr
  clear ht hbr
  have HO : Hid (Only [] w (((w.alloc (.cells #[.int .i64 N, .int .i64 G] 33)).alloc (.cells #[.int .i64 A, .int .i64 S] 35)).alloc (.cells #[.int .i64 0, .int .i64 0, .int .i64 0, .int .i64 0, .int .i64 0, .bool false] 44))) := (((Only.refl [] w).alloc _).alloc _).alloc _
  obtain ⟨b0, b1, b2, b3, hz0⟩ := rbox_cells (w := w) (N := N) (G := G) (A := A) (S := S) (Only.refl [] _)
  clear hz0
  have hb0 := lt_of_cell b0
  have hb2 := lt_of_cell b2
  cases b
  all_goals
    subst hK
    go_enter Tryd.func9, Tryd.ntmps9
    go_upto_region 4 with (go_at_call 13; refine (HT.out _ HO.out).mono ?_; rintro e w2 ⟨rfl, ho2⟩; have HO2 : Hid (Only [] (((w.alloc (.cells #[.int .i64 N, .int .i64 G] 33)).alloc (.cells #[.int .i64 A, .int .i64 S] 35)).alloc (.cells #[.int .i64 0, .int .i64 0, .int .i64 0, .int .i64 0, .int .i64 0, .bool false] 44)) w2) := ho2; have HW2 : Hid (Only [] w w2) := only_nil HO.out ho2; clear b0 b1 b2 b3 hb0 hb2; obtain ⟨b0, b1, b2, b3, _⟩ := rbox_cells ho2; have hbz : w.heap.size + 1 + 1 < w2.heap.size := (rbox_cells ho2).2.2.2.2.pos; clear ho2)
    have HBA : Hid (Only [] (((w.alloc (.cells #[.int .i64 N, .int .i64 G] 33)).alloc (.cells #[.int .i64 A, .int .i64 S] 35)).alloc (.cells #[.int .i64 0, .int .i64 0, .int .i64 0, .int .i64 0, .int .i64 0, .bool false] 44)) (w2.alloc (.cells #[.int .i64 0, .int .i64 0, .int .i64 0, .int .i64 0, .int .i64 0, .bool false] 44))) := HO2.out.alloc _
    generalize w2.alloc (.cells #[.int .i64 0, .int .i64 0, .int .i64 0, .int .i64 0, .int .i64 0, .bool false] 44) = wq at HBA ⊢
    clear b0 b1 b2 b3 hbz
    obtain ⟨b0, b1, b2, b3, _⟩ := rbox_cells HBA.out
    have hbz : w.heap.size + 1 + 1 < wq.heap.size := (rbox_cells HBA.out).2.2.2.2.pos
    go_wp2_with (first
      | (go_at_call 24; refine (hiR _).mono ?_; rintro e w3 ⟨rfl, ho3⟩; have HO3 : Hid (Only [] (((w.alloc (.cells #[.int .i64 N, .int .i64 G] 33)).alloc (.cells #[.int .i64 A, .int .i64 S] 35)).alloc (.cells #[.int .i64 0, .int .i64 0, .int .i64 0, .int .i64 0, .int .i64 0, .bool false] 44)) w3) := only_nil HBA.out ho3; have HW3 : Hid (Only [] w w3) := only_nil HO.out HO3.out; clear b0 b1 b2 b3 hbz ho3; obtain ⟨b0, b1, b2, b3, _⟩ := rbox_cells HO3.out; have hbz : w.heap.size + 1 + 1 < w3.heap.size := (rbox_cells HO3.out).2.2.2.2.pos)
      | (go_at_call 25; refine (HBR.out _ HW3.out).mono ?_; rintro e w4 ⟨c, rfl, hc, hbr⟩; have HBS : Hid ((c = 9 ∨ c = 0) ∧ Brushed w3 w4 base m P _ c) := ⟨hc, hbr⟩; have HZ4 : Hid (RkBox w4 (w.heap.size + 1 + 1) zeroL) := (rbox_cells HO3.out).2.2.2.2.only hbr.one (by rw [List.mem_singleton]; omega); obtain ⟨d0, d1, d2, d3, d4, d5⟩ := HZ4.out.cells; have z0 := HZ4.out.frozen 0; have z1 := HZ4.out.frozen 1; have z2 := HZ4.out.frozen 2; have z3 := HZ4.out.frozen 3; have z4 := HZ4.out.frozen 4; have z5 := HZ4.out.frozen 5; have HPZ : Hid (w.heap.size + 1 + 1 < w3.heap.size) := hbz; clear hc hbr b0 b1 b2 b3 hbz)
      | go_in)
    have hfill := HZ4.out.fill zeroL
    have HOF : Hid ((c = 9 ∨ c = 0) ∧ Brushed w ((((((w4.setCell ⟨w.heap.size + 1 + 1, 0, none⟩ (.int .i64 0)).setCell ⟨w.heap.size + 1 + 1, 1, none⟩ (.int .i64 0)).setCell ⟨w.heap.size + 1 + 1, 2, none⟩ (.int .i64 0)).setCell ⟨w.heap.size + 1 + 1, 3, none⟩ (.int .i64 0)).setCell ⟨w.heap.size + 1 + 1, 4, none⟩ (.int .i64 0)).setCell ⟨w.heap.size + 1 + 1, 5, none⟩ (.bool false)) base m P _ c) := ⟨HBS.out.1, HBS.out.2.fill hfill.2 HPZ.out (by omega) HW3.out (by omega)⟩
    have hIF := hfill.1.cells
    clear hfill d0 d1 d2 d3 d4 d5 z0 z1 z2 z3 z4 z5
    change LkIn ((((((w4.setCell ⟨w.heap.size + 1 + 1, 0, none⟩ (.int .i64 0)).setCell ⟨w.heap.size + 1 + 1, 1, none⟩ (.int .i64 0)).setCell ⟨w.heap.size + 1 + 1, 2, none⟩ (.int .i64 0)).setCell ⟨w.heap.size + 1 + 1, 3, none⟩ (.int .i64 0)).setCell ⟨w.heap.size + 1 + 1, 4, none⟩ (.int .i64 0)).setCell ⟨w.heap.size + 1 + 1, 5, none⟩ (.bool false)) _ zeroL at hIF
    generalize ((((((w4.setCell ⟨w.heap.size + 1 + 1, 0, none⟩ (.int .i64 0)).setCell ⟨w.heap.size + 1 + 1, 1, none⟩ (.int .i64 0)).setCell ⟨w.heap.size + 1 + 1, 2, none⟩ (.int .i64 0)).setCell ⟨w.heap.size + 1 + 1, 3, none⟩ (.int .i64 0)).setCell ⟨w.heap.size + 1 + 1, 4, none⟩ (.int .i64 0)).setCell ⟨w.heap.size + 1 + 1, 5, none⟩ (.bool false)) = wf at HOF hIF ⊢
    obtain ⟨k0, k1, k2, k3, k4, k5⟩ := hIF
    refine bodyPost_ret (v := .tuple #[lkV zeroL, .int .i64 c]) (by simp [results, Tryd.results9, go_sem, k0, k1, k2, k3, k4, k5, lkV]) rfl ⟨c, rfl, HOF.out⟩
theorem rlock_ok (w : World) (base m : Nat) (u : Value) (P : List Pt) (l : List Lk) (N G O A S : Int) (b : Bool) (h : RlAt w base m u P) (hb : base ≤ w.heap.size) (hl : P.length ≤ 99) (hP : ∀ p ∈ P, p.Ok) (hr : rngB A S = true) (hD : ∀ D, ListOf P D → D = l) (hok : ∀ x ∈ l, x.Ok) (hn : ∀ x ∈ l, agB ⟨N, G, O, A, S, b⟩ x = false) : Calls Tryd.prog 9 #[.pointer (some ⟨m, 0, none⟩), .agg #[.int .i64 N, .int .i64 G], .int .i64 O, .agg #[.int .i64 A, .int .i64 S], .bool b] w fun e w' => ∃ c, e = .returned (.tuple #[lkV zeroL, .int .i64 c]) ∧ (c = 9 ∨ c = 0) ∧ Brushed w w' base m P ⟨N, G, O, A, toR A S, kindW b⟩ c :=
  rlock_k w base m P N G O A S (toR A S) (kindW b) b rfl (lt_of_cell h.c0) (fun W ho => rtest_free W base m u P l N G O A S b (h.only ho) (by omega) hP hr hD hok hn) (fun W => by have := rangeOf_any A S W; rw [hr] at this; exact this) (fun W ho => brush_is W base m u P N G O A (toR A S) (kindW b) (h.only ho) (Nat.le_trans hb ho.size) hl hP (stroke_ok hr (by cases b; exact Or.inr (Or.inl rfl); exact Or.inr (Or.inr rfl))))
end Go.Proofs.YtfnniphemlnanaaDoor
