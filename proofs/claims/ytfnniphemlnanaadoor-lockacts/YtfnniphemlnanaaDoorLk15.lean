/- Locks: a table's functions: Lock, Unlock. -/
import Derived.Test.YtfnniphemlnanaaDoorLk14
namespace Go.Proofs.YtfnniphemlnanaaDoor
open Go Go.RowKit Go.Deep

set_option maxRecDepth 100000 in
set_option maxHeartbeats 2000000 in
theorem lock_err (w : World) (t : Nat) (N G O A S : Int) (b : Bool) (res : Lk) (ty : TypeId) (p : Addr) (ht : ∀ W, Only [] w W → Calls Tryd.prog 12 #[.pointer (some ⟨t, 0, none⟩), .agg #[.int .i64 N, .int .i64 G], .int .i64 O, .agg #[.int .i64 A, .int .i64 S], .bool b] W fun e w' => e = .returned (.tuple #[lkV res, .iface ty (.pointer (some p))]) ∧ Only [] W w') : Calls Tryd.prog 8 #[.pointer (some ⟨t, 0, none⟩), .agg #[.int .i64 N, .int .i64 G], .int .i64 O, .agg #[.int .i64 A, .int .i64 S], .bool b] w fun e w' => e = .returned (.tuple #[lkV res, .iface ty (.pointer (some p))]) ∧ Only [] w w' := by
  have HT : Hid (∀ W, Only [] w W → Calls Tryd.prog 12 #[.pointer (some ⟨t, 0, none⟩), .agg #[.int .i64 N, .int .i64 G], .int .i64 O, .agg #[.int .i64 A, .int .i64 S], .bool b] W fun e w' => e = .returned (.tuple #[.agg #[.int .i64 res.N, .int .i64 res.G, .int .i64 res.O, .int .i64 res.A, .int .i64 res.S, .bool res.W], .iface ty (.pointer (some p))]) ∧ Only [] W w') := ht
  clear ht
  have HO : Hid (Only [] w (((w.alloc (.cells #[.int .i64 N, .int .i64 G] 33)).alloc (.cells #[.int .i64 A, .int .i64 S] 35)).alloc (.cells #[.int .i64 0, .int .i64 0, .int .i64 0, .int .i64 0, .int .i64 0, .bool false] 39))) := (((Only.refl [] w).alloc _).alloc _).alloc _
  obtain ⟨b0, b1, b2, b3, hz0⟩ := box2_cells (w := w) (N := N) (G := G) (A := A) (S := S) (Only.refl [] _)
  have HZ0 : Hid (LkBox (((w.alloc (.cells #[.int .i64 N, .int .i64 G] 33)).alloc (.cells #[.int .i64 A, .int .i64 S] 35)).alloc (.cells #[.int .i64 0, .int .i64 0, .int .i64 0, .int .i64 0, .int .i64 0, .bool false] 39)) (w.heap.size + 1 + 1) zeroL) := hz0
  clear hz0
  go_enter Tryd.func8, Tryd.ntmps8
  go_upto_region 3 with (go_at_call 12; refine (HT.out _ HO.out).mono ?_; rintro e w2 ⟨rfl, ho2⟩; have HO2 : Hid (Only [] (((w.alloc (.cells #[.int .i64 N, .int .i64 G] 33)).alloc (.cells #[.int .i64 A, .int .i64 S] 35)).alloc (.cells #[.int .i64 0, .int .i64 0, .int .i64 0, .int .i64 0, .int .i64 0, .bool false] 39)) w2) := ho2; have HW2 : Hid (Only [] w w2) := only_nil HO.out ho2; have HZ2 : Hid (LkBox w2 (w.heap.size + 1 + 1) zeroL) := HZ0.out.only ho2 (by simp); clear b0 b1 b2 b3; obtain ⟨b0, b1, b2, b3, _⟩ := box2_cells ho2; have hbz : w.heap.size + 1 + 1 < w2.heap.size := HZ2.out.pos; clear ho2)
  have HI : Hid (LkIn (w2.alloc (.cells #[.int .i64 res.N, .int .i64 res.G, .int .i64 res.O, .int .i64 res.A, .int .i64 res.S, .bool res.W] 39)) w2.heap.size res) := LkIn.new w2 res 39
  have HWA : Hid (Only [] w (w2.alloc (.cells #[.int .i64 res.N, .int .i64 res.G, .int .i64 res.O, .int .i64 res.A, .int .i64 res.S, .bool res.W] 39))) := HW2.out.alloc _
  have HZA : Hid (LkBox (w2.alloc (.cells #[.int .i64 res.N, .int .i64 res.G, .int .i64 res.O, .int .i64 res.A, .int .i64 res.S, .bool res.W] 39)) (w.heap.size + 1 + 1) zeroL) := HZ2.out.only ((Only.refl [] _).alloc _) (by simp)
  obtain ⟨D, hD⟩ : ∃ D, w2.heap.size = D := ⟨_, rfl⟩
  generalize w2.alloc (.cells #[.int .i64 res.N, .int .i64 res.G, .int .i64 res.O, .int .i64 res.A, .int .i64 res.S, .bool res.W] 39) = wq at HI HWA HZA ⊢
  rw [hD] at HI ⊢
  clear b0 b1 b2 b3 hD hbz
  obtain ⟨e0, e1, e2, e3, e4, e5⟩ := HI.out
  obtain ⟨d0, d1, d2, d3, d4, d5⟩ := HZA.out.cells
  have z0 := HZA.out.frozen 0
  have z1 := HZA.out.frozen 1
  have z2 := HZA.out.frozen 2
  have z3 := HZA.out.frozen 3
  have z4 := HZA.out.frozen 4
  have z5 := HZA.out.frozen 5
  go_wp2
  have hfill := HZA.out.fill res
  have HOF : Hid (Only [] w ((((((wq.setCell ⟨w.heap.size + 1 + 1, 0, none⟩ (.int .i64 res.N)).setCell ⟨w.heap.size + 1 + 1, 1, none⟩ (.int .i64 res.G)).setCell ⟨w.heap.size + 1 + 1, 2, none⟩ (.int .i64 res.O)).setCell ⟨w.heap.size + 1 + 1, 3, none⟩ (.int .i64 res.A)).setCell ⟨w.heap.size + 1 + 1, 4, none⟩ (.int .i64 res.S)).setCell ⟨w.heap.size + 1 + 1, 5, none⟩ (.bool res.W))) := HWA.out.trans hfill.2 (fun k hk => Or.inr (by rw [List.mem_singleton.1 hk]; omega))
  have hIF := hfill.1.cells
  clear hfill d0 d1 d2 d3 d4 d5 z0 z1 z2 z3 z4 z5 e0 e1 e2 e3 e4 e5
  generalize ((((((wq.setCell ⟨w.heap.size + 1 + 1, 0, none⟩ (.int .i64 res.N)).setCell ⟨w.heap.size + 1 + 1, 1, none⟩ (.int .i64 res.G)).setCell ⟨w.heap.size + 1 + 1, 2, none⟩ (.int .i64 res.O)).setCell ⟨w.heap.size + 1 + 1, 3, none⟩ (.int .i64 res.A)).setCell ⟨w.heap.size + 1 + 1, 4, none⟩ (.int .i64 res.S)).setCell ⟨w.heap.size + 1 + 1, 5, none⟩ (.bool res.W)) = wf at HOF hIF ⊢
  obtain ⟨k0, k1, k2, k3, k4, k5⟩ := hIF
  refine bodyPost_ret (v := .tuple #[lkV res, .iface ty (.pointer (some p))]) (by simp [results, Tryd.results8, go_sem, k0, k1, k2, k3, k4, k5, lkV]) rfl ⟨rfl, HOF.out⟩
set_option maxRecDepth 100000 in
set_option maxHeartbeats 4000000 in
theorem lock_full (w : World) (base t : Nat) (vT E : Value) (l : List Lk) (N G O A S : Int) (b : Bool) (h : TbAt w base t vT l) (hb : base ≤ w.heap.size) (hl : l.length ≤ 60) (hg : LInv l) (hr : rngB A S = true) (hno : ∀ x ∈ l, agB (⟨N, G, O, A, S, b⟩ : Lk) x = false) (hlen : 60 < (withL (⟨N, G, O, A, S, b⟩ : Lk) l).length) (hE : w.cell? ⟨2, 0, none⟩ = some E) : Calls Tryd.prog 8 #[.pointer (some ⟨t, 0, none⟩), .agg #[.int .i64 N, .int .i64 G], .int .i64 O, .agg #[.int .i64 A, .int .i64 S], .bool b] w fun e w' => e = .returned (.tuple #[lkV zeroL, E]) ∧ Only [] w w' := by
  have hv : (⟨N, G, O, A, S, b⟩ : Lk).Ok := rngB_ok hr
  have HT : Hid (∀ W, Only [] w W → Calls Tryd.prog 12 #[.pointer (some ⟨t, 0, none⟩), .agg #[.int .i64 N, .int .i64 G], .int .i64 O, .agg #[.int .i64 A, .int .i64 S], .bool b] W fun e w' => e = .returned (.tuple #[.agg #[.int .i64 0, .int .i64 0, .int .i64 0, .int .i64 0, .int .i64 0, .bool false], .nilIface]) ∧ Only [] W w') := fun W ho => test_free W base t vT l N G O A S b (h.only ho) (by omega) hg.ok hr hno
  have HW : Hid (∀ W, Only [] w W → Calls Tryd.prog 23 #[.pointer (some ⟨t, 0, none⟩), .agg #[.int .i64 N, .int .i64 G, .int .i64 O, .int .i64 A, .int .i64 S, .bool b]] W fun e w' => ∃ v', e = .returned v' ∧ Lks w' base v' (withL (⟨N, G, O, A, S, b⟩ : Lk) l) ∧ (∀ k, v'.ownBlock = some k → W.heap.size ≤ k) ∧ Only [] W w') := fun W ho => with_any W base t vT l (⟨N, G, O, A, S, b⟩ : Lk) (h.only ho) (Nat.le_trans hb ho.size) (by omega) hg.ok hv (hg.without hv).ok
  have HK : Hid (∀ W v', Only [] w W → Lks W base v' (withL (⟨N, G, O, A, S, b⟩ : Lk) l) → (∀ k, v'.ownBlock = some k → t < k) → Calls Tryd.prog 22 #[.pointer (some ⟨t, 0, none⟩), v'] W fun e w' => e = .returned E ∧ Only [] W w') := fun W v' ho hm _ => keep_full W base t v' E _ hm hlen ((ho.cell (p := ⟨2, 0, none⟩) (lt_of_cell hE) (by simp)).trans hE)
  have htw : t < w.heap.size := lt_of_cell h.c0
  clear h hb hl hg hr hno hv hE hlen
  have HO : Hid (Only [] w (((w.alloc (.cells #[.int .i64 N, .int .i64 G] 33)).alloc (.cells #[.int .i64 A, .int .i64 S] 35)).alloc (.cells #[.int .i64 0, .int .i64 0, .int .i64 0, .int .i64 0, .int .i64 0, .bool false] 39))) := (((Only.refl [] w).alloc _).alloc _).alloc _
  obtain ⟨b0, b1, b2, b3, hz0⟩ := box2_cells (w := w) (N := N) (G := G) (A := A) (S := S) (Only.refl [] _)
  have HZ0 : Hid (LkBox (((w.alloc (.cells #[.int .i64 N, .int .i64 G] 33)).alloc (.cells #[.int .i64 A, .int .i64 S] 35)).alloc (.cells #[.int .i64 0, .int .i64 0, .int .i64 0, .int .i64 0, .int .i64 0, .bool false] 39)) (w.heap.size + 1 + 1) zeroL) := hz0
  clear hz0
  go_enter Tryd.func8, Tryd.ntmps8
  go_upto_region 4 with (go_at_call 12; refine (HT.out _ HO.out).mono ?_; rintro e w2 ⟨rfl, ho2⟩; have HO2 : Hid (Only [] (((w.alloc (.cells #[.int .i64 N, .int .i64 G] 33)).alloc (.cells #[.int .i64 A, .int .i64 S] 35)).alloc (.cells #[.int .i64 0, .int .i64 0, .int .i64 0, .int .i64 0, .int .i64 0, .bool false] 39)) w2) := ho2; have HW2 : Hid (Only [] w w2) := only_nil HO.out ho2; have HZ2 : Hid (LkBox w2 (w.heap.size + 1 + 1) zeroL) := HZ0.out.only ho2 (by simp); clear b0 b1 b2 b3; obtain ⟨b0, b1, b2, b3, _⟩ := box2_cells ho2; have hbz : w.heap.size + 1 + 1 < w2.heap.size := HZ2.out.pos; clear ho2)
  have HWA : Hid (Only [] w (w2.alloc (.cells #[.int .i64 0, .int .i64 0, .int .i64 0, .int .i64 0, .int .i64 0, .bool false] 39))) := HW2.out.alloc _
  have HZA : Hid (LkBox (w2.alloc (.cells #[.int .i64 0, .int .i64 0, .int .i64 0, .int .i64 0, .int .i64 0, .bool false] 39)) (w.heap.size + 1 + 1) zeroL) := HZ2.out.only ((Only.refl [] _).alloc _) (by simp)
  have HBA : Hid (Only [] (((w.alloc (.cells #[.int .i64 N, .int .i64 G] 33)).alloc (.cells #[.int .i64 A, .int .i64 S] 35)).alloc (.cells #[.int .i64 0, .int .i64 0, .int .i64 0, .int .i64 0, .int .i64 0, .bool false] 39)) (w2.alloc (.cells #[.int .i64 0, .int .i64 0, .int .i64 0, .int .i64 0, .int .i64 0, .bool false] 39))) := HO2.out.alloc _
  generalize w2.alloc (.cells #[.int .i64 0, .int .i64 0, .int .i64 0, .int .i64 0, .int .i64 0, .bool false] 39) = wq at HWA HZA HBA ⊢
  clear b0 b1 b2 b3 hbz
  obtain ⟨b0, b1, b2, b3, _⟩ := box2_cells HBA.out
  have hbz : w.heap.size + 1 + 1 < wq.heap.size := HZA.out.pos
  go_wp2_with (first
    | (go_at_call 23; refine (HW.out _ HWA.out).mono ?_; rintro e w3 ⟨v3, rfl, h3, hf3, ho3⟩; have H3 : Hid (Lks w3 base v3 (withL (⟨N, G, O, A, S, b⟩ : Lk) l)) := h3; have HF3 : Hid (∀ k, v3.ownBlock = some k → wq.heap.size ≤ k) := hf3; have HO3 : Hid (Only [] w w3) := only_nil HWA.out ho3; have HZ3 : Hid (LkBox w3 (w.heap.size + 1 + 1) zeroL) := HZA.out.only ho3 (by simp); clear h3 hf3 ho3 b0 b1 b2 b3)
    | (go_at_call 22; refine (HK.out w3 v3 HO3.out H3.out (fun k hk => Nat.lt_of_lt_of_le htw (Nat.le_trans HWA.out.size (HF3.out k hk)))).mono ?_; rintro e w4 ⟨rfl, ho4⟩; have HO4 : Hid (Only [] w w4) := only_nil HO3.out ho4; have HZ4 : Hid (LkBox w4 (w.heap.size + 1 + 1) zeroL) := HZ3.out.only ho4 (by simp); obtain ⟨d0, d1, d2, d3, d4, d5⟩ := HZ4.out.cells; have z0 := HZ4.out.frozen 0; have z1 := HZ4.out.frozen 1; have z2 := HZ4.out.frozen 2; have z3 := HZ4.out.frozen 3; have z4 := HZ4.out.frozen 4; have z5 := HZ4.out.frozen 5; clear ho4))
  have hfill := HZ4.out.fill zeroL
  have HOF : Hid (Only [] w ((((((w4.setCell ⟨w.heap.size + 1 + 1, 0, none⟩ (.int .i64 0)).setCell ⟨w.heap.size + 1 + 1, 1, none⟩ (.int .i64 0)).setCell ⟨w.heap.size + 1 + 1, 2, none⟩ (.int .i64 0)).setCell ⟨w.heap.size + 1 + 1, 3, none⟩ (.int .i64 0)).setCell ⟨w.heap.size + 1 + 1, 4, none⟩ (.int .i64 0)).setCell ⟨w.heap.size + 1 + 1, 5, none⟩ (.bool false))) := HO4.out.trans hfill.2 (fun k hk => Or.inr (by rw [List.mem_singleton.1 hk]; omega))
  have hIF := hfill.1.cells
  clear hfill d0 d1 d2 d3 d4 d5 z0 z1 z2 z3 z4 z5
  change LkIn ((((((w4.setCell ⟨w.heap.size + 1 + 1, 0, none⟩ (.int .i64 0)).setCell ⟨w.heap.size + 1 + 1, 1, none⟩ (.int .i64 0)).setCell ⟨w.heap.size + 1 + 1, 2, none⟩ (.int .i64 0)).setCell ⟨w.heap.size + 1 + 1, 3, none⟩ (.int .i64 0)).setCell ⟨w.heap.size + 1 + 1, 4, none⟩ (.int .i64 0)).setCell ⟨w.heap.size + 1 + 1, 5, none⟩ (.bool false)) _ zeroL at hIF
  generalize ((((((w4.setCell ⟨w.heap.size + 1 + 1, 0, none⟩ (.int .i64 0)).setCell ⟨w.heap.size + 1 + 1, 1, none⟩ (.int .i64 0)).setCell ⟨w.heap.size + 1 + 1, 2, none⟩ (.int .i64 0)).setCell ⟨w.heap.size + 1 + 1, 3, none⟩ (.int .i64 0)).setCell ⟨w.heap.size + 1 + 1, 4, none⟩ (.int .i64 0)).setCell ⟨w.heap.size + 1 + 1, 5, none⟩ (.bool false)) = wf at HOF hIF ⊢
  obtain ⟨k0, k1, k2, k3, k4, k5⟩ := hIF
  refine bodyPost_ret (v := .tuple #[lkV zeroL, E]) (by simp [results, Tryd.results8, go_sem, k0, k1, k2, k3, k4, k5, lkV]) rfl ⟨rfl, HOF.out⟩
set_option maxRecDepth 100000 in
set_option maxHeartbeats 4000000 in
theorem lock_ok (w : World) (base t : Nat) (vT : Value) (l : List Lk) (N G O A S : Int) (b : Bool) (h : TbAt w base t vT l) (hb : base ≤ w.heap.size) (hl : l.length ≤ 60) (hg : LInv l) (hr : rngB A S = true) (hno : ∀ x ∈ l, agB (⟨N, G, O, A, S, b⟩ : Lk) x = false) (hlen : (withL (⟨N, G, O, A, S, b⟩ : Lk) l).length ≤ 60) : Calls Tryd.prog 8 #[.pointer (some ⟨t, 0, none⟩), .agg #[.int .i64 N, .int .i64 G], .int .i64 O, .agg #[.int .i64 A, .int .i64 S], .bool b] w fun e w' => e = .returned (.tuple #[lkV zeroL, .nilIface]) ∧ ∃ v' m', m'.Perm (withL (⟨N, G, O, A, S, b⟩ : Lk) l) ∧ SortedL m' ∧ TbAt w' base t v' m' ∧ Only [t] w w' := by
  have hv : (⟨N, G, O, A, S, b⟩ : Lk).Ok := rngB_ok hr
  have HT : Hid (∀ W, Only [] w W → Calls Tryd.prog 12 #[.pointer (some ⟨t, 0, none⟩), .agg #[.int .i64 N, .int .i64 G], .int .i64 O, .agg #[.int .i64 A, .int .i64 S], .bool b] W fun e w' => e = .returned (.tuple #[.agg #[.int .i64 0, .int .i64 0, .int .i64 0, .int .i64 0, .int .i64 0, .bool false], .nilIface]) ∧ Only [] W w') := fun W ho => test_free W base t vT l N G O A S b (h.only ho) (by omega) hg.ok hr hno
  have HW : Hid (∀ W, Only [] w W → Calls Tryd.prog 23 #[.pointer (some ⟨t, 0, none⟩), .agg #[.int .i64 N, .int .i64 G, .int .i64 O, .int .i64 A, .int .i64 S, .bool b]] W fun e w' => ∃ v', e = .returned v' ∧ Lks w' base v' (withL (⟨N, G, O, A, S, b⟩ : Lk) l) ∧ (∀ k, v'.ownBlock = some k → W.heap.size ≤ k) ∧ Only [] W w') := fun W ho => with_any W base t vT l (⟨N, G, O, A, S, b⟩ : Lk) (h.only ho) (Nat.le_trans hb ho.size) (by omega) hg.ok hv (hg.without hv).ok
  have HK : Hid (∀ W v', Only [] w W → Lks W base v' (withL (⟨N, G, O, A, S, b⟩ : Lk) l) → (∀ k, v'.ownBlock = some k → t < k) → Calls Tryd.prog 22 #[.pointer (some ⟨t, 0, none⟩), v'] W fun e w' => e = .returned .nilIface ∧ ∃ m', m'.Perm (withL (⟨N, G, O, A, S, b⟩ : Lk) l) ∧ SortedL m' ∧ TbAt w' base t v' m' ∧ Only (t :: v'.ownBlock.toList) W w') := fun W v' ho hm hk => keep_ok W base t vT v' l _ (h.only ho) hm (fun k e => by have := hk k e; omega) hlen
  have htw : t < w.heap.size := lt_of_cell h.c0
  clear h hb hl hg hr hno hv hlen
  have HO : Hid (Only [] w (((w.alloc (.cells #[.int .i64 N, .int .i64 G] 33)).alloc (.cells #[.int .i64 A, .int .i64 S] 35)).alloc (.cells #[.int .i64 0, .int .i64 0, .int .i64 0, .int .i64 0, .int .i64 0, .bool false] 39))) := (((Only.refl [] w).alloc _).alloc _).alloc _
  obtain ⟨b0, b1, b2, b3, hz0⟩ := box2_cells (w := w) (N := N) (G := G) (A := A) (S := S) (Only.refl [] _)
  have HZ0 : Hid (LkBox (((w.alloc (.cells #[.int .i64 N, .int .i64 G] 33)).alloc (.cells #[.int .i64 A, .int .i64 S] 35)).alloc (.cells #[.int .i64 0, .int .i64 0, .int .i64 0, .int .i64 0, .int .i64 0, .bool false] 39)) (w.heap.size + 1 + 1) zeroL) := hz0
  clear hz0
  go_enter Tryd.func8, Tryd.ntmps8
  go_upto_region 4 with (go_at_call 12; refine (HT.out _ HO.out).mono ?_; rintro e w2 ⟨rfl, ho2⟩; have HO2 : Hid (Only [] (((w.alloc (.cells #[.int .i64 N, .int .i64 G] 33)).alloc (.cells #[.int .i64 A, .int .i64 S] 35)).alloc (.cells #[.int .i64 0, .int .i64 0, .int .i64 0, .int .i64 0, .int .i64 0, .bool false] 39)) w2) := ho2; have HW2 : Hid (Only [] w w2) := only_nil HO.out ho2; have HZ2 : Hid (LkBox w2 (w.heap.size + 1 + 1) zeroL) := HZ0.out.only ho2 (by simp); clear b0 b1 b2 b3; obtain ⟨b0, b1, b2, b3, _⟩ := box2_cells ho2; have hbz : w.heap.size + 1 + 1 < w2.heap.size := HZ2.out.pos; clear ho2)
  have HWA : Hid (Only [] w (w2.alloc (.cells #[.int .i64 0, .int .i64 0, .int .i64 0, .int .i64 0, .int .i64 0, .bool false] 39))) := HW2.out.alloc _
  have HZA : Hid (LkBox (w2.alloc (.cells #[.int .i64 0, .int .i64 0, .int .i64 0, .int .i64 0, .int .i64 0, .bool false] 39)) (w.heap.size + 1 + 1) zeroL) := HZ2.out.only ((Only.refl [] _).alloc _) (by simp)
  have HBA : Hid (Only [] (((w.alloc (.cells #[.int .i64 N, .int .i64 G] 33)).alloc (.cells #[.int .i64 A, .int .i64 S] 35)).alloc (.cells #[.int .i64 0, .int .i64 0, .int .i64 0, .int .i64 0, .int .i64 0, .bool false] 39)) (w2.alloc (.cells #[.int .i64 0, .int .i64 0, .int .i64 0, .int .i64 0, .int .i64 0, .bool false] 39))) := HO2.out.alloc _
  generalize w2.alloc (.cells #[.int .i64 0, .int .i64 0, .int .i64 0, .int .i64 0, .int .i64 0, .bool false] 39) = wq at HWA HZA HBA ⊢
  clear b0 b1 b2 b3 hbz
  obtain ⟨b0, b1, b2, b3, _⟩ := box2_cells HBA.out
  have hbz : w.heap.size + 1 + 1 < wq.heap.size := HZA.out.pos
  go_wp2_with (first
    | (go_at_call 23; refine (HW.out _ HWA.out).mono ?_; rintro e w3 ⟨v3, rfl, h3, hf3, ho3⟩; have H3 : Hid (Lks w3 base v3 (withL (⟨N, G, O, A, S, b⟩ : Lk) l)) := h3; have HF3 : Hid (∀ k, v3.ownBlock = some k → wq.heap.size ≤ k) := hf3; have HO3 : Hid (Only [] w w3) := only_nil HWA.out ho3; have HZ3 : Hid (LkBox w3 (w.heap.size + 1 + 1) zeroL) := HZA.out.only ho3 (by simp); clear h3 hf3 ho3 b0 b1 b2 b3)
    | (go_at_call 22; refine (HK.out w3 v3 HO3.out H3.out (fun k hk => Nat.lt_of_lt_of_le htw (Nat.le_trans HWA.out.size (HF3.out k hk)))).mono ?_; rintro e w4 ⟨rfl, m4, hp4, hs4, ht4, ho4⟩; have HP4 : Hid (m4.Perm (withL (⟨N, G, O, A, S, b⟩ : Lk) l) ∧ SortedL m4) := ⟨hp4, hs4⟩; have HT4 : Hid (TbAt w4 base t v3 m4) := ht4; have HO4 : Hid (Only [t] w w4) := (HO3.out.mono (fun _ hk => by cases hk)).trans ho4 (fun k hk => by rcases List.mem_cons.1 hk with e | e; exact Or.inl (by rw [e]; exact List.mem_cons_self); exact Or.inr (Nat.le_trans HWA.out.size (HF3.out k (by simpa using e)))); have HZ4 : Hid (LkBox w4 (w.heap.size + 1 + 1) zeroL) := HZ3.out.only ho4 (fun hk => by rcases List.mem_cons.1 hk with e | e; omega; have := HF3.out _ (by simpa using e); omega); obtain ⟨d0, d1, d2, d3, d4, d5⟩ := HZ4.out.cells; have z0 := HZ4.out.frozen 0; have z1 := HZ4.out.frozen 1; have z2 := HZ4.out.frozen 2; have z3 := HZ4.out.frozen 3; have z4 := HZ4.out.frozen 4; have z5 := HZ4.out.frozen 5; clear hp4 hs4 ht4 ho4))
  have hfill := HZ4.out.fill zeroL
  have HOF : Hid (Only [t] w ((((((w4.setCell ⟨w.heap.size + 1 + 1, 0, none⟩ (.int .i64 0)).setCell ⟨w.heap.size + 1 + 1, 1, none⟩ (.int .i64 0)).setCell ⟨w.heap.size + 1 + 1, 2, none⟩ (.int .i64 0)).setCell ⟨w.heap.size + 1 + 1, 3, none⟩ (.int .i64 0)).setCell ⟨w.heap.size + 1 + 1, 4, none⟩ (.int .i64 0)).setCell ⟨w.heap.size + 1 + 1, 5, none⟩ (.bool false))) := HO4.out.trans hfill.2 (fun k hk => Or.inr (by rw [List.mem_singleton.1 hk]; omega))
  have HTF : Hid (TbAt ((((((w4.setCell ⟨w.heap.size + 1 + 1, 0, none⟩ (.int .i64 0)).setCell ⟨w.heap.size + 1 + 1, 1, none⟩ (.int .i64 0)).setCell ⟨w.heap.size + 1 + 1, 2, none⟩ (.int .i64 0)).setCell ⟨w.heap.size + 1 + 1, 3, none⟩ (.int .i64 0)).setCell ⟨w.heap.size + 1 + 1, 4, none⟩ (.int .i64 0)).setCell ⟨w.heap.size + 1 + 1, 5, none⟩ (.bool false)) base t v3 m4) := ⟨(hfill.2.cell (p := ⟨t, 0, none⟩) (lt_of_cell HT4.out.c0) (by rw [List.mem_singleton]; show ¬ t = _; omega)).trans HT4.out.c0, (hfill.2.frozen (p := ⟨t, 0, none⟩) (lt_of_cell HT4.out.c0) (by rw [List.mem_singleton]; show ¬ t = _; omega)).trans HT4.out.fr, HT4.out.own.only hfill.2 (fun k hk => by have := HF3.out k hk; rw [List.mem_singleton]; omega), HT4.out.ne⟩
  have hIF := hfill.1.cells
  clear hfill d0 d1 d2 d3 d4 d5 z0 z1 z2 z3 z4 z5
  change LkIn ((((((w4.setCell ⟨w.heap.size + 1 + 1, 0, none⟩ (.int .i64 0)).setCell ⟨w.heap.size + 1 + 1, 1, none⟩ (.int .i64 0)).setCell ⟨w.heap.size + 1 + 1, 2, none⟩ (.int .i64 0)).setCell ⟨w.heap.size + 1 + 1, 3, none⟩ (.int .i64 0)).setCell ⟨w.heap.size + 1 + 1, 4, none⟩ (.int .i64 0)).setCell ⟨w.heap.size + 1 + 1, 5, none⟩ (.bool false)) _ zeroL at hIF
  generalize ((((((w4.setCell ⟨w.heap.size + 1 + 1, 0, none⟩ (.int .i64 0)).setCell ⟨w.heap.size + 1 + 1, 1, none⟩ (.int .i64 0)).setCell ⟨w.heap.size + 1 + 1, 2, none⟩ (.int .i64 0)).setCell ⟨w.heap.size + 1 + 1, 3, none⟩ (.int .i64 0)).setCell ⟨w.heap.size + 1 + 1, 4, none⟩ (.int .i64 0)).setCell ⟨w.heap.size + 1 + 1, 5, none⟩ (.bool false)) = wf at HOF HTF hIF ⊢
  obtain ⟨k0, k1, k2, k3, k4, k5⟩ := hIF
  refine bodyPost_ret (v := .tuple #[lkV zeroL, .nilIface]) (by simp [results, Tryd.results8, go_sem, k0, k1, k2, k3, k4, k5, lkV]) rfl ⟨rfl, v3, m4, HP4.out.1, HP4.out.2, HTF.out, HOF.out⟩
set_option maxHeartbeats 1000000 in
theorem unlock_bad (w : World) (t : Nat) (N G O A S : Int) (E : Value) (hE : w.cell? ⟨0, 0, none⟩ = some E) (hr : rngB A S = false) : Calls Tryd.prog 14 #[.pointer (some ⟨t, 0, none⟩), .agg #[.int .i64 N, .int .i64 G], .int .i64 O, .agg #[.int .i64 A, .int .i64 S]] w fun e w' => e = .returned E ∧ Only [] w w' := by
  have hiR : ∀ W, Calls Tryd.prog 27 #[.agg #[.int .i64 A, .int .i64 S]] W fun e w' => e = .returned (.bool false) ∧ Only [] W w' := fun W => by have := isRange_any A S W; rw [hr] at this; exact this
  have HO : Hid (Only [] w (((w.alloc (.cells #[.int .i64 N, .int .i64 G] 33)).alloc (.cells #[.int .i64 A, .int .i64 S] 35)))) := ((Only.refl [] w).alloc _).alloc _
  have HEE : Hid (∀ W, Only [] w W → W.cell? ⟨0, 0, none⟩ = some E) := fun W ho => (ho.cell (p := ⟨0, 0, none⟩) (lt_of_cell hE) (by simp)).trans hE
  clear hr hE
  go_enter Tryd.func14, Tryd.ntmps14
  go_wp2_with (go_at_call 27; refine (hiR _).mono ?_; rintro e w2 ⟨rfl, ho2⟩; have HW2 : Hid (Only [] w w2) := only_nil HO.out ho2; have hE2 := HEE.out w2 HW2.out; have hEl := lt_of_cell hE2; clear hiR ho2)
  go_ret
  exact ⟨rfl, HW2.out⟩
set_option maxRecDepth 100000 in
set_option maxHeartbeats 2000000 in
theorem unlock_full (w : World) (base t : Nat) (vT E : Value) (l : List Lk) (N G O A S : Int) (h : TbAt w base t vT l) (hb : base ≤ w.heap.size) (hl : l.length ≤ 60) (hg : LInv l) (hr : rngB A S = true) (hlen : 60 < (withoutL N G O A S l).length) (hE : w.cell? ⟨2, 0, none⟩ = some E) : Calls Tryd.prog 14 #[.pointer (some ⟨t, 0, none⟩), .agg #[.int .i64 N, .int .i64 G], .int .i64 O, .agg #[.int .i64 A, .int .i64 S]] w fun e w' => e = .returned E ∧ Only [] w w' := by
  have hiR : ∀ W, Calls Tryd.prog 27 #[.agg #[.int .i64 A, .int .i64 S]] W fun e w' => e = .returned (.bool true) ∧ Only [] W w' := fun W => by have := isRange_any A S W; rw [hr] at this; exact this
  have HO : Hid (Only [] w (((w.alloc (.cells #[.int .i64 N, .int .i64 G] 33)).alloc (.cells #[.int .i64 A, .int .i64 S] 35)))) := ((Only.refl [] w).alloc _).alloc _
  have HWO : Hid (∀ W, Only [] w W → Calls Tryd.prog 31 #[.pointer (some ⟨t, 0, none⟩), .agg #[.int .i64 N, .int .i64 G], .int .i64 O, .agg #[.int .i64 A, .int .i64 S]] W fun e w' => ∃ v', e = .returned v' ∧ Lks w' base v' (withoutL N G O A S l) ∧ (∀ k, v'.ownBlock = some k → W.heap.size ≤ k) ∧ Only [] W w') := fun W ho => without_any W base t vT l N G O A S (h.only ho) (Nat.le_trans hb ho.size) (by omega) hg.ok (rngB_ok hr)
  have HK : Hid (∀ W v', Only [] w W → Lks W base v' (withoutL N G O A S l) → (∀ k, v'.ownBlock = some k → t < k) → Calls Tryd.prog 22 #[.pointer (some ⟨t, 0, none⟩), v'] W fun e w' => e = .returned E ∧ Only [] W w') := fun W v' ho hm _ => keep_full W base t v' E _ hm hlen ((ho.cell (p := ⟨2, 0, none⟩) (lt_of_cell hE) (by simp)).trans hE)
  have htw : t < w.heap.size := lt_of_cell h.c0
  clear h hb hl hg hr hE hlen
  go_enter Tryd.func14, Tryd.ntmps14
  go_wp2_with (first
    | (go_at_call 27; refine (hiR _).mono ?_; rintro e w2 ⟨rfl, ho2⟩; have HW2 : Hid (Only [] w w2) := only_nil HO.out ho2; obtain ⟨b0, b1, b2, b3⟩ := Four.only (four_new w N G A S 33 35) ho2; clear hiR ho2)
    | (go_at_call 31; refine (HWO.out _ HW2.out).mono ?_; rintro e w3 ⟨v3, rfl, h3, hf3, ho3⟩; have H3 : Hid (Lks w3 base v3 (withoutL N G O A S l)) := h3; have HF3 : Hid (∀ k, v3.ownBlock = some k → w2.heap.size ≤ k) := hf3; have HO3 : Hid (Only [] w w3) := only_nil HW2.out ho3; clear h3 hf3 ho3 b0 b1 b2 b3)
    | (go_at_call 22; refine (HK.out w3 v3 HO3.out H3.out (fun k hk => Nat.lt_of_lt_of_le htw (Nat.le_trans HW2.out.size (HF3.out k hk)))).mono ?_; rintro e w4 ⟨rfl, ho4⟩; have HO4 : Hid (Only [] w w4) := only_nil HO3.out ho4; clear ho4))
  go_ret
  exact ⟨rfl, HO4.out⟩
set_option maxRecDepth 100000 in
set_option maxHeartbeats 2000000 in
theorem unlock_ok (w : World) (base t : Nat) (vT : Value) (l : List Lk) (N G O A S : Int) (h : TbAt w base t vT l) (hb : base ≤ w.heap.size) (hl : l.length ≤ 60) (hg : LInv l) (hr : rngB A S = true) (hlen : (withoutL N G O A S l).length ≤ 60) : Calls Tryd.prog 14 #[.pointer (some ⟨t, 0, none⟩), .agg #[.int .i64 N, .int .i64 G], .int .i64 O, .agg #[.int .i64 A, .int .i64 S]] w fun e w' => e = .returned .nilIface ∧ ∃ v' m', m'.Perm (withoutL N G O A S l) ∧ SortedL m' ∧ TbAt w' base t v' m' ∧ Only [t] w w' := by
  have hiR : ∀ W, Calls Tryd.prog 27 #[.agg #[.int .i64 A, .int .i64 S]] W fun e w' => e = .returned (.bool true) ∧ Only [] W w' := fun W => by have := isRange_any A S W; rw [hr] at this; exact this
  have HO : Hid (Only [] w (((w.alloc (.cells #[.int .i64 N, .int .i64 G] 33)).alloc (.cells #[.int .i64 A, .int .i64 S] 35)))) := ((Only.refl [] w).alloc _).alloc _
  have HWO : Hid (∀ W, Only [] w W → Calls Tryd.prog 31 #[.pointer (some ⟨t, 0, none⟩), .agg #[.int .i64 N, .int .i64 G], .int .i64 O, .agg #[.int .i64 A, .int .i64 S]] W fun e w' => ∃ v', e = .returned v' ∧ Lks w' base v' (withoutL N G O A S l) ∧ (∀ k, v'.ownBlock = some k → W.heap.size ≤ k) ∧ Only [] W w') := fun W ho => without_any W base t vT l N G O A S (h.only ho) (Nat.le_trans hb ho.size) (by omega) hg.ok (rngB_ok hr)
  have HK : Hid (∀ W v', Only [] w W → Lks W base v' (withoutL N G O A S l) → (∀ k, v'.ownBlock = some k → t < k) → Calls Tryd.prog 22 #[.pointer (some ⟨t, 0, none⟩), v'] W fun e w' => e = .returned .nilIface ∧ ∃ m', m'.Perm (withoutL N G O A S l) ∧ SortedL m' ∧ TbAt w' base t v' m' ∧ Only (t :: v'.ownBlock.toList) W w') := fun W v' ho hm hk => keep_ok W base t vT v' l _ (h.only ho) hm (fun k e => by have := hk k e; omega) hlen
  have htw : t < w.heap.size := lt_of_cell h.c0
  clear h hb hl hg hr hlen
  go_enter Tryd.func14, Tryd.ntmps14
  go_wp2_with (first
    | (go_at_call 27; refine (hiR _).mono ?_; rintro e w2 ⟨rfl, ho2⟩; have HW2 : Hid (Only [] w w2) := only_nil HO.out ho2; obtain ⟨b0, b1, b2, b3⟩ := Four.only (four_new w N G A S 33 35) ho2; clear hiR ho2)
    | (go_at_call 31; refine (HWO.out _ HW2.out).mono ?_; rintro e w3 ⟨v3, rfl, h3, hf3, ho3⟩; have H3 : Hid (Lks w3 base v3 (withoutL N G O A S l)) := h3; have HF3 : Hid (∀ k, v3.ownBlock = some k → w2.heap.size ≤ k) := hf3; have HO3 : Hid (Only [] w w3) := only_nil HW2.out ho3; clear h3 hf3 ho3 b0 b1 b2 b3)
    | (go_at_call 22; refine (HK.out w3 v3 HO3.out H3.out (fun k hk => Nat.lt_of_lt_of_le htw (Nat.le_trans HW2.out.size (HF3.out k hk)))).mono ?_; rintro e w4 ⟨rfl, m4, hp4, hs4, ht4, ho4⟩; have HE4 : Hid (m4.Perm (withoutL N G O A S l) ∧ SortedL m4 ∧ TbAt w4 base t v3 m4 ∧ Only [t] w w4) := ⟨hp4, hs4, ht4, (HO3.out.mono (fun _ hk => by cases hk)).trans ho4 (fun k hk => by rcases List.mem_cons.1 hk with e | e; exact Or.inl (by rw [e]; exact List.mem_cons_self); exact Or.inr (Nat.le_trans HW2.out.size (HF3.out k (by simpa using e))))⟩; clear hp4 hs4 ht4 ho4))
  go_ret
  exact ⟨rfl, v3, m4, HE4.out⟩
end Go.Proofs.YtfnniphemlnanaaDoor
