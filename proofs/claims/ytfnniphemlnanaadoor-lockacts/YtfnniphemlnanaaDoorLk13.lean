/- Locks: a table's functions: keep, Test. -/
import Derived.Test.YtfnniphemlnanaaDoorLk12
import Derived.Test.YtfnniphemlnanaaDoorLk11
namespace Go.Proofs.YtfnniphemlnanaaDoor
open Go Go.RowKit Go.Deep

theorem keep_full (w : World) (base t : Nat) (vm E : Value) (m : List Lk) (hm : Lks w base vm m) (hl : 60 < m.length) (hE : w.cell? ⟨2, 0, none⟩ = some E) : Calls Tryd.prog 22 #[.pointer (some ⟨t, 0, none⟩), vm] w fun e w' => e = .returned E ∧ Only [] w w' := by
  obtain ⟨ad, cp, rfl, _⟩ := row_form hm
  have hd : decide (60 < (m.length : Int)) = true := decide_eq_true (by omega)
  have hEl := lt_of_cell hE
  clear hm
  go_enter Tryd.func22, Tryd.ntmps22
  go_wp2
  go_ret
  exact ⟨rfl, Only.refl _ _⟩
set_option maxHeartbeats 1000000 in
theorem keep_ok (w : World) (base t : Nat) (v vm : Value) (l m : List Lk) (h : TbAt w base t v l) (hm : Lks w base vm m) (hne : ∀ k, vm.ownBlock = some k → k ≠ t) (hl : m.length ≤ 60) : Calls Tryd.prog 22 #[.pointer (some ⟨t, 0, none⟩), vm] w fun e w' => e = .returned .nilIface ∧ ∃ m', m'.Perm m ∧ SortedL m' ∧ TbAt w' base t vm m' ∧ Only (t :: vm.ownBlock.toList) w w' := by
  have hs := sort_any w base vm m hm (by omega)
  have HC : Hid (∀ w', Only vm.ownBlock.toList w w' → w'.cell? ⟨t, 0, none⟩ = some v ∧ w'.frozen? ⟨t, 0, none⟩ = false) := fun w' ho => ⟨(ho.cell (p := ⟨t, 0, none⟩) (lt_of_cell h.c0) (fun hk => hne t (by simpa using hk) rfl)).trans h.c0, (ho.frozen (p := ⟨t, 0, none⟩) (lt_of_cell h.c0) (fun hk => hne t (by simpa using hk) rfl)).trans h.fr⟩
  have HNE : Hid (∀ k, vm.ownBlock = some k → k ≠ t) := hne
  obtain ⟨ad, cp, rfl, _⟩ := row_form hm
  have hd : decide (60 < (m.length : Int)) = false := decide_eq_false (by omega)
  clear h hm hne
  go_enter Tryd.func22, Tryd.ntmps22
  go_wp2_with (go_at_call 37; refine hs.mono ?_; rintro e w2 ⟨rfl, m', hp, hsr, hm2, ho2⟩; have HO2 : Hid (Only (Value.slice ad m.length cp).ownBlock.toList w w2) := ho2 _ (fun k hk => by simpa using hk); have HM2 : Hid (Lks w2 base (.slice ad m.length cp) m') := hm2; have HP : Hid (m'.Perm m ∧ SortedL m') := ⟨hp, hsr⟩; obtain ⟨c0, f0⟩ := HC.out w2 HO2.out; have htl := lt_of_cell c0; clear hs hp hsr hm2 ho2)
  go_ret
  have hoT : Only [t] w2 (w2.setCell ⟨t, 0, none⟩ (.slice ad m.length cp)) := (Only.refl [t] w2).setCell (p := ⟨t, 0, none⟩) (Or.inl (List.mem_singleton.2 rfl)) _
  refine ⟨rfl, m', HP.out.1, HP.out.2, ⟨World.cell?_setCell_same w2 _ _ c0, by rw [World.frozen?_setCell]; exact f0, HM2.out.only hoT (fun k hk => by rw [List.mem_singleton]; exact HNE.out k hk), HNE.out⟩, ?_⟩
  exact (HO2.out.mono (fun k hk => Or.inl (List.mem_cons_of_mem _ hk))).trans hoT (fun k hk => Or.inl (by rw [List.mem_singleton.1 hk]; exact List.mem_cons_self))
theorem LkBox.fill {w : World} {b : Nat} {x : Lk} (h : LkBox w b x) (y : Lk) : LkBox (((((((w.setCell ⟨b, 0, none⟩ (.int .i64 y.N)).setCell ⟨b, 1, none⟩ (.int .i64 y.G)).setCell ⟨b, 2, none⟩ (.int .i64 y.O)).setCell ⟨b, 3, none⟩ (.int .i64 y.A)).setCell ⟨b, 4, none⟩ (.int .i64 y.S)).setCell ⟨b, 5, none⟩ (.bool y.W))) b y ∧ Only [b] w (((((((w.setCell ⟨b, 0, none⟩ (.int .i64 y.N)).setCell ⟨b, 1, none⟩ (.int .i64 y.G)).setCell ⟨b, 2, none⟩ (.int .i64 y.O)).setCell ⟨b, 3, none⟩ (.int .i64 y.A)).setCell ⟨b, 4, none⟩ (.int .i64 y.S)).setCell ⟨b, 5, none⟩ (.bool y.W))) := by
  have hb : b ∈ [b] := List.mem_singleton.2 rfl
  refine ⟨?_, ((((((Only.refl [b] w).setCell (p := ⟨b, 0, none⟩) (Or.inl hb) _).setCell (p := ⟨b, 1, none⟩) (Or.inl hb) _).setCell (p := ⟨b, 2, none⟩) (Or.inl hb) _).setCell (p := ⟨b, 3, none⟩) (Or.inl hb) _).setCell (p := ⟨b, 4, none⟩) (Or.inl hb) _).setCell (p := ⟨b, 5, none⟩) (Or.inl hb) _⟩
  have h0 := heap_setCell_same w b 0 _ _ (.int .i64 y.N) h
  have h1 := heap_setCell_same _ b 1 _ _ (.int .i64 y.G) h0
  have h2 := heap_setCell_same _ b 2 _ _ (.int .i64 y.O) h1
  have h3 := heap_setCell_same _ b 3 _ _ (.int .i64 y.A) h2
  have h4 := heap_setCell_same _ b 4 _ _ (.int .i64 y.S) h3
  have h5 := heap_setCell_same _ b 5 _ _ (.bool y.W) h4
  unfold LkBox
  rw [h5]
  rfl
def zeroL : Lk := ⟨0, 0, 0, 0, 0, false⟩
theorem box2_cells {w W : World} {N G A S : Int} (ho : Only [] (((w.alloc (.cells #[.int .i64 N, .int .i64 G] 33)).alloc (.cells #[.int .i64 A, .int .i64 S] 35)).alloc (.cells #[.int .i64 0, .int .i64 0, .int .i64 0, .int .i64 0, .int .i64 0, .bool false] 39)) W) : W.cell? ⟨w.heap.size, 0, none⟩ = some (.int .i64 N) ∧ W.cell? ⟨w.heap.size, 1, none⟩ = some (.int .i64 G) ∧ W.cell? ⟨w.heap.size + 1, 0, none⟩ = some (.int .i64 A) ∧ W.cell? ⟨w.heap.size + 1, 1, none⟩ = some (.int .i64 S) ∧ LkBox W (w.heap.size + 1 + 1) zeroL := by
  have a := four_new w N G A S 33 35
  have o2 : Only [] ((w.alloc (.cells #[.int .i64 N, .int .i64 G] 33)).alloc (.cells #[.int .i64 A, .int .i64 S] 35)) W := only_nil ((Only.refl [] _).alloc _) ho
  have b := Four.only a o2
  refine ⟨b.1, b.2.1, b.2.2.1, b.2.2.2, ?_⟩
  have c := (LkBox.new ((w.alloc (.cells #[.int .i64 N, .int .i64 G] 33)).alloc (.cells #[.int .i64 A, .int .i64 S] 35)) zeroL).only ho (by simp)
  rw [World.size_alloc, World.size_alloc] at c
  exact c
set_option maxRecDepth 100000 in
set_option maxHeartbeats 2000000 in
theorem test_bad (w : World) (t : Nat) (N G O A S : Int) (b : Bool) (E : Value) (hE : w.cell? ⟨0, 0, none⟩ = some E) (hr : rngB A S = false) : Calls Tryd.prog 12 #[.pointer (some ⟨t, 0, none⟩), .agg #[.int .i64 N, .int .i64 G], .int .i64 O, .agg #[.int .i64 A, .int .i64 S], .bool b] w fun e w' => e = .returned (.tuple #[lkV zeroL, E]) ∧ Only [] w w' := by
  have hiR : ∀ W, Calls Tryd.prog 27 #[.agg #[.int .i64 A, .int .i64 S]] W fun e w' => e = .returned (.bool false) ∧ Only [] W w' := fun W => by have := isRange_any A S W; rw [hr] at this; exact this
  have HO : Hid (Only [] w (((w.alloc (.cells #[.int .i64 N, .int .i64 G] 33)).alloc (.cells #[.int .i64 A, .int .i64 S] 35)).alloc (.cells #[.int .i64 0, .int .i64 0, .int .i64 0, .int .i64 0, .int .i64 0, .bool false] 39))) := (((Only.refl [] w).alloc _).alloc _).alloc _
  have HEE : Hid (∀ W, Only [] w W → W.cell? ⟨0, 0, none⟩ = some E) := fun W ho => (ho.cell (p := ⟨0, 0, none⟩) (lt_of_cell hE) (by simp)).trans hE
  clear hr hE
  go_enter Tryd.func12, Tryd.ntmps12
  go_wp2_with (go_at_call 27; refine (hiR _).mono ?_; rintro e w2 ⟨rfl, ho2⟩; have HO2 : Hid (Only [] (((w.alloc (.cells #[.int .i64 N, .int .i64 G] 33)).alloc (.cells #[.int .i64 A, .int .i64 S] 35)).alloc (.cells #[.int .i64 0, .int .i64 0, .int .i64 0, .int .i64 0, .int .i64 0, .bool false] 39)) w2) := ho2; have HW2 : Hid (Only [] w w2) := only_nil HO.out ho2; clear hiR ho2)
  obtain ⟨_, _, _, _, hz⟩ := box2_cells HO2.out
  have HZ : Hid (LkBox w2 (w.heap.size + 1 + 1) zeroL) := hz
  obtain ⟨d0, d1, d2, d3, d4, d5⟩ := hz.cells
  have z0 := hz.frozen 0
  have z1 := hz.frozen 1
  have z2 := hz.frozen 2
  have z3 := hz.frozen 3
  have z4 := hz.frozen 4
  have z5 := hz.frozen 5
  have hE2 := HEE.out w2 HW2.out
  have hEl := lt_of_cell hE2
  clear hz
  go_region
  all_goals go_wp2
  all_goals (
    have hfill := HZ.out.fill zeroL
    have HOF : Hid (Only [] w (((((((w2.setCell ⟨w.heap.size + 1 + 1, 0, none⟩ (.int .i64 0)).setCell ⟨w.heap.size + 1 + 1, 1, none⟩ (.int .i64 0)).setCell ⟨w.heap.size + 1 + 1, 2, none⟩ (.int .i64 0)).setCell ⟨w.heap.size + 1 + 1, 3, none⟩ (.int .i64 0)).setCell ⟨w.heap.size + 1 + 1, 4, none⟩ (.int .i64 0)).setCell ⟨w.heap.size + 1 + 1, 5, none⟩ (.bool false))).drew) := (HW2.out.trans hfill.2 (fun k hk => Or.inr (by rw [List.mem_singleton.1 hk]; omega))).drew
    have hIF := (hfill.1.only (Only.refl [] _).drew (by simp)).cells
    clear hfill d0 d1 d2 d3 d4 d5 z0 z1 z2 z3 z4 z5
    change LkIn (((((((w2.setCell ⟨w.heap.size + 1 + 1, 0, none⟩ (.int .i64 0)).setCell ⟨w.heap.size + 1 + 1, 1, none⟩ (.int .i64 0)).setCell ⟨w.heap.size + 1 + 1, 2, none⟩ (.int .i64 0)).setCell ⟨w.heap.size + 1 + 1, 3, none⟩ (.int .i64 0)).setCell ⟨w.heap.size + 1 + 1, 4, none⟩ (.int .i64 0)).setCell ⟨w.heap.size + 1 + 1, 5, none⟩ (.bool false))).drew _ zeroL at hIF
    generalize (((((((w2.setCell ⟨w.heap.size + 1 + 1, 0, none⟩ (.int .i64 0)).setCell ⟨w.heap.size + 1 + 1, 1, none⟩ (.int .i64 0)).setCell ⟨w.heap.size + 1 + 1, 2, none⟩ (.int .i64 0)).setCell ⟨w.heap.size + 1 + 1, 3, none⟩ (.int .i64 0)).setCell ⟨w.heap.size + 1 + 1, 4, none⟩ (.int .i64 0)).setCell ⟨w.heap.size + 1 + 1, 5, none⟩ (.bool false))).drew = wf at HOF hIF ⊢
    obtain ⟨k0, k1, k2, k3, k4, k5⟩ := hIF
    refine bodyPost_ret (v := .tuple #[lkV zeroL, E]) (by simp [results, Tryd.results12, go_sem, k0, k1, k2, k3, k4, k5, lkV]) rfl ⟨rfl, HOF.out⟩)
end Go.Proofs.YtfnniphemlnanaaDoor
