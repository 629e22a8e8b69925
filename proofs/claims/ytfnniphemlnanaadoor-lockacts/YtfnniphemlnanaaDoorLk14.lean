/- Locks: a table's functions: Test. -/
import Derived.Test.YtfnniphemlnanaaDoorLk13
namespace Go.Proofs.YtfnniphemlnanaaDoor
open Go Go.RowKit Go.Deep

set_option maxRecDepth 100000 in
set_option maxHeartbeats 4000000 in
theorem test_free (w : World) (base t : Nat) (vT : Value) (l : List Lk) (N G O A S : Int) (b : Bool) (h : TbAt w base t vT l) (hl : l.length ≤ 100) (hok : ∀ x ∈ l, x.Ok) (hr : rngB A S = true) (hno : ∀ x ∈ l, agB ⟨N, G, O, A, S, b⟩ x = false) : Calls Tryd.prog 12 #[.pointer (some ⟨t, 0, none⟩), .agg #[.int .i64 N, .int .i64 G], .int .i64 O, .agg #[.int .i64 A, .int .i64 S], .bool b] w fun e w' => e = .returned (.tuple #[lkV zeroL, .nilIface]) ∧ Only [] w w' := by
  have hiR : ∀ W, Calls Tryd.prog 27 #[.agg #[.int .i64 A, .int .i64 S]] W fun e w' => e = .returned (.bool true) ∧ Only [] W w' := fun W => by have := isRange_any A S W; rw [hr] at this; exact this
  have HV : Hid ((⟨N, G, O, A, S, b⟩ : Lk).Ok) := rngB_ok hr
  have HO : Hid (Only [] w (((w.alloc (.cells #[.int .i64 N, .int .i64 G] 33)).alloc (.cells #[.int .i64 A, .int .i64 S] 35)).alloc (.cells #[.int .i64 0, .int .i64 0, .int .i64 0, .int .i64 0, .int .i64 0, .bool false] 39))) := (((Only.refl [] w).alloc _).alloc _).alloc _
  have HAG : Hid (∀ W, Calls Tryd.prog 29 #[.agg #[.int .i64 N, .int .i64 G, .int .i64 O, .int .i64 A, .int .i64 S, .bool b]] W fun e w' => ∃ q, e = .returned (.func (.func 43) #[] #[.pointer (some ⟨q, 0, none⟩)]) ∧ TestOf w' [] 43 #[.pointer (some ⟨q, 0, none⟩)] (agB ⟨N, G, O, A, S, b⟩) ∧ Only [] W w') := fun W => (against_any W ⟨N, G, O, A, S, b⟩ HV.out [] (fun _ hk => by cases hk)).mono fun e w' hh => by
    obtain ⟨q, h1, h2, h3⟩ := hh
    exact ⟨q, h1, h2, by rw [h3]; exact (Only.refl [] W).alloc _⟩
  have HT : Hid (TbAt w base t vT l) := h
  have HIX : Hid (∀ W q, Only [] w W → TestOf W [] 43 #[.pointer (some ⟨q, 0, none⟩)] (agB ⟨N, G, O, A, S, b⟩) → Calls Tryd.prog 28 #[vT, .func (.func 43) #[] #[.pointer (some ⟨q, 0, none⟩)]] W fun e w' => e = .returned (.int .i64 (-1)) ∧ Only [] W w') := fun W q ho ht => (index_against W base _ _ vT l (h.only ho).own (by omega) hok [] ht).mono fun e w' hh => by
    obtain ⟨r, he, hf, ho'⟩ := hh
    rcases hf with ⟨rfl, _⟩ | ⟨i, rfl, x, hx, hp, _⟩
    · exact ⟨he, ho'⟩
    · rw [hno x (List.mem_of_getElem? hx)] at hp
      cases hp
  clear hr h hl hok hno
  go_enter Tryd.func12, Tryd.ntmps12
  go_upto_region 3 with (go_at_call 27; refine (hiR _).mono ?_; rintro e w2 ⟨rfl, ho2⟩; have HO2 : Hid (Only [] (((w.alloc (.cells #[.int .i64 N, .int .i64 G] 33)).alloc (.cells #[.int .i64 A, .int .i64 S] 35)).alloc (.cells #[.int .i64 0, .int .i64 0, .int .i64 0, .int .i64 0, .int .i64 0, .bool false] 39)) w2) := ho2; have HW2 : Hid (Only [] w w2) := only_nil HO.out ho2; clear hiR ho2)
  obtain ⟨b0, b1, b2, b3, hz⟩ := box2_cells HO2.out
  have HZ : Hid (LkBox w2 (w.heap.size + 1 + 1) zeroL) := hz
  clear hz
  have HI : Hid (LkIn (w2.alloc (.cells #[.int .i64 N, .int .i64 G, .int .i64 O, .int .i64 A, .int .i64 S, .bool b] 39)) w2.heap.size ⟨N, G, O, A, S, b⟩) := LkIn.new w2 ⟨N, G, O, A, S, b⟩ 39
  have HWA : Hid (Only [] w (w2.alloc (.cells #[.int .i64 N, .int .i64 G, .int .i64 O, .int .i64 A, .int .i64 S, .bool b] 39))) := HW2.out.alloc _
  have HZA : Hid (LkBox (w2.alloc (.cells #[.int .i64 N, .int .i64 G, .int .i64 O, .int .i64 A, .int .i64 S, .bool b] 39)) (w.heap.size + 1 + 1) zeroL) := HZ.out.only ((Only.refl [] _).alloc _) (by simp)
  go_upto_region 4 with fail
  obtain ⟨D, hD⟩ : ∃ D, w2.heap.size = D := ⟨_, rfl⟩
  generalize w2.alloc (.cells #[.int .i64 N, .int .i64 G, .int .i64 O, .int .i64 A, .int .i64 S, .bool b] 39) = wq at HI HWA HZA ⊢
  rw [hD] at HI ⊢
  clear b0 b1 b2 b3 hD
  have HS : Hid (∀ W, Only [] wq W → W.cell? ⟨t, 0, none⟩ = some vT ∧ W.cell? ⟨D, 0, none⟩ = some (.int .i64 N) ∧ W.cell? ⟨D, 1, none⟩ = some (.int .i64 G) ∧ W.cell? ⟨D, 2, none⟩ = some (.int .i64 O) ∧ W.cell? ⟨D, 3, none⟩ = some (.int .i64 A) ∧ W.cell? ⟨D, 4, none⟩ = some (.int .i64 S) ∧ W.cell? ⟨D, 5, none⟩ = some (.bool b)) := fun W ho => ⟨(HT.out.only (only_nil HWA.out ho)).c0, HI.out.only ho (by simp)⟩
  have HS0 : Hid (wq.drew.cell? ⟨t, 0, none⟩ = some vT ∧ wq.drew.cell? ⟨D, 0, none⟩ = some (.int .i64 N) ∧ wq.drew.cell? ⟨D, 1, none⟩ = some (.int .i64 G) ∧ wq.drew.cell? ⟨D, 2, none⟩ = some (.int .i64 O) ∧ wq.drew.cell? ⟨D, 3, none⟩ = some (.int .i64 A) ∧ wq.drew.cell? ⟨D, 4, none⟩ = some (.int .i64 S) ∧ wq.drew.cell? ⟨D, 5, none⟩ = some (.bool b)) := HS.out _ (Only.refl [] wq).drew
  have HD0 : Hid (Only [] wq wq.drew) := (Only.refl [] wq).drew
  have htl := lt_of_cell HS0.out.1
  have htl2 : t < wq.heap.size := htl
  clear htl
  go_region_held3 (fun W => W.cell? ⟨t, 0, none⟩ = some vT ∧ W.cell? ⟨D, 0, none⟩ = some (.int .i64 N) ∧ W.cell? ⟨D, 1, none⟩ = some (.int .i64 G) ∧ W.cell? ⟨D, 2, none⟩ = some (.int .i64 O) ∧ W.cell? ⟨D, 3, none⟩ = some (.int .i64 A) ∧ W.cell? ⟨D, 4, none⟩ = some (.int .i64 S) ∧ W.cell? ⟨D, 5, none⟩ = some (.bool b)) (with_reducible first | exact HS0.out | exact HS5.out | exact HS6.out)
    (first
      | (go_at_call 29; refine (HAG.out _).mono ?_; rintro e w5 ⟨q5, rfl, ht5, ho5⟩; have HT5 : Hid (TestOf w5 [] 43 #[.pointer (some ⟨q5, 0, none⟩)] (agB ⟨N, G, O, A, S, b⟩)) := ht5; have HQ5 : Hid (Only [] wq w5) := only_nil HD0.out ho5; have HS5 : Hid (w5.cell? ⟨t, 0, none⟩ = some vT ∧ w5.cell? ⟨D, 0, none⟩ = some (.int .i64 N) ∧ w5.cell? ⟨D, 1, none⟩ = some (.int .i64 G) ∧ w5.cell? ⟨D, 2, none⟩ = some (.int .i64 O) ∧ w5.cell? ⟨D, 3, none⟩ = some (.int .i64 A) ∧ w5.cell? ⟨D, 4, none⟩ = some (.int .i64 S) ∧ w5.cell? ⟨D, 5, none⟩ = some (.bool b)) := HS.out w5 HQ5.out; clear ht5 ho5)
      | (go_at_call 28; refine (HIX.out w5 q5 (only_nil HWA.out HQ5.out) HT5.out).mono ?_; rintro e w6 ⟨rfl, ho6⟩; have HQ6 : Hid (Only [] wq w6) := only_nil HQ5.out ho6; have HS6 : Hid (w6.cell? ⟨t, 0, none⟩ = some vT ∧ w6.cell? ⟨D, 0, none⟩ = some (.int .i64 N) ∧ w6.cell? ⟨D, 1, none⟩ = some (.int .i64 G) ∧ w6.cell? ⟨D, 2, none⟩ = some (.int .i64 O) ∧ w6.cell? ⟨D, 3, none⟩ = some (.int .i64 A) ∧ w6.cell? ⟨D, 4, none⟩ = some (.int .i64 S) ∧ w6.cell? ⟨D, 5, none⟩ = some (.bool b)) := HS.out w6 HQ6.out; clear ho6))
  have HZ6 : Hid (LkBox w6 (w.heap.size + 1 + 1) zeroL) := HZA.out.only HQ6.out (by simp)
  have HW6 : Hid (Only [] w w6) := only_nil HWA.out HQ6.out
  obtain ⟨d0, d1, d2, d3, d4, d5⟩ := HZ6.out.cells
  have z0 := HZ6.out.frozen 0
  have z1 := HZ6.out.frozen 1
  have z2 := HZ6.out.frozen 2
  have z3 := HZ6.out.frozen 3
  have z4 := HZ6.out.frozen 4
  have z5 := HZ6.out.frozen 5
  go_wp2
  have hfill := HZ6.out.fill zeroL
  have HOF : Hid (Only [] w ((((((w6.setCell ⟨w.heap.size + 1 + 1, 0, none⟩ (.int .i64 0)).setCell ⟨w.heap.size + 1 + 1, 1, none⟩ (.int .i64 0)).setCell ⟨w.heap.size + 1 + 1, 2, none⟩ (.int .i64 0)).setCell ⟨w.heap.size + 1 + 1, 3, none⟩ (.int .i64 0)).setCell ⟨w.heap.size + 1 + 1, 4, none⟩ (.int .i64 0)).setCell ⟨w.heap.size + 1 + 1, 5, none⟩ (.bool false))) := HW6.out.trans hfill.2 (fun k hk => Or.inr (by rw [List.mem_singleton.1 hk]; omega))
  have hIF := hfill.1.cells
  clear hfill d0 d1 d2 d3 d4 d5 z0 z1 z2 z3 z4 z5
  change LkIn ((((((w6.setCell ⟨w.heap.size + 1 + 1, 0, none⟩ (.int .i64 0)).setCell ⟨w.heap.size + 1 + 1, 1, none⟩ (.int .i64 0)).setCell ⟨w.heap.size + 1 + 1, 2, none⟩ (.int .i64 0)).setCell ⟨w.heap.size + 1 + 1, 3, none⟩ (.int .i64 0)).setCell ⟨w.heap.size + 1 + 1, 4, none⟩ (.int .i64 0)).setCell ⟨w.heap.size + 1 + 1, 5, none⟩ (.bool false)) _ zeroL at hIF
  generalize ((((((w6.setCell ⟨w.heap.size + 1 + 1, 0, none⟩ (.int .i64 0)).setCell ⟨w.heap.size + 1 + 1, 1, none⟩ (.int .i64 0)).setCell ⟨w.heap.size + 1 + 1, 2, none⟩ (.int .i64 0)).setCell ⟨w.heap.size + 1 + 1, 3, none⟩ (.int .i64 0)).setCell ⟨w.heap.size + 1 + 1, 4, none⟩ (.int .i64 0)).setCell ⟨w.heap.size + 1 + 1, 5, none⟩ (.bool false)) = wf at HOF hIF ⊢
  obtain ⟨k0, k1, k2, k3, k4, k5⟩ := hIF
  refine bodyPost_ret (v := .tuple #[lkV zeroL, .nilIface]) (by simp [results, Tryd.results12, go_sem, k0, k1, k2, k3, k4, k5, lkV]) rfl ⟨rfl, HOF.out⟩
set_option maxRecDepth 100000 in
set_option maxHeartbeats 4000000 in
theorem test_held (w : World) (base t : Nat) (vT E : Value) (l : List Lk) (N G O A S : Int) (b : Bool) (i : Nat) (x : Lk) (h : TbAt w base t vT l) (hl : l.length ≤ 100) (hok : ∀ x ∈ l, x.Ok) (hr : rngB A S = true) (hE : w.cell? ⟨1, 0, none⟩ = some E) (hx : l[i]? = some x) (hp : agB ⟨N, G, O, A, S, b⟩ x = true) (hfst : ∀ j y, j < i → l[j]? = some y → agB ⟨N, G, O, A, S, b⟩ y = false) : Calls Tryd.prog 12 #[.pointer (some ⟨t, 0, none⟩), .agg #[.int .i64 N, .int .i64 G], .int .i64 O, .agg #[.int .i64 A, .int .i64 S], .bool b] w fun e w' => e = .returned (.tuple #[lkV x, E]) ∧ Only [] w w' := by
  have HX : Hid (l[i]? = some x) := hx
  have HEE : Hid (∀ W, Only [] w W → W.cell? ⟨1, 0, none⟩ = some E) := fun W ho => (ho.cell (p := ⟨1, 0, none⟩) (lt_of_cell hE) (by simp)).trans hE
  have hil : i < l.length := (List.getElem?_eq_some_iff.1 hx).1
  have hi100 : i < 100 := by omega
  have hiR : ∀ W, Calls Tryd.prog 27 #[.agg #[.int .i64 A, .int .i64 S]] W fun e w' => e = .returned (.bool true) ∧ Only [] W w' := fun W => by have := isRange_any A S W; rw [hr] at this; exact this
  have HV : Hid ((⟨N, G, O, A, S, b⟩ : Lk).Ok) := rngB_ok hr
  have HO : Hid (Only [] w (((w.alloc (.cells #[.int .i64 N, .int .i64 G] 33)).alloc (.cells #[.int .i64 A, .int .i64 S] 35)).alloc (.cells #[.int .i64 0, .int .i64 0, .int .i64 0, .int .i64 0, .int .i64 0, .bool false] 39))) := (((Only.refl [] w).alloc _).alloc _).alloc _
  have HAG : Hid (∀ W, Calls Tryd.prog 29 #[.agg #[.int .i64 N, .int .i64 G, .int .i64 O, .int .i64 A, .int .i64 S, .bool b]] W fun e w' => ∃ q, e = .returned (.func (.func 43) #[] #[.pointer (some ⟨q, 0, none⟩)]) ∧ TestOf w' [] 43 #[.pointer (some ⟨q, 0, none⟩)] (agB ⟨N, G, O, A, S, b⟩) ∧ Only [] W w') := fun W => (against_any W ⟨N, G, O, A, S, b⟩ HV.out [] (fun _ hk => by cases hk)).mono fun e w' hh => by
    obtain ⟨q, h1, h2, h3⟩ := hh
    exact ⟨q, h1, h2, by rw [h3]; exact (Only.refl [] W).alloc _⟩
  have HT : Hid (TbAt w base t vT l) := h
  have HIX : Hid (∀ W q, Only [] w W → TestOf W [] 43 #[.pointer (some ⟨q, 0, none⟩)] (agB ⟨N, G, O, A, S, b⟩) → Calls Tryd.prog 28 #[vT, .func (.func 43) #[] #[.pointer (some ⟨q, 0, none⟩)]] W fun e w' => e = .returned (.int .i64 i) ∧ Only [] W w') := fun W q ho ht => (index_against W base _ _ vT l (h.only ho).own (by omega) hok [] ht).mono fun e w' hh => by
    obtain ⟨r, he, hf, ho'⟩ := hh
    rcases hf with ⟨_, hn⟩ | ⟨k, rfl, y, hy, hq, hn⟩
    · rw [hn x (List.mem_of_getElem? hx)] at hp
      cases hp
    · have : k = i := by
        rcases Nat.lt_trichotomy k i with hlt | hlt | hlt
        · rw [hfst k y hlt hy] at hq; cases hq
        · exact hlt
        · rw [hn i x hlt hx] at hp; cases hp
      subst this
      exact ⟨he, ho'⟩
  clear hr h hok hE hx hp hfst
  go_enter Tryd.func12, Tryd.ntmps12
  go_upto_region 3 with (go_at_call 27; refine (hiR _).mono ?_; rintro e w2 ⟨rfl, ho2⟩; have HO2 : Hid (Only [] (((w.alloc (.cells #[.int .i64 N, .int .i64 G] 33)).alloc (.cells #[.int .i64 A, .int .i64 S] 35)).alloc (.cells #[.int .i64 0, .int .i64 0, .int .i64 0, .int .i64 0, .int .i64 0, .bool false] 39)) w2) := ho2; have HW2 : Hid (Only [] w w2) := only_nil HO.out ho2; clear hiR ho2)
  obtain ⟨b0, b1, b2, b3, hz⟩ := box2_cells HO2.out
  have HZ : Hid (LkBox w2 (w.heap.size + 1 + 1) zeroL) := hz
  clear hz
  have HI : Hid (LkIn (w2.alloc (.cells #[.int .i64 N, .int .i64 G, .int .i64 O, .int .i64 A, .int .i64 S, .bool b] 39)) w2.heap.size ⟨N, G, O, A, S, b⟩) := LkIn.new w2 ⟨N, G, O, A, S, b⟩ 39
  have HWA : Hid (Only [] w (w2.alloc (.cells #[.int .i64 N, .int .i64 G, .int .i64 O, .int .i64 A, .int .i64 S, .bool b] 39))) := HW2.out.alloc _
  have HZA : Hid (LkBox (w2.alloc (.cells #[.int .i64 N, .int .i64 G, .int .i64 O, .int .i64 A, .int .i64 S, .bool b] 39)) (w.heap.size + 1 + 1) zeroL) := HZ.out.only ((Only.refl [] _).alloc _) (by simp)
  go_upto_region 4 with fail
  obtain ⟨D, hD⟩ : ∃ D, w2.heap.size = D := ⟨_, rfl⟩
  generalize w2.alloc (.cells #[.int .i64 N, .int .i64 G, .int .i64 O, .int .i64 A, .int .i64 S, .bool b] 39) = wq at HI HWA HZA ⊢
  rw [hD] at HI ⊢
  clear b0 b1 b2 b3 hD
  have HS : Hid (∀ W, Only [] wq W → W.cell? ⟨t, 0, none⟩ = some vT ∧ W.cell? ⟨D, 0, none⟩ = some (.int .i64 N) ∧ W.cell? ⟨D, 1, none⟩ = some (.int .i64 G) ∧ W.cell? ⟨D, 2, none⟩ = some (.int .i64 O) ∧ W.cell? ⟨D, 3, none⟩ = some (.int .i64 A) ∧ W.cell? ⟨D, 4, none⟩ = some (.int .i64 S) ∧ W.cell? ⟨D, 5, none⟩ = some (.bool b)) := fun W ho => ⟨(HT.out.only (only_nil HWA.out ho)).c0, HI.out.only ho (by simp)⟩
  have HS0 : Hid (wq.drew.cell? ⟨t, 0, none⟩ = some vT ∧ wq.drew.cell? ⟨D, 0, none⟩ = some (.int .i64 N) ∧ wq.drew.cell? ⟨D, 1, none⟩ = some (.int .i64 G) ∧ wq.drew.cell? ⟨D, 2, none⟩ = some (.int .i64 O) ∧ wq.drew.cell? ⟨D, 3, none⟩ = some (.int .i64 A) ∧ wq.drew.cell? ⟨D, 4, none⟩ = some (.int .i64 S) ∧ wq.drew.cell? ⟨D, 5, none⟩ = some (.bool b)) := HS.out _ (Only.refl [] wq).drew
  have HD0 : Hid (Only [] wq wq.drew) := (Only.refl [] wq).drew
  have htl := lt_of_cell HS0.out.1
  have htl2 : t < wq.heap.size := htl
  clear htl
  go_region_held3 (fun W => W.cell? ⟨t, 0, none⟩ = some vT ∧ W.cell? ⟨D, 0, none⟩ = some (.int .i64 N) ∧ W.cell? ⟨D, 1, none⟩ = some (.int .i64 G) ∧ W.cell? ⟨D, 2, none⟩ = some (.int .i64 O) ∧ W.cell? ⟨D, 3, none⟩ = some (.int .i64 A) ∧ W.cell? ⟨D, 4, none⟩ = some (.int .i64 S) ∧ W.cell? ⟨D, 5, none⟩ = some (.bool b)) (with_reducible first | exact HS0.out | exact HS5.out | exact HS6.out)
    (first
      | (go_at_call 29; refine (HAG.out _).mono ?_; rintro e w5 ⟨q5, rfl, ht5, ho5⟩; have HT5 : Hid (TestOf w5 [] 43 #[.pointer (some ⟨q5, 0, none⟩)] (agB ⟨N, G, O, A, S, b⟩)) := ht5; have HQ5 : Hid (Only [] wq w5) := only_nil HD0.out ho5; have HS5 : Hid (w5.cell? ⟨t, 0, none⟩ = some vT ∧ w5.cell? ⟨D, 0, none⟩ = some (.int .i64 N) ∧ w5.cell? ⟨D, 1, none⟩ = some (.int .i64 G) ∧ w5.cell? ⟨D, 2, none⟩ = some (.int .i64 O) ∧ w5.cell? ⟨D, 3, none⟩ = some (.int .i64 A) ∧ w5.cell? ⟨D, 4, none⟩ = some (.int .i64 S) ∧ w5.cell? ⟨D, 5, none⟩ = some (.bool b)) := HS.out w5 HQ5.out; clear ht5 ho5)
      | (go_at_call 28; refine (HIX.out w5 q5 (only_nil HWA.out HQ5.out) HT5.out).mono ?_; rintro e w6 ⟨rfl, ho6⟩; have HQ6 : Hid (Only [] wq w6) := only_nil HQ5.out ho6; have HS6 : Hid (w6.cell? ⟨t, 0, none⟩ = some vT ∧ w6.cell? ⟨D, 0, none⟩ = some (.int .i64 N) ∧ w6.cell? ⟨D, 1, none⟩ = some (.int .i64 G) ∧ w6.cell? ⟨D, 2, none⟩ = some (.int .i64 O) ∧ w6.cell? ⟨D, 3, none⟩ = some (.int .i64 A) ∧ w6.cell? ⟨D, 4, none⟩ = some (.int .i64 S) ∧ w6.cell? ⟨D, 5, none⟩ = some (.bool b)) := HS.out w6 HQ6.out; clear ho6))
  have HZ6 : Hid (LkBox w6 (w.heap.size + 1 + 1) zeroL) := HZA.out.only HQ6.out (by simp)
  have HW6 : Hid (Only [] w w6) := only_nil HWA.out HQ6.out
  have hT6 := HT.out.only HW6.out
  have hc0 := hT6.c0
  obtain ⟨ad, cp, rfl, had, _⟩ := row_form HT.out.own
  obtain ⟨gT, rfl⟩ := had (fun e => by have := HX.out; rw [e] at this; cases this)
  obtain ⟨c0, c1, c2, c3, c4, c5⟩ := lk_cells hT6.own rfl HX.out
  obtain ⟨d0, d1, d2, d3, d4, d5⟩ := HZ6.out.cells
  have z0 := HZ6.out.frozen 0
  have z1 := HZ6.out.frozen 1
  have z2 := HZ6.out.frozen 2
  have z3 := HZ6.out.frozen 3
  have z4 := HZ6.out.frozen 4
  have z5 := HZ6.out.frozen 5
  have hE6 := HEE.out w6 HW6.out
  have hEl := lt_of_cell hE6
  have htl3 := lt_of_cell hc0
  have hil2 : (i : Int) < l.length := by omega
  clear hT6 had
  go_wp2
  go_region
  all_goals go_wp2
  all_goals (
    have hfill := HZ6.out.fill x
    have HOF : Hid (Only [] w ((((((w6.setCell ⟨w.heap.size + 1 + 1, 0, none⟩ (.int .i64 x.N)).setCell ⟨w.heap.size + 1 + 1, 1, none⟩ (.int .i64 x.G)).setCell ⟨w.heap.size + 1 + 1, 2, none⟩ (.int .i64 x.O)).setCell ⟨w.heap.size + 1 + 1, 3, none⟩ (.int .i64 x.A)).setCell ⟨w.heap.size + 1 + 1, 4, none⟩ (.int .i64 x.S)).setCell ⟨w.heap.size + 1 + 1, 5, none⟩ (.bool x.W)).drew) := (HW6.out.trans hfill.2 (fun k hk => Or.inr (by rw [List.mem_singleton.1 hk]; omega))).drew
    have hIF := (hfill.1.only (Only.refl [] _).drew (by simp)).cells
    clear hfill d0 d1 d2 d3 d4 d5 z0 z1 z2 z3 z4 z5 c0 c1 c2 c3 c4 c5 hc0 hE6
    generalize ((((((w6.setCell ⟨w.heap.size + 1 + 1, 0, none⟩ (.int .i64 x.N)).setCell ⟨w.heap.size + 1 + 1, 1, none⟩ (.int .i64 x.G)).setCell ⟨w.heap.size + 1 + 1, 2, none⟩ (.int .i64 x.O)).setCell ⟨w.heap.size + 1 + 1, 3, none⟩ (.int .i64 x.A)).setCell ⟨w.heap.size + 1 + 1, 4, none⟩ (.int .i64 x.S)).setCell ⟨w.heap.size + 1 + 1, 5, none⟩ (.bool x.W)).drew = wf at HOF hIF ⊢
    obtain ⟨k0, k1, k2, k3, k4, k5⟩ := hIF
    refine bodyPost_ret (v := .tuple #[lkV x, E]) (by simp [results, Tryd.results12, go_sem, k0, k1, k2, k3, k4, k5, lkV]) rfl ⟨rfl, HOF.out⟩)
end Go.Proofs.YtfnniphemlnanaaDoor
