/- Shares: Open. -/
import Derived.Test.YtagpahgjbglmaaaDoorSh19
namespace Go.Proofs.YtagpahgjbglmaaaDoor
open Go Go.RowKit Go.Deep

theorem SixT.only {w W : World} {t B : Nat} {v : Value} {N G O a d : Int} (h : w.cell? ⟨t, 0, none⟩ = some v ∧ w.cell? ⟨B, 0, none⟩ = some (.int .i64 N) ∧ w.cell? ⟨B, 1, none⟩ = some (.int .i64 G) ∧ w.cell? ⟨B, 2, none⟩ = some (.int .i64 O) ∧ w.cell? ⟨B, 3, none⟩ = some (.int .i64 a) ∧ w.cell? ⟨B, 4, none⟩ = some (.int .i64 d)) (ho : Only [] w W) : W.cell? ⟨t, 0, none⟩ = some v ∧ W.cell? ⟨B, 0, none⟩ = some (.int .i64 N) ∧ W.cell? ⟨B, 1, none⟩ = some (.int .i64 G) ∧ W.cell? ⟨B, 2, none⟩ = some (.int .i64 O) ∧ W.cell? ⟨B, 3, none⟩ = some (.int .i64 a) ∧ W.cell? ⟨B, 4, none⟩ = some (.int .i64 d) :=
  ⟨(ho.cell (p := ⟨t, 0, none⟩) (lt_of_cell h.1) (by simp)).trans h.1, (ho.cell (p := ⟨B, 0, none⟩) (lt_of_cell h.2.1) (by simp)).trans h.2.1, (ho.cell (p := ⟨B, 1, none⟩) (lt_of_cell h.2.2.1) (by simp)).trans h.2.2.1, (ho.cell (p := ⟨B, 2, none⟩) (lt_of_cell h.2.2.2.1) (by simp)).trans h.2.2.2.1, (ho.cell (p := ⟨B, 3, none⟩) (lt_of_cell h.2.2.2.2.1) (by simp)).trans h.2.2.2.2.1, (ho.cell (p := ⟨B, 4, none⟩) (lt_of_cell h.2.2.2.2.2) (by simp)).trans h.2.2.2.2.2⟩
theorem both_hands {w W : World} {N G O a d : Int} (ho : Only [] ((w.alloc (.cells #[.int .i64 N, .int .i64 G] 33)).alloc (.cells #[.int .i64 N, .int .i64 G, .int .i64 O, .int .i64 a, .int .i64 d] 52)) W) : W.cell? ⟨w.heap.size, 0, none⟩ = some (.int .i64 N) ∧ W.cell? ⟨w.heap.size, 1, none⟩ = some (.int .i64 G) :=
  hand_cells (((Only.refl [] (w.alloc (.cells #[.int .i64 N, .int .i64 G] 33))).alloc _).trans ho (fun _ hk => by cases hk)) (by simp)
set_option maxHeartbeats 1000000 in
theorem open_bound (w : World) (t : Nat) (N G O a d : Int) (E : Value) (hE : w.cell? ⟨0, 0, none⟩ = some E) (hb : (accB a && denB d) = false) :
    Calls Tryd.prog 6 #[.pointer (some ⟨t, 0, none⟩), .agg #[.int .i64 N, .int .i64 G], .int .i64 O, .int .i64 a, .int .i64 d] w fun e w' => e = .returned E ∧ Only [] w w' := by
  have o1 : Only [] w (w.alloc (.cells #[.int .i64 N, .int .i64 G] 33)) := (Only.refl [] w).alloc _
  have hE2 : (w.alloc (.cells #[.int .i64 N, .int .i64 G] 33)).cell? ⟨0, 0, none⟩ = some E := (o1.cell (p := ⟨0, 0, none⟩) (lt_of_cell hE) (by simp)).trans hE
  have HO1 : Hid (Only [] w (w.alloc (.cells #[.int .i64 N, .int .i64 G] 33))) := o1
  clear o1
  cases hac : accB a with
  | false =>
    have HA : Hid (∀ W, Calls Tryd.prog 24 #[.int .i64 a] W fun e w' => e = .returned (.bool false) ∧ W = w') := fun W => by have := isAccess_any a W; rw [hac] at this; exact this
    go_enter Tryd.func6, Tryd.ntmps6
    go_wp2_with (first | (go_at_call 24; refine (HA.out _).mono ?_; rintro e w3 ⟨rfl, rfl⟩) | go_in)
    go_ret
    exact ⟨rfl, HO1.out⟩
  | true =>
    have hdn : denB d = false := by rw [hac] at hb; simpa using hb
    have HA : Hid (∀ W, Calls Tryd.prog 24 #[.int .i64 a] W fun e w' => e = .returned (.bool true) ∧ W = w') := fun W => by have := isAccess_any a W; rw [hac] at this; exact this
    have HDN : Hid (∀ W, Calls Tryd.prog 25 #[.int .i64 d] W fun e w' => e = .returned (.bool false) ∧ W = w') := fun W => by have := isDeny_any d W; rw [hdn] at this; exact this
    go_enter Tryd.func6, Tryd.ntmps6
    go_wp2_with (first | (go_at_call 24; refine (HA.out _).mono ?_; rintro e w3 ⟨rfl, rfl⟩) | (go_at_call 25; refine (HDN.out _).mono ?_; rintro e w4 ⟨rfl, rfl⟩) | go_in)
    go_ret
    exact ⟨rfl, HO1.out⟩
set_option maxRecDepth 100000 in
set_option maxHeartbeats 2000000 in
theorem open_held (w : World) (base t : Nat) (v : Value) (l : List Opn) (N G O a d : Int) (E : Value) (h : ShAt w base t v l) (hg : GoodO l) (hE : w.cell? ⟨1, 0, none⟩ = some E) (hb : (accB a && denB d) = true) (hany : l.any (agB N G O a d) = true) :
    Calls Tryd.prog 6 #[.pointer (some ⟨t, 0, none⟩), .agg #[.int .i64 N, .int .i64 G], .int .i64 O, .int .i64 a, .int .i64 d] w fun e w' => e = .returned E ∧ Only [] w w' := by
  have o1 : Only [] w ((w.alloc (.cells #[.int .i64 N, .int .i64 G] 33)).alloc (.cells #[.int .i64 N, .int .i64 G, .int .i64 O, .int .i64 a, .int .i64 d] 52)) := ((Only.refl [] w).alloc _).alloc _
  have HO1 : Hid (Only [] w ((w.alloc (.cells #[.int .i64 N, .int .i64 G] 33)).alloc (.cells #[.int .i64 N, .int .i64 G, .int .i64 O, .int .i64 a, .int .i64 d] 52))) := o1
  obtain ⟨hac, hdn, hra, hrd⟩ := acc_of hb
  have HA : Hid (∀ W, Calls Tryd.prog 24 #[.int .i64 a] W fun e w' => e = .returned (.bool true) ∧ W = w') := fun W => by have := isAccess_any a W; rw [hac] at this; exact this
  have HDN : Hid (∀ W, Calls Tryd.prog 25 #[.int .i64 d] W fun e w' => e = .returned (.bool true) ∧ W = w') := fun W => by have := isDeny_any d W; rw [hdn] at this; exact this
  have HAG : Hid (∀ W, _) := fun W => against_test W N G O a d ⟨by omega, by omega⟩ hrd
  have HCN : Hid (∀ W b c e, Only [] w W → TestOf W 45 #[.pointer (some ⟨b, 0, none⟩), .pointer (some ⟨c, 0, none⟩), .pointer (some ⟨e, 0, none⟩)] (agB N G O a d) → Calls Tryd.prog 26 #[v, .func (.func 45) #[] #[.pointer (some ⟨b, 0, none⟩), .pointer (some ⟨c, 0, none⟩), .pointer (some ⟨e, 0, none⟩)]] W fun r w' => r = .returned (.bool true) ∧ Only [] W w') := fun W b c e ho ht => by have := contains_against W base _ _ _ (agB N G O a d) v l (h.only ho).own (by have := hg.most; omega) hg.ok ht; rw [hany] at this; exact this
  have HS0 : Hid (((w.alloc (.cells #[.int .i64 N, .int .i64 G] 33)).alloc (.cells #[.int .i64 N, .int .i64 G, .int .i64 O, .int .i64 a, .int .i64 d] 52)).drew.cell? ⟨t, 0, none⟩ = some v ∧ ((w.alloc (.cells #[.int .i64 N, .int .i64 G] 33)).alloc (.cells #[.int .i64 N, .int .i64 G, .int .i64 O, .int .i64 a, .int .i64 d] 52)).drew.cell? ⟨w.heap.size + 1, 0, none⟩ = some (.int .i64 N) ∧ ((w.alloc (.cells #[.int .i64 N, .int .i64 G] 33)).alloc (.cells #[.int .i64 N, .int .i64 G, .int .i64 O, .int .i64 a, .int .i64 d] 52)).drew.cell? ⟨w.heap.size + 1, 1, none⟩ = some (.int .i64 G) ∧ ((w.alloc (.cells #[.int .i64 N, .int .i64 G] 33)).alloc (.cells #[.int .i64 N, .int .i64 G, .int .i64 O, .int .i64 a, .int .i64 d] 52)).drew.cell? ⟨w.heap.size + 1, 2, none⟩ = some (.int .i64 O) ∧ ((w.alloc (.cells #[.int .i64 N, .int .i64 G] 33)).alloc (.cells #[.int .i64 N, .int .i64 G, .int .i64 O, .int .i64 a, .int .i64 d] 52)).drew.cell? ⟨w.heap.size + 1, 3, none⟩ = some (.int .i64 a) ∧ ((w.alloc (.cells #[.int .i64 N, .int .i64 G] 33)).alloc (.cells #[.int .i64 N, .int .i64 G, .int .i64 O, .int .i64 a, .int .i64 d] 52)).drew.cell? ⟨w.heap.size + 1, 4, none⟩ = some (.int .i64 d)) := by
    have h2 := heap_alloc_last (w.alloc (.cells #[.int .i64 N, .int .i64 G] 33)) (.cells #[.int .i64 N, .int .i64 G, .int .i64 O, .int .i64 a, .int .i64 d] 52)
    rw [World.size_alloc] at h2
    exact ⟨(h.only o1).c0, cell_of_row _ _ 0 _ _ _ h2, cell_of_row _ _ 1 _ _ _ h2, cell_of_row _ _ 2 _ _ _ h2, cell_of_row _ _ 3 _ _ _ h2, cell_of_row _ _ 4 _ _ _ h2⟩
  have HE : Hid (∀ W, Only [] w W → W.cell? ⟨1, 0, none⟩ = some E) := fun W ho => (ho.cell (p := ⟨1, 0, none⟩) (lt_of_cell hE) (by simp)).trans hE
  clear h hg hE hany hb o1
  go_enter Tryd.func6, Tryd.ntmps6
  go_wp2_with (first | (go_at_call 24; refine (HA.out _).mono ?_; rintro e w3 ⟨rfl, rfl⟩) | (go_at_call 25; refine (HDN.out _).mono ?_; rintro e w4 ⟨rfl, rfl⟩) | go_in)
  go_region_held3 (fun W => W.cell? ⟨t, 0, none⟩ = some v ∧ W.cell? ⟨w.heap.size + 1, 0, none⟩ = some (.int .i64 N) ∧ W.cell? ⟨w.heap.size + 1, 1, none⟩ = some (.int .i64 G) ∧ W.cell? ⟨w.heap.size + 1, 2, none⟩ = some (.int .i64 O) ∧ W.cell? ⟨w.heap.size + 1, 3, none⟩ = some (.int .i64 a) ∧ W.cell? ⟨w.heap.size + 1, 4, none⟩ = some (.int .i64 d)) (with_reducible first | exact HS0.out | exact HS2.out | exact HS3.out)
    (first
      | (go_at_call 27; refine (HAG.out _).mono ?_; rintro r w2 ⟨b, c, e, rfl, ht2, ho2⟩; have HT2 : Hid (TestOf w2 45 #[.pointer (some ⟨b, 0, none⟩), .pointer (some ⟨c, 0, none⟩), .pointer (some ⟨e, 0, none⟩)] (agB N G O a d)) := ht2; have HO2 : Hid (Only [] ((w.alloc (.cells #[.int .i64 N, .int .i64 G] 33)).alloc (.cells #[.int .i64 N, .int .i64 G, .int .i64 O, .int .i64 a, .int .i64 d] 52)) w2) := (Only.refl [] _).drew.trans ho2 (fun _ hk => by cases hk); have HS2 : Hid (w2.cell? ⟨t, 0, none⟩ = some v ∧ w2.cell? ⟨w.heap.size + 1, 0, none⟩ = some (.int .i64 N) ∧ w2.cell? ⟨w.heap.size + 1, 1, none⟩ = some (.int .i64 G) ∧ w2.cell? ⟨w.heap.size + 1, 2, none⟩ = some (.int .i64 O) ∧ w2.cell? ⟨w.heap.size + 1, 3, none⟩ = some (.int .i64 a) ∧ w2.cell? ⟨w.heap.size + 1, 4, none⟩ = some (.int .i64 d)) := SixT.only HS0.out ho2; clear ht2 ho2)
      | (go_at_call 26; refine (HCN.out _ _ _ _ (HO1.out.trans HO2.out (fun _ hk => by cases hk)) HT2.out).mono ?_; rintro r w3 ⟨rfl, ho3⟩; have HO3 : Hid (Only [] ((w.alloc (.cells #[.int .i64 N, .int .i64 G] 33)).alloc (.cells #[.int .i64 N, .int .i64 G, .int .i64 O, .int .i64 a, .int .i64 d] 52)) w3) := HO2.out.trans ho3 (fun _ hk => by cases hk); have HS3 : Hid (w3.cell? ⟨t, 0, none⟩ = some v ∧ w3.cell? ⟨w.heap.size + 1, 0, none⟩ = some (.int .i64 N) ∧ w3.cell? ⟨w.heap.size + 1, 1, none⟩ = some (.int .i64 G) ∧ w3.cell? ⟨w.heap.size + 1, 2, none⟩ = some (.int .i64 O) ∧ w3.cell? ⟨w.heap.size + 1, 3, none⟩ = some (.int .i64 a) ∧ w3.cell? ⟨w.heap.size + 1, 4, none⟩ = some (.int .i64 d)) := SixT.only HS2.out ho3; clear ho3))
  clear HO2 HS2 HT2 HS0 HAG HCN
  have HOW : Hid (Only [] w w3) := HO1.out.trans HO3.out (fun _ hk => by cases hk)
  have hE2 := HE.out w3 HOW.out
  go_wp2
  go_ret
  exact ⟨rfl, HOW.out⟩
set_option maxRecDepth 100000 in
set_option maxHeartbeats 2000000 in
theorem open_full (w : World) (base t : Nat) (v : Value) (l : List Opn) (N G O a d : Int) (i : Nat) (E : Value) (h : ShAt w base t v l) (hg : GoodO l) (hsp : SpotO l ⟨N, G, O, 0, 0⟩ i false) (hE : w.cell? ⟨2, 0, none⟩ = some E) (hb : (accB a && denB d) = true) (hany : l.any (agB N G O a d) = false) (hf40 : 40 ≤ l.length) :
    Calls Tryd.prog 6 #[.pointer (some ⟨t, 0, none⟩), .agg #[.int .i64 N, .int .i64 G], .int .i64 O, .int .i64 a, .int .i64 d] w fun e w' => e = .returned E ∧ Only [] w w' := by
  have o1 : Only [] w ((w.alloc (.cells #[.int .i64 N, .int .i64 G] 33)).alloc (.cells #[.int .i64 N, .int .i64 G, .int .i64 O, .int .i64 a, .int .i64 d] 52)) := ((Only.refl [] w).alloc _).alloc _
  have HO1 : Hid (Only [] w ((w.alloc (.cells #[.int .i64 N, .int .i64 G] 33)).alloc (.cells #[.int .i64 N, .int .i64 G, .int .i64 O, .int .i64 a, .int .i64 d] 52))) := o1
  obtain ⟨hac, hdn, hra, hrd⟩ := acc_of hb
  have HA : Hid (∀ W, Calls Tryd.prog 24 #[.int .i64 a] W fun e w' => e = .returned (.bool true) ∧ W = w') := fun W => by have := isAccess_any a W; rw [hac] at this; exact this
  have HDN : Hid (∀ W, Calls Tryd.prog 25 #[.int .i64 d] W fun e w' => e = .returned (.bool true) ∧ W = w') := fun W => by have := isDeny_any d W; rw [hdn] at this; exact this
  have HAG : Hid (∀ W, _) := fun W => against_test W N G O a d ⟨by omega, by omega⟩ hrd
  have HCN : Hid (∀ W b c e, Only [] w W → TestOf W 45 #[.pointer (some ⟨b, 0, none⟩), .pointer (some ⟨c, 0, none⟩), .pointer (some ⟨e, 0, none⟩)] (agB N G O a d) → Calls Tryd.prog 26 #[v, .func (.func 45) #[] #[.pointer (some ⟨b, 0, none⟩), .pointer (some ⟨c, 0, none⟩), .pointer (some ⟨e, 0, none⟩)]] W fun r w' => r = .returned (.bool false) ∧ Only [] W w') := fun W b c e ho ht => by have := contains_against W base _ _ _ (agB N G O a d) v l (h.only ho).own (by have := hg.most; omega) hg.ok ht; rw [hany] at this; exact this
  have HS0 : Hid (((w.alloc (.cells #[.int .i64 N, .int .i64 G] 33)).alloc (.cells #[.int .i64 N, .int .i64 G, .int .i64 O, .int .i64 a, .int .i64 d] 52)).drew.cell? ⟨t, 0, none⟩ = some v ∧ ((w.alloc (.cells #[.int .i64 N, .int .i64 G] 33)).alloc (.cells #[.int .i64 N, .int .i64 G, .int .i64 O, .int .i64 a, .int .i64 d] 52)).drew.cell? ⟨w.heap.size + 1, 0, none⟩ = some (.int .i64 N) ∧ ((w.alloc (.cells #[.int .i64 N, .int .i64 G] 33)).alloc (.cells #[.int .i64 N, .int .i64 G, .int .i64 O, .int .i64 a, .int .i64 d] 52)).drew.cell? ⟨w.heap.size + 1, 1, none⟩ = some (.int .i64 G) ∧ ((w.alloc (.cells #[.int .i64 N, .int .i64 G] 33)).alloc (.cells #[.int .i64 N, .int .i64 G, .int .i64 O, .int .i64 a, .int .i64 d] 52)).drew.cell? ⟨w.heap.size + 1, 2, none⟩ = some (.int .i64 O) ∧ ((w.alloc (.cells #[.int .i64 N, .int .i64 G] 33)).alloc (.cells #[.int .i64 N, .int .i64 G, .int .i64 O, .int .i64 a, .int .i64 d] 52)).drew.cell? ⟨w.heap.size + 1, 3, none⟩ = some (.int .i64 a) ∧ ((w.alloc (.cells #[.int .i64 N, .int .i64 G] 33)).alloc (.cells #[.int .i64 N, .int .i64 G, .int .i64 O, .int .i64 a, .int .i64 d] 52)).drew.cell? ⟨w.heap.size + 1, 4, none⟩ = some (.int .i64 d)) := by
    have h2 := heap_alloc_last (w.alloc (.cells #[.int .i64 N, .int .i64 G] 33)) (.cells #[.int .i64 N, .int .i64 G, .int .i64 O, .int .i64 a, .int .i64 d] 52)
    rw [World.size_alloc] at h2
    exact ⟨(h.only o1).c0, cell_of_row _ _ 0 _ _ _ h2, cell_of_row _ _ 1 _ _ _ h2, cell_of_row _ _ 2 _ _ _ h2, cell_of_row _ _ 3 _ _ _ h2, cell_of_row _ _ 4 _ _ _ h2⟩
  have HE : Hid (∀ W, Only [] w W → W.cell? ⟨2, 0, none⟩ = some E) := fun W ho => (ho.cell (p := ⟨2, 0, none⟩) (lt_of_cell hE) (by simp)).trans hE
  have HF : Hid (∀ W, Only [] w W → _) := fun W (ho : Only [] w W) => find_at W base t v l N G O i false (h.only ho) hg hsp
  have hm := hg.most
  obtain ⟨ad, cap, hv⟩ : ∃ ad cap, v = .slice ad l.length cap := by
    rcases h.own.open with ⟨rfl, rfl⟩ | ⟨g, cap, cur, rfl, _⟩
    · exact ⟨none, 0, rfl⟩
    · exact ⟨_, cap, rfl⟩
  subst hv
  generalize l.length = n at *
  clear h hg hE hany hb o1
  go_enter Tryd.func6, Tryd.ntmps6
  go_wp2_with (first | (go_at_call 24; refine (HA.out _).mono ?_; rintro e w3 ⟨rfl, rfl⟩) | (go_at_call 25; refine (HDN.out _).mono ?_; rintro e w4 ⟨rfl, rfl⟩) | go_in)
  go_region_held3 (fun W => W.cell? ⟨t, 0, none⟩ = some (.slice ad n cap) ∧ W.cell? ⟨w.heap.size + 1, 0, none⟩ = some (.int .i64 N) ∧ W.cell? ⟨w.heap.size + 1, 1, none⟩ = some (.int .i64 G) ∧ W.cell? ⟨w.heap.size + 1, 2, none⟩ = some (.int .i64 O) ∧ W.cell? ⟨w.heap.size + 1, 3, none⟩ = some (.int .i64 a) ∧ W.cell? ⟨w.heap.size + 1, 4, none⟩ = some (.int .i64 d)) (with_reducible first | exact HS0.out | exact HS2.out | exact HS3.out)
    (first
      | (go_at_call 27; refine (HAG.out _).mono ?_; rintro r w2 ⟨b, c, e, rfl, ht2, ho2⟩; have HT2 : Hid (TestOf w2 45 #[.pointer (some ⟨b, 0, none⟩), .pointer (some ⟨c, 0, none⟩), .pointer (some ⟨e, 0, none⟩)] (agB N G O a d)) := ht2; have HO2 : Hid (Only [] ((w.alloc (.cells #[.int .i64 N, .int .i64 G] 33)).alloc (.cells #[.int .i64 N, .int .i64 G, .int .i64 O, .int .i64 a, .int .i64 d] 52)) w2) := (Only.refl [] _).drew.trans ho2 (fun _ hk => by cases hk); have HS2 : Hid (w2.cell? ⟨t, 0, none⟩ = some (.slice ad n cap) ∧ w2.cell? ⟨w.heap.size + 1, 0, none⟩ = some (.int .i64 N) ∧ w2.cell? ⟨w.heap.size + 1, 1, none⟩ = some (.int .i64 G) ∧ w2.cell? ⟨w.heap.size + 1, 2, none⟩ = some (.int .i64 O) ∧ w2.cell? ⟨w.heap.size + 1, 3, none⟩ = some (.int .i64 a) ∧ w2.cell? ⟨w.heap.size + 1, 4, none⟩ = some (.int .i64 d)) := SixT.only HS0.out ho2; clear ht2 ho2)
      | (go_at_call 26; refine (HCN.out _ _ _ _ (HO1.out.trans HO2.out (fun _ hk => by cases hk)) HT2.out).mono ?_; rintro r w3 ⟨rfl, ho3⟩; have HO3 : Hid (Only [] ((w.alloc (.cells #[.int .i64 N, .int .i64 G] 33)).alloc (.cells #[.int .i64 N, .int .i64 G, .int .i64 O, .int .i64 a, .int .i64 d] 52)) w3) := HO2.out.trans ho3 (fun _ hk => by cases hk); have HS3 : Hid (w3.cell? ⟨t, 0, none⟩ = some (.slice ad n cap) ∧ w3.cell? ⟨w.heap.size + 1, 0, none⟩ = some (.int .i64 N) ∧ w3.cell? ⟨w.heap.size + 1, 1, none⟩ = some (.int .i64 G) ∧ w3.cell? ⟨w.heap.size + 1, 2, none⟩ = some (.int .i64 O) ∧ w3.cell? ⟨w.heap.size + 1, 3, none⟩ = some (.int .i64 a) ∧ w3.cell? ⟨w.heap.size + 1, 4, none⟩ = some (.int .i64 d)) := SixT.only HS2.out ho3; clear ho3))
  clear HO2 HS2 HT2 HS0 HAG HCN
  have HOW : Hid (Only [] w w3) := HO1.out.trans HO3.out (fun _ hk => by cases hk)
  obtain ⟨z0, z1⟩ := both_hands HO3.out
  have hf := HF.out w3 HOW.out
  go_wp2_with (first | (go_at_call 28; refine hf.mono ?_; rintro r w4 ⟨rfl, ho4⟩; have HO4 : Hid (Only [] w w4) := HOW.out.trans ho4 (fun _ hk => by cases hk); have hE2 := HE.out w4 HO4.out; have y0 := (SixT.only HS3.out ho4).1; clear hf ho4) | go_in)
  go_ret
  exact ⟨rfl, HO4.out⟩
set_option maxRecDepth 100000 in
set_option maxHeartbeats 2000000 in
theorem open_found (w : World) (base t : Nat) (v : Value) (l : List Opn) (N G O a d : Int) (i : Nat) (x : Opn) (h : ShAt w base t v l) (hg : GoodO l) (hsp : SpotO l ⟨N, G, O, 0, 0⟩ i true) (hx : l[i]? = some x) (hb : (accB a && denB d) = true) (hany : l.any (agB N G O a d) = false) :
    Calls Tryd.prog 6 #[.pointer (some ⟨t, 0, none⟩), .agg #[.int .i64 N, .int .i64 G], .int .i64 O, .int .i64 a, .int .i64 d] w fun e w' => e = .returned .nilIface ∧ ShAt w' base t v (l.set i { x with A := sumB x.A a, D := sumB x.D d }) ∧ Only (t :: v.ownBlock.toList) w w' := by
  have o1 : Only [] w ((w.alloc (.cells #[.int .i64 N, .int .i64 G] 33)).alloc (.cells #[.int .i64 N, .int .i64 G, .int .i64 O, .int .i64 a, .int .i64 d] 52)) := ((Only.refl [] w).alloc _).alloc _
  have HO1 : Hid (Only [] w ((w.alloc (.cells #[.int .i64 N, .int .i64 G] 33)).alloc (.cells #[.int .i64 N, .int .i64 G, .int .i64 O, .int .i64 a, .int .i64 d] 52))) := o1
  obtain ⟨hac, hdn, hra, hrd⟩ := acc_of hb
  have HA : Hid (∀ W, Calls Tryd.prog 24 #[.int .i64 a] W fun e w' => e = .returned (.bool true) ∧ W = w') := fun W => by have := isAccess_any a W; rw [hac] at this; exact this
  have HDN : Hid (∀ W, Calls Tryd.prog 25 #[.int .i64 d] W fun e w' => e = .returned (.bool true) ∧ W = w') := fun W => by have := isDeny_any d W; rw [hdn] at this; exact this
  have HAG : Hid (∀ W, _) := fun W => against_test W N G O a d ⟨by omega, by omega⟩ hrd
  have HCN : Hid (∀ W b c e, Only [] w W → TestOf W 45 #[.pointer (some ⟨b, 0, none⟩), .pointer (some ⟨c, 0, none⟩), .pointer (some ⟨e, 0, none⟩)] (agB N G O a d) → Calls Tryd.prog 26 #[v, .func (.func 45) #[] #[.pointer (some ⟨b, 0, none⟩), .pointer (some ⟨c, 0, none⟩), .pointer (some ⟨e, 0, none⟩)]] W fun r w' => r = .returned (.bool false) ∧ Only [] W w') := fun W b c e ho ht => by have := contains_against W base _ _ _ (agB N G O a d) v l (h.only ho).own (by have := hg.most; omega) hg.ok ht; rw [hany] at this; exact this
  have HS0 : Hid (((w.alloc (.cells #[.int .i64 N, .int .i64 G] 33)).alloc (.cells #[.int .i64 N, .int .i64 G, .int .i64 O, .int .i64 a, .int .i64 d] 52)).drew.cell? ⟨t, 0, none⟩ = some v ∧ ((w.alloc (.cells #[.int .i64 N, .int .i64 G] 33)).alloc (.cells #[.int .i64 N, .int .i64 G, .int .i64 O, .int .i64 a, .int .i64 d] 52)).drew.cell? ⟨w.heap.size + 1, 0, none⟩ = some (.int .i64 N) ∧ ((w.alloc (.cells #[.int .i64 N, .int .i64 G] 33)).alloc (.cells #[.int .i64 N, .int .i64 G, .int .i64 O, .int .i64 a, .int .i64 d] 52)).drew.cell? ⟨w.heap.size + 1, 1, none⟩ = some (.int .i64 G) ∧ ((w.alloc (.cells #[.int .i64 N, .int .i64 G] 33)).alloc (.cells #[.int .i64 N, .int .i64 G, .int .i64 O, .int .i64 a, .int .i64 d] 52)).drew.cell? ⟨w.heap.size + 1, 2, none⟩ = some (.int .i64 O) ∧ ((w.alloc (.cells #[.int .i64 N, .int .i64 G] 33)).alloc (.cells #[.int .i64 N, .int .i64 G, .int .i64 O, .int .i64 a, .int .i64 d] 52)).drew.cell? ⟨w.heap.size + 1, 3, none⟩ = some (.int .i64 a) ∧ ((w.alloc (.cells #[.int .i64 N, .int .i64 G] 33)).alloc (.cells #[.int .i64 N, .int .i64 G, .int .i64 O, .int .i64 a, .int .i64 d] 52)).drew.cell? ⟨w.heap.size + 1, 4, none⟩ = some (.int .i64 d)) := by
    have h2 := heap_alloc_last (w.alloc (.cells #[.int .i64 N, .int .i64 G] 33)) (.cells #[.int .i64 N, .int .i64 G, .int .i64 O, .int .i64 a, .int .i64 d] 52)
    rw [World.size_alloc] at h2
    exact ⟨(h.only o1).c0, cell_of_row _ _ 0 _ _ _ h2, cell_of_row _ _ 1 _ _ _ h2, cell_of_row _ _ 2 _ _ _ h2, cell_of_row _ _ 3 _ _ _ h2, cell_of_row _ _ 4 _ _ _ h2⟩
  have HF : Hid (∀ W, Only [] w W → _) := fun W (ho : Only [] w W) => find_at W base t v l N G O i true (h.only ho) hg hsp
  have hok := hg.ok x (List.mem_of_getElem? hx)
  have hin : i < l.length := (List.getElem?_eq_some_iff.1 hx).1
  have hm := hg.most
  have sa : bits BinOp.or IntKind.i64 x.A a = sumB x.A a := bits_or _ (mem4 (by have := hok.1; omega) hok.2.1) _ (mem4 (by omega) (by omega))
  have sd : bits BinOp.or IntKind.i64 x.D d = sumB x.D d := bits_or _ (mem4 hok.2.2.1 hok.2.2.2) _ (mem4 hrd.1 hrd.2)
  obtain ⟨g, cap, hv⟩ : ∃ g cap, v = .slice (some ⟨g, 0, none⟩) l.length cap := by
    rcases h.own.open with ⟨rfl, rfl⟩ | ⟨g, cap, cur, rfl, _⟩
    · simp at hin
    · exact ⟨g, cap, rfl⟩
  subst hv
  have hgt := h.ne g rfl
  have HT : Hid (∀ W, Only [] w W → W.cell? ⟨t, 0, none⟩ = some (.slice (some ⟨g, 0, none⟩) l.length cap) ∧ W.cell? ⟨g, i * 5 + 3, none⟩ = some (.int .i64 x.A) ∧ W.cell? ⟨g, i * 5 + 4, none⟩ = some (.int .i64 x.D) ∧ W.frozen? ⟨g, i * 5 + 3, none⟩ = false ∧ W.frozen? ⟨g, i * 5 + 4, none⟩ = false ∧ t < W.heap.size ∧ g < W.heap.size ∧ (W.setCell ⟨g, i * 5 + 3, none⟩ (.int .i64 (sumB x.A a))).cell? ⟨t, 0, none⟩ = some (.slice (some ⟨g, 0, none⟩) l.length cap) ∧ (W.setCell ⟨g, i * 5 + 3, none⟩ (.int .i64 (sumB x.A a))).cell? ⟨g, i * 5 + 4, none⟩ = some (.int .i64 x.D) ∧ ShAt ((W.setCell ⟨g, i * 5 + 3, none⟩ (.int .i64 (sumB x.A a))).setCell ⟨g, i * 5 + 4, none⟩ (.int .i64 (sumB x.D d))) base t (.slice (some ⟨g, 0, none⟩) l.length cap) (l.set i { x with A := sumB x.A a, D := sumB x.D d }) ∧ Only [t, g] w ((W.setCell ⟨g, i * 5 + 3, none⟩ (.int .i64 (sumB x.A a))).setCell ⟨g, i * 5 + 4, none⟩ (.int .i64 (sumB x.D d)))) := fun W ho => by
    have hW := h.only ho
    obtain ⟨_, _, _, c3, c4⟩ := opn_cellsM hW.own rfl hx
    have hg1 : g ∈ [g] := by simp
    have hx1 : Only [g] W (W.setCell ⟨g, i * 5 + 3, none⟩ (.int .i64 (sumB x.A a))) := (Only.refl [g] W).setCell (Or.inl hg1) _
    have hx2 : Only [g] W ((W.setCell ⟨g, i * 5 + 3, none⟩ (.int .i64 (sumB x.A a))).setCell ⟨g, i * 5 + 4, none⟩ (.int .i64 (sumB x.D d))) := hx1.setCell (Or.inl hg1) _
    have htl : t < W.heap.size := lt_of_cell hW.c0
    have hnt : t ∉ [g] := by simpa using Ne.symm hgt
    exact ⟨hW.c0, c3, c4, opn_frozen hW.own rfl _, opn_frozen hW.own rfl _, htl, lt_of_cell c3, (hx1.cell (p := ⟨t, 0, none⟩) htl hnt).trans hW.c0, (World.cell?_setCell_other _ _ _ _ (by simp)).trans c4, ⟨(hx2.cell (p := ⟨t, 0, none⟩) htl hnt).trans hW.c0, (hx2.frozen (p := ⟨t, 0, none⟩) htl hnt).trans hW.fr, hW.own.set2 rfl hx _ _, h.ne⟩, (ho.mono (L' := [t, g]) (fun _ hk => by cases hk)).trans hx2 (fun k hk => Or.inl (by simp at hk; simp [hk]))⟩
  obtain ⟨n, hn⟩ : ∃ n, l.length = n := ⟨_, rfl⟩
  rw [hn] at hin hm HT HS0 HCN ⊢
  clear h hg hany hb o1 hsp hok hn hx
  generalize l.set i { x with A := sumB x.A a, D := sumB x.D d } = l' at HT ⊢
  generalize sumB x.A a = sA at *
  generalize sumB x.D d = sD at *
  generalize x.A = xA at *
  generalize x.D = xD at *
  go_enter Tryd.func6, Tryd.ntmps6
  go_wp2_with (first | (go_at_call 24; refine (HA.out _).mono ?_; rintro e w3 ⟨rfl, rfl⟩) | (go_at_call 25; refine (HDN.out _).mono ?_; rintro e w4 ⟨rfl, rfl⟩) | go_in)
  go_region_held3 (fun W => W.cell? ⟨t, 0, none⟩ = some (.slice (some ⟨g, 0, none⟩) n cap) ∧ W.cell? ⟨w.heap.size + 1, 0, none⟩ = some (.int .i64 N) ∧ W.cell? ⟨w.heap.size + 1, 1, none⟩ = some (.int .i64 G) ∧ W.cell? ⟨w.heap.size + 1, 2, none⟩ = some (.int .i64 O) ∧ W.cell? ⟨w.heap.size + 1, 3, none⟩ = some (.int .i64 a) ∧ W.cell? ⟨w.heap.size + 1, 4, none⟩ = some (.int .i64 d)) (with_reducible first | exact HS0.out | exact HS2.out | exact HS3.out)
    (first
      | (go_at_call 27; refine (HAG.out _).mono ?_; rintro r w2 ⟨b, c, e, rfl, ht2, ho2⟩; have HT2 : Hid (TestOf w2 45 #[.pointer (some ⟨b, 0, none⟩), .pointer (some ⟨c, 0, none⟩), .pointer (some ⟨e, 0, none⟩)] (agB N G O a d)) := ht2; have HO2 : Hid (Only [] ((w.alloc (.cells #[.int .i64 N, .int .i64 G] 33)).alloc (.cells #[.int .i64 N, .int .i64 G, .int .i64 O, .int .i64 a, .int .i64 d] 52)) w2) := (Only.refl [] _).drew.trans ho2 (fun _ hk => by cases hk); have HS2 : Hid (w2.cell? ⟨t, 0, none⟩ = some (.slice (some ⟨g, 0, none⟩) n cap) ∧ w2.cell? ⟨w.heap.size + 1, 0, none⟩ = some (.int .i64 N) ∧ w2.cell? ⟨w.heap.size + 1, 1, none⟩ = some (.int .i64 G) ∧ w2.cell? ⟨w.heap.size + 1, 2, none⟩ = some (.int .i64 O) ∧ w2.cell? ⟨w.heap.size + 1, 3, none⟩ = some (.int .i64 a) ∧ w2.cell? ⟨w.heap.size + 1, 4, none⟩ = some (.int .i64 d)) := SixT.only HS0.out ho2; clear ht2 ho2)
      | (go_at_call 26; refine (HCN.out _ _ _ _ (HO1.out.trans HO2.out (fun _ hk => by cases hk)) HT2.out).mono ?_; rintro r w3 ⟨rfl, ho3⟩; have HO3 : Hid (Only [] ((w.alloc (.cells #[.int .i64 N, .int .i64 G] 33)).alloc (.cells #[.int .i64 N, .int .i64 G, .int .i64 O, .int .i64 a, .int .i64 d] 52)) w3) := HO2.out.trans ho3 (fun _ hk => by cases hk); have HS3 : Hid (w3.cell? ⟨t, 0, none⟩ = some (.slice (some ⟨g, 0, none⟩) n cap) ∧ w3.cell? ⟨w.heap.size + 1, 0, none⟩ = some (.int .i64 N) ∧ w3.cell? ⟨w.heap.size + 1, 1, none⟩ = some (.int .i64 G) ∧ w3.cell? ⟨w.heap.size + 1, 2, none⟩ = some (.int .i64 O) ∧ w3.cell? ⟨w.heap.size + 1, 3, none⟩ = some (.int .i64 a) ∧ w3.cell? ⟨w.heap.size + 1, 4, none⟩ = some (.int .i64 d)) := SixT.only HS2.out ho3; clear ho3))
  clear HO2 HS2 HT2 HS0 HAG HCN
  have HOW : Hid (Only [] w w3) := HO1.out.trans HO3.out (fun _ hk => by cases hk)
  obtain ⟨z0, z1⟩ := both_hands HO3.out
  have hf := HF.out w3 HOW.out
  go_wp2_with (first | (go_at_call 28; refine hf.mono ?_; rintro r w4 ⟨rfl, ho4⟩; have HO4 : Hid (Only [] w w4) := HOW.out.trans ho4 (fun _ hk => by cases hk); obtain ⟨k0, k1, k2, k3, k4, k5, k6, k7, k8, hS, hO⟩ := HT.out w4 HO4.out; have HFI : Hid (ShAt ((w4.setCell ⟨g, i * 5 + 3, none⟩ (.int .i64 sA)).setCell ⟨g, i * 5 + 4, none⟩ (.int .i64 sD)) base t (.slice (some ⟨g, 0, none⟩) n cap) l' ∧ Only [t, g] w ((w4.setCell ⟨g, i * 5 + 3, none⟩ (.int .i64 sA)).setCell ⟨g, i * 5 + 4, none⟩ (.int .i64 sD))) := ⟨hS, hO⟩; clear hf ho4 hS hO) | go_in)
  go_ret
  exact ⟨rfl, HFI.out.1, HFI.out.2⟩
set_option maxRecDepth 100000 in
set_option maxHeartbeats 4000000 in
theorem open_new (w : World) (base t : Nat) (v : Value) (l : List Opn) (N G O a d : Int) (i : Nat) (h : ShAt w base t v l) (hg : GoodO l) (hbs : base ≤ w.heap.size) (hsp : SpotO l ⟨N, G, O, 0, 0⟩ i false) (hb : (accB a && denB d) = true) (hany : l.any (agB N G O a d) = false) (hf40 : l.length < 40) :
    Calls Tryd.prog 6 #[.pointer (some ⟨t, 0, none⟩), .agg #[.int .i64 N, .int .i64 G], .int .i64 O, .int .i64 a, .int .i64 d] w fun e w' => e = .returned .nilIface ∧ ∃ v', ShAt w' base t v' (insAt l i ⟨N, G, O, a, d⟩) ∧ Only (t :: v.ownBlock.toList) w w' ∧ (v'.ownBlock = v.ownBlock ∨ ∃ k, v'.ownBlock = some k ∧ w.heap.size ≤ k) := by
  have o1 : Only [] w ((w.alloc (.cells #[.int .i64 N, .int .i64 G] 33)).alloc (.cells #[.int .i64 N, .int .i64 G, .int .i64 O, .int .i64 a, .int .i64 d] 52)) := ((Only.refl [] w).alloc _).alloc _
  have HO1 : Hid (Only [] w ((w.alloc (.cells #[.int .i64 N, .int .i64 G] 33)).alloc (.cells #[.int .i64 N, .int .i64 G, .int .i64 O, .int .i64 a, .int .i64 d] 52))) := o1
  obtain ⟨hac, hdn, hra, hrd⟩ := acc_of hb
  have HA : Hid (∀ W, Calls Tryd.prog 24 #[.int .i64 a] W fun e w' => e = .returned (.bool true) ∧ W = w') := fun W => by have := isAccess_any a W; rw [hac] at this; exact this
  have HDN : Hid (∀ W, Calls Tryd.prog 25 #[.int .i64 d] W fun e w' => e = .returned (.bool true) ∧ W = w') := fun W => by have := isDeny_any d W; rw [hdn] at this; exact this
  have HAG : Hid (∀ W, _) := fun W => against_test W N G O a d ⟨by omega, by omega⟩ hrd
  have HCN : Hid (∀ W b c e, Only [] w W → TestOf W 45 #[.pointer (some ⟨b, 0, none⟩), .pointer (some ⟨c, 0, none⟩), .pointer (some ⟨e, 0, none⟩)] (agB N G O a d) → Calls Tryd.prog 26 #[v, .func (.func 45) #[] #[.pointer (some ⟨b, 0, none⟩), .pointer (some ⟨c, 0, none⟩), .pointer (some ⟨e, 0, none⟩)]] W fun r w' => r = .returned (.bool false) ∧ Only [] W w') := fun W b c e ho ht => by have := contains_against W base _ _ _ (agB N G O a d) v l (h.only ho).own (by have := hg.most; omega) hg.ok ht; rw [hany] at this; exact this
  have HS0 : Hid (((w.alloc (.cells #[.int .i64 N, .int .i64 G] 33)).alloc (.cells #[.int .i64 N, .int .i64 G, .int .i64 O, .int .i64 a, .int .i64 d] 52)).drew.cell? ⟨t, 0, none⟩ = some v ∧ ((w.alloc (.cells #[.int .i64 N, .int .i64 G] 33)).alloc (.cells #[.int .i64 N, .int .i64 G, .int .i64 O, .int .i64 a, .int .i64 d] 52)).drew.cell? ⟨w.heap.size + 1, 0, none⟩ = some (.int .i64 N) ∧ ((w.alloc (.cells #[.int .i64 N, .int .i64 G] 33)).alloc (.cells #[.int .i64 N, .int .i64 G, .int .i64 O, .int .i64 a, .int .i64 d] 52)).drew.cell? ⟨w.heap.size + 1, 1, none⟩ = some (.int .i64 G) ∧ ((w.alloc (.cells #[.int .i64 N, .int .i64 G] 33)).alloc (.cells #[.int .i64 N, .int .i64 G, .int .i64 O, .int .i64 a, .int .i64 d] 52)).drew.cell? ⟨w.heap.size + 1, 2, none⟩ = some (.int .i64 O) ∧ ((w.alloc (.cells #[.int .i64 N, .int .i64 G] 33)).alloc (.cells #[.int .i64 N, .int .i64 G, .int .i64 O, .int .i64 a, .int .i64 d] 52)).drew.cell? ⟨w.heap.size + 1, 3, none⟩ = some (.int .i64 a) ∧ ((w.alloc (.cells #[.int .i64 N, .int .i64 G] 33)).alloc (.cells #[.int .i64 N, .int .i64 G, .int .i64 O, .int .i64 a, .int .i64 d] 52)).drew.cell? ⟨w.heap.size + 1, 4, none⟩ = some (.int .i64 d)) := by
    have h2 := heap_alloc_last (w.alloc (.cells #[.int .i64 N, .int .i64 G] 33)) (.cells #[.int .i64 N, .int .i64 G, .int .i64 O, .int .i64 a, .int .i64 d] 52)
    rw [World.size_alloc] at h2
    exact ⟨(h.only o1).c0, cell_of_row _ _ 0 _ _ _ h2, cell_of_row _ _ 1 _ _ _ h2, cell_of_row _ _ 2 _ _ _ h2, cell_of_row _ _ 3 _ _ _ h2, cell_of_row _ _ 4 _ _ _ h2⟩
  have HF : Hid (∀ W, Only [] w W → _) := fun W (ho : Only [] w W) => find_at W base t v l N G O i false (h.only ho) hg hsp
  have hm := hg.most
  have htl : t < w.heap.size := lt_of_cell h.c0
  have hvl : ∀ k, v.ownBlock = some k → k < w.heap.size := fun k hk => (World.ownsRow.lt h.own k hk).2
  have hile := hsp.le
  have HI : Hid (∀ W, Only [] w W → Calls Tryd.prog 29 #[v, .int .i64 i, .slice (some ⟨W.heap.size, 0, none⟩) 1 1] (W.alloc (.cells #[.int .i64 N, .int .i64 G, .int .i64 O, .int .i64 a, .int .i64 d] 52)).drew fun e w' => ∃ (g5 m5 cp5 : Nat) (v' : Value), v' = .slice (some ⟨g5, 0, none⟩) m5 cp5 ∧ e = .returned v' ∧ ShAt (w'.setCell ⟨t, 0, none⟩ v') base t v' (insAt l i ⟨N, G, O, a, d⟩) ∧ Only (t :: v.ownBlock.toList) w (w'.setCell ⟨t, 0, none⟩ v') ∧ (v'.ownBlock = v.ownBlock ∨ ∃ k, v'.ownBlock = some k ∧ w.heap.size ≤ k) ∧ w'.cell? ⟨t, 0, none⟩ = some v ∧ w'.frozen? ⟨t, 0, none⟩ = false ∧ t < w'.heap.size) := fun W ho => by
    have ho2 : Only [] w (W.alloc (.cells #[.int .i64 N, .int .i64 G, .int .i64 O, .int .i64 a, .int .i64 d] 52)).drew := (ho.alloc _).drew
    have hW := h.only ho2
    have hon : OneAt (W.alloc (.cells #[.int .i64 N, .int .i64 G, .int .i64 O, .int .i64 a, .int .i64 d] 52)).drew W.heap.size ⟨N, G, O, a, d⟩ := heap_alloc_last W (.cells #[.int .i64 N, .int .i64 G, .int .i64 O, .int .i64 a, .int .i64 d] 52)
    refine (insert_any (W.alloc (.cells #[.int .i64 N, .int .i64 G, .int .i64 O, .int .i64 a, .int .i64 d] 52)).drew base W.heap.size i v l ⟨N, G, O, a, d⟩ hW.own (by omega) hile hon (Nat.le_trans hbs ho2.size) (fun k hk => by have := hvl k hk; have := ho.size; omega)).mono fun e w' hh => ?_
    obtain ⟨v', he, hI1, hI2, hI3⟩ := hh
    have hnt : t ∉ v.ownBlock.toList := fun hm => h.ne t (by simpa using hm) rfl
    have ow : Only v.ownBlock.toList w w' := (ho2.mono (fun _ hk => by cases hk)).trans hI2 (fun _ hk => Or.inl hk)
    have c0 := (ow.cell (p := ⟨t, 0, none⟩) htl hnt).trans h.c0
    have f0 := (ow.frozen (p := ⟨t, 0, none⟩) htl hnt).trans h.fr
    have hne : ∀ k, v'.ownBlock = some k → k ≠ t := fun k hk => by
      rcases hI3 with e | ⟨q, e, hq⟩
      · exact h.ne k (by rw [← e]; exact hk)
      · rw [e] at hk
        cases hk
        have := ho2.size
        omega
    have hx : Only [t] w' (w'.setCell ⟨t, 0, none⟩ v') := (Only.refl [t] w').setCell (Or.inl (by simp)) _
    obtain ⟨g5, cp5, hv5⟩ : ∃ g5 cp5, v' = .slice (some ⟨g5, 0, none⟩) (insAt l i ⟨N, G, O, a, d⟩).length cp5 := by
      rcases hI1.open with ⟨_, e⟩ | ⟨g5, cp5, _, e, _⟩
      · simp [insAt] at e
      · exact ⟨g5, cp5, e⟩
    refine ⟨g5, _, cp5, v', hv5, he, ⟨World.cell?_setCell_same _ _ _ c0, by simpa using f0, hI1.only hx (fun k hk => by simpa using hne k hk), hne⟩, (ow.mono (L' := t :: v.ownBlock.toList) (fun k hk => Or.inl (List.mem_cons_of_mem _ hk))).trans hx (fun k hk => Or.inl (by simp at hk; simp [hk])), ?_, c0, f0, Nat.lt_of_lt_of_le htl ow.size⟩
    rcases hI3 with e | ⟨q, e, hq⟩
    · exact Or.inl e
    · exact Or.inr ⟨q, e, Nat.le_trans ho2.size hq⟩
  obtain ⟨ad, cap, hv⟩ : ∃ ad cap, v = .slice ad l.length cap := by
    rcases h.own.open with ⟨rfl, rfl⟩ | ⟨g, cap, cur, rfl, _⟩
    · exact ⟨none, 0, rfl⟩
    · exact ⟨_, cap, rfl⟩
  subst hv
  generalize insAt l i ⟨N, G, O, a, d⟩ = l' at HI ⊢
  generalize l.length = n at *
  clear h hg hany hb o1 hsp hvl
  go_enter Tryd.func6, Tryd.ntmps6
  go_wp2_with (first | (go_at_call 24; refine (HA.out _).mono ?_; rintro e w3 ⟨rfl, rfl⟩) | (go_at_call 25; refine (HDN.out _).mono ?_; rintro e w4 ⟨rfl, rfl⟩) | go_in)
  go_region_held3 (fun W => W.cell? ⟨t, 0, none⟩ = some (.slice ad n cap) ∧ W.cell? ⟨w.heap.size + 1, 0, none⟩ = some (.int .i64 N) ∧ W.cell? ⟨w.heap.size + 1, 1, none⟩ = some (.int .i64 G) ∧ W.cell? ⟨w.heap.size + 1, 2, none⟩ = some (.int .i64 O) ∧ W.cell? ⟨w.heap.size + 1, 3, none⟩ = some (.int .i64 a) ∧ W.cell? ⟨w.heap.size + 1, 4, none⟩ = some (.int .i64 d)) (with_reducible first | exact HS0.out | exact HS2.out | exact HS3.out)
    (first
      | (go_at_call 27; refine (HAG.out _).mono ?_; rintro r w2 ⟨b, c, e, rfl, ht2, ho2⟩; have HT2 : Hid (TestOf w2 45 #[.pointer (some ⟨b, 0, none⟩), .pointer (some ⟨c, 0, none⟩), .pointer (some ⟨e, 0, none⟩)] (agB N G O a d)) := ht2; have HO2 : Hid (Only [] ((w.alloc (.cells #[.int .i64 N, .int .i64 G] 33)).alloc (.cells #[.int .i64 N, .int .i64 G, .int .i64 O, .int .i64 a, .int .i64 d] 52)) w2) := (Only.refl [] _).drew.trans ho2 (fun _ hk => by cases hk); have HS2 : Hid (w2.cell? ⟨t, 0, none⟩ = some (.slice ad n cap) ∧ w2.cell? ⟨w.heap.size + 1, 0, none⟩ = some (.int .i64 N) ∧ w2.cell? ⟨w.heap.size + 1, 1, none⟩ = some (.int .i64 G) ∧ w2.cell? ⟨w.heap.size + 1, 2, none⟩ = some (.int .i64 O) ∧ w2.cell? ⟨w.heap.size + 1, 3, none⟩ = some (.int .i64 a) ∧ w2.cell? ⟨w.heap.size + 1, 4, none⟩ = some (.int .i64 d)) := SixT.only HS0.out ho2; clear ht2 ho2)
      | (go_at_call 26; refine (HCN.out _ _ _ _ (HO1.out.trans HO2.out (fun _ hk => by cases hk)) HT2.out).mono ?_; rintro r w3 ⟨rfl, ho3⟩; have HO3 : Hid (Only [] ((w.alloc (.cells #[.int .i64 N, .int .i64 G] 33)).alloc (.cells #[.int .i64 N, .int .i64 G, .int .i64 O, .int .i64 a, .int .i64 d] 52)) w3) := HO2.out.trans ho3 (fun _ hk => by cases hk); have HS3 : Hid (w3.cell? ⟨t, 0, none⟩ = some (.slice ad n cap) ∧ w3.cell? ⟨w.heap.size + 1, 0, none⟩ = some (.int .i64 N) ∧ w3.cell? ⟨w.heap.size + 1, 1, none⟩ = some (.int .i64 G) ∧ w3.cell? ⟨w.heap.size + 1, 2, none⟩ = some (.int .i64 O) ∧ w3.cell? ⟨w.heap.size + 1, 3, none⟩ = some (.int .i64 a) ∧ w3.cell? ⟨w.heap.size + 1, 4, none⟩ = some (.int .i64 d)) := SixT.only HS2.out ho3; clear ho3))
  clear HO2 HS2 HT2 HS0 HAG HCN
  have HOW : Hid (Only [] w w3) := HO1.out.trans HO3.out (fun _ hk => by cases hk)
  obtain ⟨z0, z1⟩ := both_hands HO3.out
  have hf := HF.out w3 HOW.out
  go_wp2_with (first | (go_at_call 28; refine hf.mono ?_; rintro r w4 ⟨rfl, ho4⟩; have HO4 : Hid (Only [] w w4) := HOW.out.trans ho4 (fun _ hk => by cases hk); obtain ⟨y0, y1, y2, y3, y4, y5⟩ := SixT.only HS3.out ho4; have yl := lt_of_cell y1; have tl4 := lt_of_cell y0; have hins := HI.out w4 HO4.out; clear hf ho4 z0 z1) | go_in)
  go_region_with (first
    | (go_at_call 29; refine hins.mono ?_; rintro r w5 ⟨g5, m5, cp5, v5, rfl, rfl, hS5, hO5, hB5, k0, k1, k2⟩; have HFI : Hid (ShAt (w5.setCell ⟨t, 0, none⟩ (.slice (some ⟨g5, 0, none⟩) m5 cp5)) base t (.slice (some ⟨g5, 0, none⟩) m5 cp5) l' ∧ Only (t :: (Value.slice ad n cap).ownBlock.toList) w (w5.setCell ⟨t, 0, none⟩ (.slice (some ⟨g5, 0, none⟩) m5 cp5)) ∧ ((Value.slice (some ⟨g5, 0, none⟩) m5 cp5).ownBlock = (Value.slice ad n cap).ownBlock ∨ ∃ k, (Value.slice (some ⟨g5, 0, none⟩) m5 cp5).ownBlock = some k ∧ w.heap.size ≤ k)) := ⟨hS5, hO5, hB5⟩; clear hins hS5 hO5 hB5))
  all_goals go_wp2
  all_goals go_ret
  all_goals exact ⟨rfl, .slice (some ⟨g5, 0, none⟩) m5 cp5, HFI.out⟩
end Go.Proofs.YtagpahgjbglmaaaDoor
