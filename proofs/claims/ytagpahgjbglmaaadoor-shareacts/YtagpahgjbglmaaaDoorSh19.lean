/- Shares: May, Anyone. -/
import Derived.Test.YtagpahgjbglmaaaDoorSh18
namespace Go.Proofs.YtagpahgjbglmaaaDoor
open Go Go.RowKit Go.Deep

theorem ThreeO.only {w W : World} {t B : Nat} {v : Value} {N G : Int} (h : w.cell? ⟨t, 0, none⟩ = some v ∧ w.cell? ⟨B, 0, none⟩ = some (.int .i64 N) ∧ w.cell? ⟨B, 1, none⟩ = some (.int .i64 G)) (ho : Only [] w W) : W.cell? ⟨t, 0, none⟩ = some v ∧ W.cell? ⟨B, 0, none⟩ = some (.int .i64 N) ∧ W.cell? ⟨B, 1, none⟩ = some (.int .i64 G) :=
  ⟨(ho.cell (p := ⟨t, 0, none⟩) (lt_of_cell h.1) (by simp)).trans h.1, (ho.cell (p := ⟨B, 0, none⟩) (lt_of_cell h.2.1) (by simp)).trans h.2.1, (ho.cell (p := ⟨B, 1, none⟩) (lt_of_cell h.2.2) (by simp)).trans h.2.2⟩
theorem acc_range {a : Int} (h : accB a = true) : 1 ≤ a ∧ a ≤ 3 := by simpa [accB] using h
set_option maxHeartbeats 1000000 in
theorem may_bound (w : World) (t : Nat) (N G O a : Int) (E : Value) (hE : w.cell? ⟨0, 0, none⟩ = some E) (hac : accB a = false) :
    Calls Tryd.prog 12 #[.pointer (some ⟨t, 0, none⟩), .agg #[.int .i64 N, .int .i64 G], .int .i64 O, .int .i64 a] w fun e w' => e = .returned E ∧ Only [] w w' := by
  have o1 : Only [] w (w.alloc (.cells #[.int .i64 N, .int .i64 G] 33)) := (Only.refl [] w).alloc _
  have hE2 : (w.alloc (.cells #[.int .i64 N, .int .i64 G] 33)).cell? ⟨0, 0, none⟩ = some E := (o1.cell (p := ⟨0, 0, none⟩) (lt_of_cell hE) (by simp)).trans hE
  have HO1 : Hid (Only [] w (w.alloc (.cells #[.int .i64 N, .int .i64 G] 33))) := o1
  have HA : Hid (∀ W, Calls Tryd.prog 24 #[.int .i64 a] W fun e w' => e = .returned (.bool false) ∧ W = w') := fun W => by have := isAccess_any a W; rw [hac] at this; exact this
  clear o1
  go_enter Tryd.func12, Tryd.ntmps12
  go_wp2_with (go_at_call 24; refine (HA.out _).mono ?_; rintro e w3 ⟨rfl, rfl⟩)
  go_ret
  exact ⟨rfl, HO1.out⟩
set_option maxHeartbeats 1000000 in
theorem may_none (w : World) (base t : Nat) (v : Value) (l : List Opn) (N G O a : Int) (i : Nat) (E : Value) (h : ShAt w base t v l) (hg : GoodO l) (hsp : SpotO l ⟨N, G, O, 0, 0⟩ i false) (hE : w.cell? ⟨3, 0, none⟩ = some E) (hac : accB a = true) :
    Calls Tryd.prog 12 #[.pointer (some ⟨t, 0, none⟩), .agg #[.int .i64 N, .int .i64 G], .int .i64 O, .int .i64 a] w fun e w' => e = .returned E ∧ Only [] w w' := by
  have o1 : Only [] w (w.alloc (.cells #[.int .i64 N, .int .i64 G] 33)) := (Only.refl [] w).alloc _
  have HO1 : Hid (Only [] w (w.alloc (.cells #[.int .i64 N, .int .i64 G] 33))) := o1
  have hf := find_at _ base t v l N G O i false (h.only o1) hg hsp
  have HE : Hid (∀ W, Only [] w W → W.cell? ⟨3, 0, none⟩ = some E) := fun W ho => (ho.cell (p := ⟨3, 0, none⟩) (lt_of_cell hE) (by simp)).trans hE
  have HA : Hid (∀ W, Calls Tryd.prog 24 #[.int .i64 a] W fun e w' => e = .returned (.bool true) ∧ W = w') := fun W => by have := isAccess_any a W; rw [hac] at this; exact this
  clear h hg hsp hE o1
  go_enter Tryd.func12, Tryd.ntmps12
  go_wp2_with (first | (go_at_call 28; refine hf.mono ?_; rintro e w2 ⟨rfl, ho2⟩; have HO2 : Hid (Only [] w w2) := HO1.out.trans ho2 (fun _ hk => by cases hk); have hE2 := HE.out w2 HO2.out; clear hf ho2) | (go_at_call 24; refine (HA.out _).mono ?_; rintro e w3 ⟨rfl, rfl⟩) | go_in)
  go_ret
  exact ⟨rfl, HO2.out⟩
set_option maxRecDepth 100000 in
set_option maxHeartbeats 2000000 in
theorem may_found (w : World) (base t : Nat) (v : Value) (l : List Opn) (N G O a : Int) (i : Nat) (x : Opn) (E : Value) (h : ShAt w base t v l) (hg : GoodO l) (hsp : SpotO l ⟨N, G, O, 0, 0⟩ i true) (hx : l[i]? = some x) (hE : w.cell? ⟨3, 0, none⟩ = some E) (hac : accB a = true) :
    Calls Tryd.prog 12 #[.pointer (some ⟨t, 0, none⟩), .agg #[.int .i64 N, .int .i64 G], .int .i64 O, .int .i64 a] w fun e w' => e = .returned (if withB a x.A then .nilIface else E) ∧ Only [] w w' := by
  have o1 : Only [] w (w.alloc (.cells #[.int .i64 N, .int .i64 G] 33)) := (Only.refl [] w).alloc _
  have HO1 : Hid (Only [] w (w.alloc (.cells #[.int .i64 N, .int .i64 G] 33))) := o1
  have hf := find_at _ base t v l N G O i true (h.only o1) hg hsp
  have hra := acc_range hac
  have hok := hg.ok x (List.mem_of_getElem? hx)
  have hin : i < l.length := (List.getElem?_eq_some_iff.1 hx).1
  have hm := hg.most
  rcases h.own.open with ⟨rfl, rfl⟩ | ⟨g, cap, cur, rfl, _, hgl, _⟩
  · simp at hin
  have HT : Hid (∀ W, Only [] w W → W.cell? ⟨t, 0, none⟩ = some (.slice (some ⟨g, 0, none⟩) l.length cap) ∧ W.cell? ⟨g, i * 5 + 3, none⟩ = some (.int .i64 x.A)) := fun W ho => by
    obtain ⟨_, _, _, c3, c4⟩ := opn_cellsM (h.only ho).own rfl hx
    exact ⟨(h.only ho).c0, c3⟩
  have HE : Hid (∀ W, Only [] w W → W.cell? ⟨3, 0, none⟩ = some E) := fun W ho => (ho.cell (p := ⟨3, 0, none⟩) (lt_of_cell hE) (by simp)).trans hE
  have HA : Hid (∀ W, Calls Tryd.prog 24 #[.int .i64 a] W fun e w' => e = .returned (.bool true) ∧ W = w') := fun W => by have := isAccess_any a W; rw [hac] at this; exact this
  have HS1 : Hid (∀ W, Calls Tryd.prog 34 #[.int .i64 x.A, .int .i64 a] W fun e w' => e = .returned (.bool (withB a x.A)) ∧ W = w') := fun W => hasAll_any x.A a W ⟨by have := hok.1; omega, hok.2.1⟩ ⟨by omega, by omega⟩
  clear h hg hsp hE o1 hx hok
  obtain ⟨n, hn⟩ : ∃ n, l.length = n := ⟨_, rfl⟩
  rw [hn] at hin hm HT
  clear hn
  generalize x.A = xA at *
  cases hwa : withB a xA with
  | false =>
    rw [hwa] at HS1
    go_enter Tryd.func12, Tryd.ntmps12
    go_wp2_with (first | (go_at_call 28; refine hf.mono ?_; rintro e w2 ⟨rfl, ho2⟩; have HO2 : Hid (Only [] w w2) := HO1.out.trans ho2 (fun _ hk => by cases hk); have hE2 := HE.out w2 HO2.out; obtain ⟨k0, k1⟩ := HT.out w2 HO2.out; clear hf ho2) | (go_at_call 24; refine (HA.out _).mono ?_; rintro e w3 ⟨rfl, rfl⟩) | (go_at_call 34; refine (HS1.out _).mono ?_; rintro e w5 ⟨rfl, rfl⟩) | go_in)
    go_ret
    exact ⟨rfl, HO2.out⟩
  | true =>
    rw [hwa] at HS1
    go_enter Tryd.func12, Tryd.ntmps12
    go_wp2_with (first | (go_at_call 28; refine hf.mono ?_; rintro e w2 ⟨rfl, ho2⟩; have HO2 : Hid (Only [] w w2) := HO1.out.trans ho2 (fun _ hk => by cases hk); have hE2 := HE.out w2 HO2.out; obtain ⟨k0, k1⟩ := HT.out w2 HO2.out; clear hf ho2) | (go_at_call 24; refine (HA.out _).mono ?_; rintro e w3 ⟨rfl, rfl⟩) | (go_at_call 34; refine (HS1.out _).mono ?_; rintro e w5 ⟨rfl, rfl⟩) | go_in)
    go_ret
    exact ⟨rfl, HO2.out⟩
set_option maxHeartbeats 1000000 in
theorem anyone_bound (w : World) (t : Nat) (N G a : Int) (E : Value) (hE : w.cell? ⟨0, 0, none⟩ = some E) (hac : accB a = false) :
    Calls Tryd.prog 14 #[.pointer (some ⟨t, 0, none⟩), .agg #[.int .i64 N, .int .i64 G], .int .i64 a] w fun e w' => e = .returned E ∧ Only [] w w' := by
  have o1 : Only [] w (w.alloc (.cells #[.int .i64 N, .int .i64 G] 33)) := (Only.refl [] w).alloc _
  have hE2 : (w.alloc (.cells #[.int .i64 N, .int .i64 G] 33)).cell? ⟨0, 0, none⟩ = some E := (o1.cell (p := ⟨0, 0, none⟩) (lt_of_cell hE) (by simp)).trans hE
  have HO1 : Hid (Only [] w (w.alloc (.cells #[.int .i64 N, .int .i64 G] 33))) := o1
  have HA : Hid (∀ W, Calls Tryd.prog 24 #[.int .i64 a] W fun e w' => e = .returned (.bool false) ∧ W = w') := fun W => by have := isAccess_any a W; rw [hac] at this; exact this
  clear o1
  go_enter Tryd.func14, Tryd.ntmps14
  go_wp2_with (go_at_call 24; refine (HA.out _).mono ?_; rintro e w3 ⟨rfl, rfl⟩)
  go_ret
  exact ⟨rfl, HO1.out⟩
set_option maxRecDepth 100000 in
set_option maxHeartbeats 2000000 in
theorem anyone_in (w : World) (base t : Nat) (v : Value) (l : List Opn) (N G a : Int) (E : Value) (h : ShAt w base t v l) (hg : GoodO l) (hE : w.cell? ⟨1, 0, none⟩ = some E) (hac : accB a = true) :
    Calls Tryd.prog 14 #[.pointer (some ⟨t, 0, none⟩), .agg #[.int .i64 N, .int .i64 G], .int .i64 a] w fun e w' => e = .returned (if l.any (denyB N G a) then E else .nilIface) ∧ Only [] w w' := by
  have o1 : Only [] w (w.alloc (.cells #[.int .i64 N, .int .i64 G] 33)) := (Only.refl [] w).alloc _
  have HO1 : Hid (Only [] w (w.alloc (.cells #[.int .i64 N, .int .i64 G] 33))) := o1
  have hra := acc_range hac
  have HE : Hid (∀ W, Only [] w W → W.cell? ⟨1, 0, none⟩ = some E) := fun W ho => (ho.cell (p := ⟨1, 0, none⟩) (lt_of_cell hE) (by simp)).trans hE
  have HA : Hid (∀ W, Calls Tryd.prog 24 #[.int .i64 a] W fun e w' => e = .returned (.bool true) ∧ W = w') := fun W => by have := isAccess_any a W; rw [hac] at this; exact this
  have HD : Hid (∀ W, _) := fun W => denying_test W N G a ⟨by omega, by omega⟩
  have HCN : Hid (∀ W b c, Only [] w W → TestOf W 50 #[.pointer (some ⟨b, 0, none⟩), .pointer (some ⟨c, 0, none⟩)] (denyB N G a) → Calls Tryd.prog 26 #[v, .func (.func 50) #[] #[.pointer (some ⟨b, 0, none⟩), .pointer (some ⟨c, 0, none⟩)]] W fun e w' => e = .returned (.bool (l.any (denyB N G a))) ∧ Only [] W w') := fun W b c ho ht => contains_denying W base _ _ (denyB N G a) v l (h.only ho).own (by have := hg.most; omega) hg.ok ht
  have HS0 : Hid ((w.alloc (.cells #[.int .i64 N, .int .i64 G] 33)).drew.cell? ⟨t, 0, none⟩ = some v ∧ (w.alloc (.cells #[.int .i64 N, .int .i64 G] 33)).drew.cell? ⟨w.heap.size, 0, none⟩ = some (.int .i64 N) ∧ (w.alloc (.cells #[.int .i64 N, .int .i64 G] 33)).drew.cell? ⟨w.heap.size, 1, none⟩ = some (.int .i64 G)) := by
    obtain ⟨c0, c1⟩ := hand_cells (w := w) (N := N) (G := G) (Only.refl [] (w.alloc (.cells #[.int .i64 N, .int .i64 G] 33))) (by simp)
    exact ⟨(h.only o1).c0, c0, c1⟩
  clear h hg hE
  cases hany : l.any (denyB N G a) with
  | false =>
    rw [hany] at HCN
    go_enter Tryd.func14, Tryd.ntmps14
    go_wp2_with (go_at_call 24; refine (HA.out _).mono ?_; rintro e w3 ⟨rfl, rfl⟩)
    go_region_held3 (fun W => W.cell? ⟨t, 0, none⟩ = some v ∧ W.cell? ⟨w.heap.size, 0, none⟩ = some (.int .i64 N) ∧ W.cell? ⟨w.heap.size, 1, none⟩ = some (.int .i64 G)) (with_reducible first | exact HS0.out | exact HS2.out | exact HS3.out)
      (first
        | (go_at_call 37; refine (HD.out _).mono ?_; rintro e w2 ⟨b, c, rfl, ht2, ho2⟩; have HT2 : Hid (TestOf w2 50 #[.pointer (some ⟨b, 0, none⟩), .pointer (some ⟨c, 0, none⟩)] (denyB N G a)) := ht2; have HO2 : Hid (Only [] w w2) := HO1.out.drew.trans ho2 (fun _ hk => by cases hk); have HS2 : Hid (w2.cell? ⟨t, 0, none⟩ = some v ∧ w2.cell? ⟨w.heap.size, 0, none⟩ = some (.int .i64 N) ∧ w2.cell? ⟨w.heap.size, 1, none⟩ = some (.int .i64 G)) := ThreeO.only HS0.out ho2; clear ht2 ho2)
        | (go_at_call 26; refine (HCN.out _ _ _ HO2.out HT2.out).mono ?_; rintro e w3 ⟨rfl, ho3⟩; have HO3 : Hid (Only [] w w3) := HO2.out.trans ho3 (fun _ hk => by cases hk); have HS3 : Hid (w3.cell? ⟨t, 0, none⟩ = some v ∧ w3.cell? ⟨w.heap.size, 0, none⟩ = some (.int .i64 N) ∧ w3.cell? ⟨w.heap.size, 1, none⟩ = some (.int .i64 G)) := ThreeO.only HS2.out ho3; clear ho3))
    have hE2 := HE.out w3 HO3.out
    go_wp2
    go_ret
    exact ⟨rfl, HO3.out⟩
  | true =>
    rw [hany] at HCN
    go_enter Tryd.func14, Tryd.ntmps14
    go_wp2_with (go_at_call 24; refine (HA.out _).mono ?_; rintro e w3 ⟨rfl, rfl⟩)
    go_region_held3 (fun W => W.cell? ⟨t, 0, none⟩ = some v ∧ W.cell? ⟨w.heap.size, 0, none⟩ = some (.int .i64 N) ∧ W.cell? ⟨w.heap.size, 1, none⟩ = some (.int .i64 G)) (with_reducible first | exact HS0.out | exact HS2.out | exact HS3.out)
      (first
        | (go_at_call 37; refine (HD.out _).mono ?_; rintro e w2 ⟨b, c, rfl, ht2, ho2⟩; have HT2 : Hid (TestOf w2 50 #[.pointer (some ⟨b, 0, none⟩), .pointer (some ⟨c, 0, none⟩)] (denyB N G a)) := ht2; have HO2 : Hid (Only [] w w2) := HO1.out.drew.trans ho2 (fun _ hk => by cases hk); have HS2 : Hid (w2.cell? ⟨t, 0, none⟩ = some v ∧ w2.cell? ⟨w.heap.size, 0, none⟩ = some (.int .i64 N) ∧ w2.cell? ⟨w.heap.size, 1, none⟩ = some (.int .i64 G)) := ThreeO.only HS0.out ho2; clear ht2 ho2)
        | (go_at_call 26; refine (HCN.out _ _ _ HO2.out HT2.out).mono ?_; rintro e w3 ⟨rfl, ho3⟩; have HO3 : Hid (Only [] w w3) := HO2.out.trans ho3 (fun _ hk => by cases hk); have HS3 : Hid (w3.cell? ⟨t, 0, none⟩ = some v ∧ w3.cell? ⟨w.heap.size, 0, none⟩ = some (.int .i64 N) ∧ w3.cell? ⟨w.heap.size, 1, none⟩ = some (.int .i64 G)) := ThreeO.only HS2.out ho3; clear ho3))
    have hE2 := HE.out w3 HO3.out
    go_wp2
    go_ret
    exact ⟨rfl, HO3.out⟩
end Go.Proofs.YtagpahgjbglmaaaDoor
