/- Shares: Down, May, Anyone. -/
import Derived.Test.YtagpahgjbglmaaaDoorSh17
namespace Go.Proofs.YtagpahgjbglmaaaDoor
open Go Go.RowKit Go.Deep

theorem Opns.set2 {w : World} {base g cap n k : Nat} {l : List Opn} {y : Opn} (h : Opns w base (.slice (some ⟨g, 0, none⟩) n cap) l) (hn : l.length = n) (hy : l[k]? = some y) (a d : Int) :
    Opns ((w.setCell ⟨g, k * 5 + 3, none⟩ (.int .i64 a)).setCell ⟨g, k * 5 + 4, none⟩ (.int .i64 d)) base (.slice (some ⟨g, 0, none⟩) n cap) (l.set k { y with A := a, D := d }) := by
  subst hn
  have hk : k < l.length := (List.getElem?_eq_some_iff.1 hy).1
  have e3 := rowOf_set opC_len l k 3 y { y with A := a } (.int .i64 a) (by decide) hy rfl
  have y4 : (l.set k { y with A := a })[k]? = some { y with A := a } := by simp [hk]
  have e4 := rowOf_set opC_len (l.set k { y with A := a }) k 4 _ { y with A := a, D := d } (.int .i64 d) (by decide) y4 rfl
  rw [List.set_set] at e4
  have h3 := (World.ownsRow.stored h (k * 5 + 3) (.int .i64 a)).1
  have h4 := (World.ownsRow.stored h3 (k * 5 + 4) (.int .i64 d)).1
  rw [e3, e4] at h4
  unfold Opns
  rw [List.length_set]
  exact h4
set_option maxHeartbeats 1000000 in
theorem down_none (w : World) (base t : Nat) (v : Value) (l : List Opn) (N G O a d : Int) (i : Nat) (E : Value) (h : ShAt w base t v l) (hg : GoodO l) (hsp : SpotO l ⟨N, G, O, 0, 0⟩ i false) (hE : w.cell? ⟨3, 0, none⟩ = some E) :
    Calls Tryd.prog 8 #[.pointer (some ⟨t, 0, none⟩), .agg #[.int .i64 N, .int .i64 G], .int .i64 O, .int .i64 a, .int .i64 d] w fun e w' => e = .returned E ∧ Only [] w w' := by
  have o1 : Only [] w (w.alloc (.cells #[.int .i64 N, .int .i64 G] 33)) := (Only.refl [] w).alloc _
  have HO1 : Hid (Only [] w (w.alloc (.cells #[.int .i64 N, .int .i64 G] 33))) := o1
  have hf := find_at _ base t v l N G O i false (h.only o1) hg hsp
  have HE : Hid (∀ W, Only [] w W → W.cell? ⟨3, 0, none⟩ = some E) := fun W ho => (ho.cell (p := ⟨3, 0, none⟩) (lt_of_cell hE) (by simp)).trans hE
  clear h hg hsp hE o1
  go_enter Tryd.func8, Tryd.ntmps8
  go_wp2_with (go_at_call 28; refine hf.mono ?_; rintro e w2 ⟨rfl, ho2⟩; have HO2 : Hid (Only [] w w2) := HO1.out.trans ho2 (fun _ hk => by cases hk); have hE2 := HE.out w2 HO2.out; clear hf ho2)
  go_ret
  exact ⟨rfl, HO2.out⟩
set_option maxHeartbeats 1000000 in
theorem down_bound (w : World) (base t : Nat) (v : Value) (l : List Opn) (N G O a d : Int) (i : Nat) (E : Value) (h : ShAt w base t v l) (hg : GoodO l) (hsp : SpotO l ⟨N, G, O, 0, 0⟩ i true) (hE : w.cell? ⟨0, 0, none⟩ = some E) (hb : (accB a && denB d) = false) :
    Calls Tryd.prog 8 #[.pointer (some ⟨t, 0, none⟩), .agg #[.int .i64 N, .int .i64 G], .int .i64 O, .int .i64 a, .int .i64 d] w fun e w' => e = .returned E ∧ Only [] w w' := by
  have o1 : Only [] w (w.alloc (.cells #[.int .i64 N, .int .i64 G] 33)) := (Only.refl [] w).alloc _
  have HO1 : Hid (Only [] w (w.alloc (.cells #[.int .i64 N, .int .i64 G] 33))) := o1
  have hf := find_at _ base t v l N G O i true (h.only o1) hg hsp
  have HE : Hid (∀ W, Only [] w W → W.cell? ⟨0, 0, none⟩ = some E) := fun W ho => (ho.cell (p := ⟨0, 0, none⟩) (lt_of_cell hE) (by simp)).trans hE
  clear h hg hsp hE o1
  cases hac : accB a with
  | false =>
    have HA : Hid (∀ W, Calls Tryd.prog 24 #[.int .i64 a] W fun e w' => e = .returned (.bool false) ∧ W = w') := fun W => by have := isAccess_any a W; rw [hac] at this; exact this
    go_enter Tryd.func8, Tryd.ntmps8
    go_wp2_with (first | (go_at_call 28; refine hf.mono ?_; rintro e w2 ⟨rfl, ho2⟩; have HO2 : Hid (Only [] w w2) := HO1.out.trans ho2 (fun _ hk => by cases hk); have hE2 := HE.out w2 HO2.out; clear hf ho2) | (go_at_call 24; refine (HA.out _).mono ?_; rintro e w3 ⟨rfl, rfl⟩) | go_in)
    go_ret
    exact ⟨rfl, HO2.out⟩
  | true =>
    have hdn : denB d = false := by rw [hac] at hb; simpa using hb
    have HA : Hid (∀ W, Calls Tryd.prog 24 #[.int .i64 a] W fun e w' => e = .returned (.bool true) ∧ W = w') := fun W => by have := isAccess_any a W; rw [hac] at this; exact this
    have HDN : Hid (∀ W, Calls Tryd.prog 25 #[.int .i64 d] W fun e w' => e = .returned (.bool false) ∧ W = w') := fun W => by have := isDeny_any d W; rw [hdn] at this; exact this
    go_enter Tryd.func8, Tryd.ntmps8
    go_wp2_with (first | (go_at_call 28; refine hf.mono ?_; rintro e w2 ⟨rfl, ho2⟩; have HO2 : Hid (Only [] w w2) := HO1.out.trans ho2 (fun _ hk => by cases hk); have hE2 := HE.out w2 HO2.out; clear hf ho2) | (go_at_call 24; refine (HA.out _).mono ?_; rintro e w3 ⟨rfl, rfl⟩) | (go_at_call 25; refine (HDN.out _).mono ?_; rintro e w4 ⟨rfl, rfl⟩) | go_in)
    go_ret
    exact ⟨rfl, HO2.out⟩
theorem acc_of {a d : Int} (h : (accB a && denB d) = true) : accB a = true ∧ denB d = true ∧ (1 ≤ a ∧ a ≤ 3) ∧ 0 ≤ d ∧ d ≤ 3 := by
  rw [Bool.and_eq_true] at h
  obtain ⟨h1, h2⟩ := h
  refine ⟨h1, h2, ?_, ?_⟩
  · simpa [accB] using h1
  · simpa [denB] using h2
set_option maxRecDepth 100000 in
set_option maxHeartbeats 2000000 in
theorem down_shape (w : World) (base t : Nat) (v : Value) (l : List Opn) (N G O a d : Int) (i : Nat) (x : Opn) (E : Value) (h : ShAt w base t v l) (hg : GoodO l) (hsp : SpotO l ⟨N, G, O, 0, 0⟩ i true) (hx : l[i]? = some x) (hE : w.cell? ⟨4, 0, none⟩ = some E) (hb : (accB a && denB d) = true) (hs : (withB a x.A && withB d x.D) = false) :
    Calls Tryd.prog 8 #[.pointer (some ⟨t, 0, none⟩), .agg #[.int .i64 N, .int .i64 G], .int .i64 O, .int .i64 a, .int .i64 d] w fun e w' => e = .returned E ∧ Only [] w w' := by
  have o1 : Only [] w (w.alloc (.cells #[.int .i64 N, .int .i64 G] 33)) := (Only.refl [] w).alloc _
  have HO1 : Hid (Only [] w (w.alloc (.cells #[.int .i64 N, .int .i64 G] 33))) := o1
  have hf := find_at _ base t v l N G O i true (h.only o1) hg hsp
  obtain ⟨hac, hdn, hra, hrd⟩ := acc_of hb
  have hok := hg.ok x (List.mem_of_getElem? hx)
  have hin : i < l.length := (List.getElem?_eq_some_iff.1 hx).1
  have hm := hg.most
  rcases h.own.open with ⟨rfl, rfl⟩ | ⟨g, cap, cur, rfl, _, hgl, _⟩
  · simp at hin
  have HT : Hid (∀ W, Only [] w W → W.cell? ⟨t, 0, none⟩ = some (.slice (some ⟨g, 0, none⟩) l.length cap) ∧ W.cell? ⟨g, i * 5 + 3, none⟩ = some (.int .i64 x.A) ∧ W.cell? ⟨g, i * 5 + 4, none⟩ = some (.int .i64 x.D)) := fun W ho => by
    obtain ⟨_, _, _, c3, c4⟩ := opn_cellsM (h.only ho).own rfl hx
    exact ⟨(h.only ho).c0, c3, c4⟩
  have HE : Hid (∀ W, Only [] w W → W.cell? ⟨4, 0, none⟩ = some E) := fun W ho => (ho.cell (p := ⟨4, 0, none⟩) (lt_of_cell hE) (by simp)).trans hE
  have HA : Hid (∀ W, Calls Tryd.prog 24 #[.int .i64 a] W fun e w' => e = .returned (.bool true) ∧ W = w') := fun W => by have := isAccess_any a W; rw [hac] at this; exact this
  have HDN : Hid (∀ W, Calls Tryd.prog 25 #[.int .i64 d] W fun e w' => e = .returned (.bool true) ∧ W = w') := fun W => by have := isDeny_any d W; rw [hdn] at this; exact this
  have HS1 : Hid (∀ W, Calls Tryd.prog 34 #[.int .i64 x.A, .int .i64 a] W fun e w' => e = .returned (.bool (withB a x.A)) ∧ W = w') := fun W => hasAll_any x.A a W ⟨by have := hok.1; omega, hok.2.1⟩ ⟨by omega, by omega⟩
  have HS2 : Hid (∀ W, Calls Tryd.prog 34 #[.int .i64 x.D, .int .i64 d] W fun e w' => e = .returned (.bool (withB d x.D)) ∧ W = w') := fun W => hasAll_any x.D d W hok.2.2 hrd
  clear h hg hsp hE o1 hx hok
  obtain ⟨n, hn⟩ : ∃ n, l.length = n := ⟨_, rfl⟩
  rw [hn] at hin hm HT
  clear hn
  generalize x.A = xA at *
  generalize x.D = xD at *
  cases hwa : withB a xA with
  | false =>
    rw [hwa] at HS1
    go_enter Tryd.func8, Tryd.ntmps8
    go_wp2_with (first | (go_at_call 28; refine hf.mono ?_; rintro e w2 ⟨rfl, ho2⟩; have HO2 : Hid (Only [] w w2) := HO1.out.trans ho2 (fun _ hk => by cases hk); have hE2 := HE.out w2 HO2.out; obtain ⟨k0, k1, k2⟩ := HT.out w2 HO2.out; clear hf ho2) | (go_at_call 24; refine (HA.out _).mono ?_; rintro e w3 ⟨rfl, rfl⟩) | (go_at_call 25; refine (HDN.out _).mono ?_; rintro e w4 ⟨rfl, rfl⟩) | (go_at_call 34; refine (HS1.out _).mono ?_; rintro e w5 ⟨rfl, rfl⟩) | go_in)
    go_ret
    exact ⟨rfl, HO2.out⟩
  | true =>
    have hwd : withB d xD = false := by rw [hwa] at hs; simpa using hs
    rw [hwa] at HS1
    rw [hwd] at HS2
    go_enter Tryd.func8, Tryd.ntmps8
    go_wp2_with (first | (go_at_call 28; refine hf.mono ?_; rintro e w2 ⟨rfl, ho2⟩; have HO2 : Hid (Only [] w w2) := HO1.out.trans ho2 (fun _ hk => by cases hk); have hE2 := HE.out w2 HO2.out; obtain ⟨k0, k1, k2⟩ := HT.out w2 HO2.out; clear hf ho2) | (go_at_call 24; refine (HA.out _).mono ?_; rintro e w3 ⟨rfl, rfl⟩) | (go_at_call 25; refine (HDN.out _).mono ?_; rintro e w4 ⟨rfl, rfl⟩) | (go_at_call 34; refine (HS1.out _).mono ?_; rintro e w5 ⟨rfl, rfl⟩; clear HS1) | (go_at_call 34; refine (HS2.out _).mono ?_; rintro e w5 ⟨rfl, rfl⟩) | go_in)
    go_ret
    exact ⟨rfl, HO2.out⟩
set_option maxRecDepth 100000 in
set_option maxHeartbeats 2000000 in
theorem down_ok (w : World) (base t : Nat) (v : Value) (l : List Opn) (N G O a d : Int) (i : Nat) (x : Opn) (h : ShAt w base t v l) (hg : GoodO l) (hsp : SpotO l ⟨N, G, O, 0, 0⟩ i true) (hx : l[i]? = some x) (hb : (accB a && denB d) = true) (hs : (withB a x.A && withB d x.D) = true) :
    Calls Tryd.prog 8 #[.pointer (some ⟨t, 0, none⟩), .agg #[.int .i64 N, .int .i64 G], .int .i64 O, .int .i64 a, .int .i64 d] w fun e w' => e = .returned .nilIface ∧ ShAt w' base t v (l.set i { x with A := a, D := d }) ∧ Only (t :: v.ownBlock.toList) w w' := by
  have o1 : Only [] w (w.alloc (.cells #[.int .i64 N, .int .i64 G] 33)) := (Only.refl [] w).alloc _
  have HO1 : Hid (Only [] w (w.alloc (.cells #[.int .i64 N, .int .i64 G] 33))) := o1
  have hf := find_at _ base t v l N G O i true (h.only o1) hg hsp
  obtain ⟨hac, hdn, hra, hrd⟩ := acc_of hb
  have hok := hg.ok x (List.mem_of_getElem? hx)
  have hin : i < l.length := (List.getElem?_eq_some_iff.1 hx).1
  have hm := hg.most
  rw [Bool.and_eq_true] at hs
  rcases h.own.open with ⟨rfl, rfl⟩ | ⟨g, cap, cur, rfl, _, hgl, _⟩
  · simp at hin
  have hgt := h.ne g rfl
  have HT : Hid (∀ W, Only [] w W → W.cell? ⟨t, 0, none⟩ = some (.slice (some ⟨g, 0, none⟩) l.length cap) ∧ W.cell? ⟨g, i * 5 + 3, none⟩ = some (.int .i64 x.A) ∧ W.cell? ⟨g, i * 5 + 4, none⟩ = some (.int .i64 x.D) ∧ W.frozen? ⟨g, i * 5 + 3, none⟩ = false ∧ W.frozen? ⟨g, i * 5 + 4, none⟩ = false ∧ ShAt ((W.setCell ⟨g, i * 5 + 3, none⟩ (.int .i64 a)).setCell ⟨g, i * 5 + 4, none⟩ (.int .i64 d)) base t (.slice (some ⟨g, 0, none⟩) l.length cap) (l.set i { x with A := a, D := d }) ∧ Only [t, g] w ((W.setCell ⟨g, i * 5 + 3, none⟩ (.int .i64 a)).setCell ⟨g, i * 5 + 4, none⟩ (.int .i64 d))) := fun W ho => by
    have hW := h.only ho
    obtain ⟨_, _, _, c3, c4⟩ := opn_cellsM hW.own rfl hx
    have hg1 : g ∈ [g] := by simp
    have hx2 : Only [g] W ((W.setCell ⟨g, i * 5 + 3, none⟩ (.int .i64 a)).setCell ⟨g, i * 5 + 4, none⟩ (.int .i64 d)) := ((Only.refl [g] W).setCell (Or.inl hg1) _).setCell (Or.inl hg1) _
    have htl : t < W.heap.size := lt_of_cell hW.c0
    have hnt : t ∉ [g] := by simpa using Ne.symm hgt
    exact ⟨hW.c0, c3, c4, opn_frozen hW.own rfl _, opn_frozen hW.own rfl _, ⟨(hx2.cell (p := ⟨t, 0, none⟩) htl hnt).trans hW.c0, (hx2.frozen (p := ⟨t, 0, none⟩) htl hnt).trans hW.fr, hW.own.set2 rfl hx a d, h.ne⟩, (ho.mono (L' := [t, g]) (fun _ hk => by cases hk)).trans hx2 (fun k hk => Or.inl (by simp at hk; simp [hk]))⟩
  have HA : Hid (∀ W, Calls Tryd.prog 24 #[.int .i64 a] W fun e w' => e = .returned (.bool true) ∧ W = w') := fun W => by have := isAccess_any a W; rw [hac] at this; exact this
  have HDN : Hid (∀ W, Calls Tryd.prog 25 #[.int .i64 d] W fun e w' => e = .returned (.bool true) ∧ W = w') := fun W => by have := isDeny_any d W; rw [hdn] at this; exact this
  have HS1 : Hid (∀ W, Calls Tryd.prog 34 #[.int .i64 x.A, .int .i64 a] W fun e w' => e = .returned (.bool true) ∧ W = w') := fun W => by have := hasAll_any x.A a W ⟨by have := hok.1; omega, hok.2.1⟩ ⟨by omega, by omega⟩; rw [hs.1] at this; exact this
  have HS2 : Hid (∀ W, Calls Tryd.prog 34 #[.int .i64 x.D, .int .i64 d] W fun e w' => e = .returned (.bool true) ∧ W = w') := fun W => by have := hasAll_any x.D d W hok.2.2 hrd; rw [hs.2] at this; exact this
  clear h hg hsp o1 hok hs
  obtain ⟨n, hn⟩ : ∃ n, l.length = n := ⟨_, rfl⟩
  rw [hn] at hin hm HT ⊢
  clear hn hx
  generalize l.set i { x with A := a, D := d } = l' at HT ⊢
  generalize x.A = xA at *
  generalize x.D = xD at *
  go_enter Tryd.func8, Tryd.ntmps8
  go_wp2_with (first | (go_at_call 28; refine hf.mono ?_; rintro e w2 ⟨rfl, ho2⟩; have HO2 : Hid (Only [] w w2) := HO1.out.trans ho2 (fun _ hk => by cases hk); obtain ⟨k0, k1, k2, k3, k4, hS, hO⟩ := HT.out w2 HO2.out; have HS : Hid (ShAt ((w2.setCell ⟨g, i * 5 + 3, none⟩ (.int .i64 a)).setCell ⟨g, i * 5 + 4, none⟩ (.int .i64 d)) base t (.slice (some ⟨g, 0, none⟩) n cap) l' ∧ Only [t, g] w ((w2.setCell ⟨g, i * 5 + 3, none⟩ (.int .i64 a)).setCell ⟨g, i * 5 + 4, none⟩ (.int .i64 d))) := ⟨hS, hO⟩; clear hS hO; clear hf ho2) | (go_at_call 24; refine (HA.out _).mono ?_; rintro e w3 ⟨rfl, rfl⟩) | (go_at_call 25; refine (HDN.out _).mono ?_; rintro e w4 ⟨rfl, rfl⟩) | (go_at_call 34; refine (HS1.out _).mono ?_; rintro e w5 ⟨rfl, rfl⟩; clear HS1) | (go_at_call 34; refine (HS2.out _).mono ?_; rintro e w5 ⟨rfl, rfl⟩) | go_in)
  go_ret
  exact ⟨rfl, HS.out.1, HS.out.2⟩
end Go.Proofs.YtagpahgjbglmaaaDoor
