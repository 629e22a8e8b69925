/- Shares: the document's Down, May, Anyone. -/
import Derived.Test.YtagpahgjbglmaaaDoorSr2
namespace Go.Proofs.YtagpahgjbglmaaaDoor
open Go Go.RowKit Go.Deep

theorem first_cases (p : Opn → Bool) (l : List Opn) : (∀ x ∈ l, p x = false) ∨ ∃ (i : Nat) (x : Opn), l[i]? = some x ∧ p x = true ∧ ∀ j y, j < i → l[j]? = some y → p y = false := by
  induction l with
  | nil => exact Or.inl (fun x hx => by cases hx)
  | cons z l ih =>
    cases hz : p z with
    | true => exact Or.inr ⟨0, z, rfl, hz, fun j y hj => by omega⟩
    | false =>
      rcases ih with h | ⟨i, x, h1, h2, h3⟩
      · exact Or.inl (fun x hx => by
          rcases List.mem_cons.1 hx with rfl | hx
          · exact hz
          · exact h x hx)
      · refine Or.inr ⟨i + 1, x, h1, h2, fun j y hj hy => ?_⟩
        cases j with
        | zero => cases hy; exact hz
        | succ j => exact h3 j y (by omega) hy
theorem rfind_no (w : World) (base t : Nat) (v : Value) (l : List Opn) (N G O : Int) (h : RsAt w base t v l) (hl : l.length ≤ 40) (hn : ∀ x ∈ l, keyB N G O x = false) :
    Calls Tryd.prog 32 #[.pointer (some ⟨t, 0, none⟩), .agg #[.int .i64 N, .int .i64 G], .int .i64 O] w fun e w' => e = .returned (.int .i64 (-1)) ∧ Only [] w w' :=
  (rfind_any w base t v l N G O h (by omega)).mono fun e w' hh => by
    obtain ⟨r, he, hf, ho⟩ := hh
    rcases hf with ⟨rfl, _⟩ | ⟨i, _, x, hx, hp, _⟩
    · exact ⟨he, ho⟩
    · rw [hn x (List.mem_of_getElem? hx)] at hp
      cases hp
theorem rfind_at (w : World) (base t : Nat) (v : Value) (l : List Opn) (N G O : Int) (i : Nat) (x : Opn) (h : RsAt w base t v l) (hl : l.length ≤ 40) (hx : l[i]? = some x) (hp : keyB N G O x = true) (hb : ∀ j y, j < i → l[j]? = some y → keyB N G O y = false) :
    Calls Tryd.prog 32 #[.pointer (some ⟨t, 0, none⟩), .agg #[.int .i64 N, .int .i64 G], .int .i64 O] w fun e w' => e = .returned (.int .i64 (i : Int)) ∧ Only [] w w' :=
  (rfind_any w base t v l N G O h (by omega)).mono fun e w' hh => by
    obtain ⟨r, he, hf, ho⟩ := hh
    rcases hf with ⟨_, hno⟩ | ⟨j, rfl, y, hy, hq, hfi⟩
    · rw [hno x (List.mem_of_getElem? hx)] at hp
      cases hp
    · have e : j = i := by
        rcases Nat.lt_trichotomy j i with h1 | h1 | h1
        · rw [hb j y h1 hy] at hq; cases hq
        · exact h1
        · rw [hfi i x h1 hx] at hp; cases hp
      subst e
      exact ⟨he, ho⟩
theorem not_same {l : List Opn} {N G O : Int} (h : ∀ x ∈ l, keyB N G O x = false) : ∀ x ∈ l, ¬ sameO x (keyO N G O) := fun x hx => key_not (h x hx)
theorem acc_cases {a : Int} (h : accB a = false) : a < 1 ∨ 3 < a := by
  unfold accB at h
  simp at h
  omega
theorem acc_in {a : Int} (h : accB a = true) : 1 ≤ a ∧ a ≤ 3 := by simpa [accB] using h
/-- Behind a call that only reads, an open's cells stand. -/
theorem RsAt.cellsAt {w : World} {base t g n cap i : Nat} {l : List Opn} {x : Opn} (h : RsAt w base t (.slice (some ⟨g, 0, none⟩) n cap) l) (hn : l.length = n) (hx : l[i]? = some x) (W : World) (ho : Only [] w W) : W.cell? ⟨t, 0, none⟩ = some (.slice (some ⟨g, 0, none⟩) n cap) ∧ W.cell? ⟨g, i * 5, none⟩ = some (.int .i64 x.N) ∧ W.cell? ⟨g, i * 5 + 1, none⟩ = some (.int .i64 x.G) ∧ W.cell? ⟨g, i * 5 + 2, none⟩ = some (.int .i64 x.O) ∧ W.cell? ⟨g, i * 5 + 3, none⟩ = some (.int .i64 x.A) ∧ W.cell? ⟨g, i * 5 + 4, none⟩ = some (.int .i64 x.D) :=
  ⟨(h.only ho).c0, rn_cells (h.only ho).own hn hx⟩
theorem RsAt.place {w : World} {base t i : Nat} {v : Value} {l : List Opn} {x : Opn} (h : RsAt w base t v l) (hx : l[i]? = some x) : ∃ g cap, v = .slice (some ⟨g, 0, none⟩) l.length cap := by
  rcases h.own.open with ⟨rfl, rfl⟩ | ⟨g, cap, cur, rfl, _⟩
  · cases hx
  · exact ⟨g, cap, rfl⟩
/-! ### Down -/
set_option maxHeartbeats 1000000 in
theorem rdown_none (w : World) (base t : Nat) (v : Value) (l : List Opn) (N G O a d : Int) (h : RsAt w base t v l) (hl : l.length ≤ 40) (hno : ∀ x ∈ l, keyB N G O x = false) :
    Calls Tryd.prog 9 #[.pointer (some ⟨t, 0, none⟩), .agg #[.int .i64 N, .int .i64 G], .int .i64 O, .int .i64 a, .int .i64 d] w fun e w' => e = .returned (.int .i64 5) ∧ Only [] w w' := by
  have o1 : Only [] w (w.alloc (.cells #[.int .i64 N, .int .i64 G] 33)) := (Only.refl [] w).alloc _
  have HO1 : Hid (Only [] w (w.alloc (.cells #[.int .i64 N, .int .i64 G] 33))) := o1
  have hf := rfind_no _ base t v l N G O (h.only o1) hl hno
  clear h hno o1
  go_enter Tryd.func9, Tryd.ntmps9
  go_wp2_with (first | (go_at_call 32; refine hf.mono ?_; rintro e w2 ⟨rfl, ho2⟩; have HO2 : Hid (Only [] w w2) := HO1.out.trans ho2 (fun _ hk => by cases hk); clear hf ho2) | go_in)
  go_ret
  exact ⟨rfl, HO2.out⟩
set_option maxHeartbeats 1000000 in
theorem rdown_bound (w : World) (base t : Nat) (v : Value) (l : List Opn) (N G O a d : Int) (i : Nat) (x : Opn) (h : RsAt w base t v l) (hl : l.length ≤ 40) (hx : l[i]? = some x) (hp : keyB N G O x = true) (hfi : ∀ j y, j < i → l[j]? = some y → keyB N G O y = false) (hb : (accB a && denB d) = false) :
    Calls Tryd.prog 9 #[.pointer (some ⟨t, 0, none⟩), .agg #[.int .i64 N, .int .i64 G], .int .i64 O, .int .i64 a, .int .i64 d] w fun e w' => e = .returned (.int .i64 2) ∧ Only [] w w' := by
  have o1 : Only [] w (w.alloc (.cells #[.int .i64 N, .int .i64 G] 33)) := (Only.refl [] w).alloc _
  have HO1 : Hid (Only [] w (w.alloc (.cells #[.int .i64 N, .int .i64 G] 33))) := o1
  have hf := rfind_at _ base t v l N G O i x (h.only o1) hl hx hp hfi
  have HB : Hid (∀ W, Calls Tryd.prog 30 #[.int .i64 a, .int .i64 d] W fun e w' => e = .returned (.bool true) ∧ W = w') := fun W => by have := rbound_any a d W; rw [hb] at this; exact this
  clear h hx hp hfi o1 hb
  go_enter Tryd.func9, Tryd.ntmps9
  go_wp2_with (first | (go_at_call 32; refine hf.mono ?_; rintro e w2 ⟨rfl, ho2⟩; have HO2 : Hid (Only [] w w2) := HO1.out.trans ho2 (fun _ hk => by cases hk); clear hf ho2) | (go_at_call 30; refine (HB.out _).mono ?_; rintro e w3 ⟨rfl, rfl⟩) | go_in)
  go_ret
  exact ⟨rfl, HO2.out⟩
set_option maxRecDepth 100000 in
set_option maxHeartbeats 2000000 in
theorem rdown_shape (w : World) (base t : Nat) (v : Value) (l : List Opn) (N G O a d : Int) (i : Nat) (x : Opn) (h : RsAt w base t v l) (hl : l.length ≤ 40) (hok : OkO x) (hx : l[i]? = some x) (hp : keyB N G O x = true) (hfi : ∀ j y, j < i → l[j]? = some y → keyB N G O y = false) (hb : (accB a && denB d) = true) (hs : (withB a x.A && withB d x.D) = false) :
    Calls Tryd.prog 9 #[.pointer (some ⟨t, 0, none⟩), .agg #[.int .i64 N, .int .i64 G], .int .i64 O, .int .i64 a, .int .i64 d] w fun e w' => e = .returned (.int .i64 3) ∧ Only [] w w' := by
  have o1 : Only [] w (w.alloc (.cells #[.int .i64 N, .int .i64 G] 33)) := (Only.refl [] w).alloc _
  have HO1 : Hid (Only [] w (w.alloc (.cells #[.int .i64 N, .int .i64 G] 33))) := o1
  have hf := rfind_at _ base t v l N G O i x (h.only o1) hl hx hp hfi
  have HB : Hid (∀ W, Calls Tryd.prog 30 #[.int .i64 a, .int .i64 d] W fun e w' => e = .returned (.bool false) ∧ W = w') := fun W => by have := rbound_any a d W; rw [hb] at this; exact this
  obtain ⟨_, _, hra, hrd⟩ := acc_of hb
  have HS1 : Hid (∀ W, Calls Tryd.prog 35 #[.int .i64 a, .int .i64 x.A] W fun e w' => e = .returned (.bool (withB a x.A)) ∧ W = w') := fun W => rwithin_any a x.A W ⟨by omega, by omega⟩ ⟨by have := hok.1; omega, hok.2.1⟩
  have HS2 : Hid (∀ W, Calls Tryd.prog 35 #[.int .i64 d, .int .i64 x.D] W fun e w' => e = .returned (.bool (withB d x.D)) ∧ W = w') := fun W => rwithin_any d x.D W hrd hok.2.2
  obtain ⟨g, cap, rfl⟩ := h.place hx
  have hin : i < l.length := (List.getElem?_eq_some_iff.1 hx).1
  have HT : Hid (∀ W, Only [] w W → _) := fun W ho => h.cellsAt rfl hx W ho
  obtain ⟨n, hn⟩ : ∃ n, l.length = n := ⟨_, rfl⟩
  rw [hn] at hin hl HT
  clear h hx hp hfi o1 hb hok hn
  generalize x.A = xA at *
  generalize x.D = xD at *
  cases hw : withB a xA with
  | false =>
    rw [hw] at HS1
    go_enter Tryd.func9, Tryd.ntmps9
    go_wp2_with (first | (go_at_call 32; refine hf.mono ?_; rintro e w2 ⟨rfl, ho2⟩; have HO2 : Hid (Only [] w w2) := HO1.out.trans ho2 (fun _ hk => by cases hk); obtain ⟨k0, k1, k2, k3, k4, k5⟩ := HT.out w2 HO2.out; clear hf ho2) | (go_at_call 30; refine (HB.out _).mono ?_; rintro e w3 ⟨rfl, rfl⟩) | (go_at_call 35; refine (HS1.out _).mono ?_; rintro e w4 ⟨rfl, rfl⟩) | go_in)
    go_ret
    exact ⟨rfl, HO2.out⟩
  | true =>
    rw [hw] at HS1 hs
    rw [Bool.true_and] at hs
    rw [hs] at HS2
    go_enter Tryd.func9, Tryd.ntmps9
    go_wp2_with (first | (go_at_call 32; refine hf.mono ?_; rintro e w2 ⟨rfl, ho2⟩; have HO2 : Hid (Only [] w w2) := HO1.out.trans ho2 (fun _ hk => by cases hk); obtain ⟨k0, k1, k2, k3, k4, k5⟩ := HT.out w2 HO2.out; clear hf ho2) | (go_at_call 30; refine (HB.out _).mono ?_; rintro e w3 ⟨rfl, rfl⟩) | (go_at_call 35; refine (HS1.out _).mono ?_; rintro e w4 ⟨rfl, rfl⟩; clear HS1) | (go_at_call 35; refine (HS2.out _).mono ?_; rintro e w5 ⟨rfl, rfl⟩) | go_in)
    go_ret
    exact ⟨rfl, HO2.out⟩
/-- Two cells of one open are set. -/
theorem RsAt.set2 {w : World} {base t g n cap i : Nat} {l : List Opn} {x : Opn} (h : RsAt w base t (.slice (some ⟨g, 0, none⟩) n cap) l) (hn : l.length = n) (hx : l[i]? = some x) (a d : Int) (W : World) (ho : Only [] w W) :
    W.frozen? ⟨g, i * 5 + 3, none⟩ = false ∧ W.frozen? ⟨g, i * 5 + 4, none⟩ = false ∧ t < W.heap.size ∧ g < W.heap.size ∧ (W.setCell ⟨g, i * 5 + 3, none⟩ (.int .i64 a)).cell? ⟨t, 0, none⟩ = some (.slice (some ⟨g, 0, none⟩) n cap) ∧ (W.setCell ⟨g, i * 5 + 3, none⟩ (.int .i64 a)).cell? ⟨g, i * 5 + 4, none⟩ = some (.int .i64 x.D) ∧ RsAt ((W.setCell ⟨g, i * 5 + 3, none⟩ (.int .i64 a)).setCell ⟨g, i * 5 + 4, none⟩ (.int .i64 d)) base t (.slice (some ⟨g, 0, none⟩) n cap) (l.set i { x with A := a, D := d }) ∧ Only [t, g] w ((W.setCell ⟨g, i * 5 + 3, none⟩ (.int .i64 a)).setCell ⟨g, i * 5 + 4, none⟩ (.int .i64 d)) := by
  have hW := h.only ho
  obtain ⟨_, _, _, c3, c4⟩ := rn_cells hW.own hn hx
  have hgt := h.ne g rfl
  have hg1 : g ∈ [g] := by simp
  have hx1 : Only [g] W (W.setCell ⟨g, i * 5 + 3, none⟩ (.int .i64 a)) := (Only.refl [g] W).setCell (Or.inl hg1) _
  have hx2 : Only [g] W ((W.setCell ⟨g, i * 5 + 3, none⟩ (.int .i64 a)).setCell ⟨g, i * 5 + 4, none⟩ (.int .i64 d)) := hx1.setCell (Or.inl hg1) _
  have htl : t < W.heap.size := lt_of_cell hW.c0
  have hnt : t ∉ [g] := by simpa using Ne.symm hgt
  have hin : i < l.length := (List.getElem?_eq_some_iff.1 hx).1
  have r1 := hW.own.set1 (j := 3) (z := { x with A := a }) (u := .int .i64 a) hn hx (by decide) rfl
  have r2 := r1.set1 (k := i) (j := 4) (y := { x with A := a }) (z := { x with A := a, D := d }) (u := .int .i64 d) (by rw [List.length_set]; exact hn) (by simp [hin]) (by decide) rfl
  rw [List.set_set] at r2
  exact ⟨rn_frozen hW.own hn _, rn_frozen hW.own hn _, htl, lt_of_cell c3, (hx1.cell (p := ⟨t, 0, none⟩) htl hnt).trans hW.c0, (World.cell?_setCell_other _ _ _ _ (by simp)).trans c4, ⟨(hx2.cell (p := ⟨t, 0, none⟩) htl hnt).trans hW.c0, (hx2.frozen (p := ⟨t, 0, none⟩) htl hnt).trans hW.fr, r2, h.ne⟩, (ho.mono (L' := [t, g]) (fun _ hk => by cases hk)).trans hx2 (fun k hk => Or.inl (by simp at hk; simp [hk]))⟩
set_option maxRecDepth 100000 in
set_option maxHeartbeats 2000000 in
theorem rdown_ok (w : World) (base t : Nat) (v : Value) (l : List Opn) (N G O a d : Int) (i : Nat) (x : Opn) (h : RsAt w base t v l) (hl : l.length ≤ 40) (hok : OkO x) (hx : l[i]? = some x) (hp : keyB N G O x = true) (hfi : ∀ j y, j < i → l[j]? = some y → keyB N G O y = false) (hb : (accB a && denB d) = true) (hs : (withB a x.A && withB d x.D) = true) :
    Calls Tryd.prog 9 #[.pointer (some ⟨t, 0, none⟩), .agg #[.int .i64 N, .int .i64 G], .int .i64 O, .int .i64 a, .int .i64 d] w fun e w' => e = .returned (.int .i64 0) ∧ RsAt w' base t v (l.set i { x with A := a, D := d }) ∧ Only (t :: v.ownBlock.toList) w w' := by
  have o1 : Only [] w (w.alloc (.cells #[.int .i64 N, .int .i64 G] 33)) := (Only.refl [] w).alloc _
  have HO1 : Hid (Only [] w (w.alloc (.cells #[.int .i64 N, .int .i64 G] 33))) := o1
  have hf := rfind_at _ base t v l N G O i x (h.only o1) hl hx hp hfi
  have HB : Hid (∀ W, Calls Tryd.prog 30 #[.int .i64 a, .int .i64 d] W fun e w' => e = .returned (.bool false) ∧ W = w') := fun W => by have := rbound_any a d W; rw [hb] at this; exact this
  obtain ⟨_, _, hra, hrd⟩ := acc_of hb
  rw [Bool.and_eq_true] at hs
  have HS1 : Hid (∀ W, Calls Tryd.prog 35 #[.int .i64 a, .int .i64 x.A] W fun e w' => e = .returned (.bool true) ∧ W = w') := fun W => by have := rwithin_any a x.A W ⟨by omega, by omega⟩ ⟨by have := hok.1; omega, hok.2.1⟩; rw [hs.1] at this; exact this
  have HS2 : Hid (∀ W, Calls Tryd.prog 35 #[.int .i64 d, .int .i64 x.D] W fun e w' => e = .returned (.bool true) ∧ W = w') := fun W => by have := rwithin_any d x.D W hrd hok.2.2; rw [hs.2] at this; exact this
  obtain ⟨g, cap, rfl⟩ := h.place hx
  have hin : i < l.length := (List.getElem?_eq_some_iff.1 hx).1
  have HT : Hid (∀ W, Only [] w W → _) := fun W ho => h.cellsAt rfl hx W ho
  have HU : Hid (∀ W, Only [] w W → _) := fun W ho => h.set2 rfl hx a d W ho
  obtain ⟨n, hn⟩ : ∃ n, l.length = n := ⟨_, rfl⟩
  rw [hn] at hin hl HT HU ⊢
  clear h hx hp hfi o1 hb hok hn hs
  generalize l.set i { x with A := a, D := d } = l' at HU ⊢
  generalize x.A = xA at *
  generalize x.D = xD at *
  go_enter Tryd.func9, Tryd.ntmps9
  go_wp2_with (first | (go_at_call 32; refine hf.mono ?_; rintro e w2 ⟨rfl, ho2⟩; have HO2 : Hid (Only [] w w2) := HO1.out.trans ho2 (fun _ hk => by cases hk); obtain ⟨k0, k1, k2, k3, k4, k5⟩ := HT.out w2 HO2.out; obtain ⟨u0, u1, u2, u3, u4, u5, hS, hO⟩ := HU.out w2 HO2.out; have HS : Hid (RsAt ((w2.setCell ⟨g, i * 5 + 3, none⟩ (.int .i64 a)).setCell ⟨g, i * 5 + 4, none⟩ (.int .i64 d)) base t (.slice (some ⟨g, 0, none⟩) n cap) l' ∧ Only [t, g] w ((w2.setCell ⟨g, i * 5 + 3, none⟩ (.int .i64 a)).setCell ⟨g, i * 5 + 4, none⟩ (.int .i64 d))) := ⟨hS, hO⟩; clear hS hO u5; clear hf ho2) | (go_at_call 30; refine (HB.out _).mono ?_; rintro e w3 ⟨rfl, rfl⟩) | (go_at_call 35; refine (HS1.out _).mono ?_; rintro e w4 ⟨rfl, rfl⟩; clear HS1) | (go_at_call 35; refine (HS2.out _).mono ?_; rintro e w5 ⟨rfl, rfl⟩) | go_in)
  go_ret
  exact ⟨rfl, HS.out.1, HS.out.2⟩
/-- Down, whole. -/
theorem rdown_any (w : World) (base t : Nat) (v : Value) (l : List Opn) (A : Nat → Addr) (N G O a d : Int) (h : RsAt w base t v l) (hl : l.length ≤ 40) (hok : ∀ x ∈ l, OkO x) :
    Calls Tryd.prog 9 #[.pointer (some ⟨t, 0, none⟩), .agg #[.int .i64 N, .int .i64 G], .int .i64 O, .int .i64 a, .int .i64 d] w fun e w' => ∃ (c : Nat) (r : Value) (l' : List Opn), e = .returned (.int .i64 (c : Int)) ∧ DownR A l N G O a d c r l' ∧ RsAt w' base t v l' ∧ Only (t :: v.ownBlock.toList) w w' := by
  rcases first_cases (keyB N G O) l with hno | ⟨i, x, hx, hp, hfi⟩
  · exact (rdown_none w base t v l N G O a d h hl hno).mono fun e w' hh => ⟨5, _, l, hh.1, Or.inl ⟨not_same hno, rfl, rfl, rfl⟩, h.only hh.2, hh.2.mono (fun _ hk => by cases hk)⟩
  · have hs : sameO x (keyO N G O) := key_same hp
    have hokx := hok x (List.mem_of_getElem? hx)
    cases hb : (accB a && denB d) with
    | false => exact (rdown_bound w base t v l N G O a d i x h hl hx hp hfi hb).mono fun e w' hh => ⟨2, _, l, hh.1, Or.inr (Or.inl ⟨i, x, hx, hs, hb, rfl, rfl, rfl⟩), h.only hh.2, hh.2.mono (fun _ hk => by cases hk)⟩
    | true =>
      cases hw : (withB a x.A && withB d x.D) with
      | false => exact (rdown_shape w base t v l N G O a d i x h hl hokx hx hp hfi hb hw).mono fun e w' hh => ⟨3, _, l, hh.1, Or.inr (Or.inr (Or.inl ⟨i, x, hx, hs, hb, hw, rfl, rfl, rfl⟩)), h.only hh.2, hh.2.mono (fun _ hk => by cases hk)⟩
      | true => exact (rdown_ok w base t v l N G O a d i x h hl hokx hx hp hfi hb hw).mono fun e w' hh => ⟨0, _, _, hh.1, Or.inr (Or.inr (Or.inr ⟨i, x, hx, hs, hb, hw, rfl, rfl, rfl⟩)), hh.2.1, hh.2.2⟩
/-! ### May -/
set_option maxHeartbeats 1000000 in
theorem rmay_bound (w : World) (t : Nat) (N G O a : Int) (hac : accB a = false) :
    Calls Tryd.prog 13 #[.pointer (some ⟨t, 0, none⟩), .agg #[.int .i64 N, .int .i64 G], .int .i64 O, .int .i64 a] w fun e w' => e = .returned (.int .i64 2) ∧ Only [] w w' := by
  have HO1 : Hid (Only [] w (w.alloc (.cells #[.int .i64 N, .int .i64 G] 33))) := (Only.refl [] w).alloc _
  by_cases h1 : a < 1
  · have d1 : decide (a < 1) = true := decide_eq_true h1
    go_enter Tryd.func13, Tryd.ntmps13
    go_wp2
    go_ret
    exact ⟨rfl, HO1.out⟩
  · have d1 : decide (a < 1) = false := decide_eq_false h1
    have d2 : decide (3 < a) = true := decide_eq_true (by rcases acc_cases hac with h | h <;> omega)
    go_enter Tryd.func13, Tryd.ntmps13
    go_wp2
    go_ret
    exact ⟨rfl, HO1.out⟩
set_option maxHeartbeats 1000000 in
theorem rmay_none (w : World) (base t : Nat) (v : Value) (l : List Opn) (N G O a : Int) (h : RsAt w base t v l) (hl : l.length ≤ 40) (hac : accB a = true) (hno : ∀ x ∈ l, keyB N G O x = false) :
    Calls Tryd.prog 13 #[.pointer (some ⟨t, 0, none⟩), .agg #[.int .i64 N, .int .i64 G], .int .i64 O, .int .i64 a] w fun e w' => e = .returned (.int .i64 5) ∧ Only [] w w' := by
  have o1 : Only [] w (w.alloc (.cells #[.int .i64 N, .int .i64 G] 33)) := (Only.refl [] w).alloc _
  have HO1 : Hid (Only [] w (w.alloc (.cells #[.int .i64 N, .int .i64 G] 33))) := o1
  have hf := rfind_no _ base t v l N G O (h.only o1) hl hno
  have d1 : decide (a < 1) = false := decide_eq_false (by have := acc_in hac; omega)
  have d2 : decide (3 < a) = false := decide_eq_false (by have := acc_in hac; omega)
  clear h hno o1 hac
  go_enter Tryd.func13, Tryd.ntmps13
  go_wp2_with (first | (go_at_call 32; refine hf.mono ?_; rintro e w2 ⟨rfl, ho2⟩; have HO2 : Hid (Only [] w w2) := HO1.out.trans ho2 (fun _ hk => by cases hk); clear hf ho2) | go_in)
  go_ret
  exact ⟨rfl, HO2.out⟩
set_option maxHeartbeats 1000000 in
theorem rmay_found (w : World) (base t : Nat) (v : Value) (l : List Opn) (N G O a : Int) (i : Nat) (x : Opn) (h : RsAt w base t v l) (hl : l.length ≤ 40) (hac : accB a = true) (hok : OkO x) (hx : l[i]? = some x) (hp : keyB N G O x = true) (hfi : ∀ j y, j < i → l[j]? = some y → keyB N G O y = false) :
    Calls Tryd.prog 13 #[.pointer (some ⟨t, 0, none⟩), .agg #[.int .i64 N, .int .i64 G], .int .i64 O, .int .i64 a] w fun e w' => e = .returned (.int .i64 (if withB a x.A then 0 else 5)) ∧ Only [] w w' := by
  have o1 : Only [] w (w.alloc (.cells #[.int .i64 N, .int .i64 G] 33)) := (Only.refl [] w).alloc _
  have HO1 : Hid (Only [] w (w.alloc (.cells #[.int .i64 N, .int .i64 G] 33))) := o1
  have hf := rfind_at _ base t v l N G O i x (h.only o1) hl hx hp hfi
  have hra := acc_in hac
  have d1 : decide (a < 1) = false := decide_eq_false (by omega)
  have d2 : decide (3 < a) = false := decide_eq_false (by omega)
  have HS1 : Hid (∀ W, Calls Tryd.prog 35 #[.int .i64 a, .int .i64 x.A] W fun e w' => e = .returned (.bool (withB a x.A)) ∧ W = w') := fun W => rwithin_any a x.A W ⟨by omega, by omega⟩ ⟨by have := hok.1; omega, hok.2.1⟩
  obtain ⟨g, cap, rfl⟩ := h.place hx
  have hin : i < l.length := (List.getElem?_eq_some_iff.1 hx).1
  have HT : Hid (∀ W, Only [] w W → _) := fun W ho => h.cellsAt rfl hx W ho
  obtain ⟨n, hn⟩ : ∃ n, l.length = n := ⟨_, rfl⟩
  rw [hn] at hin hl HT
  clear h hx hp hfi o1 hok hn hac hra
  generalize x.A = xA at *
  cases hw : withB a xA with
  | false =>
    rw [hw] at HS1
    go_enter Tryd.func13, Tryd.ntmps13
    go_wp2_with (first | (go_at_call 32; refine hf.mono ?_; rintro e w2 ⟨rfl, ho2⟩; have HO2 : Hid (Only [] w w2) := HO1.out.trans ho2 (fun _ hk => by cases hk); obtain ⟨k0, k1, k2, k3, k4, k5⟩ := HT.out w2 HO2.out; clear hf ho2) | (go_at_call 35; refine (HS1.out _).mono ?_; rintro e w4 ⟨rfl, rfl⟩) | go_in)
    go_ret
    exact ⟨rfl, HO2.out⟩
  | true =>
    rw [hw] at HS1
    go_enter Tryd.func13, Tryd.ntmps13
    go_wp2_with (first | (go_at_call 32; refine hf.mono ?_; rintro e w2 ⟨rfl, ho2⟩; have HO2 : Hid (Only [] w w2) := HO1.out.trans ho2 (fun _ hk => by cases hk); obtain ⟨k0, k1, k2, k3, k4, k5⟩ := HT.out w2 HO2.out; clear hf ho2) | (go_at_call 35; refine (HS1.out _).mono ?_; rintro e w4 ⟨rfl, rfl⟩) | go_in)
    go_ret
    exact ⟨rfl, HO2.out⟩
theorem rmay_any (w : World) (base t : Nat) (v : Value) (l : List Opn) (A : Nat → Addr) (N G O a : Int) (h : RsAt w base t v l) (hl : l.length ≤ 40) (hok : ∀ x ∈ l, OkO x) :
    Calls Tryd.prog 13 #[.pointer (some ⟨t, 0, none⟩), .agg #[.int .i64 N, .int .i64 G], .int .i64 O, .int .i64 a] w fun e w' => ∃ (c : Nat) (r : Value), e = .returned (.int .i64 (c : Int)) ∧ MayR A l N G O a c r ∧ Only [] w w' := by
  cases hac : accB a with
  | false => exact (rmay_bound w t N G O a hac).mono fun e w' hh => ⟨2, _, hh.1, Or.inl ⟨hac, rfl, rfl⟩, hh.2⟩
  | true =>
    rcases first_cases (keyB N G O) l with hno | ⟨i, x, hx, hp, hfi⟩
    · exact (rmay_none w base t v l N G O a h hl hac hno).mono fun e w' hh => ⟨5, _, hh.1, Or.inr (Or.inl ⟨hac, not_same hno, rfl, rfl⟩), hh.2⟩
    · have hs : sameO x (keyO N G O) := key_same hp
      refine (rmay_found w base t v l N G O a i x h hl hac (hok x (List.mem_of_getElem? hx)) hx hp hfi).mono fun e w' hh => ?_
      cases hw : withB a x.A with
      | false => exact ⟨5, _, hh.1.trans (by rw [hw]; rfl), Or.inr (Or.inr (Or.inl ⟨i, x, hac, hx, hs, hw, rfl, rfl⟩)), hh.2⟩
      | true => exact ⟨0, _, hh.1.trans (by rw [hw]; rfl), Or.inr (Or.inr (Or.inr ⟨i, x, hac, hx, hs, hw, rfl, rfl⟩)), hh.2⟩
end Go.Proofs.YtagpahgjbglmaaaDoor
