/- Compounds on the wire: numbers of any sign, and structs, written. -/
import Derived.Test.YtkopiffnkbjbiaaDoorWi2
namespace Go.Proofs.YtkopiffnkbjbiaaDoor
open Go Go.RowKit Go.Deep
theorem wNum0 (A : Nat → Addr) (b : Nat) (t : ByteArray) (m : Nat) (hm : m < 9223372036854775808) (w : World) (h : WS w A b t) : Calls Tryd.prog 47 #[P0 b, .int .i64 (m : Int)] w (WEnd A b w t ([some (bs (be 4 0))] ++ [some (bs (be 8 m))])) := by
  have H : Hid (∀ _ : Unit, _) := fun _ => xBool A b false t w h
  have H2 : Hid (∀ t1 w1, WS w1 A b t1 → Calls Tryd.prog 80 #[P0 b, .int .i64 (m : Int)] w1 (XEnd A b w1 t1 [some (bs (be 8 m))])) := fun t1 w1 k => xLong A b m t1 w1 k hm
  clear h
  go_enter Tryd.func47, Tryd.ntmps47
  go_wp2_with fail
  refine (H.out ()).mono ?_
  rintro e w1 (⟨t1, r1, rfl, o1, s1⟩ | ⟨k, t1, r1, hk, rfl, o1⟩)
  · have r1' : runW (t, 0) [some (bs (be 4 0))] = (t1, 0) := r1
    have R1 : Hid _ := run_ok rfl (Y := [some (bs (be 8 m))]) r1'
    have O1 : Hid (Only [b] w w1) := o1
    have S1 : Hid (WS w1 A b t1) := s1
    clear r1 r1' o1 s1
    go_wp2_with (go_at_call 56; refine (must_nil _).mono ?_; rintro e w2 ⟨rfl, rfl⟩)
    refine (H2.out _ _ S1.out).mono ?_
    rintro e w2 (⟨t2, r2, rfl, o2, s2⟩ | ⟨k, t2, r2, hk, rfl, o2⟩)
    · go_wp2_with (go_at_call 56; refine (must_nil _).mono ?_; rintro e w2 ⟨rfl, rfl⟩)
      go_end0
      exact Or.inl ⟨_, R1.out.trans r2, rfl, O1.out.seq o2, s2⟩
    · go_wp2_with (go_at_call 56; refine (must_err _ _ _).mono ?_; rintro e w2 ⟨rfl, rfl⟩)
      exact ⟨rfl, Or.inr ⟨_, _, R1.out.trans r2, hk, rfl, O1.out.seq o2⟩⟩
  · have r1' : runW (t, 0) [some (bs (be 4 0))] = (t1, k + 1) := r1
    go_wp2_with (go_at_call 56; refine (must_err _ _ _).mono ?_; rintro e w2 ⟨rfl, rfl⟩)
    exact ⟨rfl, Or.inr ⟨_, _, run_bad rfl r1', hk, rfl, o1⟩⟩
theorem wNum1 (A : Nat → Addr) (b : Nat) (t : ByteArray) (m : Nat) (hm0 : 0 < m) (hm : m < 9223372036854775808) (w : World) (h : WS w A b t) : Calls Tryd.prog 47 #[P0 b, .int .i64 (-(m : Int))] w (WEnd A b w t ([some (bs (be 4 1))] ++ [some (bs (be 8 m))])) := by
  have H : Hid (∀ _ : Unit, _) := fun _ => xBool A b true t w h
  have H2 : Hid (∀ t1 w1, WS w1 A b t1 → Calls Tryd.prog 80 #[P0 b, .int .i64 (m : Int)] w1 (XEnd A b w1 t1 [some (bs (be 8 m))])) := fun t1 w1 k => xLong A b m t1 w1 k hm
  clear h
  go_enter Tryd.func47, Tryd.ntmps47
  go_wp2_with fail
  refine (H.out ()).mono ?_
  rintro e w1 (⟨t1, r1, rfl, o1, s1⟩ | ⟨k, t1, r1, hk, rfl, o1⟩)
  · have r1' : runW (t, 0) [some (bs (be 4 1))] = (t1, 0) := r1
    have R1 : Hid _ := run_ok rfl (Y := [some (bs (be 8 m))]) r1'
    have O1 : Hid (Only [b] w w1) := o1
    have S1 : Hid (WS w1 A b t1) := s1
    clear r1 r1' o1 s1
    go_wp2_with (go_at_call 56; refine (must_nil _).mono ?_; rintro e w2 ⟨rfl, rfl⟩)
    refine (H2.out _ _ S1.out).mono ?_
    rintro e w2 (⟨t2, r2, rfl, o2, s2⟩ | ⟨k, t2, r2, hk, rfl, o2⟩)
    · go_wp2_with (go_at_call 56; refine (must_nil _).mono ?_; rintro e w2 ⟨rfl, rfl⟩)
      go_end0
      exact Or.inl ⟨_, R1.out.trans r2, rfl, O1.out.seq o2, s2⟩
    · go_wp2_with (go_at_call 56; refine (must_err _ _ _).mono ?_; rintro e w2 ⟨rfl, rfl⟩)
      exact ⟨rfl, Or.inr ⟨_, _, R1.out.trans r2, hk, rfl, O1.out.seq o2⟩⟩
  · have r1' : runW (t, 0) [some (bs (be 4 1))] = (t1, k + 1) := r1
    go_wp2_with (go_at_call 56; refine (must_err _ _ _).mono ?_; rintro e w2 ⟨rfl, rfl⟩)
    exact ⟨rfl, Or.inr ⟨_, _, run_bad rfl r1', hk, rfl, o1⟩⟩
set_option maxRecDepth 100000 in
theorem wNum2 (A : Nat → Addr) (b : Nat) (t : ByteArray) (w : World) (h : WS w A b t) : Calls Tryd.prog 47 #[P0 b, .int .i64 (-9223372036854775808)] w (WEnd A b w t ([some (bs (be 4 1))] ++ [none])) := by
  have H : Hid (∀ _ : Unit, _) := fun _ => xBool A b true t w h
  have H2 : Hid (∀ t1 w1, WS w1 A b t1 → Calls Tryd.prog 80 #[P0 b, .int .i64 (-9223372036854775808)] w1 (XEnd A b w1 t1 [none])) := fun t1 w1 k => xLeast A b t1 w1 k
  clear h
  have hw : IntKind.i64.wrap (9223372036854775808) = -9223372036854775808 := by decide
  go_enter Tryd.func47, Tryd.ntmps47
  go_wp2_with fail
  refine (H.out ()).mono ?_
  rintro e w1 (⟨t1, r1, rfl, o1, s1⟩ | ⟨k, t1, r1, hk, rfl, o1⟩)
  · have r1' : runW (t, 0) [some (bs (be 4 1))] = (t1, 0) := r1
    have R1 : Hid _ := run_ok rfl (Y := [none]) r1'
    have O1 : Hid (Only [b] w w1) := o1
    have S1 : Hid (WS w1 A b t1) := s1
    clear r1 r1' o1 s1
    go_wp2_with (go_at_call 56; refine (must_nil _).mono ?_; rintro e w2 ⟨rfl, rfl⟩)
    refine (H2.out _ _ S1.out).mono ?_
    rintro e w2 (⟨t2, r2, rfl, o2, s2⟩ | ⟨k, t2, r2, hk, rfl, o2⟩)
    · go_wp2_with (go_at_call 56; refine (must_nil _).mono ?_; rintro e w2 ⟨rfl, rfl⟩)
      go_end0
      exact Or.inl ⟨_, R1.out.trans r2, rfl, O1.out.seq o2, s2⟩
    · go_wp2_with (go_at_call 56; refine (must_err _ _ _).mono ?_; rintro e w2 ⟨rfl, rfl⟩)
      exact ⟨rfl, Or.inr ⟨_, _, R1.out.trans r2, hk, rfl, O1.out.seq o2⟩⟩
  · have r1' : runW (t, 0) [some (bs (be 4 1))] = (t1, k + 1) := r1
    go_wp2_with (go_at_call 56; refine (must_err _ _ _).mono ?_; rintro e w2 ⟨rfl, rfl⟩)
    exact ⟨rfl, Or.inr ⟨_, _, run_bad rfl r1', hk, rfl, o1⟩⟩
theorem wNumber (A : Nat → Addr) (b : Nat) (t : ByteArray) (n : Int) (w : World) (h : WS w A b t) (hn : I64 n) : Calls Tryd.prog 47 #[P0 b, .int .i64 n] w (WEnd A b w t (sgn n)) := by
  obtain ⟨h1, h2⟩ := hn
  unfold sgn
  by_cases e1 : n = -9223372036854775808
  · rw [if_pos e1, e1]
    exact wNum2 A b t w h
  · rw [if_neg e1]
    by_cases e2 : n < 0
    · rw [if_pos e2]
      have e : n = -(((-n).toNat : Nat) : Int) := by omega
      have := wNum1 A b t (-n).toNat (by omega) (by omega) w h
      rw [← e] at this
      exact this
    · rw [if_neg e2]
      have e : n = ((n.toNat : Nat) : Int) := by omega
      have := wNum0 A b t n.toNat (by omega) w h
      rw [← e] at this
      exact this

/-! ### structs -/
/-- A struct's cells, as a parameter's own copy has them. -/
def Cells (w : World) (p : Nat) (cs : List Value) : Prop := ∀ j v, cs[j]? = some v → w.cell? ⟨p, j, none⟩ = some v
theorem Cells.boxed (w : World) (cs : List Value) (T : TypeId) : Cells (w.alloc (.cells cs.toArray T)) w.heap.size cs := by
  intro j v h
  rw [World.cell?_alloc_new]
  simpa using h
theorem Cells.only {w w' : World} {p : Nat} {cs : List Value} {L : List Nat} (h : Cells w p cs) (ho : Only L w w') (hn : p ∉ L) : Cells w' p cs := fun j v e =>
  (ho.cell (p := ⟨p, j, none⟩) (lt_of_cell (h j v e)) hn).trans (h j v e)
theorem run_bad1 {st : ByteArray × Nat} {t1 t2 : ByteArray} {k : Nat} {X : List Step} (h : st = runW (t1, 0) X) (h1 : runW (t1, 0) X = (t2, k + 1)) : st = (t2, k + 1) := h.trans h1
theorem wState (A : Nat → Addr) (b : Nat) (t : ByteArray) (x y : Int) (w : World) (h : WS w A b t) (hx : I64 x) (hy : I64 y) : Calls Tryd.prog 48 #[P0 b, .agg #[.int .i64 x, .int .i64 y]] w (WEnd A b w t (sgn x ++ (sgn y))) := by
  have hlt := h.lt
  have HN : Hid (w.heap.size ∉ [b]) := by show _ ∉ _; simp; omega
  have C0 : Hid (Cells (w.alloc (.cells #[.int .i64 x, .int .i64 y] 38)) w.heap.size [.int .i64 x, .int .i64 y]) := Cells.boxed w [.int .i64 x, .int .i64 y] 38
  have S0 : Hid (WS (w.alloc (.cells #[.int .i64 x, .int .i64 y] 38)) A b t) := h.later ((Only.refl [] w).alloc _)
  have O0 : Hid (Only [b] w (w.alloc (.cells #[.int .i64 x, .int .i64 y] 38))) := (Only.refl [b] w).alloc _
  obtain ⟨st, hst⟩ : ∃ st, st = runW (t, 0) (sgn x ++ (sgn y)) := ⟨_, rfl⟩
  have HST : Hid (st = runW (t, 0) (sgn x ++ (sgn y))) := hst
  have R0 : Hid (st = runW (t, 0) (sgn x ++ (sgn y))) := hst
  clear hst
  have K0 : Hid (∀ t1 w1, WS w1 A b t1 → _) := fun t1 w1 k => wNumber A b t1 x w1 k hx
  have K1 : Hid (∀ t1 w1, WS w1 A b t1 → _) := fun t1 w1 k => wNumber A b t1 y w1 k hy
  clear h hlt
  go_enter Tryd.func48, Tryd.ntmps48
  have c0 := C0.out 0 _ rfl
  go_wp2_with fail
  clear c0
  refine (K0.out _ _ S0.out).mono ?_
  rintro e w1 (⟨t1, r, rfl, o, s⟩ | ⟨k, t1, r, hk, rfl, o⟩)
  rotate_left
  · go_wp2_with fail
    exact ⟨rfl, Or.inr ⟨_, _, HST.out.symm.trans (run_bad R0.out r), hk, rfl, O0.out.seq o⟩⟩
  have R1 : Hid (st = runW (t1, 0) (sgn y)) := run_ok R0.out r
  have O1 : Hid (Only [b] w w1) := O0.out.seq o
  have S1 : Hid (WS w1 A b t1) := s
  have C1 : Hid (Cells w1 w.heap.size [.int .i64 x, .int .i64 y]) := C0.out.only o HN.out
  clear r o s R0 O0 S0 C0 K0
  have c1 := C1.out 1 _ rfl
  go_wp2_with fail
  clear c1
  refine (K1.out _ _ S1.out).mono ?_
  rintro e w2 (⟨t2, r, rfl, o, s⟩ | ⟨k, t2, r, hk, rfl, o⟩)
  rotate_left
  · go_wp2_with fail
    exact ⟨rfl, Or.inr ⟨_, _, HST.out.symm.trans (run_bad1 R1.out r), hk, rfl, O1.out.seq o⟩⟩
  have R2 : Hid (st = (t2, 0)) := R1.out.trans r
  have O2 : Hid (Only [b] w w2) := O1.out.seq o
  have S2 : Hid (WS w2 A b t2) := s
  have C2 : Hid (Cells w2 w.heap.size [.int .i64 x, .int .i64 y]) := C1.out.only o HN.out
  clear r o s R1 O1 S1 C1 K1
  go_wp2_with fail
  go_end0
  exact Or.inl ⟨_, HST.out.symm.trans R2.out, rfl, O2.out, S2.out⟩
theorem wHandle (A : Nat → Addr) (b : Nat) (t : ByteArray) (x y : Int) (w : World) (h : WS w A b t) (hx : I64 x) (hy : I64 y) : Calls Tryd.prog 65 #[P0 b, .agg #[.int .i64 x, .int .i64 y]] w (WEnd A b w t (sgn x ++ (sgn y))) := by
  have hlt := h.lt
  have HN : Hid (w.heap.size ∉ [b]) := by show _ ∉ _; simp; omega
  have C0 : Hid (Cells (w.alloc (.cells #[.int .i64 x, .int .i64 y] 47)) w.heap.size [.int .i64 x, .int .i64 y]) := Cells.boxed w [.int .i64 x, .int .i64 y] 47
  have S0 : Hid (WS (w.alloc (.cells #[.int .i64 x, .int .i64 y] 47)) A b t) := h.later ((Only.refl [] w).alloc _)
  have O0 : Hid (Only [b] w (w.alloc (.cells #[.int .i64 x, .int .i64 y] 47))) := (Only.refl [b] w).alloc _
  obtain ⟨st, hst⟩ : ∃ st, st = runW (t, 0) (sgn x ++ (sgn y)) := ⟨_, rfl⟩
  have HST : Hid (st = runW (t, 0) (sgn x ++ (sgn y))) := hst
  have R0 : Hid (st = runW (t, 0) (sgn x ++ (sgn y))) := hst
  clear hst
  have K0 : Hid (∀ t1 w1, WS w1 A b t1 → _) := fun t1 w1 k => wNumber A b t1 x w1 k hx
  have K1 : Hid (∀ t1 w1, WS w1 A b t1 → _) := fun t1 w1 k => wNumber A b t1 y w1 k hy
  clear h hlt
  go_enter Tryd.func65, Tryd.ntmps65
  have c0 := C0.out 0 _ rfl
  go_wp2_with fail
  clear c0
  refine (K0.out _ _ S0.out).mono ?_
  rintro e w1 (⟨t1, r, rfl, o, s⟩ | ⟨k, t1, r, hk, rfl, o⟩)
  rotate_left
  · go_wp2_with fail
    exact ⟨rfl, Or.inr ⟨_, _, HST.out.symm.trans (run_bad R0.out r), hk, rfl, O0.out.seq o⟩⟩
  have R1 : Hid (st = runW (t1, 0) (sgn y)) := run_ok R0.out r
  have O1 : Hid (Only [b] w w1) := O0.out.seq o
  have S1 : Hid (WS w1 A b t1) := s
  have C1 : Hid (Cells w1 w.heap.size [.int .i64 x, .int .i64 y]) := C0.out.only o HN.out
  clear r o s R0 O0 S0 C0 K0
  have c1 := C1.out 1 _ rfl
  go_wp2_with fail
  clear c1
  refine (K1.out _ _ S1.out).mono ?_
  rintro e w2 (⟨t2, r, rfl, o, s⟩ | ⟨k, t2, r, hk, rfl, o⟩)
  rotate_left
  · go_wp2_with fail
    exact ⟨rfl, Or.inr ⟨_, _, HST.out.symm.trans (run_bad1 R1.out r), hk, rfl, O1.out.seq o⟩⟩
  have R2 : Hid (st = (t2, 0)) := R1.out.trans r
  have O2 : Hid (Only [b] w w2) := O1.out.seq o
  have S2 : Hid (WS w2 A b t2) := s
  have C2 : Hid (Cells w2 w.heap.size [.int .i64 x, .int .i64 y]) := C1.out.only o HN.out
  clear r o s R1 O1 S1 C1 K1
  go_wp2_with fail
  go_end0
  exact Or.inl ⟨_, HST.out.symm.trans R2.out, rfl, O2.out, S2.out⟩
theorem wEntry (A : Nat → Addr) (b : Nat) (t : ByteArray) (n : ByteArray) (x y : Int) (w : World) (h : WS w A b t) (hx : I64 x) (hy : I64 y) : Calls Tryd.prog 67 #[P0 b, .agg #[.string n, .int .i64 x, .int .i64 y]] w (WEnd A b w t ([some (itemS n)] ++ ((sgn x ++ sgn y)))) := by
  have hlt := h.lt
  have HN : Hid (w.heap.size ∉ [b]) := by show _ ∉ _; simp; omega
  have C0 : Hid (Cells (w.alloc (.cells #[.string n, .int .i64 x, .int .i64 y] 52)) w.heap.size [.string n, .int .i64 x, .int .i64 y]) := Cells.boxed w [.string n, .int .i64 x, .int .i64 y] 52
  have S0 : Hid (WS (w.alloc (.cells #[.string n, .int .i64 x, .int .i64 y] 52)) A b t) := h.later ((Only.refl [] w).alloc _)
  have O0 : Hid (Only [b] w (w.alloc (.cells #[.string n, .int .i64 x, .int .i64 y] 52))) := (Only.refl [b] w).alloc _
  obtain ⟨st, hst⟩ : ∃ st, st = runW (t, 0) ([some (itemS n)] ++ ((sgn x ++ sgn y))) := ⟨_, rfl⟩
  have HST : Hid (st = runW (t, 0) ([some (itemS n)] ++ ((sgn x ++ sgn y)))) := hst
  have R0 : Hid (st = runW (t, 0) ([some (itemS n)] ++ ((sgn x ++ sgn y)))) := hst
  clear hst
  have K0 : Hid (∀ t1 w1, WS w1 A b t1 → _) := fun t1 w1 k => wBytes A b t1 n w1 k
  have K1 : Hid (∀ t1 w1, WS w1 A b t1 → _) := fun t1 w1 k => wHandle A b t1 x y w1 k hx hy
  clear h hlt
  go_enter Tryd.func67, Tryd.ntmps67
  have c0 := C0.out 0 _ rfl
  go_wp2_with fail
  clear c0
  refine (K0.out _ _ S0.out).mono ?_
  rintro e w1 (⟨t1, r, rfl, o, s⟩ | ⟨k, t1, r, hk, rfl, o⟩)
  rotate_left
  · go_wp2_with fail
    exact ⟨rfl, Or.inr ⟨_, _, HST.out.symm.trans (run_bad R0.out r), hk, rfl, O0.out.seq o⟩⟩
  have R1 : Hid (st = runW (t1, 0) ((sgn x ++ sgn y))) := run_ok R0.out r
  have O1 : Hid (Only [b] w w1) := O0.out.seq o
  have S1 : Hid (WS w1 A b t1) := s
  have C1 : Hid (Cells w1 w.heap.size [.string n, .int .i64 x, .int .i64 y]) := C0.out.only o HN.out
  clear r o s R0 O0 S0 C0 K0
  have c1 := C1.out 1 _ rfl
  have c2 := C1.out 2 _ rfl
  go_wp2_with fail
  clear c1 c2
  refine (K1.out _ _ S1.out).mono ?_
  rintro e w2 (⟨t2, r, rfl, o, s⟩ | ⟨k, t2, r, hk, rfl, o⟩)
  rotate_left
  · go_wp2_with fail
    exact ⟨rfl, Or.inr ⟨_, _, HST.out.symm.trans (run_bad1 R1.out r), hk, rfl, O1.out.seq o⟩⟩
  have R2 : Hid (st = (t2, 0)) := R1.out.trans r
  have O2 : Hid (Only [b] w w2) := O1.out.seq o
  have S2 : Hid (WS w2 A b t2) := s
  have C2 : Hid (Cells w2 w.heap.size [.string n, .int .i64 x, .int .i64 y]) := C1.out.only o HN.out
  clear r o s R1 O1 S1 C1 K1
  go_wp2_with fail
  go_end0
  exact Or.inl ⟨_, HST.out.symm.trans R2.out, rfl, O2.out, S2.out⟩
theorem wOp (A : Nat → Addr) (b : Nat) (t : ByteArray) (K N T : ByteArray) (x1 x2 x3 x4 x5 x6 : Int) (w : World) (h : WS w A b t) (hx1 : I64 x1) (hx2 : I64 x2) (hx3 : I64 x3) (hx4 : I64 x4) (hx5 : I64 x5) (hx6 : I64 x6) : Calls Tryd.prog 25 #[P0 b, .agg #[.string K, .string N, .string T, .int .i64 x1, .int .i64 x2, .int .i64 x3, .int .i64 x4, .int .i64 x5, .int .i64 x6]] w (WEnd A b w t ([some (itemS K)] ++ ([some (itemS N)] ++ ([some (itemS T)] ++ (sgn x1 ++ (sgn x2 ++ (sgn x3 ++ (sgn x4 ++ ((sgn x5 ++ sgn x6)))))))))) := by
  have hlt := h.lt
  have HN : Hid (w.heap.size ∉ [b]) := by show _ ∉ _; simp; omega
  have C0 : Hid (Cells (w.alloc (.cells #[.string K, .string N, .string T, .int .i64 x1, .int .i64 x2, .int .i64 x3, .int .i64 x4, .int .i64 x5, .int .i64 x6] 65)) w.heap.size [.string K, .string N, .string T, .int .i64 x1, .int .i64 x2, .int .i64 x3, .int .i64 x4, .int .i64 x5, .int .i64 x6]) := Cells.boxed w [.string K, .string N, .string T, .int .i64 x1, .int .i64 x2, .int .i64 x3, .int .i64 x4, .int .i64 x5, .int .i64 x6] 65
  have S0 : Hid (WS (w.alloc (.cells #[.string K, .string N, .string T, .int .i64 x1, .int .i64 x2, .int .i64 x3, .int .i64 x4, .int .i64 x5, .int .i64 x6] 65)) A b t) := h.later ((Only.refl [] w).alloc _)
  have O0 : Hid (Only [b] w (w.alloc (.cells #[.string K, .string N, .string T, .int .i64 x1, .int .i64 x2, .int .i64 x3, .int .i64 x4, .int .i64 x5, .int .i64 x6] 65))) := (Only.refl [b] w).alloc _
  obtain ⟨st, hst⟩ : ∃ st, st = runW (t, 0) ([some (itemS K)] ++ ([some (itemS N)] ++ ([some (itemS T)] ++ (sgn x1 ++ (sgn x2 ++ (sgn x3 ++ (sgn x4 ++ ((sgn x5 ++ sgn x6))))))))) := ⟨_, rfl⟩
  have HST : Hid (st = runW (t, 0) ([some (itemS K)] ++ ([some (itemS N)] ++ ([some (itemS T)] ++ (sgn x1 ++ (sgn x2 ++ (sgn x3 ++ (sgn x4 ++ ((sgn x5 ++ sgn x6)))))))))) := hst
  have R0 : Hid (st = runW (t, 0) ([some (itemS K)] ++ ([some (itemS N)] ++ ([some (itemS T)] ++ (sgn x1 ++ (sgn x2 ++ (sgn x3 ++ (sgn x4 ++ ((sgn x5 ++ sgn x6)))))))))) := hst
  clear hst
  have K0 : Hid (∀ t1 w1, WS w1 A b t1 → _) := fun t1 w1 k => wBytes A b t1 K w1 k
  have K1 : Hid (∀ t1 w1, WS w1 A b t1 → _) := fun t1 w1 k => wBytes A b t1 N w1 k
  have K2 : Hid (∀ t1 w1, WS w1 A b t1 → _) := fun t1 w1 k => wBytes A b t1 T w1 k
  have K3 : Hid (∀ t1 w1, WS w1 A b t1 → _) := fun t1 w1 k => wNumber A b t1 x1 w1 k hx1
  have K4 : Hid (∀ t1 w1, WS w1 A b t1 → _) := fun t1 w1 k => wNumber A b t1 x2 w1 k hx2
  have K5 : Hid (∀ t1 w1, WS w1 A b t1 → _) := fun t1 w1 k => wNumber A b t1 x3 w1 k hx3
  have K6 : Hid (∀ t1 w1, WS w1 A b t1 → _) := fun t1 w1 k => wNumber A b t1 x4 w1 k hx4
  have K7 : Hid (∀ t1 w1, WS w1 A b t1 → _) := fun t1 w1 k => wState A b t1 x5 x6 w1 k hx5 hx6
  clear h hlt
  go_enter Tryd.func25, Tryd.ntmps25
  have c0 := C0.out 0 _ rfl
  go_wp2_with fail
  clear c0
  refine (K0.out _ _ S0.out).mono ?_
  rintro e w1 (⟨t1, r, rfl, o, s⟩ | ⟨k, t1, r, hk, rfl, o⟩)
  rotate_left
  · go_wp2_with fail
    exact ⟨rfl, Or.inr ⟨_, _, HST.out.symm.trans (run_bad R0.out r), hk, rfl, O0.out.seq o⟩⟩
  have R1 : Hid (st = runW (t1, 0) ([some (itemS N)] ++ ([some (itemS T)] ++ (sgn x1 ++ (sgn x2 ++ (sgn x3 ++ (sgn x4 ++ ((sgn x5 ++ sgn x6))))))))) := run_ok R0.out r
  have O1 : Hid (Only [b] w w1) := O0.out.seq o
  have S1 : Hid (WS w1 A b t1) := s
  have C1 : Hid (Cells w1 w.heap.size [.string K, .string N, .string T, .int .i64 x1, .int .i64 x2, .int .i64 x3, .int .i64 x4, .int .i64 x5, .int .i64 x6]) := C0.out.only o HN.out
  clear r o s R0 O0 S0 C0 K0
  have c1 := C1.out 1 _ rfl
  go_wp2_with fail
  clear c1
  refine (K1.out _ _ S1.out).mono ?_
  rintro e w2 (⟨t2, r, rfl, o, s⟩ | ⟨k, t2, r, hk, rfl, o⟩)
  rotate_left
  · go_wp2_with fail
    exact ⟨rfl, Or.inr ⟨_, _, HST.out.symm.trans (run_bad R1.out r), hk, rfl, O1.out.seq o⟩⟩
  have R2 : Hid (st = runW (t2, 0) ([some (itemS T)] ++ (sgn x1 ++ (sgn x2 ++ (sgn x3 ++ (sgn x4 ++ ((sgn x5 ++ sgn x6)))))))) := run_ok R1.out r
  have O2 : Hid (Only [b] w w2) := O1.out.seq o
  have S2 : Hid (WS w2 A b t2) := s
  have C2 : Hid (Cells w2 w.heap.size [.string K, .string N, .string T, .int .i64 x1, .int .i64 x2, .int .i64 x3, .int .i64 x4, .int .i64 x5, .int .i64 x6]) := C1.out.only o HN.out
  clear r o s R1 O1 S1 C1 K1
  have c2 := C2.out 2 _ rfl
  go_wp2_with fail
  clear c2
  refine (K2.out _ _ S2.out).mono ?_
  rintro e w3 (⟨t3, r, rfl, o, s⟩ | ⟨k, t3, r, hk, rfl, o⟩)
  rotate_left
  · go_wp2_with fail
    exact ⟨rfl, Or.inr ⟨_, _, HST.out.symm.trans (run_bad R2.out r), hk, rfl, O2.out.seq o⟩⟩
  have R3 : Hid (st = runW (t3, 0) (sgn x1 ++ (sgn x2 ++ (sgn x3 ++ (sgn x4 ++ ((sgn x5 ++ sgn x6))))))) := run_ok R2.out r
  have O3 : Hid (Only [b] w w3) := O2.out.seq o
  have S3 : Hid (WS w3 A b t3) := s
  have C3 : Hid (Cells w3 w.heap.size [.string K, .string N, .string T, .int .i64 x1, .int .i64 x2, .int .i64 x3, .int .i64 x4, .int .i64 x5, .int .i64 x6]) := C2.out.only o HN.out
  clear r o s R2 O2 S2 C2 K2
  have c3 := C3.out 3 _ rfl
  go_wp2_with fail
  clear c3
  refine (K3.out _ _ S3.out).mono ?_
  rintro e w4 (⟨t4, r, rfl, o, s⟩ | ⟨k, t4, r, hk, rfl, o⟩)
  rotate_left
  · go_wp2_with fail
    exact ⟨rfl, Or.inr ⟨_, _, HST.out.symm.trans (run_bad R3.out r), hk, rfl, O3.out.seq o⟩⟩
  have R4 : Hid (st = runW (t4, 0) (sgn x2 ++ (sgn x3 ++ (sgn x4 ++ ((sgn x5 ++ sgn x6)))))) := run_ok R3.out r
  have O4 : Hid (Only [b] w w4) := O3.out.seq o
  have S4 : Hid (WS w4 A b t4) := s
  have C4 : Hid (Cells w4 w.heap.size [.string K, .string N, .string T, .int .i64 x1, .int .i64 x2, .int .i64 x3, .int .i64 x4, .int .i64 x5, .int .i64 x6]) := C3.out.only o HN.out
  clear r o s R3 O3 S3 C3 K3
  have c4 := C4.out 4 _ rfl
  go_wp2_with fail
  clear c4
  refine (K4.out _ _ S4.out).mono ?_
  rintro e w5 (⟨t5, r, rfl, o, s⟩ | ⟨k, t5, r, hk, rfl, o⟩)
  rotate_left
  · go_wp2_with fail
    exact ⟨rfl, Or.inr ⟨_, _, HST.out.symm.trans (run_bad R4.out r), hk, rfl, O4.out.seq o⟩⟩
  have R5 : Hid (st = runW (t5, 0) (sgn x3 ++ (sgn x4 ++ ((sgn x5 ++ sgn x6))))) := run_ok R4.out r
  have O5 : Hid (Only [b] w w5) := O4.out.seq o
  have S5 : Hid (WS w5 A b t5) := s
  have C5 : Hid (Cells w5 w.heap.size [.string K, .string N, .string T, .int .i64 x1, .int .i64 x2, .int .i64 x3, .int .i64 x4, .int .i64 x5, .int .i64 x6]) := C4.out.only o HN.out
  clear r o s R4 O4 S4 C4 K4
  have c5 := C5.out 5 _ rfl
  go_wp2_with fail
  clear c5
  refine (K5.out _ _ S5.out).mono ?_
  rintro e w6 (⟨t6, r, rfl, o, s⟩ | ⟨k, t6, r, hk, rfl, o⟩)
  rotate_left
  · go_wp2_with fail
    exact ⟨rfl, Or.inr ⟨_, _, HST.out.symm.trans (run_bad R5.out r), hk, rfl, O5.out.seq o⟩⟩
  have R6 : Hid (st = runW (t6, 0) (sgn x4 ++ ((sgn x5 ++ sgn x6)))) := run_ok R5.out r
  have O6 : Hid (Only [b] w w6) := O5.out.seq o
  have S6 : Hid (WS w6 A b t6) := s
  have C6 : Hid (Cells w6 w.heap.size [.string K, .string N, .string T, .int .i64 x1, .int .i64 x2, .int .i64 x3, .int .i64 x4, .int .i64 x5, .int .i64 x6]) := C5.out.only o HN.out
  clear r o s R5 O5 S5 C5 K5
  have c6 := C6.out 6 _ rfl
  go_wp2_with fail
  clear c6
  refine (K6.out _ _ S6.out).mono ?_
  rintro e w7 (⟨t7, r, rfl, o, s⟩ | ⟨k, t7, r, hk, rfl, o⟩)
  rotate_left
  · go_wp2_with fail
    exact ⟨rfl, Or.inr ⟨_, _, HST.out.symm.trans (run_bad R6.out r), hk, rfl, O6.out.seq o⟩⟩
  have R7 : Hid (st = runW (t7, 0) ((sgn x5 ++ sgn x6))) := run_ok R6.out r
  have O7 : Hid (Only [b] w w7) := O6.out.seq o
  have S7 : Hid (WS w7 A b t7) := s
  have C7 : Hid (Cells w7 w.heap.size [.string K, .string N, .string T, .int .i64 x1, .int .i64 x2, .int .i64 x3, .int .i64 x4, .int .i64 x5, .int .i64 x6]) := C6.out.only o HN.out
  clear r o s R6 O6 S6 C6 K6
  have c7 := C7.out 7 _ rfl
  have c8 := C7.out 8 _ rfl
  go_wp2_with fail
  clear c7 c8
  refine (K7.out _ _ S7.out).mono ?_
  rintro e w8 (⟨t8, r, rfl, o, s⟩ | ⟨k, t8, r, hk, rfl, o⟩)
  rotate_left
  · go_wp2_with fail
    exact ⟨rfl, Or.inr ⟨_, _, HST.out.symm.trans (run_bad1 R7.out r), hk, rfl, O7.out.seq o⟩⟩
  have R8 : Hid (st = (t8, 0)) := R7.out.trans r
  have O8 : Hid (Only [b] w w8) := O7.out.seq o
  have S8 : Hid (WS w8 A b t8) := s
  have C8 : Hid (Cells w8 w.heap.size [.string K, .string N, .string T, .int .i64 x1, .int .i64 x2, .int .i64 x3, .int .i64 x4, .int .i64 x5, .int .i64 x6]) := C7.out.only o HN.out
  clear r o s R7 O7 S7 C7 K7
  go_wp2_with fail
  go_end0
  exact Or.inl ⟨_, HST.out.symm.trans R8.out, rfl, O8.out, S8.out⟩
end Go.Proofs.YtkopiffnkbjbiaaDoor
