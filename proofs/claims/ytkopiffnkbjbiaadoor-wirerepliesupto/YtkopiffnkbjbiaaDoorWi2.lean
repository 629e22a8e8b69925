/- Compounds on the wire: what is written step by step; the writer's small functions. -/
import Derived.Test.YtkopiffnkbjbiaaDoorWi1
namespace Go.Proofs.YtkopiffnkbjbiaaDoor
open Go Go.RowKit Go.Deep

/-! ### plain: steps of a text that is written: bytes, or a number that is none -/
abbrev Step := Option ByteArray
def addW : ByteArray × Nat → Step → ByteArray × Nat
  | (s, 0), some x => if s.size + x.size ≤ 4000 then (s ++ x, 0) else (s, 9)
  | (s, 0), none => (s, 2)
  | (s, e + 1), _ => (s, e + 1)
def runW (st : ByteArray × Nat) (L : List Step) : ByteArray × Nat := L.foldl addW st
theorem runW_app (st : ByteArray × Nat) (L M : List Step) : runW st (L ++ M) = runW (runW st L) M := List.foldl_append
theorem runW_stuck (s : ByteArray) (e : Nat) (L : List Step) : runW (s, e + 1) L = (s, e + 1) := by
  induction L with
  | nil => rfl
  | cons x L ih => exact ih
theorem run_ok {st : ByteArray × Nat} {t1 t2 : ByteArray} {X Y : List Step} (h : st = runW (t1, 0) (X ++ Y)) (h1 : runW (t1, 0) X = (t2, 0)) : st = runW (t2, 0) Y := by rw [h, runW_app, h1]
theorem run_bad {st : ByteArray × Nat} {t1 t2 : ByteArray} {k : Nat} {X Y : List Step} (h : st = runW (t1, 0) (X ++ Y)) (h1 : runW (t1, 0) X = (t2, k + 1)) : st = (t2, k + 1) := by rw [h, runW_app, h1, runW_stuck]
theorem run_fits (t x : ByteArray) (h : x.size + t.size ≤ 4000) : runW (t, 0) [some x] = (t ++ x, 0) := by
  show (if t.size + x.size ≤ 4000 then (t ++ x, 0) else (t, 9)) = _
  rw [if_pos (by omega)]
theorem run_full (t x : ByteArray) (h : 4000 < x.size + t.size) : runW (t, 0) [some x] = (t, 8 + 1) := by
  show (if t.size + x.size ≤ 4000 then (t ++ x, 0) else (t, 9)) = _
  rw [if_neg (by omega)]
/-- A number of any sign. -/
def sgn (n : Int) : List Step :=
  if n = -9223372036854775808 then [some (bs (be 4 1)), none] else if n < 0 then [some (bs (be 4 1)), some (bs (be 8 (-n).toNat))] else [some (bs (be 4 0)), some (bs (be 8 n.toNat))]
def I64 (n : Int) : Prop := -9223372036854775808 ≤ n ∧ n ≤ 9223372036854775807

/-! ### memory -/
theorem onlyPut {w w' : World} {b : Nat} {v : Value} (hb : Below w.heap.size (w.setCell ⟨b, 0, none⟩ v) w') : Only [b] w w' :=
  ((Only.refl [b] w).setCell (p := ⟨b, 0, none⟩) (Or.inl (List.mem_cons_self ..)) v).trans (Only.of_below (by simpa using hb) []) (fun _ k => by cases k)
theorem onlySet (w : World) (b : Nat) (v : Value) : Only [b] w (w.setCell ⟨b, 0, none⟩ v) := (Only.refl [b] w).setCell (p := ⟨b, 0, none⟩) (Or.inl (List.mem_cons_self ..)) v
theorem Only.more {L : List Nat} {w w' : World} (h : Only [] w w') : Only L w w' := h.mono (fun _ k => by cases k)
theorem Only.seq {L : List Nat} {a b c : World} (h : Only L a b) (k : Only L b c) : Only L a c := h.trans k (fun _ h => Or.inl h)
/-- A text that is being written, and the errors. -/
structure WS (w : World) (A : Nat → Addr) (b : Nat) (t : ByteArray) : Prop where
  cell : w.cell? ⟨b, 0, none⟩ = some (.string t)
  frz : w.frozen? ⟨b, 0, none⟩ = false
  le : t.size ≤ 4000
  err : Er3 w A
theorem WS.lt {w : World} {A : Nat → Addr} {b : Nat} {t : ByteArray} (h : WS w A b t) : b < w.heap.size := lt_of_cell h.cell
theorem WS.later {w w' : World} {A : Nat → Addr} {b : Nat} {t : ByteArray} (h : WS w A b t) (ho : Only [] w w') : WS w' A b t :=
  ⟨(ho.cell (p := ⟨b, 0, none⟩) h.lt (by simp)).trans h.cell, (ho.frozen (p := ⟨b, 0, none⟩) h.lt (by simp)).trans h.frz, h.le, h.err.later ho⟩
theorem WS.ne {w : World} {A : Nat → Addr} {b : Nat} {t : ByteArray} (h : WS w A b t) (k : Nat) (hk : k = 0 ∨ k = 1 ∨ k = 8) : gOf k ≠ b := by
  intro e
  have h1 := h.err.cell k hk
  rw [e, h.cell] at h1
  cases h1
theorem Er3.only {w w' : World} {A : Nat → Addr} {L : List Nat} (h : Er3 w A) (ho : Only L w w') (hn : ∀ k, (k = 0 ∨ k = 1 ∨ k = 8) → gOf k ∉ L) : Er3 w' A :=
  ⟨fun k hk => (ho.cell (p := ⟨gOf k, 0, none⟩) (lt_of_cell (h.cell k hk)) (hn k hk)).trans (h.cell k hk)⟩
theorem WS.put {w w' : World} {A : Nat → Addr} {b : Nat} {t t' : ByteArray} (h : WS w A b t) (hb : Below w.heap.size (w.setCell ⟨b, 0, none⟩ (.string t')) w') (hl : t'.size ≤ 4000) : WS w' A b t' :=
  ⟨put_cell hb h.cell, (put_frozen hb h.cell).trans h.frz, hl, h.err.only (onlyPut hb) (fun k hk => by simpa using h.ne k hk)⟩
/-- How a function of package xdr that writes ends. -/
def XEnd (A : Nat → Addr) (b : Nat) (w : World) (t : ByteArray) (L : List Step) (e : Ending) (w' : World) : Prop :=
  (∃ t', runW (t, 0) L = (t', 0) ∧ e = .returned .nilIface ∧ Only [b] w w' ∧ WS w' A b t') ∨ (∃ k t', runW (t, 0) L = (t', k + 1) ∧ (k = 1 ∨ k = 8) ∧ e = .returned (eV A k) ∧ Only [b] w w')
/-- How a function that writes or throws ends. -/
def WEnd (A : Nat → Addr) (b : Nat) (w : World) (t : ByteArray) (L : List Step) (e : Ending) (w' : World) : Prop :=
  (∃ t', runW (t, 0) L = (t', 0) ∧ e = .returned (.tuple #[]) ∧ Only [b] w w' ∧ WS w' A b t') ∨ (∃ k t', runW (t, 0) L = (t', k + 1) ∧ (k = 1 ∨ k = 8) ∧ e = .panicked (thr (eV A k)) ∧ Only [b] w w')

theorem xInt (A : Nat → Addr) (b n : Nat) (t : ByteArray) (w : World) (h : WS w A b t) (hn : n ≤ 4294967295) : Calls Tryd.prog 77 #[P0 b, .int .i64 n] w (XEnd A b w t [some (bs (be 4 n))]) := by
  have hz : (bs (be 4 n)).size = 4 := by rw [bs_size, be_length]
  by_cases hf : 4 + t.size ≤ 4000
  · refine (int_ok b t n w h.cell h.frz h.le hn hf).mono fun e w' hb => ?_
    obtain ⟨rfl, hb⟩ := hb
    exact Or.inl ⟨_, run_fits _ _ (by omega), rfl, onlyPut hb, h.put hb (by rw [ByteArray.size_append]; omega)⟩
  · refine (int_full b t n _ w h.cell h.le (h.err.cell 8 (by decide)) (by omega) (by omega) (by omega)).mono fun e w' hb => ?_
    obtain ⟨rfl, rfl⟩ := hb
    exact Or.inr ⟨8, _, run_full _ _ (by omega), Or.inr rfl, rfl, Only.refl _ _⟩
theorem xBool (A : Nat → Addr) (b : Nat) (x : Bool) (t : ByteArray) (w : World) (h : WS w A b t) : Calls Tryd.prog 68 #[P0 b, .bool x] w (XEnd A b w t [some (bs (be 4 x.toNat))]) := by
  have hz : (bs (be 4 x.toNat)).size = 4 := by rw [bs_size, be_length]
  by_cases hf : 4 + t.size ≤ 4000
  · refine (bool_ok b t x w h.cell h.frz h.le hf).mono fun e w' hb => ?_
    obtain ⟨rfl, hb⟩ := hb
    exact Or.inl ⟨_, run_fits _ _ (by omega), rfl, onlyPut hb, h.put hb (by rw [ByteArray.size_append]; omega)⟩
  · refine (bool_full b t x _ w h.cell h.le (h.err.cell 8 (by decide)) (by omega)).mono fun e w' hb => ?_
    obtain ⟨rfl, rfl⟩ := hb
    exact Or.inr ⟨8, _, run_full _ _ (by omega), Or.inr rfl, rfl, Only.refl _ _⟩
theorem xLong (A : Nat → Addr) (b n : Nat) (t : ByteArray) (w : World) (h : WS w A b t) (hn : n < 9223372036854775808) : Calls Tryd.prog 80 #[P0 b, .int .i64 n] w (XEnd A b w t [some (bs (be 8 n))]) := by
  have hz : (bs (be 8 n)).size = 8 := by rw [bs_size, be_length]
  by_cases hf : 8 + t.size ≤ 4000
  · refine (long_ok b t n w h.cell h.frz h.le hn hf).mono fun e w' hb => ?_
    obtain ⟨rfl, hb⟩ := hb
    exact Or.inl ⟨_, run_fits _ _ (by omega), rfl, onlyPut hb, h.put hb (by rw [ByteArray.size_append]; omega)⟩
  · refine (long_full b t n _ w h.cell h.le (h.err.cell 8 (by decide)) (by omega) (by omega)).mono fun e w' hb => ?_
    obtain ⟨rfl, rfl⟩ := hb
    exact Or.inr ⟨8, _, run_full _ _ (by omega), Or.inr rfl, rfl, Only.refl _ _⟩
theorem xLeast (A : Nat → Addr) (b : Nat) (t : ByteArray) (w : World) (h : WS w A b t) : Calls Tryd.prog 80 #[P0 b, .int .i64 (-9223372036854775808)] w (XEnd A b w t [none]) := by
  refine (long_bound b _ _ w (h.err.cell 1 (by decide)) (by decide)).mono fun e w' hb => ?_
  obtain ⟨rfl, rfl⟩ := hb
  exact Or.inr ⟨1, _, rfl, Or.inl rfl, rfl, Only.refl _ _⟩
theorem xBytes (A : Nat → Addr) (b : Nat) (t s : ByteArray) (w : World) (h : WS w A b t) (hs : s.size ≤ 4000) : Calls Tryd.prog 79 #[P0 b, .string s] w (XEnd A b w t [some (itemS s)]) := by
  by_cases hf : (itemS s).size + t.size ≤ 4000
  · refine (bytes_ok b t s w h.cell h.frz h.le (by omega) hf).mono fun e w' hb => ?_
    obtain ⟨rfl, hb⟩ := hb
    exact Or.inl ⟨_, run_fits _ _ (by omega), rfl, onlyPut hb, h.put hb (by rw [ByteArray.size_append]; omega)⟩
  · refine (bytes_full b t s _ w h.cell h.le (h.err.cell 8 (by decide)) (by omega) (by omega)).mono fun e w' hb => ?_
    obtain ⟨rfl, rfl⟩ := hb
    exact Or.inr ⟨8, _, run_full _ _ (by omega), Or.inr rfl, rfl, Only.refl _ _⟩

theorem wBytes (A : Nat → Addr) (b : Nat) (t s : ByteArray) (w : World) (h : WS w A b t) : Calls Tryd.prog 46 #[P0 b, .string s] w (WEnd A b w t [some (itemS s)]) := by
  have hsz := itemS_size s
  by_cases hs : s.size ≤ 4000
  · have H : Hid (∀ _ : Unit, _) := fun _ => xBytes A b t s w h hs
    clear h hsz
    go_enter Tryd.func46, Tryd.ntmps46
    go_wp2_with fail
    refine (H.out ()).mono ?_
    rintro e w1 (⟨t1, r1, rfl, o1, s1⟩ | ⟨k, t1, r1, hk, rfl, o1⟩)
    · go_wp2_with (go_at_call 56; refine (must_nil _).mono ?_; rintro e w2 ⟨rfl, rfl⟩)
      go_end0
      exact Or.inl ⟨_, r1, rfl, o1, s1⟩
    · go_wp2_with (go_at_call 56; refine (must_err _ _ _).mono ?_; rintro e w2 ⟨rfl, rfl⟩)
      exact ⟨rfl, Or.inr ⟨_, _, r1, hk, rfl, o1⟩⟩
  · have R : Hid (runW (t, 0) [some (itemS s)] = (t, 8 + 1)) := run_full _ _ (by omega)
    have hE := h.err.cell 8 (by decide)
    have hE2 : w.cell? ⟨8, 0, none⟩ = some (eV A 8) := hE
    have hlt : 4000 < s.size := by omega
    clear h hsz hE hs
    go_enter Tryd.func46, Tryd.ntmps46
    go_wp2_with (go_at_call 78; refine (throw_any _ _ _).mono ?_; rintro e w2 ⟨rfl, rfl⟩)
    exact ⟨rfl, Or.inr ⟨8, _, R.out, Or.inr rfl, rfl, Only.refl _ _⟩⟩
end Go.Proofs.YtkopiffnkbjbiaaDoor
