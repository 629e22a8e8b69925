/- Locks: a table's functions: Drop, List; a law's table, act by act. -/
import Derived.Test.YtfnniphemlnanaaDoorLk15
import Derived.Test.YtfnniphemlnanaaDoorE3
namespace Go.Proofs.YtfnniphemlnanaaDoor
open Go Go.RowKit Go.Deep

set_option maxRecDepth 100000 in
set_option maxHeartbeats 4000000 in
theorem drop_any (w : World) (base t : Nat) (v : Value) (l : List Lk) (N G O : Int) (h : TbAt w base t v l) (hl : l.length ≤ 60) (hok : ∀ x ∈ l, x.Ok) :
    Calls Tryd.prog 16 #[.pointer (some ⟨t, 0, none⟩), .agg #[.int .i64 N, .int .i64 G], .int .i64 O] w fun e w' => e = .returned (.int .i64 ((l.length : Int) - ((keptB (ownB N G O) l).length : Int))) ∧ ∃ v', TbAt w' base t v' (keptB (ownB N G O) l) ∧ Only (t :: v.ownBlock.toList) w w' := by
  have hkl : (keptB (ownB N G O) l).length ≤ l.length := List.length_filter_le _ _
  have htl : t < w.heap.size := lt_of_cell h.c0
  have HVO : Hid (∀ k ∈ v.ownBlock.toList, k < w.heap.size) := own_lt h.own
  have HD : Hid (∀ W b1 b2, Only [] w W → TestOf W v.ownBlock.toList 46 #[b1, b2] (ownB N G O) → Calls Tryd.prog 32 #[v, .func (.func 46) #[] #[b1, b2]] W fun e w' => ∃ (ad : Option Addr) (cp : Nat), e = .returned (.slice ad (keptB (ownB N G O) l).length cp) ∧ Lks w' base (.slice ad (keptB (ownB N G O) l).length cp) (keptB (ownB N G O) l) ∧ Only v.ownBlock.toList W w' ∧ (Value.slice ad (keptB (ownB N G O) l).length cp).ownBlock = v.ownBlock) := fun W b1 b2 ho ht => (del_by_any W base b1 b2 _ v l (h.only ho).own (by omega) hok ht).mono fun e w' hh => by
    obtain ⟨v', he, h1, h2, h3⟩ := hh
    obtain ⟨ad, cp, rfl, _⟩ := row_form h1
    exact ⟨ad, cp, he, h1, h3, h2⟩
  have HF : Hid (∀ W, Only v.ownBlock.toList w W → W.cell? ⟨t, 0, none⟩ = some v ∧ W.frozen? ⟨t, 0, none⟩ = false ∧ t < W.heap.size) := fun W ho => by
    have hn : t ∉ v.ownBlock.toList := fun hm => h.ne t (by simpa using hm) rfl
    exact ⟨(ho.cell (p := ⟨t, 0, none⟩) htl hn).trans h.c0, (ho.frozen (p := ⟨t, 0, none⟩) htl hn).trans h.fr, Nat.lt_of_lt_of_le htl ho.size⟩
  have ct := h.c0
  have HNE : Hid (∀ k, v.ownBlock = some k → k ≠ t) := h.ne
  have HBY : Hid (∀ W, Only [] w W → Calls Tryd.prog 33 #[.agg #[.int .i64 N, .int .i64 G], .int .i64 O] W fun e w' => ∃ b c, e = .returned (.func (.func 46) #[] #[.pointer (some ⟨b, 0, none⟩), .pointer (some ⟨c, 0, none⟩)]) ∧ TestOf w' v.ownBlock.toList 46 #[.pointer (some ⟨b, 0, none⟩), .pointer (some ⟨c, 0, none⟩)] (ownB N G O) ∧ Only [] W w') := fun W ho => by_any W N G O _ (fun k hk => Nat.lt_of_lt_of_le (HVO.out k hk) ho.size)
  have HO1 : Hid (Only [] w ((w.alloc (.cells #[.int .i64 N, .int .i64 G] 33)).drew)) := ((Only.refl [] w).alloc _).drew
  have HBX : Hid (∀ W, Only [] ((w.alloc (.cells #[.int .i64 N, .int .i64 G] 33)).drew) W → W.cell? ⟨w.heap.size, 0, none⟩ = some (.int .i64 N) ∧ W.cell? ⟨w.heap.size, 1, none⟩ = some (.int .i64 G)) := fun W ho => by
    have := two_own_drew (B := w.heap.size) ho rfl
    exact ⟨this.1, this.2.1⟩
  obtain ⟨ad, cap, hv, _⟩ := row_form h.own
  clear h hok
  subst hv
  generalize (keptB (ownB N G O) l).length = m at HD hkl ⊢
  generalize l.length = n at *
  go_enter Tryd.func16, Tryd.ntmps16
  go_wp2
  go_region_with (first
    | (go_at_call 33; refine (HBY.out _ HO1.out).mono ?_; rintro e w2 ⟨b, c, rfl, hb2, ho2⟩; have HO2 : Hid (Only [] w w2) := only_nil HO1.out ho2; have ht2 := (HF.out w2 (HO2.out.mono (fun _ hk => by cases hk))).1; have htl2 := lt_of_cell ht2; obtain ⟨x0, x1⟩ := HBX.out w2 ho2; have hdf := HD.out w2 _ _ HO2.out hb2; clear hb2 ho2)
    | (go_at_call 32; refine hdf.mono ?_; rintro e w3 ⟨ad3, cp3, rfl, hO3, ho3, hw3⟩; have HO3 : Hid (Only (Value.slice ad n cap).ownBlock.toList w w3) := (HO2.out.mono (fun _ hk => by cases hk)).trans ho3 (fun _ hk => Or.inl hk); have HN3 : Hid (Lks w3 base (.slice ad3 m cp3) (keptB (ownB N G O) l) ∧ (Value.slice ad3 m cp3).ownBlock = (Value.slice ad n cap).ownBlock) := ⟨hO3, hw3⟩; obtain ⟨k1, k2, k3⟩ := HF.out w3 HO3.out; clear hdf hO3 ho3 hw3 x0 x1))
  all_goals
    have hx : Only [t] w3 (w3.setCell ⟨t, 0, none⟩ (.slice ad3 m cp3)) := (Only.refl [t] w3).setCell (Or.inl (by simp)) _
    have kx : (w3.setCell ⟨t, 0, none⟩ (.slice ad3 m cp3)).cell? ⟨t, 0, none⟩ = some (.slice ad3 m cp3) := World.cell?_setCell_same _ _ _ k1
    have HFIN : Hid (TbAt (w3.setCell ⟨t, 0, none⟩ (.slice ad3 m cp3)) base t (.slice ad3 m cp3) (keptB (ownB N G O) l) ∧ Only (t :: (Value.slice ad n cap).ownBlock.toList) w (w3.setCell ⟨t, 0, none⟩ (.slice ad3 m cp3))) := by
      have hne : ∀ k, (Value.slice ad3 m cp3).ownBlock = some k → k ≠ t := fun k hk => HNE.out k (by rw [← HN3.out.2]; exact hk)
      exact ⟨⟨kx, by simpa using k2, HN3.out.1.only hx (fun k hk => by simpa using hne k hk), hne⟩, (HO3.out.mono (L' := t :: (Value.slice ad n cap).ownBlock.toList) (fun k hk => Or.inl (List.mem_cons_of_mem _ hk))).trans hx (fun k hk => Or.inl (by simp at hk; simp [hk]))⟩
    clear hx k1 k2 k3 ct ht2
    generalize w3.setCell ⟨t, 0, none⟩ (.slice ad3 m cp3) = w4 at kx HFIN ⊢
    have htl4 := lt_of_cell kx
    go_wp2
    go_ret
    exact ⟨rfl, ⟨_, HFIN.out.1⟩, HFIN.out.2⟩
theorem list_any (w : World) (base t : Nat) (v : Value) (l : List Lk) (h : TbAt w base t v l) (hl : l.length ≤ 60) : Calls Tryd.prog 19 #[.pointer (some ⟨t, 0, none⟩)] w fun e w' => ∃ v', e = .returned v' ∧ Lks w' w.heap.size v' l ∧ Only [] w w' := by
  have hc := clone_any w base v l h.own (by omega)
  have ct := h.c0
  have htl := lt_of_cell ct
  clear h
  go_enter Tryd.func19, Tryd.ntmps19
  go_wp2_with (go_at_call 35; refine hc.mono ?_; rintro e w2 ⟨v2, rfl, h2, ho2⟩; have HE : Hid (Lks w2 w.heap.size v2 l ∧ Only [] w w2) := ⟨h2, ho2⟩; clear hc h2 ho2)
  go_ret
  exact ⟨_, rfl, HE.out⟩
/-- The three errors that a table of runs tells. -/
def Err3 (W : World) (A : Nat → Addr) : Prop := ∀ k, k ∈ [1, 8, 10] → W.cell? ⟨gOf k, 0, none⟩ = some (.iface 158 (.pointer (some (A k))))
theorem Err3.below {W w : World} {A : Nat → Addr} (h : Err3 W A) (hb : Below W.heap.size W w) : Err3 w A := fun k hk => (hb.cell (p := ⟨gOf k, 0, none⟩) (lt_of_cell (h k hk))).trans (h k hk)
theorem Errs.three {W : World} {A : Nat → Addr} (h : Errs W A) : Err3 W A := fun k hk => h.cell k (by simp at hk; omega)
/-- A law's table: all of it lies behind what was there. -/
structure LkW (W w : World) (t : Nat) (l : List Lk) : Prop where
  tab : ∃ v, TbAt w W.heap.size t v l
  inv : LInv l
  len : l.length ≤ 60
  srt : SortedL l
  below : Below W.heap.size W w
  ht : W.heap.size ≤ t
theorem LkW.only {W w w' : World} {t : Nat} {l : List Lk} (h : LkW W w t l) (ho : Only [] w w') : LkW W w' t l := by
  obtain ⟨v, hv⟩ := h.tab
  exact ⟨⟨v, hv.only ho⟩, h.inv, h.len, h.srt, h.below.trans (ho.to_below h.below.size (fun k hk => by cases hk)), h.ht⟩
theorem LkW.size {W w : World} {t : Nat} {l : List Lk} (h : LkW W w t l) : W.heap.size ≤ w.heap.size := h.below.size
theorem LkW.fresh {W w : World} (hb : Below W.heap.size W w) : LkW W (w.alloc (.cells #[.slice none 0 0] 27)) w.heap.size [] := by
  have hh := heap_alloc_last w (.cells #[.slice none 0 0] 27)
  exact ⟨⟨.slice none 0 0, cell_of_row _ _ 0 _ _ _ hh, frozen_of_row _ _ _ _ _ hh, Lks.nil _ _, (fun k hk => by cases hk)⟩, LInv.nil, by decide, List.Pairwise.nil, hb.alloc hb.size _, hb.size⟩
def sErr (A : Nat → Addr) (k : Nat) : Value := .iface 158 (.pointer (some (A k)))
/-- The first run that is against a wanted one. -/
def FirstAg (v : Lk) (l : List Lk) (x : Lk) : Prop := ∃ i : Nat, l[i]? = some x ∧ agB v x = true ∧ ∀ j y, j < i → l[j]? = some y → agB v y = false
theorem ag_cases (v : Lk) (l : List Lk) : (∀ x ∈ l, agB v x = false) ∨ ∃ x, FirstAg v l x := by
  induction l with
  | nil => exact Or.inl (fun x hx => by cases hx)
  | cons y l ih =>
    cases hy : agB v y with
    | true => exact Or.inr ⟨y, 0, rfl, hy, fun j z hj => by omega⟩
    | false =>
      rcases ih with h | ⟨x, i, h1, h2, h3⟩
      · exact Or.inl (fun x hx => by rcases List.mem_cons.1 hx with e | e; rw [e]; exact hy; exact h x e)
      · refine Or.inr ⟨x, i + 1, h1, h2, fun j z hj hz => ?_⟩
        cases j with
        | zero => cases hz; exact hy
        | succ j => exact h3 j z (by omega) hz
def TestR (A : Nat → Addr) (l : List Lk) (v : Lk) (c : Nat) (r : Value) (res : Lk) : Prop :=
  (rngB v.A v.S = false ∧ c = 2 ∧ r = sErr A 1 ∧ res = zeroL) ∨
  (rngB v.A v.S = true ∧ FirstAg v l res ∧ c = 11 ∧ r = sErr A 10) ∨
  (rngB v.A v.S = true ∧ (∀ x ∈ l, agB v x = false) ∧ c = 0 ∧ r = .nilIface ∧ res = zeroL)
def LockR (A : Nat → Addr) (l : List Lk) (v : Lk) (c : Nat) (r : Value) (res : Lk) (l' : List Lk) : Prop :=
  (rngB v.A v.S = false ∧ c = 2 ∧ r = sErr A 1 ∧ res = zeroL ∧ l' = l) ∨
  (rngB v.A v.S = true ∧ FirstAg v l res ∧ c = 11 ∧ r = sErr A 10 ∧ l' = l) ∨
  (rngB v.A v.S = true ∧ (∀ x ∈ l, agB v x = false) ∧ 60 < (withL v l).length ∧ c = 9 ∧ r = sErr A 8 ∧ res = zeroL ∧ l' = l) ∨
  (rngB v.A v.S = true ∧ (∀ x ∈ l, agB v x = false) ∧ (withL v l).length ≤ 60 ∧ c = 0 ∧ r = .nilIface ∧ res = zeroL ∧ l'.Perm (withL v l) ∧ SortedL l')
def UnlockR (A : Nat → Addr) (l : List Lk) (N G O a s : Int) (c : Nat) (r : Value) (l' : List Lk) : Prop :=
  (rngB a s = false ∧ c = 2 ∧ r = sErr A 1 ∧ l' = l) ∨
  (rngB a s = true ∧ 60 < (withoutL N G O a s l).length ∧ c = 9 ∧ r = sErr A 8 ∧ l' = l) ∨
  (rngB a s = true ∧ (withoutL N G O a s l).length ≤ 60 ∧ c = 0 ∧ r = .nilIface ∧ l'.Perm (withoutL N G O a s l) ∧ SortedL l')
theorem LkW.test {W w : World} {t : Nat} {l : List Lk} {A0 : Nat → Addr} (h : LkW W w t l) (hE : Err3 W A0) (N G O A S : Int) (b : Bool) :
    Calls Tryd.prog 12 #[.pointer (some ⟨t, 0, none⟩), .agg #[.int .i64 N, .int .i64 G], .int .i64 O, .agg #[.int .i64 A, .int .i64 S], .bool b] w fun e w' => ∃ c r res, e = .returned (.tuple #[lkV res, r]) ∧ TestR A0 l (⟨N, G, O, A, S, b⟩ : Lk) c r res ∧ LkW W w' t l ∧ Only [] w w' := by
  obtain ⟨v, hv⟩ := h.tab
  have hl := h.len
  cases hr : rngB A S with
  | false => exact (test_bad w t N G O A S b _ (hE.below h.below 1 (by simp)) hr).mono fun e w' hh => ⟨2, _, zeroL, hh.1, Or.inl ⟨hr, rfl, rfl, rfl⟩, h.only hh.2, hh.2⟩
  | true =>
    rcases ag_cases (⟨N, G, O, A, S, b⟩ : Lk) l with hno | ⟨x, i, hx, hp, hf⟩
    · exact (test_free w _ t v l N G O A S b hv (by omega) h.inv.ok hr hno).mono fun e w' hh => ⟨0, _, zeroL, hh.1, Or.inr (Or.inr ⟨hr, hno, rfl, rfl, rfl⟩), h.only hh.2, hh.2⟩
    · exact (test_held w _ t v _ l N G O A S b i x hv (by omega) h.inv.ok hr (hE.below h.below 10 (by simp)) hx hp hf).mono fun e w' hh => ⟨11, _, x, hh.1, Or.inr (Or.inl ⟨hr, ⟨i, hx, hp, hf⟩, rfl, rfl⟩), h.only hh.2, hh.2⟩
theorem LkW.step {W w w' : World} {t : Nat} {l l' : List Lk} {v' : Value} (h : LkW W w t l) (hi : LInv l') (hn : l'.length ≤ 60) (hs : SortedL l') (hv : TbAt w' W.heap.size t v' l') (ho : Only [t] w w') : LkW W w' t l' :=
  ⟨⟨v', hv⟩, hi, hn, hs, h.below.trans (ho.to_below h.below.size (fun k hk => by rw [List.mem_singleton.1 hk]; exact h.ht)), h.ht⟩
theorem LkW.lock {W w : World} {t : Nat} {l : List Lk} {A0 : Nat → Addr} (h : LkW W w t l) (hE : Err3 W A0) (N G O A S : Int) (b : Bool) :
    Calls Tryd.prog 8 #[.pointer (some ⟨t, 0, none⟩), .agg #[.int .i64 N, .int .i64 G], .int .i64 O, .agg #[.int .i64 A, .int .i64 S], .bool b] w fun e w' => ∃ c r res l', e = .returned (.tuple #[lkV res, r]) ∧ LockR A0 l (⟨N, G, O, A, S, b⟩ : Lk) c r res l' ∧ LkW W w' t l' ∧ Only [t] w w' := by
  obtain ⟨v, hv⟩ := h.tab
  have hl := h.len
  cases hr : rngB A S with
  | false =>
    have ht : ∀ W', Only [] w W' → Calls Tryd.prog 12 #[.pointer (some ⟨t, 0, none⟩), .agg #[.int .i64 N, .int .i64 G], .int .i64 O, .agg #[.int .i64 A, .int .i64 S], .bool b] W' fun e w' => e = .returned (.tuple #[lkV zeroL, sErr A0 1]) ∧ Only [] W' w' := fun W' ho => test_bad W' t N G O A S b _ (hE.below (h.only ho).below 1 (by simp)) hr
    exact (lock_err w t N G O A S b zeroL _ _ ht).mono fun e w' hh => ⟨2, _, zeroL, l, hh.1, Or.inl ⟨hr, rfl, rfl, rfl, rfl⟩, h.only hh.2, hh.2.mono (fun _ hk => by cases hk)⟩
  | true =>
    rcases ag_cases (⟨N, G, O, A, S, b⟩ : Lk) l with hno | ⟨x, i, hx, hp, hf⟩
    · by_cases hlen : (withL (⟨N, G, O, A, S, b⟩ : Lk) l).length ≤ 60
      · refine (lock_ok w _ t v l N G O A S b hv h.size hl h.inv hr hno hlen).mono fun e w' hh => ?_
        obtain ⟨he, v', m', hp, hs, hv', ho⟩ := hh
        exact ⟨0, _, zeroL, m', he, Or.inr (Or.inr (Or.inr ⟨hr, hno, hlen, rfl, rfl, rfl, hp, hs⟩)), h.step ((h.inv.wanted (v := (⟨N, G, O, A, S, b⟩ : Lk)) (rngB_ok hr) hno).perm hp) (by rw [hp.length_eq]; exact hlen) hs hv' ho, ho⟩
      · exact (lock_full w _ t v _ l N G O A S b hv h.size hl h.inv hr hno (by omega) (hE.below h.below 8 (by simp))).mono fun e w' hh => ⟨9, _, zeroL, l, hh.1, Or.inr (Or.inr (Or.inl ⟨hr, hno, by omega, rfl, rfl, rfl, rfl⟩)), h.only hh.2, hh.2.mono (fun _ hk => by cases hk)⟩
    · have ht : ∀ W', Only [] w W' → Calls Tryd.prog 12 #[.pointer (some ⟨t, 0, none⟩), .agg #[.int .i64 N, .int .i64 G], .int .i64 O, .agg #[.int .i64 A, .int .i64 S], .bool b] W' fun e w' => e = .returned (.tuple #[lkV x, sErr A0 10]) ∧ Only [] W' w' := fun W' ho => test_held W' _ t v _ l N G O A S b i x (hv.only ho) (by omega) h.inv.ok hr (hE.below (h.only ho).below 10 (by simp)) hx hp hf
      exact (lock_err w t N G O A S b x _ _ ht).mono fun e w' hh => ⟨11, _, x, l, hh.1, Or.inr (Or.inl ⟨hr, ⟨i, hx, hp, hf⟩, rfl, rfl, rfl⟩), h.only hh.2, hh.2.mono (fun _ hk => by cases hk)⟩
theorem LkW.unlock {W w : World} {t : Nat} {l : List Lk} {A0 : Nat → Addr} (h : LkW W w t l) (hE : Err3 W A0) (N G O A S : Int) :
    Calls Tryd.prog 14 #[.pointer (some ⟨t, 0, none⟩), .agg #[.int .i64 N, .int .i64 G], .int .i64 O, .agg #[.int .i64 A, .int .i64 S]] w fun e w' => ∃ c r l', e = .returned r ∧ UnlockR A0 l N G O A S c r l' ∧ LkW W w' t l' ∧ Only [t] w w' := by
  obtain ⟨v, hv⟩ := h.tab
  have hl := h.len
  cases hr : rngB A S with
  | false => exact (unlock_bad w t N G O A S _ (hE.below h.below 1 (by simp)) hr).mono fun e w' hh => ⟨2, _, l, hh.1, Or.inl ⟨hr, rfl, rfl, rfl⟩, h.only hh.2, hh.2.mono (fun _ hk => by cases hk)⟩
  | true =>
    by_cases hlen : (withoutL N G O A S l).length ≤ 60
    · refine (unlock_ok w _ t v l N G O A S hv h.size hl h.inv hr hlen).mono fun e w' hh => ?_
      obtain ⟨he, v', m', hp, hs, hv', ho⟩ := hh
      exact ⟨0, _, m', he, Or.inr (Or.inr ⟨hr, hlen, rfl, rfl, hp, hs⟩), h.step ((h.inv.without (rngB_ok hr)).perm hp) (by rw [hp.length_eq]; exact hlen) hs hv' ho, ho⟩
    · exact (unlock_full w _ t v _ l N G O A S hv h.size hl h.inv hr (by omega) (hE.below h.below 8 (by simp))).mono fun e w' hh => ⟨9, _, l, hh.1, Or.inr (Or.inl ⟨hr, by omega, rfl, rfl, rfl⟩), h.only hh.2, hh.2.mono (fun _ hk => by cases hk)⟩
theorem LkW.drop {W w : World} {t : Nat} {l : List Lk} (h : LkW W w t l) (N G O : Int) :
    Calls Tryd.prog 16 #[.pointer (some ⟨t, 0, none⟩), .agg #[.int .i64 N, .int .i64 G], .int .i64 O] w fun e w' => e = .returned (.int .i64 ((l.length : Int) - ((keptB (ownB N G O) l).length : Int))) ∧ LkW W w' t (keptB (ownB N G O) l) := by
  obtain ⟨v, hv⟩ := h.tab
  refine (drop_any w _ t v l N G O hv h.len h.inv.ok).mono fun e w' hh => ?_
  obtain ⟨he, v', hv', ho⟩ := hh
  refine ⟨he, ⟨v', hv'⟩, h.inv.filter _, Nat.le_trans (List.length_filter_le _ _) h.len, h.srt.sublist List.filter_sublist, h.below.trans (ho.to_below h.below.size (fun k hk => ?_)), h.ht⟩
  rcases List.mem_cons.1 hk with e | hk
  · rw [e]; exact h.ht
  · exact (World.ownsRow.lt hv.own k (by simpa using hk)).1
theorem LkW.list {W w : World} {t : Nat} {l : List Lk} (h : LkW W w t l) : Calls Tryd.prog 19 #[.pointer (some ⟨t, 0, none⟩)] w fun e w' => ∃ v', e = .returned v' ∧ Lks w' w.heap.size v' l ∧ Only [] w w' := by
  obtain ⟨v, hv⟩ := h.tab
  exact list_any w _ t v l hv h.len
end Go.Proofs.YtfnniphemlnanaaDoor
