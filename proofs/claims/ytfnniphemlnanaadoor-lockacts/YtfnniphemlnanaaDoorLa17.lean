/- LockActs: both tables side by side: Test, Unlock, Drop, List. -/
import Derived.Test.YtfnniphemlnanaaDoorLa16
import Derived.Test.YtfnniphemlnanaaDoorLa15
namespace Go.Proofs.YtfnniphemlnanaaDoor
open Go Go.RowKit Go.Deep

/-! ### Test -/
def RTestR (l : List Lk) (v : Lk) (c : Int) (res : Lk) : Prop :=
  (rngB v.A v.S = false ∧ c = 2 ∧ res = zeroL) ∨ (rngB v.A v.S = true ∧ FirstAg v l res ∧ c = 11) ∨ (rngB v.A v.S = true ∧ (∀ x ∈ l, agB v x = false) ∧ c = 0 ∧ res = zeroL)
theorem Mem2.testP {W w : World} {t m b : Nat} {l : List Lk} {P : List Pt} {cs : Array Value} {A0 : Nat → Addr} (h : Mem2 W w t m l P b cs) (hp : Pair l P) (hE : Err3 W A0) (N G O A S : Int) (wr : Bool) :
    Calls Tryd.prog 12 #[.pointer (some ⟨t, 0, none⟩), .agg #[.int .i64 N, .int .i64 G], .int .i64 O, .agg #[.int .i64 A, .int .i64 S], .bool wr] w fun e w' => ∃ c r res, e = .returned (.tuple #[.agg #[.int .i64 res.N, .int .i64 res.G, .int .i64 res.O, .int .i64 res.A, .int .i64 res.S, .bool res.W], r]) ∧ TestR A0 l (⟨N, G, O, A, S, wr⟩ : Lk) c r res ∧ Mem2 W w' t m l P b cs := by
  obtain ⟨v, u, h⟩ := h
  refine (LkW.test (h.lkw hp.inv hp.len hp.srt) hE N G O A S wr).mono fun e w' hh => ?_
  obtain ⟨c, r, res, he, hr, _, ho⟩ := hh
  exact ⟨c, r, res, he, hr, v, u, h.only ho⟩
theorem Mem2.testD {W w : World} {t m b : Nat} {l : List Lk} {P : List Pt} {cs : Array Value} (h : Mem2 W w t m l P b cs) (hp : Pair l P) (hl : P.length ≤ 99) (N G O A S : Int) (wr : Bool) :
    Calls Tryd.prog 13 #[.pointer (some ⟨m, 0, none⟩), .agg #[.int .i64 N, .int .i64 G], .int .i64 O, .agg #[.int .i64 A, .int .i64 S], .bool wr] w fun e w' => ∃ c res, e = .returned (.tuple #[.agg #[.int .i64 res.N, .int .i64 res.G, .int .i64 res.O, .int .i64 res.A, .int .i64 res.S, .bool res.W], .int .i64 c]) ∧ RTestR l (⟨N, G, O, A, S, wr⟩ : Lk) c res ∧ Mem2 W w' t m l P b cs ∧ Only [] w w' := by
  obtain ⟨v, u, h⟩ := h
  cases hr : rngB A S with
  | false => exact (rtest_bad w m N G O A S wr hr).mono fun e w' hh => ⟨2, zeroL, hh.1, Or.inl ⟨hr, rfl, rfl⟩, ⟨v, u, h.only hh.2⟩, hh.2⟩
  | true =>
    refine (rtest_go w _ m u P l N G O A S wr h.rl (by omega) hp.ok hr hp.list hp.inv.ok).mono fun e w' hh => ?_
    obtain ⟨c, res, he, hc, ho⟩ := hh
    rcases hc with ⟨h1, h2⟩ | ⟨h1, h2, h3⟩
    · exact ⟨c, res, he, Or.inr (Or.inl ⟨hr, h1, h2⟩), ⟨v, u, h.only ho⟩, ho⟩
    · exact ⟨c, res, he, Or.inr (Or.inr ⟨hr, h1, h2, h3⟩), ⟨v, u, h.only ho⟩, ho⟩
theorem pair_test {A0 : Nat → Addr} {l : List Lk} {v : Lk} {c : Nat} {c2 : Int} {r : Value} {res res2 : Lk} (h : TestR A0 l v c r res) (h2 : RTestR l v c2 res2) : c2 = (c : Int) ∧ res2 = res ∧ Told A0 c r := by
  rcases h with ⟨hr, rfl, rfl, rfl⟩ | ⟨hr, hf, rfl, rfl⟩ | ⟨hr, hno, rfl, rfl, rfl⟩
  · rcases h2 with ⟨_, rfl, rfl⟩ | ⟨h, _⟩ | ⟨h, _⟩
    · exact ⟨rfl, rfl, told_k (by decide)⟩
    · rw [hr] at h; cases h
    · rw [hr] at h; cases h
  · rcases h2 with ⟨h, _⟩ | ⟨_, hf2, rfl⟩ | ⟨_, hn, _⟩
    · rw [hr] at h; cases h
    · exact ⟨rfl, hf2.uniq hf, told_k (by decide)⟩
    · exact (hf.not hn).elim
  · rcases h2 with ⟨h, _⟩ | ⟨_, hf2, _⟩ | ⟨_, _, rfl, rfl⟩
    · rw [hr] at h; cases h
    · exact (hf2.not hno).elim
    · exact ⟨rfl, rfl, Or.inl ⟨rfl, rfl⟩⟩
/-! ### Unlock -/
def RUnR (P : List Pt) (N G O A S : Int) (c : Int) (P' : List Pt) : Prop :=
  (rngB A S = false ∧ c = 2 ∧ P' = P) ∨ (rngB A S = true ∧ ∃ D, ListOf (P ++ [⟨N, G, O, A, toR A S, 0⟩]) D ∧ ((60 < D.length ∧ c = 9 ∧ P' = P) ∨ (D.length ≤ 60 ∧ c = 0 ∧ P' = P ++ [⟨N, G, O, A, toR A S, 0⟩])))
theorem Mem2.unlockP {W w : World} {t m b : Nat} {l : List Lk} {P : List Pt} {cs : Array Value} {A0 : Nat → Addr} (h : Mem2 W w t m l P b cs) (hp : Pair l P) (hE : Err3 W A0) (N G O A S : Int) :
    Calls Tryd.prog 14 #[.pointer (some ⟨t, 0, none⟩), .agg #[.int .i64 N, .int .i64 G], .int .i64 O, .agg #[.int .i64 A, .int .i64 S]] w fun e w' => ∃ c r l', e = .returned r ∧ UnlockR A0 l N G O A S c r l' ∧ Mem2 W w' t m l' P b cs := by
  obtain ⟨v, u, h⟩ := h
  refine (LkW.unlock (h.lkw hp.inv hp.len hp.srt) hE N G O A S).mono fun e w' hh => ?_
  obtain ⟨c, r, l', he, hr, hw, ho⟩ := hh
  obtain ⟨v', hv'⟩ := hw.tab
  exact ⟨c, r, l', he, hr, v', u, h.prog hv' (ho.mono (fun k hk => Or.inl (by rw [List.mem_singleton.1 hk]; exact List.mem_cons_self)))⟩
theorem Mem2.unlockD {W w : World} {t m b : Nat} {l l' : List Lk} {P : List Pt} {cs : Array Value} (h : Mem2 W w t m l' P b cs) (hp : Pair l P) (hl : P.length ≤ 99) (N G O A S : Int) :
    Calls Tryd.prog 15 #[.pointer (some ⟨m, 0, none⟩), .agg #[.int .i64 N, .int .i64 G], .int .i64 O, .agg #[.int .i64 A, .int .i64 S]] w fun e w' => ∃ c P', e = .returned (.int .i64 c) ∧ RUnR P N G O A S c P' ∧ Mem2 W w' t m l' P' b cs := by
  obtain ⟨v, u, h⟩ := h
  cases hr : rngB A S with
  | false => exact (runlock_bad w m N G O A S hr).mono fun e w' hh => ⟨2, P, hh.1, Or.inl ⟨hr, rfl, rfl⟩, v, u, h.only hh.2⟩
  | true =>
    refine (runlock_ok w _ m u P N G O A S h.rl h.below.size hl hp.ok hr).mono fun e w' hh => ?_
    obtain ⟨c, he, _, hb⟩ := hh
    obtain ⟨D, P', hD, hc, hM⟩ := Mem2.brushed h hb
    exact ⟨c, P', he, Or.inr ⟨hr, D, hD, hc⟩, hM⟩
theorem pair_unlock {A0 : Nat → Addr} {l l' : List Lk} {P P' : List Pt} {N G O A S : Int} {c : Nat} {c2 : Int} {r : Value} (hp : Pair l P) (h : UnlockR A0 l N G O A S c r l') (h2 : RUnR P N G O A S c2 P') : c2 = (c : Int) ∧ Pair l' P' ∧ Told A0 c r ∧ P'.length ≤ P.length + 1 := by
  rcases h with ⟨hr, rfl, rfl, rfl⟩ | ⟨hr, hbig, rfl, rfl, rfl⟩ | ⟨hr, hsm, rfl, rfl, hpm, hs⟩
  · rcases h2 with ⟨_, rfl, rfl⟩ | ⟨h, _⟩
    · exact ⟨rfl, hp, told_k (by decide), by omega⟩
    · rw [hr] at h; cases h
  all_goals
    have hv : OkR A S := rngB_ok hr
    have hsm2 := Same.unlock hp.inv hp.same hv (N0 := N) (G0 := G) (O0 := O)
    rcases h2 with ⟨h, _⟩ | ⟨_, D, hD, hc⟩
    · rw [hr] at h; cases h
    · have hlen := hD.len (hp.inv.without hv) hsm2
      rcases hc with ⟨h1, rfl, rfl⟩ | ⟨h1, rfl, rfl⟩
      all_goals first
        | (exfalso; omega)
        | exact ⟨rfl, hp, told_k (by decide), by omega⟩
        | exact ⟨rfl, ⟨(hp.inv.without hv).perm hpm, by rw [hpm.length_eq]; omega, hs, hsm2.perm hpm, ok_snoc hp.ok (stroke_ok (N := N) (G := G) (O := O) hr (Or.inl rfl))⟩, Or.inl ⟨rfl, rfl⟩, by simp⟩
/-! ### Drop -/
theorem filter_both {α : Type} (f : α → Bool) (l : List α) : (l.filter f).length + (l.filter (fun x => !f x)).length = l.length := by
  induction l with
  | nil => rfl
  | cons x l ih => cases h : f x <;> simp [h] <;> omega
theorem lk_nodup {l : List Lk} (hi : LInv l) : l.Nodup := hi.apt.imp_of_mem (fun {a b} ha hb hab e => by
    subst e
    have x1 := (OkR.fwd (hi.ok a ha)).1
    change a.A < a.e at x1
    have := ((hab rfl rfl).1 rfl).1
    omega)
theorem drop_num {l : List Lk} {P : List Pt} (hp : Pair l P) {N G O : Int} {ps : List Int} (h : IsPlaces P N G O ps) : ((runsP P N G O ps).length : Int) = (l.length : Int) - ((keptB (ownB N G O) l).length : Int) := by
  have h1 : (runsP P N G O ps).Nodup := (runsP_sorted hp.ok h).imp (fun {a b} hab e => by rw [e] at hab; omega)
  have h2 : (l.filter (ownB N G O)).Nodup := (lk_nodup hp.inv).filter _
  have h3 := ((List.perm_ext_iff_of_nodup h1 h2).2 (fun x => by
    rw [mem_runsP hp.ok h, List.mem_filter, mem_iff_run hp.inv hp.same x, ownB_iff]
    exact And.comm)).length_eq
  have h4 := filter_both (ownB N G O) l
  unfold keptB
  omega
theorem Mem2.dropP {W w : World} {t m b : Nat} {l : List Lk} {P : List Pt} {cs : Array Value} (h : Mem2 W w t m l P b cs) (hp : Pair l P) (N G O : Int) :
    Calls Tryd.prog 16 #[.pointer (some ⟨t, 0, none⟩), .agg #[.int .i64 N, .int .i64 G], .int .i64 O] w fun e w' => e = .returned (.int .i64 ((l.length : Int) - ((keptB (ownB N G O) l).length : Int))) ∧ Mem2 W w' t m (keptB (ownB N G O) l) P b cs := by
  obtain ⟨v, u, h⟩ := h
  refine (drop_any w _ t v l N G O h.tb hp.len hp.inv.ok).mono fun e w' hh => ?_
  obtain ⟨he, v', hv', ho⟩ := hh
  exact ⟨he, v', u, h.prog hv' ho⟩
theorem Mem2.dropD {W w : World} {t m b : Nat} {l l' : List Lk} {P : List Pt} {cs : Array Value} (h : Mem2 W w t m l' P b cs) (hp : Pair l P) (hl : P.length ≤ 99) (N G O : Int) :
    Calls Tryd.prog 17 #[.pointer (some ⟨m, 0, none⟩), .agg #[.int .i64 N, .int .i64 G], .int .i64 O] w fun e w' => e = .returned (.int .i64 ((l.length : Int) - ((keptB (ownB N G O) l).length : Int))) ∧ Mem2 W w' t m l' (P.filter (fun p => !keyP N G O p)) b cs := by
  obtain ⟨v, u, h⟩ := h
  refine (rdrop_any w _ m u P N G O h.rl h.below.size (by omega) hp.ok).mono fun e w' hh => ?_
  obtain ⟨ps, hps, he, u', hu', ho, hf⟩ := hh
  exact ⟨by rw [he]; exact congrArg (fun z : Int => Ending.returned (Value.int IntKind.i64 z)) (drop_num hp hps), v, u', h.doc hu' ho hf⟩
theorem pair_drop {l : List Lk} {P : List Pt} (hp : Pair l P) (N G O : Int) : Pair (keptB (ownB N G O) l) (P.filter (fun p => !keyP N G O p)) :=
  ⟨hp.inv.filter _, Nat.le_trans (List.length_filter_le _ _) hp.len, hp.srt.sublist List.filter_sublist, hp.same.drop N G O, fun p hq => hp.ok p (List.mem_filter.1 hq).1⟩
/-! ### List, and no box -/
structure Mem0V (W w : World) (t m : Nat) (v u : Value) (l : List Lk) (P : List Pt) : Prop where
  tb : TbAt w W.heap.size t v l
  rl : RlAt w W.heap.size m u P
  below : Below W.heap.size W w
  ht : W.heap.size ≤ t
  hm : W.heap.size ≤ m
  tm : t ≠ m
  ut : u.ownBlock ≠ some t
def Good2 (W w : World) (t m n : Nat) : Prop := ∃ l P, (∃ v u, Mem0V W w t m v u l P) ∧ Pair l P ∧ P.length ≤ n
theorem Mem2.good {W w : World} {t m b n : Nat} {l : List Lk} {P : List Pt} {cs : Array Value} (h : Mem2 W w t m l P b cs) (hp : Pair l P) (hn : P.length ≤ n) : Good2 W w t m n := by
  obtain ⟨v, u, h⟩ := h
  exact ⟨l, P, ⟨v, u, h.tb, h.rl, h.below, h.ht, h.hm, h.tm, h.ut⟩, hp, hn⟩
theorem Good2.below {W w : World} {t m n : Nat} (h : Good2 W w t m n) : Below W.heap.size W w := by
  obtain ⟨l, P, ⟨v, u, h⟩, _⟩ := h
  exact h.below
theorem Good2.box {W w : World} {t m n : Nat} (h : Good2 W w t m n) (cs : Array Value) : ∃ l P, Mem2 W (w.alloc (.cells cs 37)) t m l P w.heap.size cs ∧ Pair l P ∧ P.length ≤ n := by
  obtain ⟨l, P, ⟨v, u, h⟩, hp, hn⟩ := h
  have ho : Only [] w (w.alloc (.cells cs 37)) := (Only.refl [] w).alloc _
  have h1 := lt_of_cell h.tb.c0
  have h2 := lt_of_cell h.rl.c0
  exact ⟨l, P, ⟨v, u, h.tb.only ho, h.rl.only ho, h.below.trans (ho.to_below h.below.size (fun k hk => by cases hk)), h.ht, h.hm, h.tm, h.ut, heap_alloc_last w _, by show w.heap.size ≠ t; change t < w.heap.size at h1; omega, by show w.heap.size ≠ m; change m < w.heap.size at h2; omega⟩, hp, hn⟩
theorem Good2.fresh {W w : World} (hb : Below W.heap.size W w) : Good2 W ((w.alloc (.cells #[.slice none 0 0] 27)).alloc (.cells #[.slice none 0 0] 31)) w.heap.size (w.heap.size + 1) 0 := by
  have h1 := LkW.fresh hb
  have ho : Only [] (w.alloc (.cells #[.slice none 0 0] 27)) ((w.alloc (.cells #[.slice none 0 0] 27)).alloc (.cells #[.slice none 0 0] 31)) := (Only.refl [] _).alloc _
  have h2 := h1.only ho
  obtain ⟨v, hv⟩ := h2.tab
  have hh := heap_alloc_last (w.alloc (.cells #[.slice none 0 0] 27)) (.cells #[.slice none 0 0] 31)
  rw [World.size_alloc] at hh
  have hs := hb.size
  refine ⟨[], [], ⟨v, .slice none 0 0, hv, ⟨cell_of_row _ _ 0 _ _ _ hh, frozen_of_row _ _ _ _ _ hh, World.ownsRow_nil _ _ _ _, (fun k hk => by cases hk), _, hh⟩, h2.below, hs, by omega, by omega, by intro e; cases e⟩, ⟨LInv.nil, by decide, List.Pairwise.nil, ?_, fun p hp => by cases hp⟩, Nat.le_refl _⟩
  intro N G O c k h0 h1 h2
  constructor
  · rintro ⟨x, hx, _⟩; cases hx
  · intro e
    exfalso
    change (0 : Int) = k at e
    omega
theorem Mem2.cells {W w : World} {t m b : Nat} {l : List Lk} {P : List Pt} {cs : Array Value} (h : Mem2 W w t m l P b cs) (o : Nat) : w.cell? ⟨b, o, none⟩ = cs[o]? := by
  obtain ⟨v, u, h⟩ := h
  exact cell_of_row _ _ o _ _ _ h.bx
theorem Mem2.below {W w : World} {t m b : Nat} {l : List Lk} {P : List Pt} {cs : Array Value} (h : Mem2 W w t m l P b cs) : Below W.heap.size W w := by
  obtain ⟨v, u, h⟩ := h
  exact h.below
theorem Mem2.listP {W w : World} {t m b : Nat} {l : List Lk} {P : List Pt} {cs : Array Value} (h : Mem2 W w t m l P b cs) (hp : Pair l P) : Calls Tryd.prog 19 #[.pointer (some ⟨t, 0, none⟩)] w fun e w' => ∃ v', e = .returned v' ∧ Lks w' w.heap.size v' l ∧ Only [] w w' := by
  obtain ⟨v, u, h⟩ := h
  exact (h.lkw hp.inv hp.len hp.srt).list
theorem Mem2.listD {W w : World} {t m b : Nat} {l : List Lk} {P : List Pt} {cs : Array Value} (h : Mem2 W w t m l P b cs) (hp : Pair l P) (hl : P.length ≤ 99) : Calls Tryd.prog 20 #[.pointer (some ⟨m, 0, none⟩)] w fun e w' => ∃ v', e = .returned v' ∧ Rks w' w.heap.size v' l ∧ Only [] w w' := by
  obtain ⟨v, u, h⟩ := h
  refine (rlist_any w _ m u P h.rl (by omega) hp.ok).mono fun e w' hh => ?_
  obtain ⟨v', D, he, h1, h2, _, ho⟩ := hh
  have := hp.list D h2
  subst this
  exact ⟨v', he, h1, ho⟩
end Go.Proofs.YtfnniphemlnanaaDoor
