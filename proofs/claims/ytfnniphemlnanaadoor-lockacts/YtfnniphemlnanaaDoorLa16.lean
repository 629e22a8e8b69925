/- LockActs: both tables side by side. -/
import Derived.Test.YtfnniphemlnanaaDoorLa14
import Derived.Test.YtfnniphemlnanaaDoorLk18
namespace Go.Proofs.YtfnniphemlnanaaDoor
open Go Go.RowKit Go.Deep

theorem own_type {w : World} {base e k n b : Nat} {v : Value} {xs : List Value} (h : w.ownsRow base e k v n xs) (hb : v.ownBlock = some b) : base ≤ b ∧ b < w.heap.size ∧ ∃ cur, w.heap[b]? = some (.cells cur e (0, 0)) := by
  rcases h.2 with ⟨rfl, _⟩ | ⟨g, cap, cur, rfl, h1, h2, _⟩
  · cases hb
  · cases hb
    exact ⟨h1, (Array.getElem?_eq_some_iff.1 h2).1, cur, h2⟩
structure MemV (W w : World) (t m : Nat) (v u : Value) (l : List Lk) (P : List Pt) (b : Nat) (cs : Array Value) : Prop where
  tb : TbAt w W.heap.size t v l
  rl : RlAt w W.heap.size m u P
  below : Below W.heap.size W w
  ht : W.heap.size ≤ t
  hm : W.heap.size ≤ m
  tm : t ≠ m
  ut : u.ownBlock ≠ some t
  bx : w.heap[b]? = some (.cells cs 37 (0, 0))
  bt : b ≠ t
  bm : b ≠ m
def Mem2 (W w : World) (t m : Nat) (l : List Lk) (P : List Pt) (b : Nat) (cs : Array Value) : Prop := ∃ v u, MemV W w t m v u l P b cs
theorem MemV.vm {W w : World} {t m b : Nat} {v u : Value} {l : List Lk} {P : List Pt} {cs : Array Value} (h : MemV W w t m v u l P b cs) : v.ownBlock ≠ some m := fun e => by
  obtain ⟨_, _, cur, hc⟩ := own_type h.tb.own e
  obtain ⟨cs, hd⟩ := h.rl.bl
  rw [hc] at hd
  simp at hd
theorem MemV.vb {W w : World} {t m b : Nat} {v u : Value} {l : List Lk} {P : List Pt} {cs : Array Value} (h : MemV W w t m v u l P b cs) : v.ownBlock ≠ some b := fun e => by
  obtain ⟨_, _, cur, hc⟩ := own_type h.tb.own e
  have hd := h.bx
  rw [hc] at hd
  simp at hd
theorem MemV.vu {W w : World} {t m b : Nat} {v u : Value} {l : List Lk} {P : List Pt} {cs : Array Value} (h : MemV W w t m v u l P b cs) (k : Nat) (hk : v.ownBlock = some k) : u.ownBlock ≠ some k := fun e => by
  obtain ⟨_, _, cur, hc⟩ := own_type h.tb.own hk
  obtain ⟨_, _, cur', hd⟩ := own_type h.rl.own e
  rw [hc] at hd
  simp at hd
theorem MemV.blt {W w : World} {t m b : Nat} {v u : Value} {l : List Lk} {P : List Pt} {cs : Array Value} (h : MemV W w t m v u l P b cs) : b < w.heap.size := (Array.getElem?_eq_some_iff.1 h.bx).1
theorem MemV.only {W w w' : World} {t m b : Nat} {v u : Value} {l : List Lk} {P : List Pt} {cs : Array Value} (h : MemV W w t m v u l P b cs) (ho : Only [] w w') : MemV W w' t m v u l P b cs :=
  ⟨h.tb.only ho, h.rl.only ho, h.below.trans (ho.to_below h.below.size (fun k hk => by cases hk)), h.ht, h.hm, h.tm, h.ut, (ho.block b h.blt (by simp)).trans h.bx, h.bt, h.bm⟩
theorem Mem2.only {W w w' : World} {t m b : Nat} {l : List Lk} {P : List Pt} {cs : Array Value} (h : Mem2 W w t m l P b cs) (ho : Only [] w w') : Mem2 W w' t m l P b cs := by
  obtain ⟨v, u, h⟩ := h
  exact ⟨v, u, h.only ho⟩
theorem MemV.prog {W w w' : World} {t m b : Nat} {v v' u : Value} {l l' : List Lk} {P : List Pt} {cs : Array Value} (h : MemV W w t m v u l P b cs) (hs : TbAt w' W.heap.size t v' l') (ho : Only (t :: v.ownBlock.toList) w w') : MemV W w' t m v' u l' P b cs := by
  have nin : ∀ k, k ≠ t → v.ownBlock ≠ some k → k ∉ t :: v.ownBlock.toList := fun k h1 h2 hm => by
    rcases List.mem_cons.1 hm with e | e
    · exact h1 e
    · exact h2 (by simpa using e)
  have hml : m < w.heap.size := lt_of_cell h.rl.c0
  have hmn := nin m h.tm.symm h.vm
  exact ⟨hs, ⟨(ho.cell (p := ⟨m, 0, none⟩) hml hmn).trans h.rl.c0, (ho.frozen (p := ⟨m, 0, none⟩) hml hmn).trans h.rl.fr, h.rl.own.only ho (fun k hk => nin k (fun e => h.ut (by rw [← e]; exact hk)) (fun e => h.vu k e hk)), h.rl.ne, h.rl.bl.imp (fun _ hc => (ho.block m hml hmn).trans hc)⟩, h.below.trans (ho.to_below h.below.size (fun k hk => by
    rcases List.mem_cons.1 hk with e | hk
    · rw [e]; exact h.ht
    · exact (own_type h.tb.own (by simpa using hk)).1)), h.ht, h.hm, h.tm, h.ut, (ho.block b h.blt (nin b h.bt h.vb)).trans h.bx, h.bt, h.bm⟩
theorem MemV.doc {W w w' : World} {t m b : Nat} {v u u' : Value} {l : List Lk} {P P' : List Pt} {cs : Array Value} (h : MemV W w t m v u l P b cs) (hs : RlAt w' W.heap.size m u' P') (ho : Only [m] w w') (hf : ∀ k, u'.ownBlock = some k → w.heap.size ≤ k) : MemV W w' t m v u' l P' b cs := by
  have htl : t < w.heap.size := lt_of_cell h.tb.c0
  have htn : t ∉ [m] := by simpa using h.tm
  have hbn : b ∉ [m] := by simpa using h.bm
  exact ⟨⟨(ho.cell (p := ⟨t, 0, none⟩) htl htn).trans h.tb.c0, (ho.frozen (p := ⟨t, 0, none⟩) htl htn).trans h.tb.fr, h.tb.own.only ho (fun k hk => by rw [List.mem_singleton]; exact fun e => h.vm (by rw [← e]; exact hk)), h.tb.ne⟩, hs, h.below.trans (ho.to_below h.below.size (fun k hk => by rw [List.mem_singleton.1 hk]; exact h.hm)), h.ht, h.hm, h.tm, fun e => by have := hf t e; omega, (ho.block b h.blt hbn).trans h.bx, h.bt, h.bm⟩
/-- Both tables hold the same. -/
structure Pair (l : List Lk) (P : List Pt) : Prop where
  inv : LInv l
  len : l.length ≤ 60
  srt : SortedL l
  same : Same l P
  ok : ∀ p ∈ P, p.Ok
theorem Pair.ord {l : List Lk} {P : List Pt} (h : Pair l P) : l.Pairwise (fun x y => ¬ ltL y x) := h.srt.imp (fun {x y} hh => by
  rw [ordI_lt] at hh
  unfold ltL
  exact of_decide_eq_false hh)
theorem Pair.list {l : List Lk} {P : List Pt} (h : Pair l P) (D : List Lk) (hD : ListOf P D) : D = l := hD.eq h.inv h.same h.ord
theorem MemV.lkw {W w : World} {t m b : Nat} {v u : Value} {l : List Lk} {P : List Pt} {cs : Array Value} (h : MemV W w t m v u l P b cs) (hp : LInv l) (hl : l.length ≤ 60) (hs : SortedL l) : LkW W w t l := ⟨⟨v, h.tb⟩, hp, hl, hs, h.below, h.ht⟩
/-! ### Lock -/
def RLockR (l : List Lk) (P : List Pt) (v : Lk) (c : Int) (res : Lk) (P' : List Pt) : Prop :=
  (rngB v.A v.S = false ∧ c = 2 ∧ res = zeroL ∧ P' = P) ∨
  (rngB v.A v.S = true ∧ FirstAg v l res ∧ c = 11 ∧ P' = P) ∨
  (rngB v.A v.S = true ∧ (∀ x ∈ l, agB v x = false) ∧ res = zeroL ∧ ∃ D, ListOf (P ++ [strokeOf v]) D ∧ ((60 < D.length ∧ c = 9 ∧ P' = P) ∨ (D.length ≤ 60 ∧ c = 0 ∧ P' = P ++ [strokeOf v])))
theorem Mem2.lockP {W w : World} {t m b : Nat} {l : List Lk} {P : List Pt} {cs : Array Value} {A0 : Nat → Addr} (h : Mem2 W w t m l P b cs) (hp : Pair l P) (hE : Err3 W A0) (N G O A S : Int) (wr : Bool) :
    Calls Tryd.prog 8 #[.pointer (some ⟨t, 0, none⟩), .agg #[.int .i64 N, .int .i64 G], .int .i64 O, .agg #[.int .i64 A, .int .i64 S], .bool wr] w fun e w' => ∃ c r res l', e = .returned (.tuple #[.agg #[.int .i64 res.N, .int .i64 res.G, .int .i64 res.O, .int .i64 res.A, .int .i64 res.S, .bool res.W], r]) ∧ LockR A0 l (⟨N, G, O, A, S, wr⟩ : Lk) c r res l' ∧ Mem2 W w' t m l' P b cs := by
  obtain ⟨v, u, h⟩ := h
  refine (LkW.lock (h.lkw hp.inv hp.len hp.srt) hE N G O A S wr).mono fun e w' hh => ?_
  obtain ⟨c, r, res, l', he, hr, hw, ho⟩ := hh
  obtain ⟨v', hv'⟩ := hw.tab
  exact ⟨c, r, res, l', he, hr, v', u, h.prog hv' (ho.mono (fun k hk => Or.inl (by rw [List.mem_singleton.1 hk]; exact List.mem_cons_self)))⟩
theorem Mem2.brushed {W w w' : World} {t m b : Nat} {v u : Value} {l : List Lk} {P : List Pt} {p : Pt} {c : Int} {cs : Array Value} (h : MemV W w t m v u l P b cs) (hb : Brushed w w' W.heap.size m P p c) : ∃ D P', ListOf (P ++ [p]) D ∧ ((60 < D.length ∧ c = 9 ∧ P' = P) ∨ (D.length ≤ 60 ∧ c = 0 ∧ P' = P ++ [p])) ∧ Mem2 W w' t m l P' b cs := by
  obtain ⟨D, hD, hh⟩ := hb
  rcases hh with ⟨h1, h2, h3⟩ | ⟨h1, h2, u', h3, h4, h5⟩
  · exact ⟨D, P, hD, Or.inl ⟨h1, h2, rfl⟩, v, u, h.only h3⟩
  · exact ⟨D, _, hD, Or.inr ⟨h1, h2, rfl⟩, v, u', h.doc h3 h4 h5⟩
theorem Mem2.lockD {W w : World} {t m b : Nat} {l l' : List Lk} {P : List Pt} {cs : Array Value} (h : Mem2 W w t m l' P b cs) (hp : Pair l P) (hl : P.length ≤ 99) (N G O A S : Int) (wr : Bool) :
    Calls Tryd.prog 9 #[.pointer (some ⟨m, 0, none⟩), .agg #[.int .i64 N, .int .i64 G], .int .i64 O, .agg #[.int .i64 A, .int .i64 S], .bool wr] w fun e w' => ∃ c res P', e = .returned (.tuple #[.agg #[.int .i64 res.N, .int .i64 res.G, .int .i64 res.O, .int .i64 res.A, .int .i64 res.S, .bool res.W], .int .i64 c]) ∧ RLockR l P (⟨N, G, O, A, S, wr⟩ : Lk) c res P' ∧ Mem2 W w' t m l' P' b cs ∧ Only [m] w w' := by
  obtain ⟨v, u, h⟩ := h
  cases hr : rngB A S with
  | false => exact (rlock_err w m N G O A S wr zeroL 2 (by decide) (fun W' _ => rtest_bad W' m N G O A S wr hr)).mono fun e w' hh => ⟨2, zeroL, P, hh.1, Or.inl ⟨hr, rfl, rfl, rfl⟩, ⟨v, u, h.only hh.2⟩, hh.2.mono (fun _ hk => by cases hk)⟩
  | true =>
    rcases ag_cases (⟨N, G, O, A, S, wr⟩ : Lk) l with hno | ⟨x, hx⟩
    · refine (rlock_ok w _ m u P l N G O A S wr h.rl h.below.size hl hp.ok hr hp.list hp.inv.ok hno).mono fun e w' hh => ?_
      obtain ⟨c, he, _, hb⟩ := hh
      obtain ⟨D, P', hD, hc, hM⟩ := Mem2.brushed h hb
      exact ⟨c, zeroL, P', he, Or.inr (Or.inr ⟨hr, hno, rfl, D, hD, hc⟩), hM, hb.one⟩
    · exact (rlock_err w m N G O A S wr x 11 (by decide) (fun W' ho => rtest_held W' _ m u P l N G O A S wr x (h.rl.only ho) (by omega) hp.ok hr hp.list hp.inv.ok hx)).mono fun e w' hh => ⟨11, x, P, hh.1, Or.inr (Or.inl ⟨hr, hx, rfl, rfl⟩), ⟨v, u, h.only hh.2⟩, hh.2.mono (fun _ hk => by cases hk)⟩
theorem told_k {A : Nat → Addr} {k : Nat} (h : k < 15) : Told A (k + 1) (sErr A k) := Or.inr ⟨k, h, rfl, rfl⟩
theorem ok_snoc {P : List Pt} {p : Pt} (h : ∀ q ∈ P, q.Ok) (hp : p.Ok) : ∀ q ∈ P ++ [p], q.Ok := fun q hq => by
  rcases List.mem_append.1 hq with e | e
  · exact h q e
  · rw [List.mem_singleton.1 e]; exact hp
theorem pair_lock {A0 : Nat → Addr} {l l' : List Lk} {P P' : List Pt} {v : Lk} {c : Nat} {c2 : Int} {r : Value} {res res2 : Lk} (hp : Pair l P) (h : LockR A0 l v c r res l') (h2 : RLockR l P v c2 res2 P') : c2 = (c : Int) ∧ res2 = res ∧ Pair l' P' ∧ Told A0 c r ∧ P'.length ≤ P.length + 1 := by
  rcases h with ⟨hr, rfl, rfl, rfl, rfl⟩ | ⟨hr, hf, rfl, rfl, rfl⟩ | ⟨hr, hno, hbig, rfl, rfl, rfl, rfl⟩ | ⟨hr, hno, hsm, rfl, rfl, rfl, hpm, hs⟩
  · rcases h2 with ⟨_, rfl, rfl, rfl⟩ | ⟨h, _⟩ | ⟨h, _⟩
    · exact ⟨rfl, rfl, hp, told_k (by decide), by omega⟩
    · rw [hr] at h; cases h
    · rw [hr] at h; cases h
  · rcases h2 with ⟨h, _⟩ | ⟨_, hf2, rfl, rfl⟩ | ⟨_, hn, _⟩
    · rw [hr] at h; cases h
    · exact ⟨rfl, hf2.uniq hf, hp, told_k (by decide), by omega⟩
    · exact (hf.not hn).elim
  all_goals
    have hv : v.Ok := rngB_ok hr
    have hsm2 := Same.lock hp.inv hp.same hv
    rcases h2 with ⟨h, _⟩ | ⟨_, hf2, _⟩ | ⟨_, _, rfl, D, hD, hc⟩
    · rw [hr] at h; cases h
    · exact (hf2.not hno).elim
    · have hlen := hD.len (hp.inv.wanted hv hno) hsm2
      rcases hc with ⟨h1, rfl, rfl⟩ | ⟨h1, rfl, rfl⟩
      all_goals first
        | (exfalso; omega)
        | exact ⟨rfl, rfl, hp, told_k (by decide), by omega⟩
        | exact ⟨rfl, rfl, ⟨(hp.inv.wanted hv hno).perm hpm, by rw [hpm.length_eq]; omega, hs, hsm2.perm hpm, ok_snoc hp.ok (stroke_ok (N := v.N) (G := v.G) (O := v.O) hr (by cases v.W; exact Or.inr (Or.inl rfl); exact Or.inr (Or.inr rfl)))⟩, Or.inl ⟨rfl, rfl⟩, by simp⟩
end Go.Proofs.YtfnniphemlnanaaDoor
