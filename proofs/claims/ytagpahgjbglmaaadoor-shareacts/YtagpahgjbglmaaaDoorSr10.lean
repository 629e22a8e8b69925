/- Shares: the program's table beside the document's. -/
import Derived.Test.YtagpahgjbglmaaaDoorSr9
import Derived.Test.YtagpahgjbglmaaaDoorSr7
import Derived.Test.YtagpahgjbglmaaaDoorSh23
namespace Go.Proofs.YtagpahgjbglmaaaDoor
open Go Go.RowKit Go.Deep

structure TwoV (W w : World) (t r : Nat) (v u : Value) (l m : List Opn) : Prop where
  sh : ShAt w W.heap.size t v l
  rs : RsAt w W.heap.size r u m
  good : GoodO l
  below : Below W.heap.size W w
  ht : W.heap.size ≤ t
  hr : W.heap.size ≤ r
  tr : t ≠ r
  vr : v.ownBlock ≠ some r
  ut : u.ownBlock ≠ some t
  vu : ∀ k, v.ownBlock = some k → u.ownBlock ≠ some k
/-- A block beside both. -/
structure Bx (w : World) (t r : Nat) (v u : Value) (b : Nat) (cs : Array Value) : Prop where
  cells : ∀ o, w.cell? ⟨b, o, none⟩ = cs[o]?
  lt : b < w.heap.size
  bt : b ≠ t
  br : b ≠ r
  bv : v.ownBlock ≠ some b
  bu : u.ownBlock ≠ some b
def Two (W w : World) (t r : Nat) (l m : List Opn) (b : Nat) (cs : Array Value) : Prop := ∃ v u, TwoV W w t r v u l m ∧ Bx w t r v u b cs
def Two0 (W w : World) (t r : Nat) (l m : List Opn) : Prop := ∃ v u, TwoV W w t r v u l m
theorem Bx.only {w w' : World} {t r b : Nat} {v u : Value} {cs : Array Value} (h : Bx w t r v u b cs) (ho : Only [] w w') : Bx w' t r v u b cs :=
  ⟨fun o => (ho.cell (p := ⟨b, o, none⟩) h.lt (by simp)).trans (h.cells o), Nat.lt_of_lt_of_le h.lt ho.size, h.bt, h.br, h.bv, h.bu⟩
theorem Bx.prog {w w' : World} {t r b : Nat} {v v' u : Value} {cs : Array Value} (h : Bx w t r v u b cs) (ho : Only (t :: v.ownBlock.toList) w w') (hn : Near v v' w) : Bx w' t r v' u b cs := by
  have hb : b ∉ t :: v.ownBlock.toList := fun hm => by
    rcases List.mem_cons.1 hm with e | e
    · exact h.bt e
    · exact h.bv (by simpa using e)
  refine ⟨fun o => (ho.cell (p := ⟨b, o, none⟩) h.lt hb).trans (h.cells o), Nat.lt_of_lt_of_le h.lt ho.size, h.bt, h.br, fun e => ?_, h.bu⟩
  rcases hn b e with e | e
  · exact h.bv e
  · have := h.lt; omega
theorem Bx.doc {w w' : World} {t r b : Nat} {v u u' : Value} {cs : Array Value} (h : Bx w t r v u b cs) (ho : Only (r :: u.ownBlock.toList) w w') (hn : Near u u' w) : Bx w' t r v u' b cs := by
  have hb : b ∉ r :: u.ownBlock.toList := fun hm => by
    rcases List.mem_cons.1 hm with e | e
    · exact h.br e
    · exact h.bu (by simpa using e)
  refine ⟨fun o => (ho.cell (p := ⟨b, o, none⟩) h.lt hb).trans (h.cells o), Nat.lt_of_lt_of_le h.lt ho.size, h.bt, h.br, h.bv, fun e => ?_⟩
  rcases hn b e with e | e
  · exact h.bu e
  · have := h.lt; omega
theorem TwoV.only {W w w' : World} {t r : Nat} {v u : Value} {l m : List Opn} (h : TwoV W w t r v u l m) (ho : Only [] w w') : TwoV W w' t r v u l m :=
  ⟨h.sh.only ho, h.rs.only ho, h.good, h.below.trans (ho.to_below h.below.size (fun k hk => by cases hk)), h.ht, h.hr, h.tr, h.vr, h.ut, h.vu⟩
theorem TwoV.prog {W w w' : World} {t r : Nat} {v v' u : Value} {l l' m : List Opn} (h : TwoV W w t r v u l m) (hs : ShAt w' W.heap.size t v' l') (hg : GoodO l') (ho : Only (t :: v.ownBlock.toList) w w') (hn : Near v v' w) : TwoV W w' t r v' u l' m := by
  have hrl : r < w.heap.size := lt_of_cell h.rs.c0
  have hrn : r ∉ t :: v.ownBlock.toList := fun hm => by
    rcases List.mem_cons.1 hm with e | e
    · exact h.tr e.symm
    · exact h.vr (by simpa using e)
  have hun : ∀ k, u.ownBlock = some k → k ∉ t :: v.ownBlock.toList := fun k hk hm => by
    rcases List.mem_cons.1 hm with e | e
    · subst e; exact h.ut hk
    · exact h.vu k (by simpa using e) hk
  refine ⟨hs, ⟨(ho.cell (p := ⟨r, 0, none⟩) hrl hrn).trans h.rs.c0, (ho.frozen (p := ⟨r, 0, none⟩) hrl hrn).trans h.rs.fr, h.rs.own.only ho hun, h.rs.ne⟩, hg, h.below.trans (ho.to_below h.below.size (fun k hk => by
    rcases List.mem_cons.1 hk with e | hk
    · rw [e]; exact h.ht
    · exact (World.ownsRow.lt h.sh.own k (by simpa using hk)).1)), h.ht, h.hr, h.tr, fun e => ?_, h.ut, fun k hk e => ?_⟩
  · rcases hn r e with e | e
    · exact h.vr e
    · omega
  · rcases hn k hk with e2 | e2
    · exact h.vu k e2 e
    · have := (World.ownsRow.lt h.rs.own k e).2
      omega
theorem TwoV.doc {W w w' : World} {t r : Nat} {v u u' : Value} {l m m' : List Opn} (h : TwoV W w t r v u l m) (hs : RsAt w' W.heap.size r u' m') (ho : Only (r :: u.ownBlock.toList) w w') (hn : Near u u' w) : TwoV W w' t r v u' l m' := by
  have htl : t < w.heap.size := lt_of_cell h.sh.c0
  have htn : t ∉ r :: u.ownBlock.toList := fun hm => by
    rcases List.mem_cons.1 hm with e | e
    · exact h.tr e
    · exact h.ut (by simpa using e)
  have hvn : ∀ k, v.ownBlock = some k → k ∉ r :: u.ownBlock.toList := fun k hk hm => by
    rcases List.mem_cons.1 hm with e | e
    · subst e; exact h.vr hk
    · exact h.vu k hk (by simpa using e)
  refine ⟨⟨(ho.cell (p := ⟨t, 0, none⟩) htl htn).trans h.sh.c0, (ho.frozen (p := ⟨t, 0, none⟩) htl htn).trans h.sh.fr, h.sh.own.only ho hvn, h.sh.ne⟩, hs, h.good, h.below.trans (ho.to_below h.below.size (fun k hk => by
    rcases List.mem_cons.1 hk with e | hk
    · rw [e]; exact h.hr
    · exact (World.ownsRow.lt h.rs.own k (by simpa using hk)).1)), h.ht, h.hr, h.tr, h.vr, fun e => ?_, fun k hk e => ?_⟩
  · rcases hn t e with e | e
    · exact h.ut e
    · omega
  · rcases hn k e with e2 | e2
    · exact h.vu k hk e2
    · have := (World.ownsRow.lt h.sh.own k hk).2
      omega
theorem Two.below {W w : World} {t r : Nat} {l m : List Opn} {b : Nat} {cs : Array Value} (h : Two W w t r l m b cs) : Below W.heap.size W w := by
  obtain ⟨v, u, h, bx⟩ := h
  exact h.below
theorem Two.good {W w : World} {t r : Nat} {l m : List Opn} {b : Nat} {cs : Array Value} (h : Two W w t r l m b cs) : GoodO l := by
  obtain ⟨v, u, h, bx⟩ := h
  exact h.good
theorem Two.only {W w w' : World} {t r : Nat} {l m : List Opn} {b : Nat} {cs : Array Value} (h : Two W w t r l m b cs) (ho : Only [] w w') : Two W w' t r l m b cs := by
  obtain ⟨v, u, h, bx⟩ := h
  exact ⟨v, u, h.only ho, bx.only ho⟩
theorem near_same {v v' : Value} {w : World} (h : v'.ownBlock = v.ownBlock) : Near v v' w := fun _ hk => Or.inl (h ▸ hk)
theorem near_or {v v' : Value} {w : World} (h : v'.ownBlock = v.ownBlock ∨ ∃ k, v'.ownBlock = some k ∧ w.heap.size ≤ k) : Near v v' w := by
  rcases h with h | ⟨k, h1, h2⟩
  · exact near_same h
  · intro q hq
    rw [h1] at hq
    cases hq
    exact Or.inr h2
/-! ### the program's acts -/
theorem Two.openP {W w : World} {t r : Nat} {l m : List Opn} {b : Nat} {cs : Array Value} {A : Nat → Addr} (h : Two W w t r l m b cs) (hE : Err5 W A) (x : SActM) :
    Calls Tryd.prog 6 #[.pointer (some ⟨t, 0, none⟩), .agg #[.int .i64 x.N, .int .i64 x.G], .int .i64 x.O, .int .i64 x.A, .int .i64 x.D] w fun e w' => ∃ c z l', e = .returned z ∧ OpenR A l x.N x.G x.O x.A x.D c z l' ∧ Two W w' t r l' m b cs := by
  obtain ⟨v, u, h, bx⟩ := h
  have hv := h.sh
  have hEw := hE.below h.below
  obtain ⟨i, f, hsp⟩ := spot_exists l (keyO x.N x.G x.O) h.good.sorted
  cases hb : (accB x.A && denB x.D) with
  | false => exact (open_bound w t x.N x.G x.O x.A x.D (sErr A 1) (hEw 1 (by decide)) hb).mono fun e w' hh => ⟨2, _, l, hh.1, Or.inl ⟨hb, rfl, rfl, rfl⟩, v, u, h.only hh.2, bx.only hh.2⟩
  | true =>
    cases hany : l.any (agB x.N x.G x.O x.A x.D) with
    | true => exact (open_held w W.heap.size t v l x.N x.G x.O x.A x.D (sErr A 10) hv h.good (hEw 10 (by decide)) hb hany).mono fun e w' hh => ⟨11, _, l, hh.1, Or.inr (Or.inl ⟨hb, hany, rfl, rfl, rfl⟩), v, u, h.only hh.2, bx.only hh.2⟩
    | false =>
      cases f with
      | true =>
        obtain ⟨y, hy, hs⟩ := hsp.found.1 rfl
        exact (open_found w W.heap.size t v l x.N x.G x.O x.A x.D i y hv h.good hsp hy hb hany).mono fun e w' hh => ⟨0, _, _, hh.1, Or.inr (Or.inr (Or.inl ⟨i, y, hb, hany, hy, hs, rfl, rfl, rfl⟩)), v, u, h.prog hh.2.1 (h.good.set hy ⟨rfl, rfl, rfl⟩ (ok_sum (h.good.ok y (List.mem_of_getElem? hy)) hb)) hh.2.2 (near_same rfl), bx.prog hh.2.2 (near_same rfl)⟩
      | false =>
        have hno := hsp.none h.good.sorted
        by_cases h40 : 40 ≤ l.length
        · exact (open_full w W.heap.size t v l x.N x.G x.O x.A x.D i (sErr A 8) hv h.good hsp (hEw 8 (by decide)) hb hany h40).mono fun e w' hh => ⟨9, _, l, hh.1, Or.inr (Or.inr (Or.inr (Or.inl ⟨hb, hany, hno, h40, rfl, rfl, rfl⟩))), v, u, h.only hh.2, bx.only hh.2⟩
        · exact (open_new w W.heap.size t v l x.N x.G x.O x.A x.D i hv h.good h.below.size hsp hb hany (by omega)).mono fun e w' hh => by
            obtain ⟨he, v', h1, h2, h3⟩ := hh
            exact ⟨0, _, _, he, Or.inr (Or.inr (Or.inr (Or.inr ⟨i, hb, hany, hno, by omega, hsp, rfl, rfl, rfl⟩))), v', u, h.prog h1 (h.good.ins hsp ⟨rfl, rfl, rfl⟩ (ok_new hb) (by omega)) h2 (near_or h3), bx.prog h2 (near_or h3)⟩
theorem Two.downP {W w : World} {t r : Nat} {l m : List Opn} {b : Nat} {cs : Array Value} {A : Nat → Addr} (h : Two W w t r l m b cs) (hE : Err5 W A) (x : SActM) :
    Calls Tryd.prog 8 #[.pointer (some ⟨t, 0, none⟩), .agg #[.int .i64 x.N, .int .i64 x.G], .int .i64 x.O, .int .i64 x.A, .int .i64 x.D] w fun e w' => ∃ c z l', e = .returned z ∧ DownR A l x.N x.G x.O x.A x.D c z l' ∧ Two W w' t r l' m b cs := by
  obtain ⟨v, u, h, bx⟩ := h
  have hv := h.sh
  have hEw := hE.below h.below
  obtain ⟨i, f, hsp⟩ := spot_exists l (keyO x.N x.G x.O) h.good.sorted
  cases f with
  | false => exact (down_none w W.heap.size t v l x.N x.G x.O x.A x.D i (sErr A 4) hv h.good hsp (hEw 4 (by decide))).mono fun e w' hh => ⟨5, _, l, hh.1, Or.inl ⟨hsp.none h.good.sorted, rfl, rfl, rfl⟩, v, u, h.only hh.2, bx.only hh.2⟩
  | true =>
    obtain ⟨y, hy, hs⟩ := hsp.found.1 rfl
    cases hb : (accB x.A && denB x.D) with
    | false => exact (down_bound w W.heap.size t v l x.N x.G x.O x.A x.D i (sErr A 1) hv h.good hsp (hEw 1 (by decide)) hb).mono fun e w' hh => ⟨2, _, l, hh.1, Or.inr (Or.inl ⟨i, y, hy, hs, hb, rfl, rfl, rfl⟩), v, u, h.only hh.2, bx.only hh.2⟩
    | true =>
      cases hw : (withB x.A y.A && withB x.D y.D) with
      | false => exact (down_shape w W.heap.size t v l x.N x.G x.O x.A x.D i y (sErr A 2) hv h.good hsp hy (hEw 2 (by decide)) hb hw).mono fun e w' hh => ⟨3, _, l, hh.1, Or.inr (Or.inr (Or.inl ⟨i, y, hy, hs, hb, hw, rfl, rfl, rfl⟩)), v, u, h.only hh.2, bx.only hh.2⟩
      | true => exact (down_ok w W.heap.size t v l x.N x.G x.O x.A x.D i y hv h.good hsp hy hb hw).mono fun e w' hh => ⟨0, _, _, hh.1, Or.inr (Or.inr (Or.inr ⟨i, y, hy, hs, hb, hw, rfl, rfl, rfl⟩)), v, u, h.prog hh.2.1 (h.good.set hy ⟨rfl, rfl, rfl⟩ (ok_down hb)) hh.2.2 (near_same rfl), bx.prog hh.2.2 (near_same rfl)⟩
theorem Two.closeP {W w : World} {t r : Nat} {l m : List Opn} {b : Nat} {cs : Array Value} {A : Nat → Addr} (h : Two W w t r l m b cs) (hE : Err5 W A) (x : SActM) :
    Calls Tryd.prog 10 #[.pointer (some ⟨t, 0, none⟩), .agg #[.int .i64 x.N, .int .i64 x.G], .int .i64 x.O] w fun e w' => ∃ c z l', e = .returned z ∧ CloseR A l x.N x.G x.O c z l' ∧ Two W w' t r l' m b cs := by
  obtain ⟨v, u, h, bx⟩ := h
  have hv := h.sh
  have hEw := hE.below h.below
  obtain ⟨i, f, hsp⟩ := spot_exists l (keyO x.N x.G x.O) h.good.sorted
  cases f with
  | false => exact (close_none w W.heap.size t v l x.N x.G x.O i (sErr A 4) hv h.good hsp (hEw 4 (by decide))).mono fun e w' hh => ⟨5, _, l, hh.1, Or.inl ⟨hsp.none h.good.sorted, rfl, rfl, rfl⟩, v, u, h.only hh.2, bx.only hh.2⟩
  | true =>
    obtain ⟨y, hy, hs⟩ := hsp.found.1 rfl
    exact (close_found w W.heap.size t v l x.N x.G x.O i hv h.good hsp).mono fun e w' hh => by
      obtain ⟨he, v', h1, h2, h3⟩ := hh
      exact ⟨0, _, _, he, Or.inr ⟨i, y, hy, hs, rfl, rfl, rfl⟩, v', u, h.prog h1 (h.good.sub (erase_sub l i)) h2 (near_same h3), bx.prog h2 (near_same h3)⟩
theorem Two.dropP {W w : World} {t r : Nat} {l m : List Opn} {b : Nat} {cs : Array Value} (h : Two W w t r l m b cs) (x : SActM) :
    Calls Tryd.prog 16 #[.pointer (some ⟨t, 0, none⟩), .int .i64 x.O] w fun e w' => e = .returned (.int .i64 ((l.length : Int) - ((keptO x.O l).length : Int))) ∧ Two W w' t r (keptO x.O l) m b cs := by
  obtain ⟨v, u, h, bx⟩ := h
  exact (drop_any w W.heap.size t v l x.O h.sh h.good).mono fun e w' hh => by
    obtain ⟨he, v', h1, h2, h3⟩ := hh
    exact ⟨he, v', u, h.prog h1 (h.good.sub (kept_sub x.O l)) h2 (near_same h3), bx.prog h2 (near_same h3)⟩
theorem Two.shw {W w : World} {t r : Nat} {l m : List Opn} {b : Nat} {cs : Array Value} (h : Two W w t r l m b cs) : ShW W w t l := by
  obtain ⟨v, u, h, bx⟩ := h
  exact ⟨⟨v, h.sh⟩, h.good, h.below, h.ht⟩
theorem Two.mayP {W w : World} {t r : Nat} {l m : List Opn} {b : Nat} {cs : Array Value} {A : Nat → Addr} (h : Two W w t r l m b cs) (hE : Err5 W A) (x : SActM) :
    Calls Tryd.prog 12 #[.pointer (some ⟨t, 0, none⟩), .agg #[.int .i64 x.N, .int .i64 x.G], .int .i64 x.O, .int .i64 x.A] w fun e w' => ∃ c z, e = .returned z ∧ MayR A l x.N x.G x.O x.A c z ∧ Two W w' t r l m b cs :=
  (h.shw.may hE x.N x.G x.O x.A).mono fun e w' hh => by
    obtain ⟨c, z, he, hr, ho⟩ := hh
    exact ⟨c, z, he, hr, h.only ho⟩
theorem Two.anyP {W w : World} {t r : Nat} {l m : List Opn} {b : Nat} {cs : Array Value} {A : Nat → Addr} (h : Two W w t r l m b cs) (hE : Err5 W A) (x : SActM) :
    Calls Tryd.prog 14 #[.pointer (some ⟨t, 0, none⟩), .agg #[.int .i64 x.N, .int .i64 x.G], .int .i64 x.A] w fun e w' => ∃ c z, e = .returned z ∧ AnyR A l x.N x.G x.A c z ∧ Two W w' t r l m b cs :=
  (h.shw.anyone hE x.N x.G x.A).mono fun e w' hh => by
    obtain ⟨c, z, he, hr, ho⟩ := hh
    exact ⟨c, z, he, hr, h.only ho⟩
/-! ### the document's acts -/
structure DocOk (m : List Opn) : Prop where
  most : m.length ≤ 40
  ok : ∀ x ∈ m, OkO x
  apart : Apart m
theorem GoodO.doc {l m : List Opn} (h : GoodO l) (hp : l.Perm m) : DocOk m := by
  refine ⟨by rw [← hp.length_eq]; exact h.most, fun x hx => h.ok x (hp.mem_iff.2 hx), ?_⟩
  have hn : Apart l := h.sorted.imp (fun {a b} hab hs => by unfold ltO sameO at *; omega)
  exact (hp.pairwise_iff (fun {a b} hab hs => hab ⟨hs.1.symm, hs.2.1.symm, hs.2.2.symm⟩)).1 hn
theorem Two.openD {W w : World} {t r : Nat} {l m : List Opn} {b : Nat} {cs : Array Value} (h : Two W w t r l m b cs) (hd : DocOk m) (x : SActM) :
    Calls Tryd.prog 7 #[.pointer (some ⟨r, 0, none⟩), .agg #[.int .i64 x.N, .int .i64 x.G], .int .i64 x.O, .int .i64 x.A, .int .i64 x.D] w fun e w' => ∃ (c : Nat) (m' : List Opn), e = .returned (.int .i64 (c : Int)) ∧ ROpenR m x.N x.G x.O x.A x.D c m' ∧ Two W w' t r l m' b cs := by
  obtain ⟨v, u, h, bx⟩ := h
  exact (ropen_any w W.heap.size r u m x.N x.G x.O x.A x.D h.rs hd.most hd.ok h.below.size).mono fun e w' hh => by
    obtain ⟨c, u', m', he, hr, h1, h2, h3⟩ := hh
    exact ⟨c, m', he, hr, v, u', h.doc h1 h2 h3, bx.doc h2 h3⟩
theorem Two.downD {W w : World} {t r : Nat} {l m : List Opn} {b : Nat} {cs : Array Value} {A : Nat → Addr} (h : Two W w t r l m b cs) (hd : DocOk m) (x : SActM) :
    Calls Tryd.prog 9 #[.pointer (some ⟨r, 0, none⟩), .agg #[.int .i64 x.N, .int .i64 x.G], .int .i64 x.O, .int .i64 x.A, .int .i64 x.D] w fun e w' => ∃ (c : Nat) (z : Value) (m' : List Opn), e = .returned (.int .i64 (c : Int)) ∧ DownR A m x.N x.G x.O x.A x.D c z m' ∧ Two W w' t r l m' b cs := by
  obtain ⟨v, u, h, bx⟩ := h
  exact (rdown_any w W.heap.size r u m A x.N x.G x.O x.A x.D h.rs hd.most hd.ok).mono fun e w' hh => by
    obtain ⟨c, z, m', he, hr, h1, h2⟩ := hh
    exact ⟨c, z, m', he, hr, v, u, h.doc h1 h2 (near_same rfl), bx.doc h2 (near_same rfl)⟩
theorem Two.closeD {W w : World} {t r : Nat} {l m : List Opn} {b : Nat} {cs : Array Value} {A : Nat → Addr} (h : Two W w t r l m b cs) (hd : DocOk m) (x : SActM) :
    Calls Tryd.prog 11 #[.pointer (some ⟨r, 0, none⟩), .agg #[.int .i64 x.N, .int .i64 x.G], .int .i64 x.O] w fun e w' => ∃ (c : Nat) (z : Value) (m' : List Opn), e = .returned (.int .i64 (c : Int)) ∧ CloseR A m x.N x.G x.O c z m' ∧ Two W w' t r l m' b cs := by
  obtain ⟨v, u, h, bx⟩ := h
  exact (rclose_any w W.heap.size r u m A x.N x.G x.O h.rs hd.most h.below.size).mono fun e w' hh => by
    obtain ⟨c, z, u', m', he, hr, h1, h2, h3⟩ := hh
    exact ⟨c, z, m', he, hr, v, u', h.doc h1 h2 h3, bx.doc h2 h3⟩
theorem Two.dropD {W w : World} {t r : Nat} {l m : List Opn} {b : Nat} {cs : Array Value} (h : Two W w t r l m b cs) (hd : DocOk m) (x : SActM) :
    Calls Tryd.prog 17 #[.pointer (some ⟨r, 0, none⟩), .int .i64 x.O] w fun e w' => e = .returned (.int .i64 ((m.length : Int) - ((keptO x.O m).length : Int))) ∧ Two W w' t r l (keptO x.O m) b cs := by
  obtain ⟨v, u, h, bx⟩ := h
  exact (rdrop_any w W.heap.size r u m x.O h.rs hd.most h.below.size).mono fun e w' hh => by
    obtain ⟨he, u', h1, h2, h3⟩ := hh
    exact ⟨he, v, u', h.doc h1 h2 h3, bx.doc h2 h3⟩
theorem Two.mayD {W w : World} {t r : Nat} {l m : List Opn} {b : Nat} {cs : Array Value} {A : Nat → Addr} (h : Two W w t r l m b cs) (hd : DocOk m) (x : SActM) :
    Calls Tryd.prog 13 #[.pointer (some ⟨r, 0, none⟩), .agg #[.int .i64 x.N, .int .i64 x.G], .int .i64 x.O, .int .i64 x.A] w fun e w' => ∃ (c : Nat) (z : Value), e = .returned (.int .i64 (c : Int)) ∧ MayR A m x.N x.G x.O x.A c z ∧ Two W w' t r l m b cs := by
  obtain ⟨v, u, h, bx⟩ := h
  exact (rmay_any w W.heap.size r u m A x.N x.G x.O x.A h.rs hd.most hd.ok).mono fun e w' hh => by
    obtain ⟨c, z, he, hr, ho⟩ := hh
    exact ⟨c, z, he, hr, v, u, h.only ho, bx.only ho⟩
theorem Two.anyD {W w : World} {t r : Nat} {l m : List Opn} {b : Nat} {cs : Array Value} {A : Nat → Addr} (h : Two W w t r l m b cs) (hd : DocOk m) (x : SActM) :
    Calls Tryd.prog 15 #[.pointer (some ⟨r, 0, none⟩), .agg #[.int .i64 x.N, .int .i64 x.G], .int .i64 x.A] w fun e w' => ∃ (c : Nat) (z : Value), e = .returned (.int .i64 (c : Int)) ∧ AnyR A m x.N x.G x.A c z ∧ Two W w' t r l m b cs := by
  obtain ⟨v, u, h, bx⟩ := h
  exact (ranyone_any w W.heap.size r u m A x.N x.G x.A h.rs hd.most hd.ok).mono fun e w' hh => by
    obtain ⟨c, z, he, hr, ho⟩ := hh
    exact ⟨c, z, he, hr, v, u, h.only ho, bx.only ho⟩
theorem Two.drop0 {W w : World} {t r : Nat} {l m : List Opn} {b : Nat} {cs : Array Value} (h : Two W w t r l m b cs) : Two0 W w t r l m := by
  obtain ⟨v, u, h, _⟩ := h
  exact ⟨v, u, h⟩
theorem Two0.only {W w w' : World} {t r : Nat} {l m : List Opn} (h : Two0 W w t r l m) (ho : Only [] w w') : Two0 W w' t r l m := by
  obtain ⟨v, u, h⟩ := h
  exact ⟨v, u, h.only ho⟩
theorem Two0.shw {W w : World} {t r : Nat} {l m : List Opn} (h : Two0 W w t r l m) : ShW W w t l := by
  obtain ⟨v, u, h⟩ := h
  exact ⟨⟨v, h.sh⟩, h.good, h.below, h.ht⟩
/-- A new block stands beside both. -/
theorem Two0.box {W w : World} {t r : Nat} {l m : List Opn} (h : Two0 W w t r l m) (cs : Array Value) (e : TypeId) : Two W (w.alloc (.cells cs e)) t r l m w.heap.size cs := by
  obtain ⟨v, u, h⟩ := h
  have ho : Only [] w (w.alloc (.cells cs e)) := (Only.refl [] w).alloc _
  have h1 : t < w.heap.size := lt_of_cell h.sh.c0
  have h2 : r < w.heap.size := lt_of_cell h.rs.c0
  exact ⟨v, u, h.only ho, fun o => cell_of_row _ _ o _ _ _ (heap_alloc_last w _), by simp, by omega, by omega, (fun e => by have := (World.ownsRow.lt h.sh.own _ e).2; omega), (fun e => by have := (World.ownsRow.lt h.rs.own _ e).2; omega)⟩
theorem Two.cells {W w : World} {t r : Nat} {l m : List Opn} {b : Nat} {cs : Array Value} (h : Two W w t r l m b cs) (o : Nat) : w.cell? ⟨b, o, none⟩ = cs[o]? := by
  obtain ⟨v, u, _, bx⟩ := h
  exact bx.cells o
/-- Both are new. -/
theorem Two0.fresh {W w : World} (hb : Below W.heap.size W w) : Two0 W ((w.alloc (.cells #[.slice none 0 0] 27)).alloc (.cells #[.slice none 0 0] 31)) w.heap.size (w.heap.size + 1) [] [] := by
  have hw := hb.size
  have hA := heap_alloc_last w (.cells #[.slice none 0 0] 27)
  have hB := heap_alloc_last (w.alloc (.cells #[.slice none 0 0] 27)) (.cells #[.slice none 0 0] 31)
  rw [World.size_alloc] at hB
  have ho : Only [] (w.alloc (.cells #[.slice none 0 0] 27)) ((w.alloc (.cells #[.slice none 0 0] 27)).alloc (.cells #[.slice none 0 0] 31)) := (Only.refl [] _).alloc _
  have hs : ShAt (w.alloc (.cells #[.slice none 0 0] 27)) W.heap.size w.heap.size (.slice none 0 0) [] := ⟨cell_of_row _ _ 0 _ _ _ hA, frozen_of_row _ _ _ _ _ hA, Opns.nil _ _, (fun k hk => by cases hk)⟩
  exact ⟨.slice none 0 0, .slice none 0 0, hs.only ho, ⟨cell_of_row _ _ 0 _ _ _ hB, frozen_of_row _ _ _ _ _ hB, Rns.nil _ _, (fun k hk => by cases hk)⟩, ⟨List.Pairwise.nil, (fun x hx => by cases hx), by decide⟩, (hb.alloc hw _).alloc (by rw [World.size_alloc]; omega) _, hw, by omega, by omega, (fun e => by cases e), (fun e => by cases e), (fun k hk => by cases hk)⟩
theorem Two0.listD {W w : World} {t r : Nat} {l m : List Opn} (h : Two0 W w t r l m) (hp : l.Perm m) :
    Calls Tryd.prog 22 #[.pointer (some ⟨r, 0, none⟩)] w fun e w' => ∃ z, e = .returned z ∧ Rns w' W.heap.size z l ∧ Two0 W w' t r l m ∧ Only [] w w' := by
  obtain ⟨v, u, h⟩ := h
  have hd := h.good.doc hp
  exact (rlist_any w W.heap.size r u m h.rs hd.most h.below.size hd.apart).mono fun e w' hh => by
    obtain ⟨z, s, he, h1, h2, h3, ho⟩ := hh
    have e1 : s = l := sorted_one (hp.trans h2.symm) h.good.sorted h3
    subst e1
    exact ⟨z, he, h1, ⟨v, u, h.only ho⟩, ho⟩
theorem Two0.listP {W w : World} {t r : Nat} {l m : List Opn} (h : Two0 W w t r l m) :
    Calls Tryd.prog 21 #[.pointer (some ⟨t, 0, none⟩)] w fun e w' => ∃ ad cp, e = .returned (.slice ad l.length cp) ∧ Opns w' w.heap.size (.slice ad l.length cp) l ∧ (l ≠ [] → ∃ g, ad = some ⟨g, 0, none⟩) ∧ Two0 W w' t r l m :=
  h.shw.list.mono fun e w' hh => by
    obtain ⟨z, he, hO, ho⟩ := hh
    rcases hO.open with ⟨rfl, rfl⟩ | ⟨g, cp, cur, rfl, _⟩
    · exact ⟨none, 0, he, hO, fun hn => absurd rfl hn, h.only ho⟩
    · exact ⟨_, cp, he, hO, fun _ => ⟨g, rfl⟩, h.only ho⟩
end Go.Proofs.YtagpahgjbglmaaaDoor
