/- NetActs: both nets in memory; the law's helpers. -/
import Derived.Test.YtkfelijpajdcoaaDoorNe15
namespace Go.Proofs.YtkfelijpajdcoaaDoor
open Go Go.RowKit Go.Deep

def Told (A : Nat → Addr) (c : Nat) (r : Value) : Prop := (c = 0 ∧ r = .nilIface) ∨ ∃ k, k < 15 ∧ c = k + 1 ∧ r = sErr A k
theorem told_errN (A : Nat → Addr) {c : Nat} (h : c ≤ 15) : Told A c (errN A c) := by
  unfold errN
  by_cases h0 : c = 0
  · rw [if_pos h0]
    exact Or.inl ⟨h0, rfl⟩
  · rw [if_neg h0]
    exact Or.inr ⟨c - 1, by omega, by omega, rfl⟩
theorem coded3_any (A : Nat → Addr) (c : Nat) (r : Value) (w : World) (h : Errs w A) (ht : Told A c r) :
    Calls Tryd.prog 5 #[r, .int .i64 (c : Int)] w fun e w' => e = .returned (.bool true) ∧ Below w.heap.size w w' := by
  have H : Hid (Errs w A) := h
  clear h
  rcases ht with ⟨rfl, rfl⟩ | ⟨k, hk, rfl, rfl⟩
  · show Calls Tryd.prog 5 #[.nilIface, .int .i64 0] w _
    go_enter Tryd.func5, Tryd.ntmps5
    go_wp2_with (go_at_call 18; refine (code_nil _).mono ?_; rintro e w2 ⟨rfl, rfl⟩)
    go_ret
    exact ⟨rfl, Below.refl _ _⟩
  · have e : ((k + 1 : Nat) : Int) = (k : Int) + 1 := by omega
    rw [e]
    unfold sErr
    go_enter Tryd.func5, Tryd.ntmps5
    go_wp2_with (go_at_call 18; refine (code_err A k hk _ H.out).mono ?_; rintro e w2 ⟨rfl, hb⟩)
    go_ret
    exact ⟨rfl, hb⟩
theorem message_any (x : Msg) (w : World) : Calls Tryd.prog 7 #[.agg #[.string x.F, .string x.T, .string x.X]] w fun e w' => e = .returned (.agg #[.string x.F, .string x.T, .string x.X]) ∧ Only [] w w' := by
  go_enter Tryd.func7, Tryd.ntmps7
  go_wp2
  refine bodyPost_ret (v := .agg #[.string x.F, .string x.T, .string x.X]) (by simp [results, Tryd.results7, go_sem]) rfl ⟨rfl, ?_⟩
  exact ((Only.refl [] w).alloc _).alloc _
theorem back_any (x : Msg) (w : World) : Calls Tryd.prog 11 #[.agg #[.string x.F, .string x.T, .string x.X]] w fun e w' => e = .returned (.agg #[.string x.F, .string x.T, .string x.X]) ∧ Only [] w w' := by
  go_enter Tryd.func11, Tryd.ntmps11
  go_wp2
  refine bodyPost_ret (v := .agg #[.string x.F, .string x.T, .string x.X]) (by simp [results, Tryd.results11, go_sem]) rfl ⟨rfl, ?_⟩
  exact ((Only.refl [] w).alloc _).alloc _
theorem sameP (x : Msg) (w : World) : (binOp .neq 40 (.agg #[.string x.F, .string x.T, .string x.X]) (.agg #[.string x.F, .string x.T, .string x.X])).run Tryd.prog w = .ok (.bool false) w := by
  simp [go_sem]
theorem sameD (x : Msg) (w : World) : (binOp .neq 33 (.agg #[.string x.F, .string x.T, .string x.X]) (.agg #[.string x.F, .string x.T, .string x.X])).run Tryd.prog w = .ok (.bool false) w := by
  simp [go_sem]
/-! ### both side by side -/
structure NV (W w : World) (t m : Nat) (v u : Value) (lp ld : List Msg) : Prop where
  p : PNet w W.heap.size t v lp
  d : DNet w W.heap.size m u ld
  below : Below W.heap.size W w
  ht : W.heap.size ≤ t
  hm : W.heap.size ≤ m
def M2 (W w : World) (t m : Nat) (lp ld : List Msg) : Prop := ∃ v u, NV W w t m v u lp ld
section
variable {W w w' : World} {t m d : Nat} {v v' u u' : Value} {lp ld l : List Msg} {A : Nat → Addr}
theorem NetAt.apart {ty nt : TypeId} {base : Nat} {cs : Array Value} {ty' : TypeId} {fr : Nat × Nat} (h : NetAt ty nt w base t v l) (hc : w.heap[d]? = some (.cells cs ty' fr)) (h1 : ty' ≠ nt) (h2 : ty' ≠ ty) : d ∉ t :: v.ownBlock.toList := fun hm => by
  rcases List.mem_cons.1 hm with e | e
  · have := h.blk
    rw [← e, hc] at this
    simp only [Option.some.injEq, Obj.cells.injEq] at this
    exact h1 this.2.1
  · have e' : v.ownBlock = some d := by simpa using e
    rcases RowM.open h.own with ⟨e1, _⟩ | ⟨g, cap, cur, e1, _, _, e4, _⟩
    · rw [e1] at e'; cases e'
    · rw [e1] at e'
      cases e'
      rw [hc] at e4
      simp only [Option.some.injEq, Obj.cells.injEq] at e4
      exact h2 e4.2.1
theorem NetAt.blocks {ty nt : TypeId} {base : Nat} (h : NetAt ty nt w base t v l) : ∀ k, v.ownBlock = some k → base ≤ k ∧ ∃ cs, w.heap[k]? = some (.cells cs ty (0, 0)) := fun k hk => by
  rcases RowM.open h.own with ⟨e1, _⟩ | ⟨g, cap, cur, e1, e2, _, e4, _⟩
  · rw [e1] at hk; cases hk
  · rw [e1] at hk; cases hk; exact ⟨e2, cur, e4⟩
theorem M2.only (h : M2 W w t m lp ld) (ho : Only [] w w') : M2 W w' t m lp ld := by
  obtain ⟨v, u, h⟩ := h
  exact ⟨v, u, h.p.only ho (by simp) (fun _ _ => by simp), h.d.only ho (by simp) (fun _ _ => by simp), h.below.trans (ho.to_below h.below.size (fun k hk => by cases hk)), h.ht, h.hm⟩
theorem M2.below (h : M2 W w t m lp ld) : Below W.heap.size W w := by
  obtain ⟨v, u, h⟩ := h
  exact h.below
theorem M2.prog (h : NV W w t m v u lp ld) (h' : PNet w' W.heap.size t v' l) (ho : Only (t :: v.ownBlock.toList) w w') : M2 W w' t m l ld ∧ ∀ (d : Nat) (cs : Array Value), w.heap[d]? = some (.cells cs 35 (0, 0)) → w'.heap[d]? = some (.cells cs 35 (0, 0)) := by
  refine ⟨⟨v', u, h', h.d.only ho (h.p.apart h.d.blk (by decide) (by decide)) (fun k hk => ?_), h.below.trans (ho.to_below h.below.size (fun k hk => ?_)), h.ht, h.hm⟩, fun d cs hc => (ho.block d (Array.getElem?_eq_some_iff.1 hc).1 (h.p.apart hc (by decide) (by decide))).trans hc⟩
  · obtain ⟨_, cs, hc⟩ := h.d.blocks k hk
    exact h.p.apart hc (by decide) (by decide)
  · rcases List.mem_cons.1 hk with e | e
    · rw [e]; exact h.ht
    · exact (h.p.blocks k (by simpa using e)).1
theorem M2.doc (h : NV W w t m v u lp ld) (h' : DNet w' W.heap.size m u' l) (ho : Only (m :: u.ownBlock.toList) w w') : M2 W w' t m lp l ∧ ∀ (d : Nat) (cs : Array Value) (ty : TypeId), ty ≠ 31 → ty ≠ 33 → w.heap[d]? = some (.cells cs ty (0, 0)) → w'.heap[d]? = some (.cells cs ty (0, 0)) := by
  refine ⟨⟨v, u', h.p.only ho (h.d.apart h.p.blk (by decide) (by decide)) (fun k hk => ?_), h', h.below.trans (ho.to_below h.below.size (fun k hk => ?_)), h.ht, h.hm⟩, fun d cs ty h1 h2 hc => (ho.block d (Array.getElem?_eq_some_iff.1 hc).1 (h.d.apart hc h1 h2)).trans hc⟩
  · obtain ⟨_, cs, hc⟩ := h.p.blocks k hk
    exact h.d.apart hc (by decide) (by decide)
  · rcases List.mem_cons.1 hk with e | e
    · rw [e]; exact h.hm
    · exact (h.d.blocks k (by simpa using e)).1
/-- An act. -/
structure NAct where
  K : ByteArray
  M : Msg
  I : Int
abbrev BxN (w : World) (b : Nat) (x : NAct) : Prop := w.heap[b]? = some (.cells #[.string x.K, .string x.M.F, .string x.M.T, .string x.M.X, .int .i64 x.I] 35 (0, 0))
theorem bxN_cells {b : Nat} {x : NAct} (h : BxN w b x) : w.cell? ⟨b, 0, none⟩ = some (.string x.K) ∧ w.cell? ⟨b, 1, none⟩ = some (.string x.M.F) ∧ w.cell? ⟨b, 2, none⟩ = some (.string x.M.T) ∧ w.cell? ⟨b, 3, none⟩ = some (.string x.M.X) ∧ w.cell? ⟨b, 4, none⟩ = some (.int .i64 x.I) := ⟨cell_of_row _ _ 0 _ _ _ h, cell_of_row _ _ 1 _ _ _ h, cell_of_row _ _ 2 _ _ _ h, cell_of_row _ _ 3 _ _ _ h, cell_of_row _ _ 4 _ _ _ h⟩
theorem bxN_only {b : Nat} {x : NAct} (h : BxN w b x) (ho : Only [] w w') : BxN w' b x := (ho.block b (Array.getElem?_eq_some_iff.1 h).1 (by simp)).trans h
/-! ### each act on each side, both nets holding the same -/
theorem M2.sendP (h : M2 W w t m lp ld) (hE : Errs W A) (hl : lp.length ≤ 100) (x : Msg) : Calls Tryd.prog 6 #[.pointer (some ⟨t, 0, none⟩), .agg #[.string x.F, .string x.T, .string x.X]] w fun e w' => ∃ c l', e = .returned (errN A c) ∧ SendOut lp x c l' ∧ M2 W w' t m l' ld ∧ ∀ d y, BxN w d y → BxN w' d y := by
  obtain ⟨v, u, h⟩ := h
  refine (send_any A w _ t v lp x (hE.below h.below (Nat.le_refl _)) h.p hl h.below.size).mono ?_
  rintro e w' ⟨c, l', rfl, hs, v', hp, ho⟩
  obtain ⟨h1, h2⟩ := M2.prog h hp ho
  exact ⟨c, l', rfl, hs, h1, fun d y hy => h2 d _ hy⟩
theorem M2.sendD (h : M2 W w t m lp ld) (hl : ld.length ≤ 100) (x : Msg) : Calls Tryd.prog 8 #[.pointer (some ⟨m, 0, none⟩), .agg #[.string x.F, .string x.T, .string x.X]] w fun e w' => ∃ c l', e = .returned (.int .i64 ((c : Nat) : Int)) ∧ SendOut ld x c l' ∧ M2 W w' t m lp l' ∧ ∀ d y, BxN w d y → BxN w' d y := by
  obtain ⟨v, u, h⟩ := h
  refine (dsend_any w _ m u ld x h.d hl h.below.size).mono ?_
  rintro e w' ⟨c, l', rfl, hs, v', hp, ho⟩
  obtain ⟨h1, h2⟩ := M2.doc h hp ho
  exact ⟨c, l', rfl, hs, h1, fun d y hy => h2 d _ _ (by decide) (by decide) hy⟩
/-- What a Take gives, on each side. -/
def TakeOut (l : List Msg) (i : Int) (x : Msg) (is : Bool) (l' : List Msg) : Prop := (¬ inN l i ∧ x = ⟨⟨#[]⟩, ⟨#[]⟩, ⟨#[]⟩⟩ ∧ is = false ∧ l' = l) ∨ (0 ≤ i ∧ l[i.toNat]? = some x ∧ is = true ∧ l' = l.take i.toNat ++ l.drop (i.toNat + 1))
theorem TakeOut.one {i : Int} {x x' : Msg} {b b' : Bool} {l1 l2 : List Msg} (h : TakeOut l i x b l1) (h' : TakeOut l i x' b' l2) : x = x' ∧ b = b' ∧ l1 = l2 := by
  have key : ∀ {y : Msg}, 0 ≤ i → l[i.toNat]? = some y → inN l i := fun h0 hy => ⟨h0, by have := (List.getElem?_eq_some_iff.1 hy).1; omega⟩
  rcases h with ⟨a, rfl, rfl, rfl⟩ | ⟨a, b, rfl, rfl⟩ <;> rcases h' with ⟨a', rfl, rfl, rfl⟩ | ⟨a', b', rfl, rfl⟩
  · exact ⟨rfl, rfl, rfl⟩
  · exact absurd (key a' b') a
  · exact absurd (key a b) a'
  · exact ⟨Option.some.inj (b.symm.trans b'), rfl, rfl⟩
theorem takeOut_len {i : Int} {x : Msg} {b : Bool} {l' : List Msg} (h : TakeOut l i x b l') (hl : l.length ≤ 100) : l'.length ≤ 100 := by
  rcases h with ⟨_, _, _, rfl⟩ | ⟨_, _, _, rfl⟩
  · exact hl
  · rw [List.length_append, List.length_take, List.length_drop]; omega
theorem sendOut_len {x : Msg} {c : Nat} {l' : List Msg} (h : SendOut l x c l') (hl : l.length ≤ 100) : l'.length ≤ 100 ∧ c ≤ 15 := by
  rcases h with ⟨_, rfl, rfl⟩ | ⟨_, _, rfl, rfl⟩ | ⟨_, _, _, rfl, rfl⟩ | ⟨_, _, h1, rfl, rfl⟩ <;> refine ⟨?_, by omega⟩
  · exact hl
  · exact hl
  · exact hl
  · rw [List.length_append, List.length_singleton]; omega
theorem M2.takeP (h : M2 W w t m lp ld) (hE : Errs W A) (hl : lp.length ≤ 100) (i : Int) : Calls Tryd.prog 9 #[.pointer (some ⟨t, 0, none⟩), .int .i64 i] w fun e w' => ∃ x is l', e = .returned (.tuple #[.agg #[.string x.F, .string x.T, .string x.X], if is = true then .nilIface else sErr A 4]) ∧ TakeOut lp i x is l' ∧ M2 W w' t m l' ld ∧ ∀ d y, BxN w d y → BxN w' d y := by
  obtain ⟨v, u, h⟩ := h
  by_cases hi : inN lp i
  · obtain ⟨x, hx, he⟩ := inN_get hi
    have := take_ok w _ t v lp i.toNat x h.p hx hl
    rw [he] at this
    refine this.mono ?_
    rintro e w' ⟨rfl, v', hp, ho⟩
    obtain ⟨h1, h2⟩ := M2.prog h hp ho
    exact ⟨x, true, _, rfl, Or.inr ⟨hi.1, hx, rfl, rfl⟩, h1, fun d y hy => h2 d _ hy⟩
  · refine (take_none A w _ t v lp i (hE.below h.below (Nat.le_refl _)) h.p hi).mono ?_
    rintro e w' ⟨rfl, ho⟩
    exact ⟨⟨⟨#[]⟩, ⟨#[]⟩, ⟨#[]⟩⟩, false, lp, rfl, Or.inl ⟨hi, rfl, rfl, rfl⟩, M2.only ⟨v, u, h⟩ ho, fun d y hy => bxN_only hy ho⟩
theorem M2.takeD (h : M2 W w t m lp ld) (hl : ld.length ≤ 100) (i : Int) : Calls Tryd.prog 10 #[.pointer (some ⟨m, 0, none⟩), .int .i64 i] w fun e w' => ∃ x is l', e = .returned (.tuple #[.agg #[.string x.F, .string x.T, .string x.X], .bool is]) ∧ TakeOut ld i x is l' ∧ M2 W w' t m lp l' ∧ ∀ (d : Nat) (cs : Array Value) (ty : TypeId), ty ≠ 31 → ty ≠ 33 → w.heap[d]? = some (.cells cs ty (0, 0)) → w'.heap[d]? = some (.cells cs ty (0, 0)) := by
  obtain ⟨v, u, h⟩ := h
  by_cases hi : inN ld i
  · obtain ⟨x, hx, he⟩ := inN_get hi
    have := dtake_ok w _ m u ld i.toNat x h.d hx hl h.below.size
    rw [he] at this
    refine this.mono ?_
    rintro e w' ⟨rfl, v', hp, ho⟩
    obtain ⟨h1, h2⟩ := M2.doc h hp (ho.mono (fun k hk => by simp at hk; simp [hk]))
    exact ⟨x, true, _, rfl, Or.inr ⟨hi.1, hx, rfl, rfl⟩, h1, h2⟩
  · refine (dtake_none w _ m u ld i h.d hi).mono ?_
    rintro e w' ⟨rfl, ho⟩
    exact ⟨⟨⟨#[]⟩, ⟨#[]⟩, ⟨#[]⟩⟩, false, ld, rfl, Or.inl ⟨hi, rfl, rfl, rfl⟩, M2.only ⟨v, u, h⟩ ho, fun d cs ty _ _ hc => (ho.block d (Array.getElem?_eq_some_iff.1 hc).1 (by simp)).trans hc⟩
theorem M2.dropP (h : M2 W w t m lp ld) (hE : Errs W A) (hl : lp.length ≤ 100) (i : Int) : Calls Tryd.prog 12 #[.pointer (some ⟨t, 0, none⟩), .int .i64 i] w fun e w' => ∃ x is l', e = .returned (if is = true then .nilIface else sErr A 4) ∧ TakeOut lp i x is l' ∧ M2 W w' t m l' ld ∧ ∀ d y, BxN w d y → BxN w' d y := by
  obtain ⟨v, u, h⟩ := h
  refine (drop_any A w _ t v lp i (hE.below h.below (Nat.le_refl _)) h.p hl).mono ?_
  rintro e w' (⟨hi, rfl, ho⟩ | ⟨hi, rfl, v', hp, ho⟩)
  · exact ⟨⟨⟨#[]⟩, ⟨#[]⟩, ⟨#[]⟩⟩, false, lp, rfl, Or.inl ⟨hi, rfl, rfl, rfl⟩, M2.only ⟨v, u, h⟩ ho, fun d y hy => bxN_only hy ho⟩
  · obtain ⟨x, hx, _⟩ := inN_get hi
    obtain ⟨h1, h2⟩ := M2.prog h hp ho
    exact ⟨x, true, _, rfl, Or.inr ⟨hi.1, hx, rfl, rfl⟩, h1, fun d y hy => h2 d _ hy⟩
/-- What a Twice answers. -/
def TwiceOut (l : List Msg) (i : Int) (c : Nat) (l' : List Msg) : Prop := (¬ inN l i ∧ c = 5 ∧ l' = l) ∨ (inN l i ∧ l.length = 100 ∧ c = 9 ∧ l' = l) ∨ (l.length < 100 ∧ ∃ x, 0 ≤ i ∧ l[i.toNat]? = some x ∧ c = 0 ∧ l' = l.take i.toNat ++ [x, x] ++ l.drop (i.toNat + 1))
theorem TwiceOut.one {i : Int} {c c' : Nat} {l1 l2 : List Msg} (h : TwiceOut l i c l1) (h' : TwiceOut l i c' l2) : c = c' ∧ l1 = l2 := by
  have key : ∀ {y : Msg}, 0 ≤ i → l[i.toNat]? = some y → inN l i := fun h0 hy => ⟨h0, by have := (List.getElem?_eq_some_iff.1 hy).1; omega⟩
  rcases h with ⟨a, rfl, rfl⟩ | ⟨a, b, rfl, rfl⟩ | ⟨a, x, a0, b, rfl, rfl⟩ <;> rcases h' with ⟨a', rfl, rfl⟩ | ⟨a', b', rfl, rfl⟩ | ⟨a', x', a0', b', rfl, rfl⟩
  · exact ⟨rfl, rfl⟩
  · exact absurd a' a
  · exact absurd (key a0' b') a
  · exact absurd a a'
  · exact ⟨rfl, rfl⟩
  · omega
  · exact absurd (key a0 b) a'
  · omega
  · obtain rfl := Option.some.inj (b.symm.trans b')
    exact ⟨rfl, rfl⟩
theorem twiceOut_len {i : Int} {c : Nat} {l' : List Msg} (h : TwiceOut l i c l') (hl : l.length ≤ 100) : l'.length ≤ 100 ∧ c ≤ 15 := by
  rcases h with ⟨_, rfl, rfl⟩ | ⟨_, _, rfl, rfl⟩ | ⟨h1, x, h0, hx, rfl, rfl⟩
  · exact ⟨hl, by omega⟩
  · exact ⟨hl, by omega⟩
  · have := (List.getElem?_eq_some_iff.1 hx).1
    refine ⟨?_, by omega⟩
    rw [List.length_append, List.length_append, List.length_take, List.length_drop]
    simp
    omega
theorem M2.twiceP (h : M2 W w t m lp ld) (hE : Errs W A) (hl : lp.length ≤ 100) (i : Int) : Calls Tryd.prog 13 #[.pointer (some ⟨t, 0, none⟩), .int .i64 i] w fun e w' => ∃ c l', e = .returned (errN A c) ∧ TwiceOut lp i c l' ∧ M2 W w' t m l' ld ∧ ∀ d y, BxN w d y → BxN w' d y := by
  obtain ⟨v, u, h⟩ := h
  refine (twice_any A w _ t v lp i (hE.below h.below (Nat.le_refl _)) h.p hl h.below.size).mono ?_
  rintro e w' (⟨hi, rfl, ho⟩ | ⟨hi, hl1, rfl, ho⟩ | ⟨hl1, x, h0, hx, rfl, v', hp, ho⟩)
  · exact ⟨5, lp, rfl, Or.inl ⟨hi, rfl, rfl⟩, M2.only ⟨v, u, h⟩ ho, fun d y hy => bxN_only hy ho⟩
  · exact ⟨9, lp, rfl, Or.inr (Or.inl ⟨hi, hl1, rfl, rfl⟩), M2.only ⟨v, u, h⟩ ho, fun d y hy => bxN_only hy ho⟩
  · obtain ⟨h1, h2⟩ := M2.prog h hp ho
    exact ⟨0, _, rfl, Or.inr (Or.inr ⟨hl1, x, h0, hx, rfl, rfl⟩), h1, fun d y hy => h2 d _ hy⟩
theorem M2.twiceD (h : M2 W w t m lp ld) (hl : ld.length ≤ 100) (i : Int) : Calls Tryd.prog 14 #[.pointer (some ⟨m, 0, none⟩), .int .i64 i] w fun e w' => ∃ c l', e = .returned (.int .i64 ((c : Nat) : Int)) ∧ TwiceOut ld i c l' ∧ M2 W w' t m lp l' ∧ ∀ d y, BxN w d y → BxN w' d y := by
  obtain ⟨v, u, h⟩ := h
  by_cases hi : inN ld i
  · by_cases hl1 : ld.length = 100
    · refine (dtwice_full w _ m u ld i h.d hi hl1).mono ?_
      rintro e w' ⟨rfl, rfl⟩
      exact ⟨9, ld, rfl, Or.inr (Or.inl ⟨hi, hl1, rfl, rfl⟩), ⟨v, u, h⟩, fun d y hy => hy⟩
    · obtain ⟨x, hx, he⟩ := inN_get hi
      have := dtwice_ok w _ m u ld i.toNat x h.d hx (by omega) h.below.size
      rw [he] at this
      refine this.mono ?_
      rintro e w' ⟨rfl, v', hp, ho⟩
      obtain ⟨h1, h2⟩ := M2.doc h hp (ho.mono (fun k hk => by simp at hk; simp [hk]))
      exact ⟨0, _, rfl, Or.inr (Or.inr ⟨by omega, x, hi.1, hx, rfl, rfl⟩), h1, fun d y hy => h2 d _ _ (by decide) (by decide) hy⟩
  · refine (dtwice_none w _ m u ld i h.d hi).mono ?_
    rintro e w' ⟨rfl, rfl⟩
    exact ⟨5, ld, rfl, Or.inl ⟨hi, rfl, rfl⟩, ⟨v, u, h⟩, fun d y hy => hy⟩
theorem M2.forP (h : M2 W w t m lp ld) (hl : lp.length ≤ 100) (s : ByteArray) : Calls Tryd.prog 15 #[.pointer (some ⟨t, 0, none⟩), .string s] w fun e w' => ∃ r, e = .returned (.int .i64 r) ∧ firstI (isToB s) lp r ∧ Only [] w w' := by
  obtain ⟨v, u, h⟩ := h
  exact for_any w _ t v lp s h.p hl
theorem M2.forD (h : M2 W w t m lp ld) (hl : ld.length ≤ 100) (s : ByteArray) : Calls Tryd.prog 16 #[.pointer (some ⟨m, 0, none⟩), .string s] w fun e w' => ∃ r, e = .returned (.int .i64 r) ∧ firstI (isToB s) ld r ∧ w = w' := by
  obtain ⟨v, u, h⟩ := h
  exact dfor_any w _ m u ld s h.d hl
theorem M2.listP (h : M2 W w t m lp ld) (hl : lp.length ≤ 100) : Calls Tryd.prog 17 #[.pointer (some ⟨t, 0, none⟩)] w fun e w' => ∃ v', e = .returned v' ∧ Msgs w' w.heap.size v' lp ∧ M2 W w' t m lp ld := by
  obtain ⟨v, u, h⟩ := h
  refine (list_any w _ t v lp h.p hl).mono ?_
  rintro e w' ⟨v', rfl, hm, ho⟩
  exact ⟨v', rfl, hm, M2.only ⟨v, u, h⟩ ho⟩
end
end Go.Proofs.YtkfelijpajdcoaaDoor
