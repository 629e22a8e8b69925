/- What was answered: both caches in memory; coded; kept. -/
import Derived.Test.YtlmppddgeclddaaDoorCa7
namespace Go.Proofs.YtlmppddgeclddaaDoor
open Go Go.RowKit Go.Deep Go.Maps

def Told (A : Nat → Addr) (c : Nat) (r : Value) : Prop := (c = 0 ∧ r = .nilIface) ∨ ∃ k, k < 15 ∧ c = k + 1 ∧ r = sErr A k
theorem told_errN (A : Nat → Addr) {c : Nat} (h : c ≤ 15) : Told A c (errN A c) := by
  unfold errN
  by_cases h0 : c = 0
  · rw [if_pos h0]
    exact Or.inl ⟨h0, rfl⟩
  · rw [if_neg h0]
    exact Or.inr ⟨c - 1, by omega, by omega, rfl⟩
theorem coded3_any (A : Nat → Addr) (c : Nat) (r : Value) (w : World) (h : Errs w A) (ht : Told A c r) :
    Calls Tryd.prog 7 #[r, .int .i64 (c : Int)] w fun e w' => e = .returned (.bool true) ∧ Below w.heap.size w w' := by
  have H : Hid (Errs w A) := h
  clear h
  rcases ht with ⟨rfl, rfl⟩ | ⟨k, hk, rfl, rfl⟩
  · show Calls Tryd.prog 7 #[.nilIface, .int .i64 0] w _
    go_enter Tryd.func7, Tryd.ntmps7
    go_wp2_with (go_at_call 14; refine (code_nil _).mono ?_; rintro e w2 ⟨rfl, rfl⟩)
    go_ret
    exact ⟨rfl, Below.refl _ _⟩
  · have e : ((k + 1 : Nat) : Int) = (k : Int) + 1 := by omega
    rw [e]
    unfold sErr
    go_enter Tryd.func7, Tryd.ntmps7
    go_wp2_with (go_at_call 14; refine (code_err A k hk _ H.out).mono ?_; rintro e w2 ⟨rfl, hb⟩)
    go_ret
    exact ⟨rfl, hb⟩
/-- The program's cache behind what was there. -/
structure CaV (W w : World) (t b : Nat) (v : Value) (most : Nat) (L : List Kp) : Prop where
  ca : CaAt w W.heap.size t b v most L
  below : Below W.heap.size W w
  ht : W.heap.size ≤ t
  hb : W.heap.size ≤ b
def CaW (W w : World) (t : Nat) (most : Nat) (L : List Kp) : Prop := ∃ b v, CaV W w t b v most L
section
variable {W w w' : World} {t b : Nat} {v v' : Value} {most : Nat} {L L' : List Kp} {A : Nat → Addr}
theorem CaV.errs (h : CaV W w t b v most L) (hE : Err4 W A) : Err4 w A := hE.below h.below
theorem CaV.only (h : CaV W w t b v most L) (ho : Only [] w w') : CaV W w' t b v most L := ⟨h.ca.only ho, h.below.trans (ho.to_below h.below.size (fun k hk => by cases hk)), h.ht, h.hb⟩
theorem CaV.step (h : CaV W w t b v most L) (h' : CaAt w' W.heap.size t b v' most L') (ho : Only (t :: b :: v.ownBlock.toList) w w') : CaV W w' t b v' most L' := ⟨h', h.below.trans (ho.to_below h.below.size (fun k hk => by
  rcases List.mem_cons.1 hk with e | e
  · rw [e]; exact h.ht
  · rcases List.mem_cons.1 e with e | e
    · rw [e]; exact h.hb
    · exact (own_block h.ca.row (b := k) (by simpa using e)).1)), h.ht, h.hb⟩
theorem CaW.below (h : CaW W w t most L) : Below W.heap.size W w := by
  obtain ⟨b, v, h⟩ := h
  exact h.below
theorem CaW.inv (h : CaW W w t most L) : KInv most L := by
  obtain ⟨b, v, h⟩ := h
  exact h.ca.inv
theorem CaW.only (h : CaW W w t most L) (ho : Only [] w w') : CaW W w' t most L := by
  obtain ⟨b, v, h⟩ := h
  exact ⟨b, v, h.only ho⟩
theorem CaW.look (h : CaW W w t most L) (hE : Err4 W A) {k : ByteArray × Int} (s : ByteArray) (hk : OkQ k) : Calls Tryd.prog 10 #[.pointer (some ⟨t, 0, none⟩), .string k.1, .int .i64 k.2, .string s] w fun e w' => e = .returned (lookV A L k s) ∧ CaW W w' t most L ∧ Only [] w w' := by
  obtain ⟨b, v, h⟩ := h
  exact (look_any A w _ t b v most L k s (h.errs hE) h.ca hk).mono fun e w' hh => ⟨hh.1, ⟨b, v, h.only hh.2⟩, hh.2⟩
theorem CaW.keep (h : CaW W w t most L) (hE : Err4 W A) (x : Kp) (hx : OkQ x.k) : Calls Tryd.prog 8 #[.pointer (some ⟨t, 0, none⟩), .string x.c, .int .i64 x.n, .string x.t, .string x.r] w fun e w' => e = .returned (errN A (keepK most L x).1) ∧ CaW W w' t most (keepK most L x).2 := by
  obtain ⟨b, v, h⟩ := h
  exact (keep_any A w _ t b v most L x (h.errs hE) h.ca hx h.below.size).mono fun e w' hh => by
    obtain ⟨he, v', h1, h2⟩ := hh
    exact ⟨he, b, v', h.step h1 h2⟩
theorem CaW.count (h : CaW W w t most L) : Calls Tryd.prog 12 #[.pointer (some ⟨t, 0, none⟩)] w fun e w' => e = .returned (.int .i64 (L.length : Nat)) ∧ w = w' := by
  obtain ⟨b, v, h⟩ := h
  exact count_any w _ t b v most L h.ca
/-- What New gives, behind what was there. -/
theorem CaW.new (hb : Below W.heap.size W w) {e : Ending} (h : NewR w w' most e) : ∃ t, e = .returned (.tuple #[.pointer (some ⟨t, 0, none⟩), .nilIface]) ∧ CaW W w' t most [] := by
  obtain ⟨t, b, he, hc, ho, h1, h2⟩ := h
  have := hb.size
  exact ⟨t, he, b, _, hc _, hb.trans (ho.to_below hb.size (fun k hk => by cases hk)), by omega, by omega⟩
end
/-! ### kept: a closed fact -/
theorem okq_a : OkQ (⟨#[97]⟩, 1) := ⟨by show 1 ≤ maxLen; unfold maxLen; omega, rfl⟩
set_option maxRecDepth 100000 in
set_option maxHeartbeats 2000000 in
theorem kept_any (A : Nat → Addr) (w : World) (hE : Err4 w A) : Calls Tryd.prog 5 #[] w fun e w' => e = .returned (.bool true) ∧ Below w.heap.size w w' := by
  have HE : Hid (Err4 w A) := hE
  have hnew : Calls Tryd.prog 6 #[.int .i64 1] w fun e w' => NewR w w' 1 e := new_ok w 1 (Nat.le_refl _) (by omega)
  have HKP : Hid (∀ w2 t, CaW w w2 t 1 [] → Calls Tryd.prog 8 #[.pointer (some ⟨t, 0, none⟩), .string ⟨#[97]⟩, .int .i64 1, .string ⟨#[120]⟩, .string ⟨#[121]⟩] w2 fun e w' => e = .returned .nilIface ∧ CaW w w' t 1 [⟨⟨#[97]⟩, 1, ⟨#[120]⟩, ⟨#[121]⟩⟩]) := fun w2 t h2 => h2.keep HE.out ⟨⟨#[97]⟩, 1, ⟨#[120]⟩, ⟨#[121]⟩⟩ okq_a
  have HLK : Hid (∀ w2 t, CaW w w2 t 1 [⟨⟨#[97]⟩, 1, ⟨#[120]⟩, ⟨#[121]⟩⟩] → Calls Tryd.prog 10 #[.pointer (some ⟨t, 0, none⟩), .string ⟨#[97]⟩, .int .i64 1, .string ⟨#[120]⟩] w2 fun e w' => e = .returned (.tuple #[.string ⟨#[121]⟩, .bool true, .nilIface]) ∧ CaW w w' t 1 [⟨⟨#[97]⟩, 1, ⟨#[120]⟩, ⟨#[121]⟩⟩] ∧ Only [] w2 w') := fun w2 t h2 => by
    have := h2.look HE.out (k := (⟨#[97]⟩, 1)) ⟨#[120]⟩ okq_a
    have e3 : lookV A [⟨⟨#[97]⟩, 1, ⟨#[120]⟩, ⟨#[121]⟩⟩] (⟨#[97]⟩, 1) ⟨#[120]⟩ = .tuple #[.string ⟨#[121]⟩, .bool true, .nilIface] := by
      have hf : findK [⟨⟨#[97]⟩, 1, ⟨#[120]⟩, ⟨#[121]⟩⟩] (⟨#[97]⟩, 1) = some ⟨⟨#[97]⟩, 1, ⟨#[120]⟩, ⟨#[121]⟩⟩ := by rw [findK_cons]; exact if_pos rfl
      unfold lookV lookK
      rw [hf]
      simp [errN]
    rw [e3] at this
    exact this
  clear hE
  go_enter Tryd.func5, Tryd.ntmps5
  go_wp2_with (first
    | (go_at_call 6; refine hnew.mono ?_; rintro e w1 hN; obtain ⟨t, rfl, h1⟩ := CaW.new (Below.refl w.heap.size w) hN; have hkp := HKP.out w1 t h1; clear hnew h1 hN)
    | (go_at_call 8; refine hkp.mono ?_; rintro e w2 ⟨rfl, h2⟩; have hlk := HLK.out w2 t h2; clear hkp h2)
    | (go_at_call 10; refine hlk.mono ?_; rintro e w3 ⟨rfl, h3, _⟩; have hct : Calls Tryd.prog 12 #[.pointer (some ⟨t, 0, none⟩)] w3 fun e w' => e = .returned (.int .i64 1) ∧ w3 = w' := h3.count; have HB : Hid (Below w.heap.size w w3) := h3.below; clear hlk h3)
    | (go_at_call 12; refine hct.mono ?_; rintro e w4 ⟨rfl, rfl⟩; clear hct))
  go_ret
  exact ⟨rfl, HB.out⟩
/-! ### both side by side -/
structure KAct where
  K : Bool
  C : ByteArray
  T : ByteArray
  R : ByteArray
  I : Int
def KAct.kp (x : KAct) : Kp := ⟨x.C, x.I, x.T, x.R⟩
/-- An act's box. -/
def BxK (w : World) (b : Nat) (x : KAct) : Prop := w.heap[b]? = some (.cells #[.bool x.K, .string x.C, .string x.T, .string x.R, .int .i64 x.I] 35 (0, 0))
theorem bxK_cells {w : World} {b : Nat} {x : KAct} (h : BxK w b x) : w.cell? ⟨b, 0, none⟩ = some (.bool x.K) ∧ w.cell? ⟨b, 1, none⟩ = some (.string x.C) ∧ w.cell? ⟨b, 2, none⟩ = some (.string x.T) ∧ w.cell? ⟨b, 3, none⟩ = some (.string x.R) ∧ w.cell? ⟨b, 4, none⟩ = some (.int .i64 x.I) := ⟨cell_of_row _ _ 0 _ _ _ h, cell_of_row _ _ 1 _ _ _ h, cell_of_row _ _ 2 _ _ _ h, cell_of_row _ _ 3 _ _ _ h, cell_of_row _ _ 4 _ _ _ h⟩
theorem BxK.only {w w' : World} {b : Nat} {x : KAct} (h : BxK w b x) (ho : Only [] w w') : BxK w' b x := (ho.block b (Array.getElem?_eq_some_iff.1 h).1 (by simp)).trans h
structure MV (W w : World) (t m b : Nat) (v u : Value) (most : Nat) (Lp Ld : List Kp) : Prop where
  cv : CaV W w t b v most Lp
  kc : KcAt w W.heap.size m u most Ld
  hm : W.heap.size ≤ m
def M2 (W w : World) (t m : Nat) (most : Nat) (Lp Ld : List Kp) : Prop := ∃ b v u, MV W w t m b v u most Lp Ld
section
variable {W w w' : World} {t m b d : Nat} {v v' u u' : Value} {most : Nat} {Lp Ld L : List Kp} {A : Nat → Addr} {x : KAct}
/-- A block of cells of some type is none of the cache's, if the type is none of its types. -/
theorem CaV.apart {cs : Array Value} {ty : TypeId} {fr : Nat × Nat} (h : CaV W w t b v most Lp) (hc : w.heap[d]? = some (.cells cs ty fr)) (h1 : ty ≠ 49) (h2 : ty ≠ 53) : d ∉ t :: b :: v.ownBlock.toList := fun hm => by
  rcases List.mem_cons.1 hm with e | e
  · have := h.ca.tab
    rw [← e, hc] at this
    simp only [Option.some.injEq, Obj.cells.injEq] at this
    exact h1 this.2.1
  · rcases List.mem_cons.1 e with e | e
    · obtain ⟨D, h3, _⟩ := h.ca.own
      exact own_ne_block h3 hc e.symm
    · obtain ⟨_, _, cur, hcu⟩ := own_block h.ca.row (b := d) (by simpa using e)
      rw [hc] at hcu
      simp only [Option.some.injEq, Obj.cells.injEq] at hcu
      exact h2 hcu.2.1
theorem KcAt.apart {cs : Array Value} {ty : TypeId} {fr : Nat × Nat} (h : KcAt w W.heap.size m u most Ld) (hc : w.heap[d]? = some (.cells cs ty fr)) (h1 : ty ≠ 33) (h2 : ty ≠ 58) : d ∉ m :: u.ownBlock.toList := fun hm => by
  rcases List.mem_cons.1 hm with e | e
  · have := h.tab
    rw [← e, hc] at this
    simp only [Option.some.injEq, Obj.cells.injEq] at this
    exact h1 this.2.1
  · obtain ⟨_, _, cur, hcu⟩ := PartRow.block h.own (b := d) (by simpa using e)
    rw [hc] at hcu
    simp only [Option.some.injEq, Obj.cells.injEq] at hcu
    exact h2 hcu.2.1
theorem M2.only (h : M2 W w t m most Lp Ld) (ho : Only [] w w') : M2 W w' t m most Lp Ld := by
  obtain ⟨b, v, u, h⟩ := h
  exact ⟨b, v, u, h.cv.only ho, h.kc.only ho, h.hm⟩
theorem M2.below (h : M2 W w t m most Lp Ld) : Below W.heap.size W w := by
  obtain ⟨b, v, u, h⟩ := h
  exact h.cv.below
theorem M2.inv (h : M2 W w t m most Lp Ld) : KInv most Lp := by
  obtain ⟨b, v, u, h⟩ := h
  exact h.cv.ca.inv
theorem M2.prog (h : MV W w t m b v u most Lp Ld) (h' : CaAt w' W.heap.size t b v' most L) (ho : Only (t :: b :: v.ownBlock.toList) w w') : M2 W w' t m most L Ld ∧ ∀ d x, BxK w d x → BxK w' d x := by
  refine ⟨⟨b, v', u, h.cv.step h' ho, h.kc.kept ho (h.cv.apart h.kc.tab (by decide) (by decide)) (fun k hk => ?_), h.hm⟩, fun d x hb => (ho.block d (Array.getElem?_eq_some_iff.1 hb).1 (h.cv.apart hb (by decide) (by decide))).trans hb⟩
  obtain ⟨_, _, cur, hc⟩ := PartRow.block h.kc.own hk
  exact h.cv.apart hc (by decide) (by decide)
theorem M2.doc (h : MV W w t m b v u most Lp Ld) (h' : KcAt w' W.heap.size m u' most L) (ho : Only (m :: u.ownBlock.toList) w w') : M2 W w' t m most Lp L ∧ ∀ d x, BxK w d x → BxK w' d x := by
  have hb' : b ∉ m :: u.ownBlock.toList := fun hk => by
    obtain ⟨D, h3, _⟩ := h.cv.ca.own
    rcases List.mem_cons.1 hk with e | e
    · exact own_ne_block h3 h.kc.tab e
    · obtain ⟨_, _, cur, hc⟩ := PartRow.block h.kc.own (b := b) (by simpa using e)
      exact own_ne_block h3 hc rfl
  refine ⟨⟨b, v, u', ⟨h.cv.ca.kept ho (h.kc.apart h.cv.ca.tab (by decide) (by decide)) hb' (fun k hk => ?_), h.cv.below.trans (ho.to_below h.cv.below.size (fun k hk => ?_)), h.cv.ht, h.cv.hb⟩, h', h.hm⟩, fun d x hb => (ho.block d (Array.getElem?_eq_some_iff.1 hb).1 (h.kc.apart hb (by decide) (by decide))).trans hb⟩
  · obtain ⟨_, _, cur, hc⟩ := own_block h.cv.ca.row hk
    exact h.kc.apart hc (by decide) (by decide)
  · rcases List.mem_cons.1 hk with e | e
    · rw [e]; exact h.hm
    · exact (PartRow.block h.kc.own (b := k) (by simpa using e)).1
theorem M2.lookP (h : M2 W w t m most Lp Ld) (hE : Errs W A) {k : ByteArray × Int} {s : ByteArray} (hk : OkQ k) : Calls Tryd.prog 10 #[.pointer (some ⟨t, 0, none⟩), .string k.1, .int .i64 k.2, .string s] w fun e w' => e = .returned (lookV A Lp k s) ∧ Only [] w w' := by
  obtain ⟨b, v, u, h⟩ := h
  exact look_any A w _ t b v most Lp k s (h.cv.errs hE.four) h.cv.ca hk
theorem M2.lookD (h : M2 W w t m most Lp Ld) (hl : Ld.length ≤ 100) {k : ByteArray × Int} {s : ByteArray} : Calls Tryd.prog 11 #[.pointer (some ⟨m, 0, none⟩), .string k.1, .int .i64 k.2, .string s] w fun e w' => e = .returned (rlookV Ld k s) ∧ w = w' := by
  obtain ⟨b, v, u, h⟩ := h
  exact rlook_any w _ m u most Ld k s h.kc hl
theorem M2.keepP (h : M2 W w t m most Lp Ld) (hE : Errs W A) (x : Kp) (hx : OkQ x.k) : Calls Tryd.prog 8 #[.pointer (some ⟨t, 0, none⟩), .string x.c, .int .i64 x.n, .string x.t, .string x.r] w fun e w' => e = .returned (errN A (keepK most Lp x).1) ∧ M2 W w' t m most (keepK most Lp x).2 Ld ∧ ∀ d x, BxK w d x → BxK w' d x := by
  obtain ⟨b, v, u, h⟩ := h
  exact (keep_any A w _ t b v most Lp x (h.cv.errs hE.four) h.cv.ca hx h.cv.below.size).mono fun e w' hh => by
    obtain ⟨he, v', h1, h2⟩ := hh
    exact ⟨he, M2.prog h h1 h2⟩
theorem M2.keepD (h : M2 W w t m most Lp Ld) (hi : KInv most Ld) (x : Kp) : Calls Tryd.prog 9 #[.pointer (some ⟨m, 0, none⟩), .string x.c, .int .i64 x.n, .string x.t, .string x.r] w fun e w' => e = .returned (.int .i64 ((keepK most Ld x).1 : Nat)) ∧ M2 W w' t m most Lp (keepK most Ld x).2 ∧ ∀ d x, BxK w d x → BxK w' d x := by
  obtain ⟨b, v, u, h⟩ := h
  exact (rkeep_any w _ m u most Ld x h.kc hi h.cv.below.size).mono fun e w' hh => by
    obtain ⟨he, v', h1, h2⟩ := hh
    exact ⟨he, M2.doc h h1 h2⟩
theorem M2.count (h : M2 W w t m most Lp Ld) : Calls Tryd.prog 12 #[.pointer (some ⟨t, 0, none⟩)] w fun e w' => e = .returned (.int .i64 (Lp.length : Nat)) ∧ w = w' := by
  obtain ⟨b, v, u, h⟩ := h
  exact count_any w _ t b v most Lp h.cv.ca
theorem M2.row (h : M2 W w t m most Lp Ld) : ∃ ad cap, w.cell? ⟨m, 1, none⟩ = some (.slice ad Ld.length cap) ∧ m < w.heap.size := by
  obtain ⟨b, v, u, h⟩ := h
  obtain ⟨ad, cap, rfl, _⟩ := h.kc.own.form
  exact ⟨ad, cap, h.kc.c1, h.kc.lt⟩
theorem M2.fresh (h : CaW W w t most []) : M2 W (w.alloc (.cells #[.int .i64 (most : Nat), .slice none 0 0] 33)) t w.heap.size most [] [] := by
  obtain ⟨b, v, h⟩ := h
  exact ⟨b, v, .slice none 0 0, h.only ((Only.refl [] w).alloc _), ⟨heap_alloc_last w _, PartRow.nil _ _ _ _⟩, h.below.size⟩
end
end Go.Proofs.YtlmppddgeclddaaDoor
