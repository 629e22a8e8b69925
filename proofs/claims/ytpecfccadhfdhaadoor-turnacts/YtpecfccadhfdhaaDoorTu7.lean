/- Turns: both tables in memory; coded; turned. -/
import Derived.Test.YtpecfccadhfdhaaDoorTu6
namespace Go.Proofs.YtpecfccadhfdhaaDoor
open Go Go.RowKit Go.Deep Go.Maps

def Told (A : Nat → Addr) (c : Nat) (r : Value) : Prop := (c = 0 ∧ r = .nilIface) ∨ ∃ k, k < 15 ∧ c = k + 1 ∧ r = sErr A k
theorem told_errN (A : Nat → Addr) {c : Nat} (h : c ≤ 15) : Told A c (errN A c) := by
  unfold errN
  by_cases h0 : c = 0
  · rw [if_pos h0]
    exact Or.inl ⟨h0, rfl⟩
  · rw [if_neg h0]
    exact Or.inr ⟨c - 1, by omega, by omega, rfl⟩
theorem coded2_any (A : Nat → Addr) (c : Nat) (r : Value) (w : World) (h : Errs w A) (ht : Told A c r) :
    Calls Tryd.prog 8 #[r, .int .i64 (c : Int)] w fun e w' => e = .returned (.bool true) ∧ Below w.heap.size w w' := by
  have H : Hid (Errs w A) := h
  clear h
  rcases ht with ⟨rfl, rfl⟩ | ⟨k, hk, rfl, rfl⟩
  · show Calls Tryd.prog 8 #[.nilIface, .int .i64 0] w _
    go_enter Tryd.func8, Tryd.ntmps8
    go_wp2_with (go_at_call 17; refine (code_nil _).mono ?_; rintro e w2 ⟨rfl, rfl⟩)
    go_ret
    exact ⟨rfl, Below.refl _ _⟩
  · have e : ((k + 1 : Nat) : Int) = (k : Int) + 1 := by omega
    rw [e]
    unfold sErr
    go_enter Tryd.func8, Tryd.ntmps8
    go_wp2_with (go_at_call 17; refine (code_err A k hk _ H.out).mono ?_; rintro e w2 ⟨rfl, hb⟩)
    go_ret
    exact ⟨rfl, hb⟩
theorem begT_le (L : List Trn) (o q : Int) : (begT L o q).1 ≤ 15 := by
  rcases begT_code L o q with h | h | h | h <;> omega
theorem endT_le (L : List Trn) (o q : Int) (r : ByteArray) : (endT L o q r).1 ≤ 15 := by
  have := begT_le L o q
  unfold endT
  split
  · exact Nat.zero_le _
  · exact (by decide : 12 ≤ 15)
  · rename_i e
    rw [e] at this
    exact this
theorem remT_le (L : List Trn) (o : Int) : (remT L o).1 ≤ 15 := by
  unfold remT
  split
  · exact Nat.zero_le _
  · exact (by decide : 5 ≤ 15)
/-- The program's table behind what was there. -/
structure TuV (W w : World) (t : Nat) (m : Option Nat) (L : List Trn) : Prop where
  tu : TuAt w t m L
  below : Below W.heap.size W w
  ht : W.heap.size ≤ t
  hm : ∀ b, m = some b → W.heap.size ≤ b
def TuW (W w : World) (t : Nat) (L : List Trn) : Prop := ∃ m, TuV W w t m L
section
variable {W w w' : World} {t : Nat} {mo : Option Nat} {L L' : List Trn} {A : Nat → Addr}
theorem TuV.errs (h : TuV W w t mo L) (hE : Err4 W A) : Err4 w A := hE.below h.below
theorem TuV.only (h : TuV W w t mo L) (ho : Only [] w w') : TuV W w' t mo L := ⟨h.tu.only ho, h.below.trans (ho.to_below h.below.size (fun k hk => by cases hk)), h.ht, h.hm⟩
theorem TuV.step {m2 : Option Nat} (h : TuV W w t mo L) (h' : TuAt w' t m2 L') (ho : Only (t :: mo.toList) w w') (hn : ∀ b, m2 = some b → mo = some b ∨ w.heap.size ≤ b) : TuV W w' t m2 L' := ⟨h', h.below.trans (ho.to_below h.below.size (fun k hk => by
  rcases List.mem_cons.1 hk with e | e
  · rw [e]; exact h.ht
  · exact h.hm k (by simpa using e))), h.ht, fun b hb => by
    rcases hn b hb with e | e
    · exact h.hm b e
    · exact Nat.le_trans h.below.size e⟩
theorem TuW.below (h : TuW W w t L) : Below W.heap.size W w := by
  obtain ⟨m, h⟩ := h
  exact h.below
theorem TuW.only (h : TuW W w t L) (ho : Only [] w w') : TuW W w' t L := by
  obtain ⟨m, h⟩ := h
  exact ⟨m, h.only ho⟩
theorem TuW.fresh (hb : Below W.heap.size W w) : TuW W (w.alloc (.cells #[.map none] 27)) w.heap.size [] :=
  ⟨none, ⟨heap_alloc_last w _, fun _ => rfl, fun b hb => (by cases hb), TInv.nil⟩, hb.alloc hb.size _, hb.size, fun b hb => (by cases hb)⟩
theorem TuW.beg (h : TuW W w t L) (hE : Err4 W A) {o q : Int} (ho : I64 o) : Calls Tryd.prog 6 #[.pointer (some ⟨t, 0, none⟩), .int .i64 o, .int .i64 q] w fun e w' => e = .returned (begV A L o q) ∧ TuW W w' t L ∧ Only [] w w' := by
  obtain ⟨m, h⟩ := h
  exact (beg_any A w t m L o q (h.errs hE) h.tu ho).mono fun e w' hh => ⟨hh.1, ⟨m, h.only hh.2⟩, hh.2⟩
theorem TuW.end (h : TuW W w t L) (hE : Err4 W A) {o q : Int} (r : ByteArray) (ho : I64 o) : Calls Tryd.prog 9 #[.pointer (some ⟨t, 0, none⟩), .int .i64 o, .int .i64 q, .string r] w fun e w' => e = .returned (errN A (endT L o q r).1) ∧ TuW W w' t (endT L o q r).2 := by
  obtain ⟨m, h⟩ := h
  exact (tend_any A w t m L o q r (h.errs hE) h.tu ho).mono fun e w' hh => by
    obtain ⟨he, m', h1, h2, h3⟩ := hh
    exact ⟨he, m', h.step h1 h2 h3⟩
theorem TuW.count (h : TuW W w t L) : Calls Tryd.prog 13 #[.pointer (some ⟨t, 0, none⟩)] w fun e w' => e = .returned (.int .i64 (L.length : Nat)) ∧ w = w' := by
  obtain ⟨m, h⟩ := h
  exact tcount_any w t m L h.tu
end
/-! ### turned: a closed fact -/
theorem i64_1 : I64 1 := by unfold I64; rfl
set_option maxRecDepth 100000 in
set_option maxHeartbeats 2000000 in
theorem turned_any (A : Nat → Addr) (w : World) (hE : Err4 w A) : Calls Tryd.prog 5 #[] w fun e w' => e = .returned (.bool true) ∧ Below w.heap.size w w' := by
  have HE : Hid (Err4 w A) := hE
  have hf := TuW.fresh (Below.refl w.heap.size w)
  have hend := hf.end hE (o := 1) (q := 5) ⟨#[120]⟩ i64_1
  have e1 : endT [] 1 5 ⟨#[120]⟩ = (0, [⟨1, 5, ⟨#[120]⟩⟩]) := rfl
  rw [e1] at hend
  have e2 : errN A 0 = .nilIface := rfl
  dsimp only at hend
  rw [e2] at hend
  clear hE hf e1 e2
  go_enter Tryd.func5, Tryd.ntmps5
  go_wp2_with (first
    | (go_at_call 9; refine hend.mono ?_; rintro e w2 ⟨rfl, h2⟩; have hb := h2.beg HE.out (o := 1) (q := 5) i64_1; have e3 : begV A [⟨1, 5, ⟨#[120]⟩⟩] 1 5 = .tuple #[.string ⟨#[120]⟩, .bool true, .nilIface] := (by rfl); rw [e3] at hb; clear hend h2 e3)
    | (go_at_call 6; refine hb.mono ?_; rintro e w3 ⟨rfl, h3, _⟩; have hc := h3.count; have HB : Hid (Below w.heap.size w w3) := h3.below; clear hb h3)
    | (go_at_call 13; refine hc.mono ?_; rintro e w4 ⟨rfl, rfl⟩; clear hc))
  go_ret
  exact ⟨rfl, HB.out⟩
/-! ### both side by side -/
structure TuAct where
  K : ByteArray
  R : ByteArray
  O : Int
  Q : Int
/-- An act's box. -/
def BxT (w : World) (b : Nat) (x : TuAct) : Prop := w.heap[b]? = some (.cells #[.string x.K, .string x.R, .int .i64 x.O, .int .i64 x.Q] 33 (0, 0))
theorem bxT_cells {w : World} {b : Nat} {x : TuAct} (h : BxT w b x) : w.cell? ⟨b, 0, none⟩ = some (.string x.K) ∧ w.cell? ⟨b, 1, none⟩ = some (.string x.R) ∧ w.cell? ⟨b, 2, none⟩ = some (.int .i64 x.O) ∧ w.cell? ⟨b, 3, none⟩ = some (.int .i64 x.Q) := ⟨cell_of_row _ _ 0 _ _ _ h, cell_of_row _ _ 1 _ _ _ h, cell_of_row _ _ 2 _ _ _ h, cell_of_row _ _ 3 _ _ _ h⟩
theorem BxT.only {w w' : World} {b : Nat} {x : TuAct} (h : BxT w b x) (ho : Only [] w w') : BxT w' b x := (ho.block b (Array.getElem?_eq_some_iff.1 h).1 (by simp)).trans h
structure MV (W w : World) (t m : Nat) (mo : Option Nat) (v : Value) (Lp Ld : List Trn) : Prop where
  tv : TuV W w t mo Lp
  rt : RtAt w W.heap.size m v Ld
  hm : W.heap.size ≤ m
def M2 (W w : World) (t m : Nat) (Lp Ld : List Trn) : Prop := ∃ mo v, MV W w t m mo v Lp Ld
section
variable {W w w' : World} {t m b : Nat} {mo : Option Nat} {v : Value} {Lp Ld L : List Trn} {A : Nat → Addr} {x : TuAct}
theorem MV.tm (h : MV W w t m mo v Lp Ld) : t ≠ m := fun e => by
  have h1 := h.tv.tu.tab
  rw [e, h.rt.tab] at h1
  simp at h1
theorem MV.vt (h : MV W w t m mo v Lp Ld) {k : Nat} (hk : v.ownBlock = some k) : k ≠ t ∧ (∀ c, mo = some c → c ≠ k) := by
  obtain ⟨_, _, cur, hc⟩ := own_block h.rt.own hk
  refine ⟨fun e => ?_, fun c hcm => ?_⟩
  · rw [e, h.tv.tu.tab] at hc
    simp at hc
  · obtain ⟨D, h1, _⟩ := h.tv.tu.own c hcm
    exact own_ne_block h1 hc
theorem MV.mm (h : MV W w t m mo v Lp Ld) {c : Nat} (hc : mo = some c) : c ≠ m := by
  obtain ⟨D, h1, _⟩ := h.tv.tu.own c hc
  exact own_ne_block h1 h.rt.tab
theorem MV.box (h : MV W w t m mo v Lp Ld) (hb : BxT w b x) : b ≠ t ∧ b ≠ m ∧ (∀ c, mo = some c → b ≠ c) ∧ (∀ k, v.ownBlock = some k → b ≠ k) := by
  refine ⟨fun e => ?_, fun e => ?_, fun c hc e => ?_, fun k hk e => ?_⟩
  · have h1 := h.tv.tu.tab
    rw [← e, show w.heap[b]? = _ from hb] at h1
    simp at h1
  · have h1 := h.rt.tab
    rw [← e, show w.heap[b]? = _ from hb] at h1
    simp at h1
  · obtain ⟨D, h1, _⟩ := h.tv.tu.own c hc
    exact own_ne_block h1 hb e.symm
  · obtain ⟨_, _, cur, hc⟩ := own_block h.rt.own hk
    rw [← e, show w.heap[b]? = _ from hb] at hc
    simp at hc
theorem M2.only (h : M2 W w t m Lp Ld) (ho : Only [] w w') : M2 W w' t m Lp Ld := by
  obtain ⟨mo, v, h⟩ := h
  exact ⟨mo, v, h.tv.only ho, h.rt.only ho, h.hm⟩
theorem M2.below (h : M2 W w t m Lp Ld) : Below W.heap.size W w := by
  obtain ⟨mo, v, h⟩ := h
  exact h.tv.below
theorem M2.prog {m2 : Option Nat} (h : MV W w t m mo v Lp Ld) (h' : TuAt w' t m2 L) (ho : Only (t :: mo.toList) w w') (hn : ∀ b, m2 = some b → mo = some b ∨ w.heap.size ≤ b) : M2 W w' t m L Ld ∧ ∀ b x, BxT w b x → BxT w' b x := by
  refine ⟨⟨m2, v, h.tv.step h' ho hn, h.rt.kept ho (fun hk => ?_) (fun k hk hkm => ?_), h.hm⟩, fun b x hb => ?_⟩
  · rcases List.mem_cons.1 hk with e | e
    · exact h.tm e.symm
    · exact h.mm (c := m) (by simpa using e) rfl
  · rcases List.mem_cons.1 hkm with e | e
    · exact (h.vt hk).1 e
    · exact (h.vt hk).2 k (by simpa using e) rfl
  · obtain ⟨h1, h2, h3, h4⟩ := h.box hb
    refine (ho.block b (Array.getElem?_eq_some_iff.1 hb).1 (fun hk => ?_)).trans hb
    rcases List.mem_cons.1 hk with e | e
    · exact h1 e
    · exact h3 b (by simpa using e) rfl
theorem M2.doc {v' : Value} (h : MV W w t m mo v Lp Ld) (h' : RtAt w' W.heap.size m v' L) (ho : Only (m :: v.ownBlock.toList) w w') : M2 W w' t m Lp L ∧ ∀ b x, BxT w b x → BxT w' b x := by
  refine ⟨⟨mo, v', ⟨h.tv.tu.kept ho (fun hk => ?_) (fun c hc hk => ?_), h.tv.below.trans (ho.to_below h.tv.below.size (fun k hk => ?_)), h.tv.ht, h.tv.hm⟩, h', h.hm⟩, fun b x hb => ?_⟩
  · rcases List.mem_cons.1 hk with e | e
    · exact h.tm e
    · exact (h.vt (k := t) (by simpa using e)).1 rfl
  · rcases List.mem_cons.1 hk with e | e
    · exact h.mm hc e
    · exact (h.vt (k := c) (by simpa using e)).2 c hc rfl
  · rcases List.mem_cons.1 hk with e | e
    · rw [e]; exact h.hm
    · exact (own_block h.rt.own (b := k) (by simpa using e)).1
  · obtain ⟨h1, h2, h3, h4⟩ := h.box hb
    refine (ho.block b (Array.getElem?_eq_some_iff.1 hb).1 (fun hk => ?_)).trans hb
    rcases List.mem_cons.1 hk with e | e
    · exact h2 e
    · exact h4 b (by simpa using e) rfl
theorem M2.begP (h : M2 W w t m Lp Ld) (hE : Errs W A) {o q : Int} (ho : I64 o) : Calls Tryd.prog 6 #[.pointer (some ⟨t, 0, none⟩), .int .i64 o, .int .i64 q] w fun e w' => e = .returned (begV A Lp o q) ∧ Only [] w w' := by
  obtain ⟨mo, v, h⟩ := h
  exact beg_any A w t mo Lp o q (h.tv.errs hE.four) h.tv.tu ho
theorem M2.begD (h : M2 W w t m Lp Ld) (hi : TInv Ld) {o q : Int} : Calls Tryd.prog 7 #[.pointer (some ⟨m, 0, none⟩), .int .i64 o, .int .i64 q] w fun e w' => e = .returned (rbegV Ld o q) ∧ w = w' := by
  obtain ⟨mo, v, h⟩ := h
  exact rbeg_any w _ m v Ld o q h.rt hi
theorem M2.endP (h : M2 W w t m Lp Ld) (hE : Errs W A) {o q : Int} {r : ByteArray} (ho : I64 o) : Calls Tryd.prog 9 #[.pointer (some ⟨t, 0, none⟩), .int .i64 o, .int .i64 q, .string r] w fun e w' => e = .returned (errN A (endT Lp o q r).1) ∧ M2 W w' t m (endT Lp o q r).2 Ld ∧ ∀ b x, BxT w b x → BxT w' b x := by
  obtain ⟨mo, v, h⟩ := h
  exact (tend_any A w t mo Lp o q r (h.tv.errs hE.four) h.tv.tu ho).mono fun e w' hh => by
    obtain ⟨he, m', h1, h2, h3⟩ := hh
    exact ⟨he, M2.prog h h1 h2 h3⟩
theorem M2.endD (h : M2 W w t m Lp Ld) (hi : TInv Ld) {o q : Int} {r : ByteArray} : Calls Tryd.prog 10 #[.pointer (some ⟨m, 0, none⟩), .int .i64 o, .int .i64 q, .string r] w fun e w' => e = .returned (.int .i64 ((endT Ld o q r).1 : Nat)) ∧ M2 W w' t m Lp (endT Ld o q r).2 ∧ ∀ b x, BxT w b x → BxT w' b x := by
  obtain ⟨mo, v, h⟩ := h
  exact (rend_any w _ m v Ld o q r h.rt hi h.tv.below.size).mono fun e w' hh => by
    obtain ⟨he, v', h1, h2⟩ := hh
    exact ⟨he, M2.doc h h1 h2⟩
theorem M2.dropP (h : M2 W w t m Lp Ld) (hE : Errs W A) {o : Int} (ho : I64 o) : Calls Tryd.prog 11 #[.pointer (some ⟨t, 0, none⟩), .int .i64 o] w fun e w' => e = .returned (errN A (remT Lp o).1) ∧ M2 W w' t m (remT Lp o).2 Ld ∧ ∀ b x, BxT w b x → BxT w' b x := by
  obtain ⟨mo, v, h⟩ := h
  exact (tdrop_any A w t mo Lp o (hE.below h.tv.below (Nat.le_refl _)) h.tv.tu ho).mono fun e w' hh => by
    obtain ⟨he, h1, h2⟩ := hh
    exact ⟨he, M2.prog h h1 h2 (fun b hb => Or.inl hb)⟩
theorem M2.dropD (h : M2 W w t m Lp Ld) (hi : TInv Ld) {o : Int} : Calls Tryd.prog 12 #[.pointer (some ⟨m, 0, none⟩), .int .i64 o] w fun e w' => e = .returned (.int .i64 ((remT Ld o).1 : Nat)) ∧ M2 W w' t m Lp (remT Ld o).2 ∧ ∀ b x, BxT w b x → BxT w' b x := by
  obtain ⟨mo, v, h⟩ := h
  exact (rdrop_any w _ m v Ld o h.rt hi h.tv.below.size).mono fun e w' hh => by
    obtain ⟨he, v', h1, h2⟩ := hh
    exact ⟨he, M2.doc h h1 h2⟩
theorem M2.count (h : M2 W w t m Lp Ld) : Calls Tryd.prog 13 #[.pointer (some ⟨t, 0, none⟩)] w fun e w' => e = .returned (.int .i64 (Lp.length : Nat)) ∧ w = w' := by
  obtain ⟨mo, v, h⟩ := h
  exact tcount_any w t mo Lp h.tv.tu
theorem M2.row (h : M2 W w t m Lp Ld) : ∃ ad cap, w.cell? ⟨m, 0, none⟩ = some (.slice ad Ld.length cap) ∧ m < w.heap.size := by
  obtain ⟨mo, v, h⟩ := h
  obtain ⟨ad, cap, rfl, _⟩ := h.rt.own.form
  exact ⟨ad, cap, h.rt.c0, h.rt.lt⟩
theorem M2.fresh (hb : Below W.heap.size W w) : M2 W ((w.alloc (.cells #[.map none] 27)).alloc (.cells #[.slice none 0 0] 31)) w.heap.size (w.heap.size + 1) [] [] := by
  obtain ⟨mo, h⟩ := TuW.fresh hb
  have ho := (Only.refl [] (w.alloc (.cells #[.map none] 27))).alloc (.cells #[.slice none 0 0] 31)
  have hl := heap_alloc_last (w.alloc (.cells #[.map none] 27)) (.cells #[.slice none 0 0] 31)
  rw [World.size_alloc] at hl
  exact ⟨mo, .slice none 0 0, h.only ho, ⟨hl, Rts.nil _ _⟩, Nat.le_succ_of_le hb.size⟩
end
end Go.Proofs.YtpecfccadhfdhaaDoor
