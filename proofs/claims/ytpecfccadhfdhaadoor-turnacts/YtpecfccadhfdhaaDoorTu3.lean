/- Turns: Begin. -/
import Derived.Test.YtpecfccadhfdhaaDoorTu2
import Derived.Test.YtpecfccadhfdhaaDoorE3
namespace Go.Proofs.YtpecfccadhfdhaaDoor
open Go Go.RowKit Go.Deep Go.Maps

def sErr (A : Nat → Addr) (k : Nat) : Value := .iface 93 (.pointer (some (A k)))
def errN (A : Nat → Addr) (c : Nat) : Value := if c = 0 then .nilIface else sErr A (c - 1)
/-- The errors that turns tell of lie in memory. -/
def Err4 (W : World) (A : Nat → Addr) : Prop := ∀ k, k ∈ [1, 8, 11] → W.cell? ⟨gOf k, 0, none⟩ = some (.iface 93 (.pointer (some (A k))))
theorem Err4.below {W w : World} {A : Nat → Addr} (h : Err4 W A) (hb : Below W.heap.size W w) : Err4 w A := fun k hk => (hb.cell (p := ⟨gOf k, 0, none⟩) (lt_of_cell (h k hk))).trans (h k hk)
theorem Errs.four {W : World} {A : Nat → Addr} (h : Errs W A) : Err4 W A := fun k hk => h.cell k (by simp at hk; omega)
/-- What Begin answers. -/
def begV (A : Nat → Addr) (L : List Trn) (o q : Int) : Value := .tuple #[.string (begT L o q).2.2, .bool (begT L o q).2.1, errN A (begT L o q).1]
theorem begV_bad (A : Nat → Addr) {L : List Trn} {o q : Int} (h : q < 0 ∨ 4294967295 < q) : begV A L o q = .tuple #[.string ⟨#[]⟩, .bool false, sErr A 1] := by
  unfold begV begT
  rw [if_pos h]
  rfl
theorem begV_full (A : Nat → Addr) {L : List Trn} {o q : Int} (h : ¬ (q < 0 ∨ 4294967295 < q)) (hf : findT L o = none) (hl : 30 ≤ L.length) : begV A L o q = .tuple #[.string ⟨#[]⟩, .bool false, sErr A 8] := by
  unfold begV begT
  rw [if_neg h, hf]
  simp only [hl, if_true]
  rfl
theorem begV_new (A : Nat → Addr) {L : List Trn} {o q : Int} (h : ¬ (q < 0 ∨ 4294967295 < q)) (hf : findT L o = none) (hl : ¬ 30 ≤ L.length) : begV A L o q = .tuple #[.string ⟨#[]⟩, .bool false, .nilIface] := by
  unfold begV begT
  rw [if_neg h, hf]
  simp only [hl, if_false]
  rfl
theorem begV_again (A : Nat → Addr) {L : List Trn} {o q : Int} {x : Trn} (h : ¬ (q < 0 ∨ 4294967295 < q)) (hf : findT L o = some x) (hq : q = (x.q : Int)) : begV A L o q = .tuple #[.string x.r, .bool true, .nilIface] := by
  unfold begV begT
  rw [if_neg h, hf]
  simp only [hq, if_true]
  rfl
theorem begV_next (A : Nat → Addr) {L : List Trn} {o q : Int} {x : Trn} (h : ¬ (q < 0 ∨ 4294967295 < q)) (hf : findT L o = some x) (hq : ¬ q = (x.q : Int)) (hn : q = (nextT x.q : Int)) : begV A L o q = .tuple #[.string ⟨#[]⟩, .bool false, .nilIface] := by
  unfold begV begT
  rw [if_neg h, hf]
  simp only [hn, if_true]
  rw [if_neg (by rw [← hn]; exact hq)]
  rfl
theorem begV_seq (A : Nat → Addr) {L : List Trn} {o q : Int} {x : Trn} (h : ¬ (q < 0 ∨ 4294967295 < q)) (hf : findT L o = some x) (hq : ¬ q = (x.q : Int)) (hn : ¬ q = (nextT x.q : Int)) : begV A L o q = .tuple #[.string ⟨#[]⟩, .bool false, sErr A 11] := by
  unfold begV begT
  rw [if_neg h, hf]
  simp only [hq, hn, if_false]
  rfl
set_option maxRecDepth 100000 in
set_option maxHeartbeats 2000000 in
theorem beg_neg (A : Nat → Addr) (w : World) (t : Nat) (L : List Trn) (o q : Int) (hE : Err4 w A) (hq : q < 0) :
    Calls Tryd.prog 6 #[.pointer (some ⟨t, 0, none⟩), .int .i64 o, .int .i64 q] w fun e w' => e = .returned (begV A L o q) ∧ Only [] w w' := by
  rw [begV_bad A (Or.inl hq)]
  have c1 : w.cell? ⟨0, 0, none⟩ = some (.iface 93 (.pointer (some (A 1)))) := hE 1 (by simp)
  have d0 : decide (q < 0) = true := decide_eq_true hq
  have d1 : decide (4294967295 < q) = false := decide_eq_false (by omega)
  unfold sErr
  clear hE
  go_enter Tryd.func6, Tryd.ntmps6
  go_wp2
  go_region
  all_goals go_wp2
  all_goals go_ret3
  all_goals exact ⟨rfl, (Only.refl _ _).drew⟩
set_option maxRecDepth 100000 in
set_option maxHeartbeats 2000000 in
theorem beg_big (A : Nat → Addr) (w : World) (t : Nat) (L : List Trn) (o q : Int) (hE : Err4 w A) (hq : 4294967295 < q) :
    Calls Tryd.prog 6 #[.pointer (some ⟨t, 0, none⟩), .int .i64 o, .int .i64 q] w fun e w' => e = .returned (begV A L o q) ∧ Only [] w w' := by
  rw [begV_bad A (Or.inr hq)]
  have c1 : w.cell? ⟨0, 0, none⟩ = some (.iface 93 (.pointer (some (A 1)))) := hE 1 (by simp)
  have d0 : decide (q < 0) = false := decide_eq_false (by omega)
  have d1 : decide (4294967295 < q) = true := decide_eq_true hq
  unfold sErr
  clear hE
  go_enter Tryd.func6, Tryd.ntmps6
  go_wp2
  go_region
  all_goals go_wp2
  all_goals go_ret3
  all_goals exact ⟨rfl, (Only.refl _ _).drew⟩
set_option maxRecDepth 100000 in
set_option maxHeartbeats 2000000 in
theorem beg_full (A : Nat → Addr) (w : World) (t : Nat) (m : Option Nat) (L : List Trn) (o q : Int) (hE : Err4 w A) (h : TuAt w t m L) (ho : I64 o) (hq : ¬ (q < 0 ∨ 4294967295 < q)) (hf : findT L o = none) (hl : 30 ≤ L.length) :
    Calls Tryd.prog 6 #[.pointer (some ⟨t, 0, none⟩), .int .i64 o, .int .i64 q] w fun e w' => e = .returned (begV A L o q) ∧ Only [] w w' := by
  rw [begV_full A hq hf hl]
  have c0 := h.c0
  have hlk := h.look ho
  have o1 : Only [] w (w.alloc (.cells #[.int .i64 0, .string ⟨#[]⟩] 50)) := (Only.refl _ _).alloc _
  have HO : Hid (Only [] w (w.alloc (.cells #[.int .i64 0, .string ⟨#[]⟩] 50))) := o1
  have c2 := (h.only o1).c0
  have hct := (h.only o1).count 3
  have htl := h.lt
  unfold lastV at hlk
  rw [hf] at hlk
  have d0 : decide (q < 0) = false := decide_eq_false (by omega)
  have d1 : decide (4294967295 < q) = false := decide_eq_false (by omega)
  have d2 : decide (30 ≤ (L.length : Int)) = true := decide_eq_true (by omega)
  have c8 : w.cell? ⟨1, 0, none⟩ = some (.iface 93 (.pointer (some (A 8)))) := hE 8 (by simp)
  have c9 := (o1.cell (lt_of_cell c8) (by simp)).trans c8
  unfold sErr
  clear hE h o1 hf c8
  go_enter Tryd.func6, Tryd.ntmps6
  go_wp2
  go_region
  all_goals go_wp2
  all_goals go_ret3
  all_goals exact ⟨rfl, HO.out.drew⟩
set_option maxRecDepth 100000 in
set_option maxHeartbeats 2000000 in
theorem beg_new (A : Nat → Addr) (w : World) (t : Nat) (m : Option Nat) (L : List Trn) (o q : Int) (h : TuAt w t m L) (ho : I64 o) (hq : ¬ (q < 0 ∨ 4294967295 < q)) (hf : findT L o = none) (hl : ¬ 30 ≤ L.length) :
    Calls Tryd.prog 6 #[.pointer (some ⟨t, 0, none⟩), .int .i64 o, .int .i64 q] w fun e w' => e = .returned (begV A L o q) ∧ Only [] w w' := by
  rw [begV_new A hq hf hl]
  have c0 := h.c0
  have hlk := h.look ho
  have o1 : Only [] w (w.alloc (.cells #[.int .i64 0, .string ⟨#[]⟩] 50)) := (Only.refl _ _).alloc _
  have HO : Hid (Only [] w (w.alloc (.cells #[.int .i64 0, .string ⟨#[]⟩] 50))) := o1
  have c2 := (h.only o1).c0
  have hct := (h.only o1).count 3
  have htl := h.lt
  unfold lastV at hlk
  rw [hf] at hlk
  have d0 : decide (q < 0) = false := decide_eq_false (by omega)
  have d1 : decide (4294967295 < q) = false := decide_eq_false (by omega)
  have d2 : decide (30 ≤ (L.length : Int)) = false := decide_eq_false (by omega)
  clear h o1 hf
  go_enter Tryd.func6, Tryd.ntmps6
  go_wp2
  go_ret3
  exact ⟨rfl, HO.out⟩
set_option maxRecDepth 100000 in
set_option maxHeartbeats 2000000 in
theorem beg_again (A : Nat → Addr) (w : World) (t : Nat) (m : Option Nat) (L : List Trn) (o q : Int) (h : TuAt w t m L) (ho : I64 o) (x : Trn) (hq : ¬ (q < 0 ∨ 4294967295 < q)) (hf : findT L o = some x) (he : q = (x.q : Int)) :
    Calls Tryd.prog 6 #[.pointer (some ⟨t, 0, none⟩), .int .i64 o, .int .i64 q] w fun e w' => e = .returned (begV A L o q) ∧ Only [] w w' := by
  rw [begV_again A hq hf he]
  have c0 := h.c0
  have hlk := h.look ho
  have o1 : Only [] w (w.alloc (.cells #[.int .i64 (x.q : Nat), .string x.r] 50)) := (Only.refl _ _).alloc _
  have HO : Hid (Only [] w (w.alloc (.cells #[.int .i64 (x.q : Nat), .string x.r] 50))) := o1
  have c2 := (h.only o1).c0
  have hct := (h.only o1).count 3
  have htl := h.lt
  unfold lastV at hlk
  rw [hf] at hlk
  have d0 : decide (q < 0) = false := decide_eq_false (by omega)
  have d1 : decide (4294967295 < q) = false := decide_eq_false (by omega)
  subst he
  clear h o1 hf
  go_enter Tryd.func6, Tryd.ntmps6
  go_wp2
  go_ret3
  exact ⟨rfl, HO.out⟩
set_option maxRecDepth 100000 in
set_option maxHeartbeats 2000000 in
theorem beg_next (A : Nat → Addr) (w : World) (t : Nat) (m : Option Nat) (L : List Trn) (o q : Int) (h : TuAt w t m L) (ho : I64 o) (x : Trn) (hq : ¬ (q < 0 ∨ 4294967295 < q)) (hf : findT L o = some x) (he : ¬ q = (x.q : Int)) (hn : q = (nextT x.q : Int)) :
    Calls Tryd.prog 6 #[.pointer (some ⟨t, 0, none⟩), .int .i64 o, .int .i64 q] w fun e w' => e = .returned (begV A L o q) ∧ Only [] w w' := by
  rw [begV_next A hq hf he hn]
  have c0 := h.c0
  have hlk := h.look ho
  have o1 : Only [] w (w.alloc (.cells #[.int .i64 (x.q : Nat), .string x.r] 50)) := (Only.refl _ _).alloc _
  have HO : Hid (Only [] w (w.alloc (.cells #[.int .i64 (x.q : Nat), .string x.r] 50))) := o1
  have c2 := (h.only o1).c0
  have hct := (h.only o1).count 3
  have htl := h.lt
  unfold lastV at hlk
  rw [hf] at hlk
  have d0 : decide (q < 0) = false := decide_eq_false (by omega)
  have d1 : decide (4294967295 < q) = false := decide_eq_false (by omega)
  have e1 : (q == (x.q : Int)) = false := beq_eq_false_iff_ne.2 he
  have e2 : (q != (nextT x.q : Int)) = false := by rw [hn]; simp
  have hx := next_any (w.alloc (.cells #[.int .i64 (x.q : Nat), .string x.r] 50)) x.q (h.inv.seq x (findT_mem hf).1)
  clear h o1 hf he hn
  go_enter Tryd.func6, Tryd.ntmps6
  go_wp2_with (go_at_call 15; refine hx.mono ?_; rintro e w2 ⟨rfl, rfl⟩)
  go_ret3
  exact ⟨rfl, HO.out⟩
set_option maxRecDepth 100000 in
set_option maxHeartbeats 2000000 in
theorem beg_seq (A : Nat → Addr) (w : World) (t : Nat) (m : Option Nat) (L : List Trn) (o q : Int) (hE : Err4 w A) (h : TuAt w t m L) (ho : I64 o) (x : Trn) (hq : ¬ (q < 0 ∨ 4294967295 < q)) (hf : findT L o = some x) (he : ¬ q = (x.q : Int)) (hn : ¬ q = (nextT x.q : Int)) :
    Calls Tryd.prog 6 #[.pointer (some ⟨t, 0, none⟩), .int .i64 o, .int .i64 q] w fun e w' => e = .returned (begV A L o q) ∧ Only [] w w' := by
  rw [begV_seq A hq hf he hn]
  have c0 := h.c0
  have hlk := h.look ho
  have o1 : Only [] w (w.alloc (.cells #[.int .i64 (x.q : Nat), .string x.r] 50)) := (Only.refl _ _).alloc _
  have HO : Hid (Only [] w (w.alloc (.cells #[.int .i64 (x.q : Nat), .string x.r] 50))) := o1
  have c2 := (h.only o1).c0
  have hct := (h.only o1).count 3
  have htl := h.lt
  unfold lastV at hlk
  rw [hf] at hlk
  have d0 : decide (q < 0) = false := decide_eq_false (by omega)
  have d1 : decide (4294967295 < q) = false := decide_eq_false (by omega)
  have e1 : (q == (x.q : Int)) = false := beq_eq_false_iff_ne.2 he
  have e2 : (q != (nextT x.q : Int)) = true := by simpa using hn
  have hx := next_any (w.alloc (.cells #[.int .i64 (x.q : Nat), .string x.r] 50)) x.q (h.inv.seq x (findT_mem hf).1)
  have c8 : w.cell? ⟨2, 0, none⟩ = some (.iface 93 (.pointer (some (A 11)))) := hE 11 (by simp)
  have c9 := (o1.cell (lt_of_cell c8) (by simp)).trans c8
  unfold sErr
  clear hE h o1 hf he hn c8
  go_enter Tryd.func6, Tryd.ntmps6
  go_wp2_with (go_at_call 15; refine hx.mono ?_; rintro e w2 ⟨rfl, rfl⟩)
  go_region
  all_goals go_wp2
  all_goals go_ret3
  all_goals exact ⟨rfl, HO.out.drew⟩
theorem beg_any (A : Nat → Addr) (w : World) (t : Nat) (m : Option Nat) (L : List Trn) (o q : Int) (hE : Err4 w A) (h : TuAt w t m L) (ho : I64 o) : Calls Tryd.prog 6 #[.pointer (some ⟨t, 0, none⟩), .int .i64 o, .int .i64 q] w fun e w' => e = .returned (begV A L o q) ∧ Only [] w w' := by
  by_cases h1 : q < 0
  · exact beg_neg A w t L o q hE h1
  by_cases h2 : 4294967295 < q
  · exact beg_big A w t L o q hE h2
  have hq : ¬ (q < 0 ∨ 4294967295 < q) := by omega
  cases hf : findT L o with
  | none =>
    by_cases hl : 30 ≤ L.length
    · exact beg_full A w t m L o q hE h ho hq hf hl
    · exact beg_new A w t m L o q h ho hq hf hl
  | some x =>
    by_cases he : q = (x.q : Int)
    · exact beg_again A w t m L o q h ho x hq hf he
    · by_cases hn : q = (nextT x.q : Int)
      · exact beg_next A w t m L o q h ho x hq hf he hn
      · exact beg_seq A w t m L o q hE h ho x hq hf he hn
end Go.Proofs.YtpecfccadhfdhaaDoor
