/- A disk: Flush, Fail, restore, New. -/
import Derived.Test.YtlcloahkeamdkaaDoorDk3
namespace Go.Proofs.YtlcloahkeamdkaaDoor
open Go Go.RowKit Go.Deep

section
variable {w w' : World} {base t : Nat} {pw : Option Nat} {vs vw : Value} {sec : List Sec} {wt : List Wr}
theorem DkAt.emptied (h : DkAt w base t pw vs vw sec wt) : DkAt (w.setCell ⟨t, 3, none⟩ (.slice none 0 0)) base t pw vs (.slice none 0 0) sec [] ∧ Only [t] w (w.setCell ⟨t, 3, none⟩ (.slice none 0 0)) := by
  have ho : Only [t] w (w.setCell ⟨t, 3, none⟩ (.slice none 0 0)) := (Only.refl [t] w).setCell (Or.inl (by simp)) _
  exact ⟨⟨heap_setCell_same w t 3 _ _ _ h.blk, h.tb, ho.owns h.secs (fun k hk => by simpa using h.ne1 hk), World.ownsRow_nil _ _ _ _, fun _ hx => (by cases hx), h.pos, h.most⟩, ho⟩
end
/-! ### Flush -/
def FlushR (A : Nat → Addr) (w w' : World) (base t : Nat) (pw : Option Nat) (vs : Value) (sec : List Sec) (e : Ending) : Prop :=
  (pw = some 0 ∧ e = .returned (sErr A 14) ∧ w' = w) ∨ (pw ≠ some 0 ∧ e = .returned .nilIface ∧ DkAt w' base t (pw.map (· - 1)) vs (.slice none 0 0) sec [] ∧ Only [t] w w')
set_option maxHeartbeats 1000000 in
theorem flush_any (A : Nat → Addr) {w : World} {base t : Nat} {pw : Option Nat} {vs vw : Value} {sec : List Sec} {wt : List Wr} (hE : Err3 w A) (h : DkAt w base t pw vs vw sec wt) (hp : ∀ k, pw = some k → k < 9223372036854775808) :
    Calls Tryd.prog 36 #[.pointer (some ⟨t, 0, none⟩)] w fun e w' => FlushR A w w' base t pw vs sec e := by
  have H : Hid (Calls Tryd.prog 54 #[.pointer (some ⟨t, 0, none⟩)] w fun e w' => SpentR A w w' base t pw vs vw sec wt e) := spend_any A hE h hp
  have hlt := h.lt
  clear hE h hp
  by_cases hz : pw = some 0
  · have H1 : Hid (Calls Tryd.prog 54 #[.pointer (some ⟨t, 0, none⟩)] w fun e w' => e = .returned (.iface 154 (.pointer (some (A 14)))) ∧ w' = w) := H.out.mono fun e w' q => by
      rcases q with q | q
      · exact q.2
      · exact absurd hz q.1
    clear H
    go_enter Tryd.func36, Tryd.ntmps36
    go_wp2_with (go_at_call 54; refine H1.out.mono ?_; rintro e w1 ⟨rfl, rfl⟩)
    go_ret
    exact Or.inl ⟨hz, rfl, rfl⟩
  · have H1 : Hid (Calls Tryd.prog 54 #[.pointer (some ⟨t, 0, none⟩)] w fun e w' => e = .returned .nilIface ∧ DkAt w' base t (pw.map (· - 1)) vs vw sec wt ∧ Only [t] w w') := H.out.mono fun e w' q => by
      rcases q with q | q
      · exact absurd q.1 hz
      · exact q.2
    clear H
    go_enter Tryd.func36, Tryd.ntmps36
    go_wp2_with (go_at_call 54; refine H1.out.mono ?_; rintro e w1 ⟨rfl, hd, ho⟩; have hlt1 := hd.lt; have c3 := hd.cells.2.2.2.1; have f3 := hd.cells.2.2.2.2 3; have HD : Hid (DkAt w1 base t (pw.map (· - 1)) vs vw sec wt) := hd; have HO : Hid (Only [t] w w1) := ho; obtain ⟨ad3, cap3, rfl⟩ := own_slice hd.wts; clear hd ho)
    go_ret
    exact Or.inr ⟨hz, rfl, HD.out.emptied.1, HO.out.trans HD.out.emptied.2 (fun _ h => Or.inl h)⟩
/-! ### Fail -/
def FailR (A : Nat → Addr) (w w' : World) (base t : Nat) (vs vw : Value) (sec : List Sec) (wt : List Wr) (n : Int) (e : Ending) : Prop :=
  (n < 0 ∧ e = .returned (sErr A 1) ∧ w' = w) ∨ (0 ≤ n ∧ e = .returned .nilIface ∧ DkAt w' base t (some n.toNat) vs vw sec wt ∧ Only [t] w w')
set_option maxHeartbeats 1000000 in
theorem lasts_any (A : Nat → Addr) {w : World} {base t : Nat} {pw : Option Nat} {vs vw : Value} {sec : List Sec} {wt : List Wr} (hE : Err3 w A) (h : DkAt w base t pw vs vw sec wt) (n : Int) :
    Calls Tryd.prog 34 #[.pointer (some ⟨t, 0, none⟩), .int .i64 n] w fun e w' => FailR A w w' base t vs vw sec wt n e := by
  obtain ⟨c0, c1, _, _, fz⟩ := h.cells
  have f0 := fz 0
  have f1 := fz 1
  have hlt := h.lt
  have HD : Hid (DkAt w base t pw vs vw sec wt) := h
  have ce : w.cell? ⟨0, 0, none⟩ = some (.iface 154 (.pointer (some (A 1)))) := hE 1 (by simp)
  clear hE h fz
  by_cases hn : n < 0
  · have d0 : decide (n < 0) = true := decide_eq_true hn
    go_enter Tryd.func34, Tryd.ntmps34
    go_wp2
    go_ret
    exact Or.inl ⟨hn, rfl, rfl⟩
  · have d0 : decide (n < 0) = false := decide_eq_false hn
    go_enter Tryd.func34, Tryd.ntmps34
    go_wp2
    go_ret
    have ho : Only [t] w ((w.setCell ⟨t, 0, none⟩ (.bool true)).setCell ⟨t, 1, none⟩ (.int .i64 n)) := ((Only.refl [t] w).setCell (Or.inl (by simp)) _).setCell (Or.inl (by simp)) _
    refine Or.inr ⟨by omega, rfl, HD.out.reblk ho ?_, ho⟩
    rw [heap_setCell_same _ t 1 _ _ _ (heap_setCell_same w t 0 _ _ _ HD.out.blk)]
    have e1 : ((n.toNat : Nat) : Int) = n := by omega
    simp only [Option.getD, e1]
    simp
set_option maxHeartbeats 1000000 in
theorem fail_any (A : Nat → Addr) {w : World} {base t : Nat} {pw : Option Nat} {vs vw : Value} {sec : List Sec} {wt : List Wr} (hE : Err3 w A) (h : DkAt w base t pw vs vw sec wt) (n : Int) :
    Calls Tryd.prog 17 #[.pointer (some ⟨t, 0, none⟩), .int .i64 n] w fun e w' => FailR A w w' base t vs vw sec wt n e := by
  have H := lasts_any A hE h n
  have hlt := h.lt
  clear hE h
  have H1 : Hid (Calls Tryd.prog 34 #[.pointer (some ⟨t, 0, none⟩), .int .i64 n] w fun e w' => ∃ v, e = .returned v ∧ FailR A w w' base t vs vw sec wt n (.returned v)) := H.mono fun e w' q => by
    rcases q with ⟨h1, rfl, h2⟩ | ⟨h1, rfl, h2⟩
    · exact ⟨_, rfl, Or.inl ⟨h1, rfl, h2⟩⟩
    · exact ⟨_, rfl, Or.inr ⟨h1, rfl, h2⟩⟩
  clear H
  go_enter Tryd.func17, Tryd.ntmps17
  go_wp2_with (go_at_call 34; refine H1.out.mono ?_; rintro e w1 ⟨v, rfl, hr⟩; have HR : Hid (FailR A w w1 base t vs vw sec wt n (.returned v)) := hr; clear hr)
  go_ret
  exact HR.out
/-! ### restore -/
set_option maxHeartbeats 1000000 in
theorem restore_ok {w : World} {base t : Nat} {pw : Option Nat} {vs vw : Value} {sec : List Sec} {wt : List Wr} (h : DkAt w base t pw vs vw sec wt) :
    Calls Tryd.prog 33 #[.pointer (some ⟨t, 0, none⟩)] w fun e w' => (∃ v, e = .returned v) ∧ DkAt w' base t none vs vw sec wt ∧ Only [t] w w' := by
  obtain ⟨c0, c1, _, _, fz⟩ := h.cells
  have f0 := fz 0
  have f1 := fz 1
  have hlt := h.lt
  have HD : Hid (DkAt w base t pw vs vw sec wt) := h
  clear h fz
  go_enter Tryd.func33, Tryd.ntmps33
  go_wp2
  go_end0
  have ho : Only [t] w ((w.setCell ⟨t, 0, none⟩ (.bool false)).setCell ⟨t, 1, none⟩ (.int .i64 0)) := ((Only.refl [t] w).setCell (Or.inl (by simp)) _).setCell (Or.inl (by simp)) _
  refine ⟨⟨_, rfl⟩, HD.out.reblk ho ?_, ho⟩
  rw [heap_setCell_same _ t 1 _ _ _ (heap_setCell_same w t 0 _ _ _ HD.out.blk)]
  simp
/-! ### New -/
theorem rep_row (n : Nat) : rowOf secC (List.replicate n zeroS) = List.replicate (n * 64) (.int .u8 0) := by
  induction n with
  | zero => rfl
  | succ n ih =>
    have h : secC zeroS = List.replicate 64 (.int .u8 0) := by simp [secC, zeroS, Lib.byteCells]
    rw [List.replicate_succ, rowOf, ih, h, List.replicate_append_replicate, Nat.add_mul]
    congr 1
    omega
theorem made_rep (m k : Nat) (v : Value) (hm : 0 < m) : (madeCells (List.replicate m v).toArray k).toList = List.replicate k v := by
  apply List.ext_getElem
  · simp [madeCells]
  · intro i h1 h2
    have h3 : i % m < m := Nat.mod_lt _ hm
    simp [madeCells, h3]
theorem made_row (n : Nat) : (madeCells (Value.agg (secC zeroS).toArray).cells (n * 64)).toList = rowOf secC (List.replicate n zeroS) := by
  rw [rep_row, ← made_rep 64 (n * 64) (.int .u8 0) (by decide)]
  rfl
set_option maxHeartbeats 1000000 in
theorem dnew_bad (A : Nat → Addr) (w : World) (n : Int) (hE : Err3 w A) (h : n < 1 ∨ 4000 < n) : Calls Tryd.prog 8 #[.int .i64 n] w fun e w' => e = .returned (.tuple #[.pointer none, sErr A 1]) ∧ Only [] w w' := by
  have c1 : w.cell? ⟨0, 0, none⟩ = some (.iface 154 (.pointer (some (A 1)))) := hE 1 (by simp)
  unfold sErr
  clear hE
  by_cases h1 : n < 1
  · have d0 : decide (n < 1) = true := decide_eq_true h1
    clear h
    go_enter Tryd.func8, Tryd.ntmps8
    go_wp2
    go_region
    all_goals go_wp2
    all_goals go_ret2
    all_goals exact ⟨rfl, (Only.refl _ _).drew⟩
  · have d0 : decide (n < 1) = false := decide_eq_false h1
    have d1 : decide (4000 < n) = true := decide_eq_true (by omega)
    clear h
    go_enter Tryd.func8, Tryd.ntmps8
    go_wp2
    go_region
    all_goals go_wp2
    all_goals go_ret2
    all_goals exact ⟨rfl, (Only.refl _ _).drew⟩
set_option maxHeartbeats 1000000 in
theorem dnew_ok (w : World) (n : Nat) (h1 : 1 ≤ n) (h2 : n ≤ 4000) : Calls Tryd.prog 8 #[.int .i64 (n : Nat)] w fun e w' => ∃ t vs, e = .returned (.tuple #[.pointer (some ⟨t, 0, none⟩), .nilIface]) ∧ DkAt w' w.heap.size t none vs (.slice none 0 0) (List.replicate n zeroS) [] ∧ Only [] w w' := by
  obtain ⟨i, hi, hz⟩ := Option.map_eq_some_iff.1 secInfo
  simp only [Prod.mk.injEq] at hz
  obtain ⟨z0, z1, z2⟩ := hz
  have hmk := run_make (P := Tryd.prog) w 55 81 i _ secsUnd hi z0 .i64 .i64 n n (by omega) (Int.le_refl _) (by rw [z2]; omega) (by omega)
  rw [z1] at hmk
  simp only [Int.toNat_natCast] at hmk
  have hrow := made_row n
  generalize madeCells (Value.agg (secC zeroS).toArray).cells (n * 64) = C at hmk hrow
  have d0 : decide ((n : Int) < 1) = false := decide_eq_false (by omega)
  have d1 : decide ((4000 : Int) < n) = false := decide_eq_false (by omega)
  clear hi z0 z1 z2
  go_enter Tryd.func8, Tryd.ntmps8
  go_wp2
  go_ret2
  have hb := heap_alloc_last (w.alloc (.cells C 81)) (.cells #[.bool false, .int .i64 0, .slice (some ⟨w.heap.size, 0, none⟩) n n, .slice none 0 0] 60)
  have hr := (Below.heap_alloc (w.alloc (.cells C 81)) (.cells #[.bool false, .int .i64 0, .slice (some ⟨w.heap.size, 0, none⟩) n n, .slice none 0 0] 60) w.heap.size (by simp)).trans (heap_alloc_last w _)
  rw [World.size_alloc] at hb
  refine ⟨_, _, rfl, ⟨hb, by simp, ⟨?_, Or.inr ⟨w.heap.size, n, C, by simp, Nat.le_refl _, hr, by simp, ?_, ?_, ?_⟩⟩, World.ownsRow_nil _ _ _ _, fun _ hx => (by cases hx), by simpa using h1, by simpa using h2⟩, ((Only.refl _ _).alloc _).alloc _⟩
  · rw [rowOf_len secC_len]
  · unfold maxLen; omega
  · rw [← Array.length_toList, hrow, rowOf_len secC_len]; simp
  · rw [hrow, List.take_of_length_le (by rw [rowOf_len secC_len]; exact Nat.le_refl _)]
end Go.Proofs.YtlcloahkeamdkaaDoor
