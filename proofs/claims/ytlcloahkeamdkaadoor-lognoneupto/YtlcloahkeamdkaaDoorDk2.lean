/- A disk of the program's in memory; its power, its small functions. -/
import Derived.Test.YtlcloahkeamdkaaDoorDk1
import Derived.Test.YtlcloahkeamdkaaDoorEr
import Derived.Test.YtlcloahkeamdkaaDoorMath
namespace Go.Proofs.YtlcloahkeamdkaaDoor
open Go Go.RowKit Go.Deep

/-- The errors that a disk tells of lie in memory. -/
def Err3 (W : World) (A : Nat → Addr) : Prop := ∀ k, k ∈ [1, 2, 14] → W.cell? ⟨gOf k, 0, none⟩ = some (.iface 154 (.pointer (some (A k))))
theorem Err3.below {W w : World} {A : Nat → Addr} (h : Err3 W A) {B : Nat} (hb : Below B W w) (hB : W.heap.size ≤ B) : Err3 w A := fun k hk => (hb.cell (p := ⟨gOf k, 0, none⟩) (Nat.lt_of_lt_of_le (lt_of_cell (h k hk)) hB)).trans (h k hk)
theorem Errs.three {W : World} {A : Nat → Addr} (h : Errs W A) : Err3 W A := fun k hk => h.cell k (by simp at hk; omega)
/-- A disk. -/
structure DkAt (w : World) (base t : Nat) (pw : Option Nat) (vs vw : Value) (sec : List Sec) (wt : List Wr) : Prop where
  blk : w.heap[t]? = some (.cells #[.bool pw.isSome, .int .i64 (pw.getD 0 : Nat), vs, vw] 60 (0, 0))
  tb : base ≤ t
  secs : w.ownsRow base 81 64 vs sec.length (rowOf secC sec)
  wts : w.ownsRow base 83 129 vw wt.length (rowOf wrC wt)
  ins : ∀ x ∈ wt, x.n < sec.length
  pos : 1 ≤ sec.length
  most : sec.length ≤ 4000
def dkFoot (t : Nat) (vs vw : Value) : List Nat := t :: (vs.ownBlock.toList ++ vw.ownBlock.toList)
theorem mem_foot {t : Nat} {vs vw : Value} {k : Nat} : k ∈ dkFoot t vs vw ↔ k = t ∨ vs.ownBlock = some k ∨ vw.ownBlock = some k := by
  simp [dkFoot, Option.mem_toList]
theorem own_blk {w : World} {base : Nat} {e : TypeId} {k n b : Nat} {v : Value} {xs : List Value} (h : w.ownsRow base e k v n xs) (hb : v.ownBlock = some b) : base ≤ b ∧ b < w.heap.size ∧ ∃ cur, w.heap[b]? = some (.cells cur e (0, 0)) := by
  rcases h.2 with ⟨rfl, _⟩ | ⟨g, cap, cur, rfl, h2, h3, _⟩
  · cases hb
  · cases hb
    exact ⟨h2, (Array.getElem?_eq_some_iff.1 h3).1, cur, h3⟩
section
variable {w w' : World} {base t : Nat} {pw : Option Nat} {vs vw : Value} {sec : List Sec} {wt : List Wr}
theorem DkAt.lt (h : DkAt w base t pw vs vw sec wt) : t < w.heap.size := (Array.getElem?_eq_some_iff.1 h.blk).1
theorem DkAt.ne1 (h : DkAt w base t pw vs vw sec wt) {k : Nat} (hk : vs.ownBlock = some k) : k ≠ t := fun e => by
  obtain ⟨_, _, cur, hc⟩ := own_blk h.secs hk
  rw [e, h.blk] at hc
  simp at hc
theorem DkAt.ne2 (h : DkAt w base t pw vs vw sec wt) {k : Nat} (hk : vw.ownBlock = some k) : k ≠ t := fun e => by
  obtain ⟨_, _, cur, hc⟩ := own_blk h.wts hk
  rw [e, h.blk] at hc
  simp at hc
theorem DkAt.ne3 (h : DkAt w base t pw vs vw sec wt) {k j : Nat} (hk : vs.ownBlock = some k) (hj : vw.ownBlock = some j) : k ≠ j := fun e => by
  obtain ⟨_, _, cur, hc⟩ := own_blk h.secs hk
  obtain ⟨_, _, cur', hc'⟩ := own_blk h.wts hj
  rw [e, hc'] at hc
  simp at hc
theorem DkAt.only (h : DkAt w base t pw vs vw sec wt) {L : List Nat} (ho : Only L w w') (hd : ∀ k ∈ dkFoot t vs vw, k ∉ L) : DkAt w' base t pw vs vw sec wt :=
  ⟨(ho.block t h.lt (hd t (mem_foot.2 (Or.inl rfl)))).trans h.blk, h.tb, ho.owns h.secs (fun k hk => hd k (mem_foot.2 (Or.inr (Or.inl hk)))), ho.owns h.wts (fun k hk => hd k (mem_foot.2 (Or.inr (Or.inr hk)))), h.ins, h.pos, h.most⟩
theorem DkAt.keep (h : DkAt w base t pw vs vw sec wt) (ho : Only [] w w') : DkAt w' base t pw vs vw sec wt := h.only ho (fun _ _ => by simp)
/-- Sectors lie somewhere. -/
theorem DkAt.row (h : DkAt w base t pw vs vw sec wt) : ∃ g cap cur, vs = .slice (some ⟨g, 0, none⟩) sec.length cap ∧ base ≤ g ∧ w.heap[g]? = some (.cells cur 81 (0, 0)) ∧ sec.length ≤ cap ∧ cur.size = cap * 64 ∧ sec.length ≤ cap := by
  have hp := h.pos
  rcases h.secs.2 with ⟨_, h2⟩ | ⟨g, cap, cur, e, h2, h3, h4, _, h5, _⟩
  · omega
  · exact ⟨g, cap, cur, e, h2, h3, h4, h5, h4⟩
theorem DkAt.cells (h : DkAt w base t pw vs vw sec wt) : w.cell? ⟨t, 0, none⟩ = some (.bool pw.isSome) ∧ w.cell? ⟨t, 1, none⟩ = some (.int .i64 (pw.getD 0 : Nat)) ∧ w.cell? ⟨t, 2, none⟩ = some vs ∧ w.cell? ⟨t, 3, none⟩ = some vw ∧ (∀ o, w.frozen? ⟨t, o, none⟩ = false) :=
  ⟨cell_of_row _ _ 0 _ _ _ h.blk, cell_of_row _ _ 1 _ _ _ h.blk, cell_of_row _ _ 2 _ _ _ h.blk, cell_of_row _ _ 3 _ _ _ h.blk, fun _ => frozen_of_row _ _ _ _ _ h.blk⟩
theorem DkAt.reblk (h : DkAt w base t pw vs vw sec wt) {pw' : Option Nat} (ho : Only [t] w w') (hb : w'.heap[t]? = some (.cells #[.bool pw'.isSome, .int .i64 (pw'.getD 0 : Nat), vs, vw] 60 (0, 0))) : DkAt w' base t pw' vs vw sec wt :=
  ⟨hb, h.tb, ho.owns h.secs (fun k hk => by simpa using h.ne1 hk), ho.owns h.wts (fun k hk => by simpa using h.ne2 hk), h.ins, h.pos, h.most⟩
end
/-! ### has, Sectors, Waiting -/
set_option maxHeartbeats 1000000 in
theorem has_any {w : World} {base t : Nat} {pw : Option Nat} {vs vw : Value} {sec : List Sec} {wt : List Wr} (h : DkAt w base t pw vs vw sec wt) (n : Int) :
    Calls Tryd.prog 53 #[.pointer (some ⟨t, 0, none⟩), .int .i64 n] w fun e w' => e = .returned (.bool (decide (0 ≤ n ∧ n < sec.length))) ∧ w' = w := by
  obtain ⟨g, cap, cur, rfl, _⟩ := h.row
  have c2 := h.cells.2.2.1
  have hlt := h.lt
  clear h
  by_cases h0 : 0 ≤ n
  · have d0 : decide (0 ≤ n) = true := decide_eq_true h0
    have e1 : decide (0 ≤ n ∧ n < sec.length) = decide (n < sec.length) := by simp [h0]
    rw [e1]
    go_enter Tryd.func53, Tryd.ntmps53
    go_wp2
    go_ret
    exact ⟨rfl, rfl⟩
  · have d0 : decide (0 ≤ n) = false := decide_eq_false h0
    have e1 : decide (0 ≤ n ∧ n < sec.length) = false := decide_eq_false (fun e => h0 e.1)
    rw [e1]
    go_enter Tryd.func53, Tryd.ntmps53
    go_wp2
    go_ret
    exact ⟨rfl, rfl⟩
set_option maxHeartbeats 1000000 in
theorem sectors_ok {w : World} {base t : Nat} {pw : Option Nat} {vs vw : Value} {sec : List Sec} {wt : List Wr} (h : DkAt w base t pw vs vw sec wt) :
    Calls Tryd.prog 21 #[.pointer (some ⟨t, 0, none⟩)] w fun e w' => e = .returned (.int .i64 (sec.length : Nat)) ∧ w' = w := by
  obtain ⟨g, cap, cur, rfl, _⟩ := h.row
  have c2 := h.cells.2.2.1
  have hlt := h.lt
  clear h
  go_enter Tryd.func21, Tryd.ntmps21
  go_wp2
  go_ret
  exact ⟨rfl, rfl⟩
theorem own_slice {w : World} {base : Nat} {e : TypeId} {k n : Nat} {v : Value} {xs : List Value} (h : w.ownsRow base e k v n xs) : ∃ ad cap, v = .slice ad n cap := by
  rcases h.2 with ⟨rfl, rfl⟩ | ⟨g, cap, cur, rfl, _⟩
  · exact ⟨none, 0, rfl⟩
  · exact ⟨_, cap, rfl⟩
set_option maxHeartbeats 1000000 in
theorem waiting_ok {w : World} {base t : Nat} {pw : Option Nat} {vs vw : Value} {sec : List Sec} {wt : List Wr} (h : DkAt w base t pw vs vw sec wt) :
    Calls Tryd.prog 51 #[.pointer (some ⟨t, 0, none⟩)] w fun e w' => e = .returned (.int .i64 (wt.length : Nat)) ∧ w' = w := by
  obtain ⟨ad, cap, rfl⟩ := own_slice h.wts
  have c3 := h.cells.2.2.2.1
  have hlt := h.lt
  clear h
  go_enter Tryd.func51, Tryd.ntmps51
  go_wp2
  go_ret
  exact ⟨rfl, rfl⟩
/-! ### the power -/
def SpentR (A : Nat → Addr) (w w' : World) (base t : Nat) (pw : Option Nat) (vs vw : Value) (sec : List Sec) (wt : List Wr) (e : Ending) : Prop :=
  (pw = some 0 ∧ e = .returned (sErr A 14) ∧ w' = w) ∨ (pw ≠ some 0 ∧ e = .returned .nilIface ∧ DkAt w' base t (pw.map (· - 1)) vs vw sec wt ∧ Only [t] w w')
set_option maxHeartbeats 1000000 in
theorem spend_any (A : Nat → Addr) {w : World} {base t : Nat} {pw : Option Nat} {vs vw : Value} {sec : List Sec} {wt : List Wr} (hE : Err3 w A) (h : DkAt w base t pw vs vw sec wt) (hp : ∀ k, pw = some k → k < 9223372036854775808) :
    Calls Tryd.prog 54 #[.pointer (some ⟨t, 0, none⟩)] w fun e w' => SpentR A w w' base t pw vs vw sec wt e := by
  obtain ⟨c0, c1, _, _, fz⟩ := h.cells
  have hlt := h.lt
  have HD : Hid (DkAt w base t pw vs vw sec wt) := h
  have f1 := fz 1
  have ce : w.cell? ⟨14, 0, none⟩ = some (.iface 154 (.pointer (some (A 14)))) := hE 14 (by simp)
  clear hE h fz
  unfold SpentR sErr
  match pw, hp with
  | none, _ =>
    simp only [Option.isSome] at c0
    go_enter Tryd.func54, Tryd.ntmps54
    go_wp2
    go_ret
    exact Or.inr ⟨by simp, rfl, HD.out, Only.refl _ _⟩
  | some 0, _ =>
    simp only [Option.isSome, Option.getD] at c0 c1
    go_enter Tryd.func54, Tryd.ntmps54
    go_wp2
    go_ret
    exact Or.inl ⟨by simp, rfl, rfl⟩
  | some (k + 1), hp =>
    have hk := hp _ rfl
    simp only [Option.isSome, Option.getD] at c0 c1
    have d0 : decide (((k + 1 : Nat) : Int) = 0) = false := decide_eq_false (by omega)
    go_enter Tryd.func54, Tryd.ntmps54
    go_wp2
    go_ret
    refine Or.inr ⟨by simp, rfl, HD.out.reblk ((Only.refl _ _).setCell (Or.inl (by simp)) _) ?_, (Only.refl _ _).setCell (Or.inl (by simp)) _⟩
    rw [heap_setCell_same w t 1 _ _ _ HD.out.blk]
    simp
end Go.Proofs.YtlcloahkeamdkaaDoor
