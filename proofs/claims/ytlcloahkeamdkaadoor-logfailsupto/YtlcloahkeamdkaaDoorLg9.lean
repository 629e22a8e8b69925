/- A log: a disk in memory, as a log uses it; a head is saved. -/
import Derived.Test.YtlcloahkeamdkaaDoorLg8
import Derived.Test.YtlcloahkeamdkaaDoorDk14
import Derived.Test.YtlcloahkeamdkaaDoorQt
namespace Go.Proofs.YtlcloahkeamdkaaDoor
open Go Go.RowKit Go.Deep

/-- The errors that a log tells of lie in memory. -/
def Err5 (W : World) (A : Nat → Addr) : Prop := ∀ k, k ∈ [0, 1, 2, 8, 14] → W.cell? ⟨gOf k, 0, none⟩ = some (.iface 154 (.pointer (some (A k))))
theorem Err5.below {W w : World} {A : Nat → Addr} (h : Err5 W A) {B : Nat} (hb : Below B W w) (hB : W.heap.size ≤ B) : Err5 w A := fun k hk => (hb.cell (p := ⟨gOf k, 0, none⟩) (Nat.lt_of_lt_of_le (lt_of_cell (h k hk)) hB)).trans (h k hk)
theorem Err5.three {W : World} {A : Nat → Addr} (h : Err5 W A) : Err3 W A := fun k hk => h k (by simp at hk ⊢; omega)
theorem Errs.five {W : World} {A : Nat → Addr} (h : Errs W A) : Err5 W A := fun k hk => h.cell k (by simp at hk; omega)
/-- Whatever is no part of a disk is as it was. -/
structure Oth (w w' : World) : Prop where
  size : w.heap.size ≤ w'.heap.size
  block : ∀ (k : Nat) (cs : Array Value) (ty : TypeId) (fr : Nat × Nat), w.heap[k]? = some (.cells cs ty fr) → ty ≠ 60 → ty ≠ 81 → ty ≠ 83 → w'.heap[k]? = some (.cells cs ty fr)
theorem Oth.refl (w : World) : Oth w w := ⟨Nat.le_refl _, fun _ _ _ _ h _ _ _ => h⟩
theorem Oth.trans {a b c : World} (h : Oth a b) (k : Oth b c) : Oth a c := ⟨Nat.le_trans h.size k.size, fun j cs ty fr hc h1 h2 h3 => k.block j cs ty fr (h.block j cs ty fr hc h1 h2 h3) h1 h2 h3⟩
theorem Oth.of_only {a b : World} (h : Only [] a b) : Oth a b := ⟨h.size, fun k cs ty fr hc _ _ _ => (h.block k (Array.getElem?_eq_some_iff.1 hc).1 (by simp)).trans hc⟩
theorem Oth.of_foot {w w' : World} {base t : Nat} {pw : Option Nat} {vs vw : Value} {sec : List Sec} {wt : List Wr} (h : DkAt w base t pw vs vw sec wt) (ho : Only (dkFoot t vs vw) w w') : Oth w w' := ⟨ho.size, fun k cs ty fr hc h1 h2 h3 => by
  rw [ho.block k (Array.getElem?_eq_some_iff.1 hc).1 (fun hm => ?_)]
  · exact hc
  · rcases mem_foot.1 hm with e | e | e
    · rw [e, h.blk] at hc
      simp only [Option.some.injEq, Obj.cells.injEq] at hc
      exact h1 hc.2.1.symm
    · obtain ⟨_, _, cur, hq⟩ := own_blk h.secs e
      rw [hq] at hc
      simp only [Option.some.injEq, Obj.cells.injEq] at hc
      exact h2 hc.2.1.symm
    · obtain ⟨_, _, cur, hq⟩ := own_blk h.wts e
      rw [hq] at hc
      simp only [Option.some.injEq, Obj.cells.injEq] at hc
      exact h3 hc.2.1.symm⟩
theorem Oth.kept3 {W W' : World} {b : Nat} {c0 c1 c2 : Value} (hb : W.heap[b]? = some (.cells #[c0, c1, c2] 64 (0, 0))) (ho : Oth W W') :
    W'.heap[b]? = some (.cells #[c0, c1, c2] 64 (0, 0)) := ho.block b _ _ _ hb (by decide) (by decide) (by decide)
structure Dv where
  W0 : World
  A : Nat → Addr
  base : Nat
  t : Nat
  vs : Value
/-- A disk in memory, all else known that a log asks for. -/
structure Ds (g : Dv) (w : World) (s : DSt) : Prop where
  dk : ∃ vw, DkAt w g.base g.t s.pw g.vs vw s.sec s.wt
  er : Err5 g.W0 g.A
  bel : Below g.W0.heap.size g.W0 w
  ge : g.W0.heap.size ≤ g.base
  bs : g.base ≤ w.heap.size
  pl : ∀ k, s.pw = some k → k < 9223372036854775808
section
variable {g : Dv} {w w' : World} {s s' : DSt}
theorem Ds.err (h : Ds g w s) : Err5 w g.A := h.er.below h.bel (Nat.le_refl _)
theorem Ds.keep (h : Ds g w s) (ho : Only [] w w') : Ds g w' s := by
  obtain ⟨vw, hd⟩ := h.dk
  exact ⟨⟨vw, hd.keep ho⟩, h.er, h.bel.trans (ho.to_below h.bel.size (fun _ h => by cases h)), h.ge, Nat.le_trans h.bs ho.size, h.pl⟩
theorem Ds.most (h : Ds g w s) : 1 ≤ s.sec.length ∧ s.sec.length ≤ 4000 := by
  obtain ⟨vw, hd⟩ := h.dk
  exact ⟨hd.pos, hd.most⟩
theorem Ds.step (h : Ds g w s) {vw vw' : Value} (hd : DkAt w g.base g.t s.pw g.vs vw s.sec s.wt) (hd' : DkAt w' g.base g.t s'.pw g.vs vw' s'.sec s'.wt) (ho : Only (dkFoot g.t g.vs vw) w w') (hp : ∀ k, s'.pw = some k → k < 9223372036854775808) : Ds g w' s' :=
  ⟨⟨vw', hd'⟩, h.er, h.bel.trans (ho.to_below h.bel.size (fun k hk => Nat.le_trans h.ge (hd.foot_ge k hk))), h.ge, Nat.le_trans h.bs ho.size, hp⟩
theorem pred_lt {pw : Option Nat} (h : ∀ k, pw = some k → k < 9223372036854775808) : ∀ k, pw.map (· - 1) = some k → k < 9223372036854775808 := fun k e => by
  cases pw with
  | none => cases e
  | some j => have := h j rfl; simp at e; omega
theorem Ds.sectors (h : Ds g w s) : Calls Tryd.prog 21 #[.pointer (some ⟨g.t, 0, none⟩)] w fun e w' => e = .returned (.int .i64 (s.sec.length : Nat)) ∧ w' = w := by
  obtain ⟨vw, hd⟩ := h.dk
  exact sectors_ok hd
theorem Ds.settle (h : Ds g w s) (hw : s.wt = []) : Calls Tryd.prog 31 #[.pointer (some ⟨g.t, 0, none⟩)] w fun e w' => e = .returned .nilIface ∧ w' = w := by
  obtain ⟨vw, hd⟩ := h.dk
  rw [hw] at hd
  exact settle_ok hd
theorem Ds.newest (h : Ds g w s) : Calls Tryd.prog 22 #[.pointer (some ⟨g.t, 0, none⟩)] w fun e w' => e = .returned (.tuple #[hdV ((newestL s.sec).getD Hd.zero), .bool (newestL s.sec).isSome]) ∧ Only [] w w' := by
  obtain ⟨vw, hd⟩ := h.dk
  exact newest_ok g.A h.err.three hd
theorem Ds.write_dark (h : Ds g w s) (n : Nat) (x : ByteArray) (hn : n < s.sec.length) (hx : x.size ≤ 64) (hp : s.pw = some 0) :
    Calls Tryd.prog 35 #[.pointer (some ⟨g.t, 0, none⟩), .int .i64 (n : Nat), .string x] w fun e w' => e = .returned (.iface 154 (.pointer (some (g.A 14)))) ∧ w' = w := by
  obtain ⟨vw, hd⟩ := h.dk
  refine (write_power g.A h.err.three hd n x ⟨by omega, by omega⟩ hx hp).mono fun e w' q => ?_
  rcases q with ⟨a, _⟩ | ⟨_, a, _⟩ | ⟨_, _, _, a, b⟩ | ⟨_, _, a, _⟩
  · omega
  · omega
  · exact ⟨a, b⟩
  · exact absurd hp a
theorem Ds.write_lit (h : Ds g w s) (n : Nat) (x : ByteArray) (x0 : Sec) (hn : s.sec[n]? = some x0) (hx : x.size ≤ 64) (hp : s.pw ≠ some 0) (hw : s.wt.length ≤ 100000) :
    Calls Tryd.prog 35 #[.pointer (some ⟨g.t, 0, none⟩), .int .i64 (n : Nat), .string x] w fun e w' => e = .returned .nilIface ∧ Ds g w' ⟨s.pw.map (· - 1), s.sec.set n (padB x), s.wt ++ [⟨n, x0, padB x⟩]⟩ ∧ Oth w w' := by
  obtain ⟨vw, hd⟩ := h.dk
  refine (write_ok g.A h.err.three hd n x x0 hn hx hp h.pl hw h.bs).mono fun e w' q => ?_
  obtain ⟨he, vw', h1, h2, _⟩ := q
  exact ⟨he, h.step (s' := ⟨s.pw.map (· - 1), s.sec.set n (padB x), s.wt ++ [⟨n, x0, padB x⟩]⟩) hd h1 h2 (pred_lt h.pl), Oth.of_foot hd h2⟩
theorem Ds.flush_dark (h : Ds g w s) (hp : s.pw = some 0) :
    Calls Tryd.prog 36 #[.pointer (some ⟨g.t, 0, none⟩)] w fun e w' => e = .returned (.iface 154 (.pointer (some (g.A 14)))) ∧ w' = w := by
  obtain ⟨vw, hd⟩ := h.dk
  refine (flush_any g.A h.err.three hd h.pl).mono fun e w' q => ?_
  rcases q with ⟨_, a, b⟩ | ⟨a, _⟩
  · exact ⟨a, b⟩
  · exact absurd hp a
theorem Ds.flush_lit (h : Ds g w s) (hp : s.pw ≠ some 0) :
    Calls Tryd.prog 36 #[.pointer (some ⟨g.t, 0, none⟩)] w fun e w' => e = .returned .nilIface ∧ Ds g w' ⟨s.pw.map (· - 1), s.sec, []⟩ ∧ Oth w w' := by
  obtain ⟨vw, hd⟩ := h.dk
  refine (flush_any g.A h.err.three hd h.pl).mono fun e w' q => ?_
  rcases q with ⟨a, _⟩ | ⟨_, he, h1, h2⟩
  · exact absurd a hp
  · have h3 : Only (dkFoot g.t g.vs vw) w w' := h2.mono (fun k hk => Or.inl (mem_foot.2 (Or.inl (by simpa using hk))))
    exact ⟨he, h.step (s' := ⟨s.pw.map (· - 1), s.sec, []⟩) hd h1 h3 (pred_lt h.pl), Oth.of_foot hd h3⟩
end
def hdT (h : Hd) : List UInt8 := markL ++ (wd h.calls ++ (wd h.half ++ wd h.used))
theorem hdT_len (h : Hd) : (hdT h).length = 28 := by simp [hdT, markL, wd_len]
theorem hdT_is (h : Hd) : (((⟨#[112, 105, 103, 101, 111, 110, 104, 111, 108, 101, 115, 32, 108, 111, 103, 10]⟩ : ByteArray) ++ bs (wd h.calls)) ++ bs (wd h.half)) ++ bs (wd h.used) = bs (hdT h) := by
  apply data_inj
  simp [hdT, markL, bs]
end Go.Proofs.YtlcloahkeamdkaaDoor
