/- Turns: the program's table in memory; next, Begin. -/
import Derived.Test.YtpecfccadhfdhaaDoorTu1
import Derived.Test.YtpecfccadhfdhaaDoorO1
import Derived.Test.YtpecfccadhfdhaaDoorMath
import Derived.Test.YtpecfccadhfdhaaDoorProg
import Derived.WalkKit
import Derived.ProofKit
import Derived.WalkSpells
import Derived.OwnWalk
import Derived.Maps.OwnOps
import Derived.Maps.RangeWalk
import Derived.Deep.WholeRow
import Derived.Deep.RegionHeld3
namespace Go.Proofs.YtpecfccadhfdhaaDoor
open Go Go.RowKit Go.Deep Go.Maps

theorem only_turned {w w' : World} {b : Nat} (h : w.mapTurned w' b) : Only [b] w w' := by
  have hg := h.grown
  exact ⟨hg.os, hg.tape, hg.output, hg.size, fun k hk hn => hg.block k hk (fun e => hn (by simp at e; simp [e]))⟩
theorem own_only {w w' : World} {K : TypeId} {R : Value → Option (DataW Unit × List MemPlace)} {b n : Nat} {D : DataW Unit} {L : List Nat} (h : w.ownsMap Tryd.prog K R b n D) (ho : Only L w w') (hb : b ∉ L) : w'.ownsMap Tryd.prog K R b n D := by
  have hlt := h.lt
  obtain ⟨es, clock, h1, r⟩ := h
  exact ⟨es, clock, (ho.block b hlt hb).trans h1, r⟩
theorem own_sized {w : World} {K : TypeId} {R : Value → Option (DataW Unit × List MemPlace)} {b n : Nat} {D : DataW Unit} (h : w.ownsMap Tryd.prog K R b n D) : w.ownsMap Tryd.prog K R b (Maps.size D) D := by
  obtain ⟨es, clock, hb, F, _, rfl⟩ := h
  exact ⟨es, clock, hb, F, by simp [Maps.size, length_sorted], rfl⟩
theorem own_ne_block {w : World} {K : TypeId} {R : Value → Option (DataW Unit × List MemPlace)} {b n g : Nat} {D : DataW Unit} {cs : Array Value} {ty : TypeId} {fr : Nat × Nat} (h : w.ownsMap Tryd.prog K R b n D) (hc : w.heap[g]? = some (.cells cs ty fr)) : b ≠ g := by
  obtain ⟨es, clock, hb, _⟩ := h
  intro e
  subst e
  rw [hb] at hc
  cases hc
theorem lawInt : Keyed Tryd.prog 3 := int_keyed Tryd.underlying3
def I64 (o : Int) : Prop := (Lit.int .i64 o).wf = true
def ikey (o : Int) : Lit := .int .i64 o
theorem keyInt {o : Int} (h : I64 o) : keyOf Tryd.prog 3 (.int .i64 o) = some (ikey o) := keyOf_int_mk Tryd.underlying3 h
theorem ikey_inj {a b : Int} (h : ikey a = ikey b) : a = b := by
  unfold ikey at h
  cases h
  rfl
theorem ikey_key (o : Int) : WideAt.IsKeyLit (ikey o) := by unfold ikey; first | trivial | constructor | simp [WideAt.IsKeyLit]
theorem undTrns : Tryd.prog.underlying 25 = some (.map 3 50) := by kernel_rfl
theorem infoTrn : (Tryd.prog.info? 50).map (fun i => (i.zero, i.size)) = some (some (.agg #[.int .i64 0, .string ⟨#[]⟩]), 2) := by kernel_rfl
theorem zeroTrn (w : World) : (zeroValue 50).run Tryd.prog w = .ok (.agg #[.int .i64 0, .string ⟨#[]⟩]) w := (zero_of_info infoTrn).1 w
def trnV (x : Trn) : DataW Unit := .agg [.lit (.int .i64 x.q), .lit (.string x.r.data.toList)]
def trnElem : Value → Option (DataW Unit × List MemPlace)
  | .agg cs => match cs.toList with
    | [.int .i64 a, .string s] => some (.agg [.lit (.int .i64 a), .lit (.string s.data.toList)], [])
    | _ => none
  | _ => none
theorem trnElem_mk (x : Trn) : trnElem (.agg #[.int .i64 (x.q : Nat), .string x.r]) = some (trnV x, []) := rfl
theorem trnElem_inv {v : Value} {x : Trn} {ps : List MemPlace} (h : trnElem v = some (trnV x, ps)) : v = .agg #[.int .i64 (x.q : Nat), .string x.r] := by
  unfold trnElem at h
  split at h
  · rename_i cs
    split at h
    · rename_i a s e
      simp only [trnV, Option.some.injEq, Prod.mk.injEq, DataW.agg.injEq, List.cons.injEq, DataW.lit.injEq, Lit.int.injEq, Lit.string.injEq, true_and, and_true] at h
      obtain ⟨⟨h1, h2⟩, _⟩ := h
      have h3 : s = x.r := by
        cases s; cases hx : x.r with
        | mk d => rw [hx] at h2; congr 1; exact Array.toList_inj.1 h2
      rw [← h1, ← h3]
      congr 1
      rw [← e]
    · cases h
  · cases h
/-- A table of turns. -/
structure TuAt (w : World) (t : Nat) (m : Option Nat) (L : List Trn) : Prop where
  tab : w.heap[t]? = some (.cells #[.map m] 27 (0, 0))
  nomap : m = none → L = []
  own : ∀ b, m = some b → ∃ D, w.ownsMap Tryd.prog 3 trnElem b L.length D ∧ Maps.size D = L.length ∧ Reads ikey trnV D (findT L)
  inv : TInv L
section
variable {w w' : World} {t : Nat} {m : Option Nat} {L : List Trn}
theorem TuAt.lt (h : TuAt w t m L) : t < w.heap.size := (Array.getElem?_eq_some_iff.1 h.tab).1
theorem TuAt.c0 (h : TuAt w t m L) : w.cell? ⟨t, 0, none⟩ = some (.map m) := cell_of_row _ _ 0 _ _ _ h.tab
theorem TuAt.f0 (h : TuAt w t m L) : w.frozen? ⟨t, 0, none⟩ = false := frozen_of_row _ _ _ _ _ h.tab
theorem TuAt.ne (h : TuAt w t m L) {b : Nat} (hb : m = some b) : b ≠ t := by
  obtain ⟨D, h1, _⟩ := h.own b hb
  exact own_ne_block h1 h.tab
theorem TuAt.mlt (h : TuAt w t m L) {b : Nat} (hb : m = some b) : b < w.heap.size := by
  obtain ⟨D, h1, _⟩ := h.own b hb
  exact h1.lt
theorem TuAt.kept {K : List Nat} (h : TuAt w t m L) (ho : Only K w w') (h1 : t ∉ K) (h2 : ∀ b, m = some b → b ∉ K) : TuAt w' t m L := ⟨(ho.block t h.lt h1).trans h.tab, h.nomap, fun b hb => by
  obtain ⟨D, a, c⟩ := h.own b hb
  exact ⟨D, own_only a ho (h2 b hb), c⟩, h.inv⟩
theorem TuAt.only (h : TuAt w t m L) (ho : Only [] w w') : TuAt w' t m L := h.kept ho (by simp) (fun _ _ => by simp)
def lastV (L : List Trn) (o : Int) : Value := match findT L o with | some x => .agg #[.int .i64 (x.q : Nat), .string x.r] | none => .agg #[.int .i64 0, .string ⟨#[]⟩]
/-- 'last, known := t.last[owner]'. -/
theorem TuAt.look (h : TuAt w t m L) {o : Int} (ho : I64 o) : (Instr.lookup 25 (.map m) (.int .i64 o) true).run Tryd.prog w = .ok (.tuple #[lastV L o, .bool (findT L o).isSome]) w := by
  unfold lastV
  cases hm : m with
  | none =>
    rw [h.nomap hm]
    exact Maps.look_nil true lawInt undTrns (zeroTrn w) (keyInt ho)
  | some b =>
    obtain ⟨D, h1, h2, h3⟩ := h.own b hm
    obtain ⟨v, ps, hr, hv⟩ := h1.look_ok lawInt undTrns (zeroTrn _) (zd := trnV ⟨0, 0, ⟨#[]⟩⟩) (zp := []) rfl (keyInt ho)
    rw [h3.isSome] at hr
    rw [h3.look] at hv
    rw [hr]
    cases hf : findT L o with
    | none =>
      rw [hf] at hv
      rw [trnElem_inv (x := ⟨0, 0, ⟨#[]⟩⟩) hv]
      rfl
    | some x =>
      rw [hf] at hv
      rw [trnElem_inv hv]
theorem TuAt.count (h : TuAt w t m L) (ty : TypeId) : (Builtin.len_ #[25] ty #[.map m]).run Tryd.prog w = .ok (.int .i64 (L.length : Nat)) w := by
  cases hm : m with
  | none =>
    rw [h.nomap hm]
    exact Maps.len_nil undTrns ty
  | some b =>
    obtain ⟨D, h1, h2, h3⟩ := h.own b hm
    have := h1.len undTrns ty
    rw [h2] at this
    exact this
end
set_option maxHeartbeats 1000000 in
theorem next_any (w : World) (q : Nat) (hq : q ≤ 4294967295) : Calls Tryd.prog 15 #[.int .i64 (q : Nat)] w fun e w' => e = .returned (.int .i64 (nextT q : Nat)) ∧ w = w' := by
  unfold nextT
  by_cases h : q = 4294967295
  · subst h
    go_enter Tryd.func15, Tryd.ntmps15
    go_wp2
    go_ret
    exact ⟨rfl, rfl⟩
  · rw [if_neg h]
    have hb : ((q : Int) == 4294967295) = false := beq_eq_false_iff_ne.2 (by omega)
    go_enter Tryd.func15, Tryd.ntmps15
    go_wp2
    go_ret
    exact ⟨by go_num, rfl⟩
end Go.Proofs.YtpecfccadhfdhaaDoor
