/- Clients: their table in memory; what package lease tells of one client. -/
import Derived.Test.YtaipigiinljpkaaGreatDoorLs1
import Derived.Test.YtaipigiinljpkaaGreatDoorO1
import Derived.Test.YtaipigiinljpkaaGreatDoorMath
import Derived.Test.YtaipigiinljpkaaGreatDoorProg
import Derived.WalkKit
import Derived.ProofKit
import Derived.WalkSpells
import Derived.OwnWalk
import Derived.Maps.OwnOps
import Derived.Maps.RangeWalk
import Derived.Deep.WholeRow
import Derived.Deep.RegionHeld3
import Derived.BigQuiet
import Derived.Deep.QuietTactic
namespace Go.Proofs.YtaipigiinljpkaaGreatDoor
open Go Go.RowKit Go.Deep Go.Maps

theorem Only.drewsN {L : List Nat} {a w : World} (h : Only L a w) (n : Nat) : Only L a (w.drewN n) := ⟨h.os, h.tape, h.output, h.size, h.block⟩
theorem Only.toG {w w' : World} (h : Only [] w w') : w.grownBy w' none := ⟨h.os, h.tape, h.output, h.size, fun k hk _ => h.block k hk (by simp)⟩
theorem only_turned {w w' : World} {b : Nat} (h : w.mapTurned w' b) : Only [b] w w' := by
  have hg := h.grown
  exact ⟨hg.os, hg.tape, hg.output, hg.size, fun k hk hn => hg.block k hk (fun e => hn (by simp at e; simp [e]))⟩
theorem own_only {w w' : World} {K : TypeId} {R : Value → Option (DataW Unit × List MemPlace)} {b n : Nat} {D : DataW Unit} {L : List Nat} (h : w.ownsMap Tryz.prog K R b n D) (ho : Only L w w') (hb : b ∉ L) : w'.ownsMap Tryz.prog K R b n D := by
  have hlt := h.lt
  obtain ⟨es, clock, h1, r⟩ := h
  exact ⟨es, clock, (ho.block b hlt hb).trans h1, r⟩
theorem own_sized {w : World} {K : TypeId} {R : Value → Option (DataW Unit × List MemPlace)} {b n : Nat} {D : DataW Unit} (h : w.ownsMap Tryz.prog K R b n D) : w.ownsMap Tryz.prog K R b (Maps.size D) D := by
  obtain ⟨es, clock, hb, F, _, rfl⟩ := h
  exact ⟨es, clock, hb, F, by simp [Maps.size, length_sorted], rfl⟩
theorem own_ne_block {w : World} {K : TypeId} {R : Value → Option (DataW Unit × List MemPlace)} {b n g : Nat} {D : DataW Unit} {cs : Array Value} {ty : TypeId} {fr : Nat × Nat} (h : w.ownsMap Tryz.prog K R b n D) (hc : w.heap[g]? = some (.cells cs ty fr)) : b ≠ g := by
  obtain ⟨es, clock, hb, _⟩ := h
  intro e
  subst e
  rw [hb] at hc
  cases hc
theorem lawS : Keyed Tryz.prog 9 := Keyed.of_law (WideMaps.string_law Tryz.underlying9)
theorem undClis : Tryz.prog.underlying 56 = some (.map 9 61) := by kernel_rfl
theorem infoCli : (Tryz.prog.info? 61).map (fun i => (i.zero, i.size)) = some (some (.agg #[.int .i64 0, .int .i64 0, .int .i64 0]), 3) := by kernel_rfl
theorem zeroCli (w : World) : (zeroValue 61).run Tryz.prog w = .ok (.agg #[.int .i64 0, .int .i64 0, .int .i64 0]) w := (zero_of_info infoCli).1 w
def cvV (c : Cli) : Value := .agg #[.int .i64 (c.a : Nat), .int .i64 (c.b : Nat), .int .i64 (c.g : Nat)]
def cliElem : Value → Option (DataW Unit × List MemPlace)
  | .agg cs => match cs.toList with
    | [.int .i64 a, .int .i64 b, .int .i64 c] => some (.agg [.lit (.int .i64 a), .lit (.int .i64 b), .lit (.int .i64 c)], [])
    | _ => none
  | _ => none
theorem cliElem_mk (c : Cli) : cliElem (cvV c) = some (cliV c, []) := rfl
theorem cliElem_inv {v : Value} {c : Cli} {ps : List MemPlace} (h : cliElem v = some (cliV c, ps)) : v = cvV c := by
  unfold cliElem at h
  split at h
  · rename_i cs
    split at h
    · rename_i a b d e
      simp only [cliV, Option.some.injEq, Prod.mk.injEq, DataW.agg.injEq, List.cons.injEq, DataW.lit.injEq, Lit.int.injEq, true_and, and_true] at h
      obtain ⟨⟨h1, h2, h3⟩, _⟩ := h
      unfold cvV
      rw [← h1, ← h2, ← h3]
      congr 1
      rw [← e]
    · cases h
  · cases h
/-- A table of clients. -/
structure LsAt (w : World) (t mb last : Nat) (l : List Cli) : Prop where
  tab : w.heap[t]? = some (.cells #[.int .i64 (last : Nat), .map (some mb)] 58 (0, 0))
  own : w.ownsMap Tryz.prog 9 cliElem mb l.length (cliD l)
  inv : CInv last l
  sh : ∀ c ∈ l, c.s.length ≤ 1000
section
variable {w w' : World} {t mb last : Nat} {l : List Cli}
theorem LsAt.ne (h : LsAt w t mb last l) : mb ≠ t := own_ne_block h.own h.tab
theorem LsAt.lt (h : LsAt w t mb last l) : t < w.heap.size := (Array.getElem?_eq_some_iff.1 h.tab).1
theorem LsAt.mlt (h : LsAt w t mb last l) : mb < w.heap.size := h.own.lt
theorem LsAt.c0 (h : LsAt w t mb last l) : w.cell? ⟨t, 0, none⟩ = some (.int .i64 (last : Nat)) := cell_of_row _ _ 0 _ _ _ h.tab
theorem LsAt.c1 (h : LsAt w t mb last l) : w.cell? ⟨t, 1, none⟩ = some (.map (some mb)) := cell_of_row _ _ 1 _ _ _ h.tab
theorem LsAt.f0 (h : LsAt w t mb last l) : w.frozen? ⟨t, 0, none⟩ = false := frozen_of_row _ _ _ _ _ h.tab
theorem LsAt.kept {L : List Nat} (h : LsAt w t mb last l) (ho : Only L w w') (h1 : t ∉ L) (h2 : mb ∉ L) : LsAt w' t mb last l := ⟨(ho.block t h.lt h1).trans h.tab, own_only h.own ho h2, h.inv, h.sh⟩
theorem LsAt.only (h : LsAt w t mb last l) (ho : Only [] w w') : LsAt w' t mb last l := h.kept ho (by simp) (by simp)
/-- 'c := t.clients[name]'. -/
theorem LsAt.look (h : LsAt w t mb last l) (s : ByteArray) (hs : s.size ≤ 1000) : (Instr.lookup 56 (.map (some mb)) (.string s) false).run Tryz.prog w = .ok (match findC l s.data.toList with | some c => cvV c | none => .agg #[.int .i64 0, .int .i64 0, .int .i64 0]) w := by
  obtain ⟨v, ps, hr, hv⟩ := h.own.lookup lawS undClis (zeroCli _) (zd := cliV ⟨[], 0, 0, 0⟩) (zp := []) rfl (WideMaps.keyOf_string_mk Tryz.underlying9 (s := s) (by unfold maxLen; omega))
  rw [at_cliD] at hv
  rw [hr]
  cases hf : findC l s.data.toList with
  | none =>
    rw [hf] at hv
    have := cliElem_inv (c := ⟨[], 0, 0, 0⟩) hv
    rw [this]
    rfl
  | some c =>
    rw [hf] at hv
    rw [cliElem_inv hv]
theorem LsAt.look_ok (h : LsAt w t mb last l) (s : ByteArray) (hs : s.size ≤ 1000) : (Instr.lookup 56 (.map (some mb)) (.string s) true).run Tryz.prog w = .ok (.tuple #[match findC l s.data.toList with | some c => cvV c | none => .agg #[.int .i64 0, .int .i64 0, .int .i64 0], .bool (findC l s.data.toList).isSome]) w := by
  obtain ⟨v, ps, hr, hv⟩ := h.own.look_ok lawS undClis (zeroCli _) (zd := cliV ⟨[], 0, 0, 0⟩) (zp := []) rfl (WideMaps.keyOf_string_mk Tryz.underlying9 (s := s) (by unfold maxLen; omega))
  rw [at_cliD] at hv
  rw [has_cliD] at hr
  rw [hr]
  cases hf : findC l s.data.toList with
  | none =>
    rw [hf] at hv
    have := cliElem_inv (c := ⟨[], 0, 0, 0⟩) hv
    rw [this]
    rfl
  | some c =>
    rw [hf] at hv
    rw [cliElem_inv hv]
/-- .. where a client is known. -/
theorem LsAt.look_at (h : LsAt w t mb last l) {c : Cli} (hc : c ∈ l) : (Instr.lookup 56 (.map (some mb)) (.string (bs c.s)) false).run Tryz.prog w = .ok (.agg #[.int .i64 (c.a : Nat), .int .i64 (c.b : Nat), .int .i64 (c.g : Nat)]) w := by
  have := h.look (bs c.s) (by rw [bs_size]; exact h.sh c hc)
  rw [bs_data, findC_of h.inv.nod hc] at this
  exact this
theorem LsAt.count (h : LsAt w t mb last l) (ty : TypeId) : (Builtin.len_ #[56] ty #[.map (some mb)]).run Tryz.prog w = .ok (.int .i64 (l.length : Nat)) w := by
  have := h.own.len undClis ty
  rw [size_cliD] at this
  exact this
/-- 't.clients[name] = c'. -/
theorem LsAt.put (h : LsAt w t mb last l) (s : ByteArray) (hs : s.size ≤ 1000) (c : Cli) (hc : c.s = s.data.toList) : ∃ w', (Instr.mapUpdate 56 (.map (some mb)) (.string s) (.agg #[.int .i64 (c.a : Nat), .int .i64 (c.b : Nat), .int .i64 (c.g : Nat)])).run Tryz.prog w = .ok () w' ∧ w'.ownsMap Tryz.prog 9 cliElem mb (putC l c).length (cliD (putC l c)) ∧ Only [mb] w w' := by
  have hl := h.inv.len
  obtain ⟨w', hr, ho, ht⟩ := h.own.store lawS undClis (by unfold maxLen; omega) (WideMaps.keyOf_string_mk Tryz.underlying9 (s := s) (by unfold maxLen; omega)) (cliElem_mk c)
  refine ⟨w', hr, ?_, only_turned ht⟩
  have e := put_cliD l c
  rw [hc] at e
  rw [e] at ho
  have := own_sized ho
  rw [size_cliD] at this
  unfold putC
  rw [hc]
  exact this
/-- 'delete(t.clients, name)'. -/
theorem LsAt.del (h : LsAt w t mb last l) (s : ByteArray) (hs : s.size ≤ 1000) (ty : TypeId) : ∃ w', (Builtin.delete_ #[56, 9] ty #[.map (some mb), .string s]).run Tryz.prog w = .ok (.tuple #[]) w' ∧ w'.ownsMap Tryz.prog 9 cliElem mb (dropC l s.data.toList).length (cliD (dropC l s.data.toList)) ∧ Only [mb] w w' := by
  obtain ⟨w', hr, ho, ht⟩ := h.own.drop lawS undClis (WideMaps.keyOf_string_mk Tryz.underlying9 (s := s) (by unfold maxLen; omega)) ty
  refine ⟨w', hr, ?_, only_turned ht⟩
  rw [del_cliD] at ho
  have := own_sized ho
  rw [size_cliD] at this
  exact this
end
/-! ### one client -/
set_option maxHeartbeats 1000000 in
theorem has_any (w : World) (c : Cli) (id : Int) : Calls Tryz.prog 37 #[.agg #[.int .i64 (c.a : Nat), .int .i64 (c.b : Nat), .int .i64 (c.g : Nat)], .int .i64 id] w fun e w' => e = .returned (.bool (hasB c id)) ∧ Only [] w w' := by
  by_cases h0 : 0 < id
  · have e1 : hasB c id = (((c.a : Int) == id) || ((c.b : Int) == id)) := by
      unfold hasB
      rw [decide_eq_true h0, Bool.true_and, Bool.eq_iff_iff]
      simp
    rw [e1]
    clear e1
    go_enter Tryz.func37, Tryz.ntmps37
    go_wp2
    all_goals go_ret
    all_goals refine ⟨?_, (Only.refl _ _).alloc _⟩
    all_goals simp_all
  · have e1 : hasB c id = false := by unfold hasB; simp [h0]
    rw [e1]
    clear e1
    go_enter Tryz.func37, Tryz.ntmps37
    go_wp2
    go_ret
    exact ⟨rfl, (Only.refl _ _).alloc _⟩
theorem over_any (w : World) (a b g : Nat) : Calls Tryz.prog 30 #[.agg #[.int .i64 (a : Nat), .int .i64 (b : Nat), .int .i64 (g : Nat)]] w fun e w' => e = .returned (.bool (decide (60 ≤ g))) ∧ Only [] w w' := by
  have HO : Hid (Only [] w (w.alloc (.cells #[.int .i64 (a : Nat), .int .i64 (b : Nat), .int .i64 (g : Nat)] 61))) := (Only.refl _ _).alloc _
  have e1 : decide (60 ≤ g) = decide ((60 : Int) ≤ (g : Int)) := by simp only [decide_eq_decide]; omega
  rw [e1]
  go_enter Tryz.func30, Tryz.ntmps30
  go_wp2
  go_ret
  exact ⟨rfl, HO.out⟩
theorem isconf_any (w : World) (a b g : Nat) : Calls Tryz.prog 33 #[.agg #[.int .i64 (a : Nat), .int .i64 (b : Nat), .int .i64 (g : Nat)]] w fun e w' => e = .returned (.bool (decide (0 < a))) ∧ Only [] w w' := by
  have HO : Hid (Only [] w (w.alloc (.cells #[.int .i64 (a : Nat), .int .i64 (b : Nat), .int .i64 (g : Nat)] 61))) := (Only.refl _ _).alloc _
  have e1 : decide (0 < a) = decide ((0 : Int) < (a : Int)) := by simp only [decide_eq_decide]; omega
  rw [e1]
  go_enter Tryz.func33, Tryz.ntmps33
  go_wp2
  go_ret
  exact ⟨rfl, HO.out⟩
theorem keyOf_any (w : World) (id : Int) : Calls Tryz.prog 21 #[.int .i64 id] w fun e w' => e = .returned (.int .i64 id) ∧ w = w' := by
  go_enter Tryz.func21, Tryz.ntmps21
  go_wp2
  go_ret
  exact ⟨rfl, rfl⟩
end Go.Proofs.YtaipigiinljpkaaGreatDoor
