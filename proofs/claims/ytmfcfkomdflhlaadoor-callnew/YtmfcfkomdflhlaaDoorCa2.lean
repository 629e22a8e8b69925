/- What was answered: the program's cache in memory; how a request is a key. -/
import Derived.Test.YtmfcfkomdflhlaaDoorCa1
import Derived.Test.YtmfcfkomdflhlaaDoorO1
import Derived.Test.YtmfcfkomdflhlaaDoorH1
import Derived.Test.YtmfcfkomdflhlaaDoorSl1
import Derived.Test.YtmfcfkomdflhlaaDoorMath
import Derived.Test.YtmfcfkomdflhlaaDoorProg
import Derived.DeepKeys5
import Derived.WalkKit
import Derived.ProofKit
import Derived.WalkSpells
import Derived.OwnWalk
import Derived.Maps.OwnOps
import Derived.Maps.RangeWalk
import Derived.Deep.WholeRow
import Derived.Deep.RegionHeld3
import Derived.Carry
namespace Go.Proofs.YtmfcfkomdflhlaaDoor
open Go Go.RowKit Go.Deep Go.Maps

theorem only_turnedK {w w' : World} {b : Nat} (h : w.mapTurned w' b) : Only [b] w w' := by
  have hg := h.grown
  exact ⟨hg.os, hg.tape, hg.output, hg.size, fun k hk hn => hg.block k hk (fun e => hn (by simp at e; simp [e]))⟩
theorem own_onlyK {w w' : World} {K : TypeId} {R : Value → Option (DataW Unit × List MemPlace)} {b n : Nat} {D : DataW Unit} {L : List Nat} (h : w.ownsMap Tryd.prog K R b n D) (ho : Only L w w') (hb : b ∉ L) : w'.ownsMap Tryd.prog K R b n D := by
  have hlt := h.lt
  obtain ⟨es, clock, h1, r⟩ := h
  exact ⟨es, clock, (ho.block b hlt hb).trans h1, r⟩
theorem own_sizedK {w : World} {K : TypeId} {R : Value → Option (DataW Unit × List MemPlace)} {b n : Nat} {D : DataW Unit} (h : w.ownsMap Tryd.prog K R b n D) : w.ownsMap Tryd.prog K R b (Maps.size D) D := by
  obtain ⟨es, clock, hb, F, _, rfl⟩ := h
  exact ⟨es, clock, hb, F, by simp [Maps.size, length_sorted], rfl⟩
theorem own_ne_block {w : World} {K : TypeId} {R : Value → Option (DataW Unit × List MemPlace)} {b n g : Nat} {D : DataW Unit} {cs : Array Value} {ty : TypeId} {fr : Nat × Nat} (h : w.ownsMap Tryd.prog K R b n D) (hc : w.heap[g]? = some (.cells cs ty fr)) : b ≠ g := by
  obtain ⟨es, clock, hb, _⟩ := h
  intro e
  subst e
  rw [hb] at hc
  cases hc
theorem own_block {w : World} {base e k n b : Nat} {v : Value} {xs : List Value} (h : w.ownsRow base e k v n xs) (hb : v.ownBlock = some b) : base ≤ b ∧ b < w.heap.size ∧ ∃ cur, w.heap[b]? = some (.cells cur e (0, 0)) := by
  rcases h.2 with ⟨rfl, _⟩ | ⟨g, cap, cur, rfl, h1, h2, h3⟩
  · cases hb
  · cases hb
    exact ⟨h1, (Array.getElem?_eq_some_iff.1 h2).1, cur, h2⟩
/-! ### a request as a key -/
theorem undRq : (match Tryd.prog.underlying 205 with | some (.array _ _) | some (.struct _) => true | _ => false) = true := by kernel_rfl
theorem keyRq : Tryd.prog.keyType 205 = true := by kernel_rfl
theorem laidOutK : laidOutB Tryd.prog = true := by kernel_rfl
set_option maxRecDepth 100000 in
theorem lawQ : Keyed Tryd.prog 205 := Keyed.of_law (deep_law_gate laidOutK (by decide +kernel) (by decide +kernel) keyRq undRq)
def rqV (k : ByteArray × Int) : Value := .agg #[.string k.1, .int .i64 k.2]
def qkey (k : ByteArray × Int) : Lit := if k.1.size ≤ maxLen ∧ (Lit.int .i64 k.2).wf = true then .string (keyBytes [.string k.1.data.toList, .int .i64 k.2]) else .bool false
theorem qkey_key (k : ByteArray × Int) : WideAt.IsKeyLit (qkey k) := by
  unfold qkey
  split <;> trivial
theorem cellsIntK : Tryd.prog.cellsOf 3 = 1 := by kernel_rfl
theorem cellsStr : Tryd.prog.cellsOf 9 = 1 := by kernel_rfl
theorem cellsRq : Tryd.prog.cellsOf 205 = 2 := by kernel_rfl
theorem lits_intK (d : Nat) (n : Int) (h : (Lit.int .i64 n).wf = true) : Tryd.prog.keyLits (d + 1) 3 [.int .i64 n] = some [.int .i64 n] := by
  unfold Program.keyLits
  rw [Tryd.underlying3]
  simp [h]
theorem lits_str (d : Nat) (s : ByteArray) (h : s.size ≤ maxLen) : Tryd.prog.keyLits (d + 1) 9 [.string s] = some [.string s.data.toList] := by
  unfold Program.keyLits
  rw [Tryd.underlying9]
  simp [h]
theorem keyOf_rq {k : ByteArray × Int} (h : OkQ k) : keyOf Tryd.prog 205 (.agg #[.string k.1, .int .i64 k.2]) = some (qkey k) := by
  have h0 : 0 < Tryd.prog.types.size := by decide +kernel
  obtain ⟨m, hm⟩ : ∃ m, Tryd.prog.types.size = m + 1 := ⟨Tryd.prog.types.size - 1, by omega⟩
  have hf : (Value.agg #[.string k.1, .int .i64 k.2]).formed Tryd.prog 205 = true := by
    unfold Value.formed
    rw [Tryd.underlying205, cellsRq]
    rfl
  have hl : Tryd.prog.keyLits (m + 1 + 1) 205 (Value.agg #[.string k.1, .int .i64 k.2]).cells.toList = some [.string k.1.data.toList, .int .i64 k.2] := by
    unfold Program.keyLits
    rw [Tryd.underlying205, cellsRq]
    simp [Value.cells, cellsIntK, cellsStr, lits_intK m k.2 h.2, lits_str m k.1 h.1]
  have hkk : qkey k = .string (keyBytes [.string k.1.data.toList, .int .i64 k.2]) := if_pos h
  rw [hkk]
  unfold keyOf
  rw [Tryd.underlying205, keyRq, hf, hm, hl]
  rfl
theorem qkey_only {k : ByteArray × Int} (h : OkQ k) (j : ByteArray × Int) (e : qkey j = qkey k) : j = k := by
  by_cases hj : OkQ j
  · have h1 := keyOf_rq h
    rw [← e] at h1
    have h2 := lawQ.inj (keyOf_rq hj) h1
    simp only [Value.agg.injEq, Array.mk.injEq, List.cons.injEq, Value.string.injEq, Value.int.injEq, true_and, and_true] at h2
    exact Prod.ext h2.1 h2.2
  · unfold qkey at e
    rw [if_neg (show ¬ (j.1.size ≤ maxLen ∧ (Lit.int .i64 j.2).wf = true) from hj), if_pos (show k.1.size ≤ maxLen ∧ (Lit.int .i64 k.2).wf = true from h)] at e
    cases e
theorem undKn : Tryd.prog.underlying 96 = some (.map 205 207) := by kernel_rfl
theorem infoAn : (Tryd.prog.info? 207).map (fun i => (i.zero, i.size)) = some (some (.agg #[.string ⟨#[]⟩, .string ⟨#[]⟩]), 2) := by kernel_rfl
theorem zeroAn (w : World) : (zeroValue 207).run Tryd.prog w = .ok (.agg #[.string ⟨#[]⟩, .string ⟨#[]⟩]) w := (zero_of_info infoAn).1 w
def anV (x : Kp) : DataW Unit := .agg [.lit (.string x.t.data.toList), .lit (.string x.r.data.toList)]
def anElem : Value → Option (DataW Unit × List MemPlace)
  | .agg cs => match cs.toList with
    | [.string a, .string s] => some (.agg [.lit (.string a.data.toList), .lit (.string s.data.toList)], [])
    | _ => none
  | _ => none
theorem anElem_mk (x : Kp) : anElem (.agg #[.string x.t, .string x.r]) = some (anV x, []) := rfl
theorem bytes_of {s r : ByteArray} (h : s.data.toList = r.data.toList) : s = r := by
  cases s; cases r
  congr 1
  exact Array.toList_inj.1 h
theorem anElem_inv {v : Value} {x : Kp} {ps : List MemPlace} (h : anElem v = some (anV x, ps)) : v = .agg #[.string x.t, .string x.r] := by
  unfold anElem at h
  split at h
  · rename_i cs
    split at h
    · rename_i a s e
      simp only [anV, Option.some.injEq, Prod.mk.injEq, DataW.agg.injEq, List.cons.injEq, DataW.lit.injEq, Lit.string.injEq, and_true] at h
      obtain ⟨⟨h1, h2⟩, _⟩ := h
      rw [← bytes_of h1, ← bytes_of h2]
      congr 1
      rw [← e]
    · cases h
  · cases h
/-! ### requests in a row -/
def rqC (x : Kp) : List Value := [.string x.c, .int .i64 x.n]
theorem rqC_len (x : Kp) : (rqC x).length = 2 := rfl
theorem rqC_one (x : Kp) : ∀ v ∈ rqC x, v.oneCell' = true := by
  intro v hv
  simp only [rqC, List.mem_cons, List.not_mem_nil, or_false] at hv
  rcases hv with rfl | rfl <;> rfl
theorem rqInfo : (Tryd.prog.info? 205).map (fun i => (i.zero, i.size, i.bytes)) = some (some (.agg #[.string ⟨#[]⟩, .int .i64 0]), 2, 24) := by kernel_rfl
theorem rqInfo' : ∃ i, Tryd.prog.info? 205 = some i ∧ i.zero = some (.agg #[.string ⟨#[]⟩, .int .i64 0]) ∧ i.size = 2 ∧ i.bytes = 24 := by
  obtain ⟨i, hi, hz⟩ := Option.map_eq_some_iff.1 rqInfo
  simp only [Prod.mk.injEq] at hz
  exact ⟨i, hi, hz⟩
theorem rqsUnd : Tryd.prog.underlying 97 = some (.slice 205) := by kernel_rfl
/-- Requests in memory: a slice of one's own. -/
def Rqs (w : World) (base : Nat) (v : Value) (l : List Kp) : Prop := w.ownsRow base 205 2 v l.length (rowOf rqC l)
theorem Rqs.only {w w' : World} {base : Nat} {v : Value} {l : List Kp} {L : List Nat} (h : Rqs w base v l) (ho : Only L w w') (hn : ∀ k, v.ownBlock = some k → k ∉ L) : Rqs w' base v l := ho.owns h hn
theorem Rqs.nil (w : World) (base : Nat) : Rqs w base (.slice none 0 0) [] := World.ownsRow_nil _ _ _ _
theorem Rqs.open {w : World} {base : Nat} {v : Value} {l : List Kp} (h : Rqs w base v l) : (v = .slice none 0 0 ∧ l = []) ∨ ∃ g cap cur, v = .slice (some ⟨g, 0, none⟩) l.length cap ∧ base ≤ g ∧ g < w.heap.size ∧ w.heap[g]? = some (.cells cur 205 (0, 0)) ∧ l.length ≤ cap ∧ cap ≤ maxLen ∧ cur.size = cap * 2 ∧ cur.toList.take (l.length * 2) = rowOf rqC l := by
  rcases h.2 with ⟨h1, h2⟩ | ⟨g, cap, cur, h1, h2, h3, h4⟩
  · exact Or.inl ⟨h1, List.length_eq_zero_iff.1 h2⟩
  · exact Or.inr ⟨g, cap, cur, h1, h2, (Array.getElem?_eq_some_iff.1 h3).1, h3, h4⟩
theorem Rqs.snoc {w : World} {base n : Nat} {v : Value} {L : List Kp} {x : Kp} (hn : L.length = n) (h : w.ownsRow base 205 2 v (n + 1) (rowOf rqC L ++ rqC x)) : Rqs w base v (L ++ [x]) := by
  unfold Rqs
  rw [rowOf_append, List.length_append, List.length_singleton, hn, show rowOf rqC [x] = rqC x by simp [rowOf]]
  exact h
theorem Rqs.own {w : World} {base n : Nat} {v : Value} {L : List Kp} (hn : L.length = n) (h : Rqs w base v L) : w.ownsRow base 205 2 v n (rowOf rqC L) := by
  unfold Rqs at h
  rw [hn] at h
  exact h
theorem rq_news {w : World} (x : Kp) (ty : TypeId) : ∀ (r : Nat) (q : Value), (rqC x)[r]? = some q → (w.alloc (.cells #[.string x.c, .int .i64 x.n] ty)).cell? ((⟨w.heap.size, 0, none⟩ : Addr).add r) = some q := World.news_of_block (w := w.alloc (.cells #[.string x.c, .int .i64 x.n] ty)) (heap_alloc_last w _)
/-! ### the cache -/
structure CaAt (w : World) (base t b : Nat) (v : Value) (most : Nat) (L : List Kp) : Prop where
  tab : w.heap[t]? = some (.cells #[.int .i64 (most : Nat), .map (some b), v] 99 (0, 0))
  own : ∃ D, w.ownsMap Tryd.prog 205 anElem b L.length D ∧ Maps.size D = L.length ∧ Reads qkey anV D (findK L)
  row : Rqs w base v L
  inv : KInv most L
section
variable {w w' : World} {base t b : Nat} {v : Value} {most : Nat} {L : List Kp}
theorem CaAt.lt (h : CaAt w base t b v most L) : t < w.heap.size := (Array.getElem?_eq_some_iff.1 h.tab).1
theorem CaAt.c0 (h : CaAt w base t b v most L) : w.cell? ⟨t, 0, none⟩ = some (.int .i64 (most : Nat)) := cell_of_row _ _ 0 _ _ _ h.tab
theorem CaAt.c1 (h : CaAt w base t b v most L) : w.cell? ⟨t, 1, none⟩ = some (.map (some b)) := cell_of_row _ _ 1 _ _ _ h.tab
theorem CaAt.c2 (h : CaAt w base t b v most L) : w.cell? ⟨t, 2, none⟩ = some v := cell_of_row _ _ 2 _ _ _ h.tab
theorem CaAt.fr (h : CaAt w base t b v most L) (j : Nat) : w.frozen? ⟨t, j, none⟩ = false := frozen_of_row _ _ _ _ _ h.tab
theorem CaAt.ne (h : CaAt w base t b v most L) : b ≠ t := by
  obtain ⟨D, h1, _⟩ := h.own
  exact own_ne_block h1 h.tab
theorem CaAt.blt (h : CaAt w base t b v most L) : b < w.heap.size := by
  obtain ⟨D, h1, _⟩ := h.own
  exact h1.lt
theorem CaAt.vne (h : CaAt w base t b v most L) {k : Nat} (hk : v.ownBlock = some k) : k ≠ t ∧ k ≠ b := by
  obtain ⟨_, _, cur, hc⟩ := own_block h.row hk
  refine ⟨fun e => ?_, fun e => ?_⟩
  · rw [e, h.tab] at hc
    simp at hc
  · obtain ⟨D, h1, _⟩ := h.own
    exact own_ne_block h1 hc e.symm
theorem CaAt.kept {K : List Nat} (h : CaAt w base t b v most L) (ho : Only K w w') (h1 : t ∉ K) (h2 : b ∉ K) (h3 : ∀ k, v.ownBlock = some k → k ∉ K) : CaAt w' base t b v most L := ⟨(ho.block t h.lt h1).trans h.tab, by
  obtain ⟨D, a, c⟩ := h.own
  exact ⟨D, own_onlyK a ho h2, c⟩, h.row.only ho h3, h.inv⟩
theorem CaAt.only (h : CaAt w base t b v most L) (ho : Only [] w w') : CaAt w' base t b v most L := h.kept ho (by simp) (by simp) (fun _ _ => by simp)
def ansV (L : List Kp) (k : ByteArray × Int) : Value := match findK L k with | some x => .agg #[.string x.t, .string x.r] | none => .agg #[.string ⟨#[]⟩, .string ⟨#[]⟩]
/-- 'a, known := c.known[request{client, id}]'. -/
theorem CaAt.look (h : CaAt w base t b v most L) {k : ByteArray × Int} (hk : OkQ k) : (Instr.lookup 96 (.map (some b)) (.agg #[.string k.1, .int .i64 k.2]) true).run Tryd.prog w = .ok (.tuple #[ansV L k, .bool (findK L k).isSome]) w := by
  unfold ansV
  obtain ⟨D, h1, h2, h3⟩ := h.own
  obtain ⟨v, ps, hr, hv⟩ := h1.look_ok lawQ undKn (zeroAn _) (zd := anV ⟨⟨#[]⟩, 0, ⟨#[]⟩, ⟨#[]⟩⟩) (zp := []) rfl (keyOf_rq hk)
  rw [h3.isSome] at hr
  rw [h3.look] at hv
  rw [hr]
  cases hf : findK L k with
  | none =>
    rw [hf] at hv
    rw [anElem_inv (x := ⟨⟨#[]⟩, 0, ⟨#[]⟩, ⟨#[]⟩⟩) hv]
  | some x =>
    rw [hf] at hv
    rw [anElem_inv hv]
/-- 'c.known[r] = answer{text, reply}', where there is no such request yet. -/
theorem CaAt.put (h : CaAt w base t b v most L) (x : Kp) (hx : OkQ x.k) (hf : findK L x.k = none) : ∃ w' D, (Instr.mapUpdate 96 (.map (some b)) (.agg #[.string x.c, .int .i64 x.n]) (.agg #[.string x.t, .string x.r])).run Tryd.prog w = .ok () w' ∧ w'.ownsMap Tryd.prog 205 anElem b (L ++ [x]).length D ∧ Maps.size D = (L ++ [x]).length ∧ Reads qkey anV D (findK (L ++ [x])) ∧ Only [b] w w' := by
  obtain ⟨D, h1, h2, h3⟩ := h.own
  have hl := h.inv.len
  have hm := h.inv.most2
  obtain ⟨w', hr, hown, ht⟩ := h1.store lawQ undKn (by unfold maxLen; omega) (keyOf_rq hx) (anElem_mk x)
  have hsz : Maps.size (D.put (qkey x.k) (anV x)) = (L ++ [x]).length := by
    rw [size_put (h1.tidy lawQ), h3.isSome, hf, h2, List.length_append]
    all_goals rfl
  refine ⟨w', _, hr, ?_, hsz, h3.put h1.isMap qkey_key (qkey_only hx) (by rw [findK_app, hf]; simp) (fun j hj => by
    rw [findK_app]
    cases findK L j with
    | none => exact if_neg (fun e => hj e.symm)
    | some y => rfl), only_turnedK ht⟩
  rw [← hsz]
  exact own_sizedK hown
/-- 'delete(c.known, c.order[0])'. -/
theorem CaAt.del {y : Kp} (h : CaAt w base t b v most (y :: L)) (ty : TypeId) : ∃ w' D, (Builtin.delete_ #[96, 205] ty #[.map (some b), .agg #[.string y.c, .int .i64 y.n]]).run Tryd.prog w = .ok (.tuple #[]) w' ∧ w'.ownsMap Tryd.prog 205 anElem b L.length D ∧ Maps.size D = L.length ∧ Reads qkey anV D (findK L) ∧ Only [b] w w' := by
  obtain ⟨D, h1, h2, h3⟩ := h.own
  have hy : OkQ y.k := h.inv.num y (by simp)
  obtain ⟨w', hr, hown, ht⟩ := h1.drop lawQ undKn (keyOf_rq hy) ty
  obtain ⟨hn, ho⟩ := findK_drop_first h.inv.nod
  have hsz : Maps.size (D.del (qkey y.k)) = L.length := by
    have e1 := size_del (k := qkey y.k) (h1.tidy lawQ)
    rw [h3.isSome, findK_cons, if_pos rfl, h2] at e1
    simp at e1
    omega
  refine ⟨w', _, hr, ?_, hsz, h3.del (qkey_only hy) hn ho, only_turnedK ht⟩
  rw [← hsz]
  exact own_sizedK hown
end
end Go.Proofs.YtmfcfkomdflhlaaDoor
