/- A disk: the first loop of Crash: what waits is undone. -/
import Derived.Test.YtlcloahkeamdkaaDoorDk8
import Derived.Test.YtlcloahkeamdkaaDoorBr
namespace Go.Proofs.YtlcloahkeamdkaaDoor
open Go Go.RowKit Go.Deep Go.Shelf
attribute [local go_sem] Oper.semAt_some

theorem wpListIn_newWr {F : Fence} {n : Nat} {w : World} {ops : Array Oper} {rest : List Oper} {o : Oper} {a : Act} {Q : Exit → Act → World → Prop} (hg : o.guard = none) (hop : o.op = Op.alloc 83)
    (hK : ∀ w', w'.heap[w.heap.size]? = some (.cells (wrC ⟨0, zeroS, zeroS⟩).toArray 83 (0, 0)) → w' = w.alloc (.cells (wrC ⟨0, zeroS, zeroS⟩).toArray 83) → wpListIn F n Tryd.prog ops Q rest (a.put o.dst (.pointer (some ⟨w.heap.size, 0, none⟩))) w') : wpListIn F n Tryd.prog ops Q (o :: rest) a w := by
  have := hK _ (heap_alloc_last w _) rfl
  obtain ⟨i, hi, hz⟩ := Option.map_eq_some_iff.1 wrInfo
  simp only [Prod.mk.injEq] at hz
  have hzv : ∀ W, (zeroValue 83).run Tryd.prog W = .ok (.agg (wrC ⟨0, zeroS, zeroS⟩).toArray) W := fun W => by simp [zeroValue, typeInfo, hi, hz.1]
  have hr : (Instr.alloc 83 true (.tuple #[])).run Tryd.prog w = .ok (.pointer (some ⟨w.heap.size, 0, none⟩)) (w.alloc (.cells (wrC ⟨0, zeroS, zeroS⟩).toArray 83)) := by
    simp [Instr.alloc, newVar, newRow, Value.cells, Result.andThen, hzv]
  refine wpListIn_run hg (fun c e => by rw [hop] at e; cases e) (by simp [Oper.about, hop]) (w' := w.alloc (.cells (wrC ⟨0, zeroS, zeroS⟩).toArray 83)) (v := .pointer (some ⟨w.heap.size, 0, none⟩)) ?_ this
  simp [execOp, hop, hr, Result.andThen]
theorem wpListIn_store_row {F : Fence} {n : Nat} {P : Program} {w : World} {ops : Array Oper} {rest : List Oper} {o : Oper} {a : Act} {Q : Exit → Act → World → Prop} (hgd : o.guard = none) (ty : TypeId) (x y : Operand) (ho : o.op = .store ty x y)
    (g : Nat) (cells : Array Value) (hx : a.eval x = .pointer (some ⟨g, 0, none⟩)) (hy : a.eval y = .agg cells) (t : TypeId) (old : Array Value) (hg : w.heap[g]? = some (.cells old t (0, 0))) (hi : (P.info? ty).map (·.size) = some cells.size)
    (hold : old.size = cells.size) (h1 : cells.all (·.oneCell') = true) (h : wpListIn F n P ops Q rest (a.put o.dst undef) (w.setRow g cells)) : wpListIn F n P ops Q (o :: rest) a w := by
  refine wpListIn_plain hgd fun K hK => ?_
  unfold Oper.wpIn
  refine ⟨by simp [Oper.about, ho], ?_⟩
  rw [Oper.semAt_plain F _ _ (fun c e => by rw [ho] at e; cases e)]
  simp only [execOp, ho, hx, hy, Instr.storeAt, Instr.sureAddr, Sem.run_bind, Sem.run_pure, Result.andThen_ok, run_storeVar_row w g t ty old cells hg hi hold h1]
  exact hK _ _ h
theorem only_of_grown {W W' : World} {row : Option Nat} (h : W.grownBy W' row) : Only row.toList W W' := (Only.refl _ _).grown h (fun k e => Or.inl (by rw [e]; simp))
theorem only_putObj (W : World) (l : Nat) (o : Obj) : Only [l] W (W.putObj l o) := only_of_grown (grownBy_putObj' W l o)
theorem keeps_of_only {B : Nat} {L : List Nat} {W W' : World} (h : Only L W W') (hL : ∀ k ∈ L, ∃ c t f, W.heap[k]? = some (.cells c t f)) : KeepsFrom B W W' :=
  ⟨h.size, fun k o _ hk ho => (h.block k (Array.getElem?_eq_some_iff.1 hk).1 (fun hm => by
    obtain ⟨c, t, f, e⟩ := hL k hm
    rw [hk] at e
    cases e
    cases ho)).trans hk⟩
theorem DkAt.foot_cells {w : World} {base t : Nat} {pw : Option Nat} {vs vw : Value} {sec : List Sec} {wt : List Wr} (h : DkAt w base t pw vs vw sec wt) {k : Nat} (hk : k ∈ dkFoot t vs vw) : ∃ c t f, w.heap[k]? = some (.cells c t f) := by
  rcases mem_foot.1 hk with rfl | hk | hk
  · exact ⟨_, _, _, h.blk⟩
  · obtain ⟨_, _, cur, e⟩ := own_blk h.secs hk
    exact ⟨_, _, _, e⟩
  · obtain ⟨_, _, cur, e⟩ := own_blk h.wts hk
    exact ⟨_, _, _, e⟩
/-- A sector is written over. -/
theorem DkAt.stored {W : World} {base t g cap len : Nat} {pw : Option Nat} {vw : Value} {sec : List Sec} {wt : List Wr} (h : DkAt W base t pw (.slice (some ⟨g, 0, none⟩) len cap) vw sec wt) {n : Nat} (hn : n < sec.length) (s : Sec) :
    len = sec.length ∧ (∃ cur, W.heap[g]? = some (.cells cur 81 (0, 0)) ∧ n * 64 + (secC s).length ≤ cur.size) ∧ DkAt (W.setCells g (n * 64) (secC s)) base t pw (.slice (some ⟨g, 0, none⟩) len cap) vw (sec.set n s) wt ∧ Only [g] W (W.setCells g (n * 64) (secC s)) := by
  obtain ⟨g', cap', cur, e, _, hg, hcap, hcs, _⟩ := h.row
  cases e
  have hfit : n * 64 + (secC s).length ≤ cur.size := by rw [secC_len, hcs]; omega
  have hsc := setCells_over (w := W) (off := n * 64) hg hfit (secC_one s)
  have ho := only_rowS W g (overV cur.toList (n * 64) (secC s)).toArray
  rw [← hsc] at ho
  refine ⟨rfl, ⟨cur, hg, hfit⟩, ⟨(ho.block t h.lt (by simpa using fun e => h.ne1 (k := g) rfl e.symm)).trans h.blk, h.tb, ?_, ho.owns h.wts (fun k hk => by simpa using fun e => h.ne3 (k := g) rfl hk e.symm), by simpa using h.ins, by simpa using h.pos, by simpa using h.most⟩, ho⟩
  rw [hsc]
  exact own_set secC_len h.secs hg rfl hn s
/-- What is there while the writes are undone. -/
structure UnI (w0 : World) (base t bd : Nat) (pw : Option Nat) (vs vw : Value) (wt : List Wr) (sec : List Sec) (W : World) : Prop where
  dk : DkAt W base t pw vs vw sec wt
  box : W.heap[bd]? = some (.cells #[.pointer (some ⟨t, 0, none⟩)] 25 (0, 0))
  only : Only (dkFoot t vs vw) w0 W
theorem UnI.step {w0 W W' : World} {base t bd : Nat} {pw : Option Nat} {vs vw : Value} {wt : List Wr} {sec : List Sec} (h : UnI w0 base t bd pw vs vw wt sec W) (ho : Only [] W W') : UnI w0 base t bd pw vs vw wt sec W' :=
  ⟨h.dk.keep ho, (ho.block bd (Array.getElem?_eq_some_iff.1 h.box).1 (by simp)).trans h.box, h.only.trans ho (fun _ hk => by cases hk)⟩
theorem UnI.stored {w0 W : World} {base t bd g cap len : Nat} {pw : Option Nat} {vw : Value} {wt : List Wr} {sec : List Sec} (h : UnI w0 base t bd pw (.slice (some ⟨g, 0, none⟩) len cap) vw wt sec W) {n : Nat} (hn : n < sec.length) (s : Sec) : UnI w0 base t bd pw (.slice (some ⟨g, 0, none⟩) len cap) vw wt (sec.set n s) (W.setCells g (n * 64) (secC s)) := by
  obtain ⟨_, ⟨cur, hg, _⟩, h1, h2⟩ := h.dk.stored hn s
  refine ⟨h1, (h2.block bd (Array.getElem?_eq_some_iff.1 h.box).1 (fun hm => ?_)).trans h.box, h.only.trans h2 (fun k hk => Or.inl (mem_foot.2 (Or.inr (Or.inl (by simp at hk; simp [Value.ownBlock, hk])))))⟩
  have e := List.mem_singleton.1 hm
  have hb := h.box
  rw [e, hg] at hb
  simp at hb
theorem UnI.turn {w0 W W' : World} {base t bd : Nat} {pw : Option Nat} {vs vw : Value} {wt : List Wr} {sec : List Sec} (h : UnI w0 base t bd pw vs vw wt sec W) {row : Option Nat} (hg : W.grownBy W' row) (hr : ∀ r, row = some r → w0.heap.size ≤ r ∧ ∃ o : Obj, W.heap[r]? = some o ∧ o.isCells = false) : UnI w0 base t bd pw vs vw wt sec W' := by
  have ho := only_of_grown hg
  have hc : ∀ k, (∃ c t f, W.heap[k]? = some (.cells c t f)) → k ∉ row.toList := fun k ⟨c, t, f, e⟩ hm => by
    obtain ⟨_, o, h1, h2⟩ := hr k (by simpa using hm)
    rw [e] at h1
    cases h1
    cases h2
  refine ⟨h.dk.only ho (fun k hk => hc k (h.dk.foot_cells hk)), (ho.block bd (Array.getElem?_eq_some_iff.1 h.box).1 (hc bd ⟨_, _, _, h.box⟩)).trans h.box, h.only.trans ho (fun k hk => Or.inr (hr k (by simpa using hk)).1)⟩
def undoL {N0 : Nat} (sec : List Sec) (pre : List (WrIn N0)) : List Sec := pre.foldl (fun l p => l.set p.2.1.n p.2.1.was) sec
theorem undoL_all {N0 : Nat} (sec : List Sec) {pre : List (WrIn N0)} {xs : List { x : Wr // x.n < N0 }} (h : pre.map (·.2) = xs.reverse) : undoL sec pre = undo sec (xs.map (·.1)) := by
  have e : undoL sec pre = (pre.map (·.2)).foldl (fun l p => l.set p.1.n p.1.was) sec := by
    unfold undoL
    rw [List.foldl_map]
  rw [e, h, List.foldl_reverse]
  unfold undo
  rw [List.foldr_map]
theorem undoL_len {N0 : Nat} (sec : List Sec) (pre : List (WrIn N0)) : (undoL sec pre).length = sec.length := by
  unfold undoL
  induction pre generalizing sec with
  | nil => rfl
  | cons p l ih => simpa using ih (sec.set p.2.1.n p.2.1.was)
end Go.Proofs.YtlcloahkeamdkaaDoor
