/- A disk: Write. -/
import Derived.Test.YtlcloahkeamdkaaDoorDk5
import Derived.Deep.CutBlock
import Derived.Deep.DeepCutAuto
namespace Go.Proofs.YtlcloahkeamdkaaDoor
open Go Go.RowKit Go.Deep

theorem wpList_newWr {w : World} {ops : Array Oper} {rest : List Oper} {o : Oper} {a : Act} {Q : Exit → Act → World → Prop} (hg : o.guard = none) (hop : o.op = Op.alloc 83)
    (hK : ∀ w', w'.heap[w.heap.size]? = some (.cells (wrC ⟨0, zeroS, zeroS⟩).toArray 83 (0, 0)) → Only [] w w' → wpList Tryd.prog ops Q rest (a.put o.dst (.pointer (some ⟨w.heap.size, 0, none⟩))) w') : wpList Tryd.prog ops Q (o :: rest) a w := by
  refine wpList_plain hg fun K' hK' => ?_
  have := hK _ (heap_alloc_last w _) ((Only.refl [] w).alloc (.cells (wrC ⟨0, zeroS, zeroS⟩).toArray 83))
  obtain ⟨i, hi, hz⟩ := Option.map_eq_some_iff.1 wrInfo
  simp only [Prod.mk.injEq] at hz
  have hzv : ∀ W, (zeroValue 83).run Tryd.prog W = .ok (.agg (wrC ⟨0, zeroS, zeroS⟩).toArray) W := fun W => by simp [zeroValue, typeInfo, hi, hz.1]
  unfold Oper.wp
  simp only [execOp, hop]
  have hr : (Instr.alloc 83 true (.tuple #[])).run Tryd.prog w = .ok (.pointer (some ⟨w.heap.size, 0, none⟩)) (w.alloc (.cells (wrC ⟨0, zeroS, zeroS⟩).toArray 83)) := by
    simp [Instr.alloc, newVar, newRow, Value.cells, Result.andThen, hzv]
  simp [hr, Result.andThen]
  exact hK' _ _ this
theorem wpList_wrb {w : World} {ops : Array Oper} {rest : List Oper} {o : Oper} {a : Act} {Q : Exit → Act → World → Prop} (hg : o.guard = none) (x y : Operand) (hop : o.op = Op.build 83 #[(0, x), (1, y)]) (n : Nat) (s : Sec) (hx : a.eval x = .int .i64 (n : Nat)) (hy : a.eval y = .agg (secC s).toArray)
    (hK : wpList Tryd.prog ops Q rest (a.put o.dst (.agg (wrC ⟨n, s, zeroS⟩).toArray)) w) : wpList Tryd.prog ops Q (o :: rest) a w := by
  refine wpList_plain hg fun K' hK' => ?_
  unfold Oper.wp execOp
  simp only [hop, List.map_toArray, List.map_cons, List.map_nil, hx, hy, Sem.run_bind, wr_build, Result.andThen_ok]
  exact hK' _ _ hK
theorem wpList_copied2 {P : Program} {w : World} {ops : Array Oper} {rest : List Oper} {o : Oper} {a : Act} {Q : Exit → Act → World → Prop} (hg : o.guard = none) (d s : Operand) (t t' : TypeId)
    (ho : o.op = .call { callee := .builtin .copy, args := #[d, s], argTypes := #[t, t'] }) (v u : Value) (hd : a.eval d = v) (hs : a.eval s = u) {v' : Value} {w' : World}
    (hr : ∀ ty, (Builtin.copy_ #[t, t'] ty #[v, u]).run P w = .ok v' w') (h : wpList P ops Q rest (a.put o.dst v') w') : wpList P ops Q (o :: rest) a w := by
  refine wpList_plain hg fun K' hK' => ?_
  unfold Oper.wp execOp
  simp only [ho, resolve, invoke, builtin, Sem.run_bind, Sem.run_pure, Result.andThen_ok, List.map_toArray, List.map_cons, List.map_nil, hd, hs, hr]
  exact hK' _ _ h
theorem step_load_mid {P : Program} {ops : Array Oper} {o : Oper} {a : Act} {w : World} {K : Act → World → Prop} {Q : Exit → Act → World → Prop} {E : Prop} (hg : o.guard = none) (ty : TypeId) (x : Operand) (ho : o.op = .load ty x)
    (b off : Nat) (hx : a.eval x = .pointer (some ⟨b, off, none⟩)) (cs : List Value) (d : TypeDesc) (hc : w.rangeAt b off cs) (hu : P.underlying ty = some d) (hd : d.isRow = true) (hi : (P.info? ty).map (·.size) = some cs.length)
    (h : K (a.put o.dst (.agg cs.toArray)) w) : if Region.wanted o (yielded ops a.tmps) = true then Oper.wp P o a w K Q else E := by
  have hw : Region.wanted o (yielded ops a.tmps) = true := by simp [Region.wanted, hg]
  rw [if_pos hw]
  exact wp_load_mid ty x ho b off hx cs d hc hu hd hi h
theorem step_one {ops : Array Oper} {o : Oper} {a : Act} {w : World} {K : Act → World → Prop} {Q : Exit → Act → World → Prop} {E : Prop} (hg : o.guard = none) (y : Operand) (ho : o.op = .buildSlice 58 1 #[(0, y)]) (x : Wr) (hy : a.eval y = .agg (wrC x).toArray)
    (h : K (a.put o.dst (.slice (some ⟨w.heap.size, 0, none⟩) 1 1)) (w.alloc (.cells (wrC x).toArray 83))) : if Region.wanted o (yielded ops a.tmps) = true then Oper.wp Tryd.prog o a w K Q else E := by
  have hw : Region.wanted o (yielded ops a.tmps) = true := by simp [Region.wanted, hg]
  rw [if_pos hw]
  unfold Oper.wp execOp
  simp only [ho, List.map_toArray, List.map_cons, List.map_nil, hy, Sem.run_bind, one_slice, Result.andThen_ok]
  exact h
theorem setCells_over {w : World} {g off : Nat} {t : TypeId} {cur : Array Value} {cs : List Value} (hg : w.heap[g]? = some (.cells cur t (0, 0))) (hfit : off + cs.length ≤ cur.size) (h1 : ∀ v ∈ cs, v.oneCell' = true) : w.setCells g off cs = w.setRow g (overV cur.toList off cs).toArray := by
  have a := run_storeCells_at Tryd.prog g off t cs 0 cur w hg (by simpa using hfit) h1
  have b := run_storeCells_cells (P := Tryd.prog) g off cs 0 w (fun j hj => by rw [Nat.add_zero, cell_of_row _ _ _ _ _ _ hg]; simp; omega) (fun j _ => by rw [frozen_of_row _ _ _ _ _ hg]) h1
  rw [a] at b
  simp only [Nat.add_zero] at b
  injection b with _ b
  rw [← b]
  rfl
def WriteR (A : Nat → Addr) (w w' : World) (base t : Nat) (pw : Option Nat) (vs vw : Value) (sec : List Sec) (wt : List Wr) (n : Int) (s : ByteArray) (e : Ending) : Prop :=
  (¬ (0 ≤ n ∧ n < sec.length) ∧ e = .returned (sErr A 1) ∧ w' = w) ∨
  ((0 ≤ n ∧ n < sec.length) ∧ 64 < s.size ∧ e = .returned (sErr A 2) ∧ w' = w) ∨
  ((0 ≤ n ∧ n < sec.length) ∧ s.size ≤ 64 ∧ pw = some 0 ∧ e = .returned (sErr A 14) ∧ w' = w) ∨
  ((0 ≤ n ∧ n < sec.length) ∧ s.size ≤ 64 ∧ pw ≠ some 0 ∧ e = .returned .nilIface ∧ ∃ vw' x, sec[n.toNat]? = some x ∧ DkAt w' base t (pw.map (· - 1)) vs vw' (sec.set n.toNat (padB s)) (wt ++ [⟨n.toNat, x, padB s⟩]) ∧ Only (dkFoot t vs vw) w w' ∧ (∀ k, vw'.ownBlock = some k → vw.ownBlock = some k ∨ w.heap.size ≤ k))
set_option maxHeartbeats 1000000 in
theorem write_bad (A : Nat → Addr) {w : World} {base t : Nat} {pw : Option Nat} {vs vw : Value} {sec : List Sec} {wt : List Wr} (hE : Err3 w A) (h : DkAt w base t pw vs vw sec wt) (n : Int) (s : ByteArray) (hn : ¬ (0 ≤ n ∧ n < sec.length)) :
    Calls Tryd.prog 35 #[.pointer (some ⟨t, 0, none⟩), .int .i64 n, .string s] w fun e w' => WriteR A w w' base t pw vs vw sec wt n s e := by
  have hh := has_any h n
  rw [decide_eq_false hn] at hh
  have H : Hid (Calls Tryd.prog 53 #[.pointer (some ⟨t, 0, none⟩), .int .i64 n] w fun e w' => e = .returned (.bool false) ∧ w' = w) := hh
  have c1 : w.cell? ⟨0, 0, none⟩ = some (.iface 154 (.pointer (some (A 1)))) := hE 1 (by simp)
  clear hE h hh
  go_enter Tryd.func35, Tryd.ntmps35
  go_wp2_with (go_at_call 53; refine H.out.mono ?_; rintro e w1 ⟨rfl, rfl⟩)
  go_ret
  exact Or.inl ⟨hn, rfl, rfl⟩
set_option maxHeartbeats 1000000 in
theorem write_long (A : Nat → Addr) {w : World} {base t : Nat} {pw : Option Nat} {vs vw : Value} {sec : List Sec} {wt : List Wr} (hE : Err3 w A) (h : DkAt w base t pw vs vw sec wt) (n : Int) (s : ByteArray) (hn : 0 ≤ n ∧ n < sec.length) (hs : 64 < s.size) :
    Calls Tryd.prog 35 #[.pointer (some ⟨t, 0, none⟩), .int .i64 n, .string s] w fun e w' => WriteR A w w' base t pw vs vw sec wt n s e := by
  have hh := has_any h n
  rw [decide_eq_true hn] at hh
  have H : Hid (Calls Tryd.prog 53 #[.pointer (some ⟨t, 0, none⟩), .int .i64 n] w fun e w' => e = .returned (.bool true) ∧ w' = w) := hh
  have c1 : w.cell? ⟨3, 0, none⟩ = some (.iface 154 (.pointer (some (A 2)))) := hE 2 (by simp)
  have d0 : decide ((64 : Int) < (s.size : Int)) = true := decide_eq_true (by omega)
  clear hE h hh
  go_enter Tryd.func35, Tryd.ntmps35
  go_wp2_with (go_at_call 53; refine H.out.mono ?_; rintro e w1 ⟨rfl, rfl⟩)
  go_ret
  exact Or.inr (Or.inl ⟨hn, hs, rfl, rfl⟩)
set_option maxHeartbeats 1000000 in
theorem write_power (A : Nat → Addr) {w : World} {base t : Nat} {pw : Option Nat} {vs vw : Value} {sec : List Sec} {wt : List Wr} (hE : Err3 w A) (h : DkAt w base t pw vs vw sec wt) (n : Int) (s : ByteArray) (hn : 0 ≤ n ∧ n < sec.length) (hs : s.size ≤ 64) (hp : pw = some 0) :
    Calls Tryd.prog 35 #[.pointer (some ⟨t, 0, none⟩), .int .i64 n, .string s] w fun e w' => WriteR A w w' base t pw vs vw sec wt n s e := by
  have hh := has_any h n
  rw [decide_eq_true hn] at hh
  have H : Hid (Calls Tryd.prog 53 #[.pointer (some ⟨t, 0, none⟩), .int .i64 n] w fun e w' => e = .returned (.bool true) ∧ w' = w) := hh
  have H1 : Hid (Calls Tryd.prog 54 #[.pointer (some ⟨t, 0, none⟩)] w fun e w' => e = .returned (.iface 154 (.pointer (some (A 14)))) ∧ w' = w) := (spend_any A hE h (fun k e => by rw [hp] at e; cases e; decide)).mono fun e w' q => by
    rcases q with q | q
    · exact q.2
    · exact absurd hp q.1
  have d0 : decide ((64 : Int) < (s.size : Int)) = false := decide_eq_false (by omega)
  have hlt := h.lt
  clear hE h hh
  go_enter Tryd.func35, Tryd.ntmps35
  go_wp2_with (first
    | (go_at_call 53; refine H.out.mono ?_; rintro e w1 ⟨rfl, rfl⟩)
    | (go_at_call 54; refine H1.out.mono ?_; rintro e w1 ⟨rfl, rfl⟩))
  go_ret
  exact Or.inr (Or.inr (Or.inl ⟨hn, hs, hp, rfl, rfl⟩))
end Go.Proofs.YtlcloahkeamdkaaDoor
