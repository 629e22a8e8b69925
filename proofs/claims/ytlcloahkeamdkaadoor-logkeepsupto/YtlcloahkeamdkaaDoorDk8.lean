/- A disk: slices.Backward over the writes that wait, by its contract. -/
import Derived.Test.YtlcloahkeamdkaaDoorDk6
import Derived.RangeFuncNested
import Derived.RangeFuncBound
import Derived.RangeFuncCalls
import Derived.RangeFuncLeaves
import Derived.Shelf.Abstract
import Derived.Shelf.RegionOpen
import Derived.OwnWalkIn
import Derived.TacticsInMore
import Derived.LoopNIn
import Derived.LoopIn
namespace Go.Proofs.YtlcloahkeamdkaaDoor
open Go Go.RowKit Go.Deep Go.Shelf
attribute [local go_sem] Oper.semAt_some

/-- Within a fence: an operation whose run is known. -/
theorem wpListIn_run {F : Fence} {n : Nat} {P : Program} {w w' : World} {ops : Array Oper} {rest : List Oper} {o : Oper} {a : Act} {Q : Exit → Act → World → Prop} {v : Value} (hg : o.guard = none) (hd : ∀ c, o.op ≠ .defer c) (ha : o.about P w a.eval = none)
    (hr : (execOp a.eval o).run P w = .ok (.value v) w') (h : wpListIn F n P ops Q rest (a.put o.dst v) w') : wpListIn F n P ops Q (o :: rest) a w := by
  refine wpListIn_plain hg fun K hK => ?_
  unfold Oper.wpIn
  refine ⟨fun f hf => (by rw [ha] at hf; cases hf), ?_⟩
  rw [Oper.semAt_plain F _ _ hd, hr]
  exact hK _ _ h
theorem wpListIn_load_mid {F : Fence} {n : Nat} {P : Program} {w : World} {ops : Array Oper} {rest : List Oper} {o : Oper} {a : Act} {Q : Exit → Act → World → Prop} (hg : o.guard = none) (ty : TypeId) (x : Operand) (ho : o.op = .load ty x) (b off : Nat) (hx : a.eval x = .pointer (some ⟨b, off, none⟩)) (cs : List Value) (d : TypeDesc) (hc : w.rangeAt b off cs) (hu : P.underlying ty = some d) (hd : d.isRow = true) (hi : (P.info? ty).map (·.size) = some cs.length)
    (h : wpListIn F n P ops Q rest (a.put o.dst (.agg cs.toArray)) w) : wpListIn F n P ops Q (o :: rest) a w :=
  wpListIn_run hg (fun c e => by rw [ho] at e; cases e) (by simp [Oper.about, ho]) (by simp only [execOp, ho, hx, Sem.run_bind, run_loadAt_mid w b off ty cs d hc hu hd hi, Result.andThen_ok, Sem.run_pure]) h
abbrev WrIn (N0 : Nat) := Nat × { x : Wr // x.n < N0 }
def encW {N0 : Nat} (p : WrIn N0) : Array Value := #[.int .i64 (p.1 : Nat), .agg (wrC p.2.1).toArray]
def KpW (bx g : Nat) (W W' : World) : Prop := W'.heap[bx]? = W.heap[bx]? ∧ W'.heap[g]? = W.heap[g]?
set_option maxRecDepth 100000 in
set_option maxHeartbeats 2000000 in
theorem back1_in {N0 : Nat} (F : Fence) (n : Nat) (h33 : F.fn 52) (hro : F.round = none) (hn : 1 ≤ n) (l bx g cap : Nat) (xs : List { x : Wr // x.n < N0 }) (hm : xs.length ≤ 100001) (J Jx : List (WrIn N0) → World → Prop)
    (hY : ∀ pre x W, J pre W → pre.length < xs.length → YieldAt F (n - 1) Tryd.prog l (encW x) W fun e W' =>
      (e = .returned (.bool true) ∧ J (pre ++ [x]) W' ∧ KpW bx g W W') ∨ (e = .returned (.bool false) ∧ Jx (pre ++ [x]) W'))
    (W : World) (hB : W.cell? ⟨bx, 0, none⟩ = some (.slice (some ⟨g, 0, none⟩) xs.length cap)) (hc : ∀ j x, xs[j]? = some x → W.rangeAt g (j * 129) (wrC x.1)) (h0 : J [] W) :
    CallsIn F n Tryd.prog 52 #[.func (.yield l) #[] #[], .pointer (some ⟨bx, 0, none⟩)] W fun e W' => (∃ v, e = .returned v) ∧
      ((∃ ys, ys.map (·.2) = xs.reverse ∧ J ys W') ∨ (∃ pre, pre.length ≤ xs.length ∧ Jx pre W')) := by
  refine callsIn_of_wp Tryd.func52 rfl h33 ?_ hro
  simp only [Tryd.ntmps52, List.size_toArray, List.length_cons, List.length_nil, Nat.reduceAdd, Nat.reduceSub, Array.replicate_succ, Array.replicate_zero, List.push_toArray, List.append_toArray, List.nil_append, List.cons_append]
  gi_wp2
  gi_loopw [3] (fun i wr => ∃ (k : Nat) (ys : List (WrIn N0)), k ≤ xs.length ∧ i = .int .i64 ((k : Int) - 1) ∧ ys.map (·.2) = (xs.drop k).reverse ∧ J ys wr ∧ KpW bx g W wr) (fun i _ => (intOf i + 1).toNat)
  case atStart =>
    refine ⟨xs.length, [], Nat.le_refl _, ?_, by simp, h0, rfl, rfl⟩
    go_num
  case round =>
    obtain ⟨k, ys, hk, rfl, hys, hJ, hkp⟩ := hrel
    have hB' : wr.cell? ⟨bx, 0, none⟩ = some (.slice (some ⟨g, 0, none⟩) xs.length cap) := (World.cell?_of_block (w := W) hkp.1).trans hB
    have hyl : ys.length = xs.length - k := by
      have := congrArg List.length hys
      simpa using this
    match k, hk, hys, hyl with
    | 0, hk, hys, hyl =>
      have d0 : decide ((0 : Int) ≤ ((0 : Nat) : Int) - 1) = false := by decide
      gi_wp2
      go_end0
      exact ⟨⟨_, rfl⟩, .inl ⟨ys, by simpa using hys, hJ⟩⟩
    | k + 1, hk, hys, hyl =>
      obtain ⟨x, hx⟩ : ∃ x, xs[k]? = some x := ⟨xs[k]'(by omega), List.getElem?_eq_getElem (by omega)⟩
      have hrg : wr.rangeAt g (k * 129) (wrC x.1) := fun j v hv => (World.cell?_of_block (w := W) hkp.2).trans (hc k x hx j v hv)
      have ei : (((k + 1 : Nat) : Int) - 1) = (k : Int) := by omega
      obtain ⟨fn, tmps, assign, body, hy, hR⟩ := hY ys (k, x) wr hJ (by omega)
      dsimp only [encW] at hy
      rw [ei]
      have d0 : decide ((0 : Int) ≤ (k : Int)) = true := decide_eq_true (by omega)
      have hwu := Tryd.underlying83
      have b1 : (k : Int) < (xs.length : Int) := by omega
      have HS : Hid (ys.map (·.2) = (xs.drop (k + 1)).reverse) := hys
      have HX : Hid (xs[k]? = some x) := hx
      have HRG : Hid (wr.rangeAt g (k * 129) (wrC x.1)) := hrg
      clear hys hx hrg
      gi_wp2_with (refine wpListIn_load_mid rfl 83 _ rfl g (k * 129) rfl (wrC x.1) _ HRG.out hwu rfl (by rw [wrC_len]; exact wrSize) ?_)
      refine hR.mono ?_
      rintro e W3 (⟨rfl, hJ3, hk3⟩ | ⟨rfl, hJx3⟩)
      · gi_wp2
        go_roundw
        case rel =>
          refine ⟨k, ys ++ [(k, x)], by omega, by go_num, ?_, hJ3, hk3.1.trans hkp.1, hk3.2.trans hkp.2⟩
          obtain ⟨hkl, e1⟩ := List.getElem?_eq_some_iff.1 HX.out
          rw [List.map_append, HS.out, List.drop_eq_getElem_cons hkl, List.reverse_cons, e1]
          rfl
        case measure => simp [intOf]
      · gi_wp2
        refine bodyPost_ret (results_none rfl _ _ _) rfl ?_
        exact ⟨⟨_, rfl⟩, .inr ⟨_, by simp; omega, hJx3⟩⟩
set_option maxRecDepth 100000 in
set_option maxHeartbeats 2000000 in
theorem back1_nil {N0 : Nat} (F : Fence) (n : Nat) (h33 : F.fn 52) (hro : F.round = none) (l bx : Nat) (J : List (WrIn N0) → World → Prop) (W : World) (hB : W.cell? ⟨bx, 0, none⟩ = some (.slice none 0 0)) (h0 : J [] W) :
    CallsIn F n Tryd.prog 52 #[.func (.yield l) #[] #[], .pointer (some ⟨bx, 0, none⟩)] W fun e W' => (∃ v, e = .returned v) ∧ J [] W' := by
  refine callsIn_of_wp Tryd.func52 rfl h33 ?_ hro
  simp only [Tryd.ntmps52, List.size_toArray, List.length_cons, List.length_nil, Nat.reduceAdd, Nat.reduceSub, Array.replicate_succ, Array.replicate_zero, List.push_toArray, List.append_toArray, List.nil_append, List.cons_append]
  gi_wp2
  gi_loopw [3] (fun i wr => i = .int .i64 (-1) ∧ J [] wr) (fun _ _ => 0)
  case atStart => exact ⟨rfl, h0⟩
  case round =>
    obtain ⟨rfl, hJs⟩ := hrel
    gi_wp2
    go_end0
    exact ⟨⟨_, rfl⟩, hJs⟩
set_option maxHeartbeats 1000000 in
theorem back_in (F : Fence) (n : Nat) (h : F.fn 32) (hro : F.round = none) (a : Option Addr) (len cap : Nat) (w : World) :
    CallsIn F n Tryd.prog 32 #[.slice a len cap] w fun e w' => e = .returned (.func (.func 52) #[] #[.pointer (some ⟨w.heap.size, 0, none⟩)]) ∧ w' = w.alloc (.cells #[.slice a len cap] 58) := by
  refine callsIn_of_wp Tryd.func32 rfl h ?_ hro
  simp only [Tryd.ntmps32, List.size_toArray, List.length_cons, List.length_nil, Nat.reduceAdd, Nat.reduceSub, Array.replicate_succ, Array.replicate_zero, List.push_toArray, List.append_toArray, List.nil_append, List.cons_append]
  gi_wp2
  go_ret
  exact ⟨rfl, rfl⟩
/-- The writes that wait, as they lie. -/
def WtIn (W : World) (v : Value) (wt : List Wr) : Prop := (v = .slice none 0 0 ∧ wt = []) ∨ ∃ g cap, v = .slice (some ⟨g, 0, none⟩) wt.length cap ∧ g < W.heap.size ∧ ∀ j x, wt[j]? = some x → W.rangeAt g (j * 129) (wrC x)
def blkOf (v : Value) : Nat := (v.ownBlock).getD 0
theorem back_stops {N0 : Nat} (F : Fence) (n : Nat) (h33 : F.fn 52) (hro : F.round = none) (hn : 1 ≤ n) (bx : Nat) (v : Value) (xs : List { x : Wr // x.n < N0 }) (hm : xs.length ≤ 100001) (w : World) (hbx : bx < w.heap.size)
    (hB : w.cell? ⟨bx, 0, none⟩ = some v) (hI : WtIn w v (xs.map (·.1))) :
    SeqStopsK F n Tryd.prog 52 #[.pointer (some ⟨bx, 0, none⟩)] (encW (N0 := N0)) (KpW bx (blkOf v)) (fun ys => ys.map (·.2) = xs.reverse) (fun pre => pre.length ≤ xs.length) xs.length w := fun l J Jx W hW _ _ hY h0 => by
  have hB' := (hW.cell (p := ⟨bx, 0, none⟩) hbx).trans hB
  rcases hI with ⟨rfl, e⟩ | ⟨g, cap, rfl, hg, hc⟩
  · obtain rfl : xs = [] := List.map_eq_nil_iff.1 e
    exact (back1_nil F n h33 hro l bx J W hB' h0).mono fun e W' q => ⟨q.1, .inl ⟨[], rfl, q.2⟩⟩
  · rw [List.length_map] at hB'
    refine back1_in F n h33 hro hn l bx g cap xs hm J Jx hY W hB' (fun j x hx i u hu => ?_) h0
    rw [World.cell?_of_block (w := w) (hW.block g hg)]
    exact hc j x.1 (by rw [List.getElem?_map, hx]; rfl) i u hu
end Go.Proofs.YtlcloahkeamdkaaDoor
