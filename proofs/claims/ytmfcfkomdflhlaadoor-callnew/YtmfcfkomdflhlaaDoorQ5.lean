/- What was answered: slices.Delete of one request. -/
import Derived.Test.YtmfcfkomdflhlaaDoorCa2
import Derived.Shelf.Spec.SlicesInsert
import Derived.Lib.SliceRun
import Derived.Lib.Overlaps
import Derived.Test.YtmfcfkomdflhlaaDoorEr
import Derived.Test.YtmfcfkomdflhlaaDoorE3
/- What was answered: slices.Delete of one request. -/
namespace Go.Proofs.YtmfcfkomdflhlaaDoor
open Go Go.RowKit Go.Deep

theorem rqZero (w : World) : (zeroValue 205).run Tryd.prog w = .ok (.agg #[.string ⟨#[]⟩, .int .i64 0]) w := by
  obtain ⟨i0, h1, h2, _⟩ := rqInfo'
  simp [zeroValue, typeInfo, h1, h2]
theorem zeroOneK (n : Nat) : ∀ v ∈ (Builtin.zeroCells (Value.agg #[.string ⟨#[]⟩, .int .i64 0]).cells n).toList, v.oneCell' = true := by
  intro v hv
  simp only [Builtin.zeroCells, Array.toList_map, List.mem_map] at hv
  obtain ⟨i, _, rfl⟩ := hv
  have h : i % 2 < 2 := Nat.mod_lt _ (by decide)
  have hs : (Value.agg #[.string ⟨#[]⟩, .int .i64 0]).cells = #[.string ⟨#[]⟩, .int .i64 0] := rfl
  rw [hs]
  rcases (show i % 2 = 0 ∨ i % 2 = 1 by omega) with e | e <;> simp [e] <;> rfl
/-- A part of a row of opens is cleared. -/
theorem clear_atK {w : World} {g o n cap : Nat} {cur : Array Value} (hg : w.heap[g]? = some (.cells cur 205 (0, 0))) (hn : 0 < n) (hfit : o + n * 2 ≤ cur.size) :
    ∃ w' cs, (∀ ty, (Builtin.clear_ #[97] ty #[.slice (some ⟨g, o, none⟩) n cap]).run Tryd.prog w = .ok (.tuple #[]) w') ∧ w'.heap[g]? = some (.cells (overV cur.toList o cs).toArray 205 (0, 0)) ∧ cs.length = n * 2 ∧ Only [g] w w' :=
  ⟨_, _, fun ty => run_clear_k (P := Tryd.prog) w 97 ty 205 _ g o n cap cur 205 rqsUnd rqZero hg hn (by have h := hfit; exact h) (zeroOneK n), setRow_heap w g cur _ 205 _ hg, by rw [Array.length_toList, size_zeroCells]; rfl, only_rowS w g _⟩
/-- An append whose run is known, as a step of a region that draws. -/
theorem step_append_knownK {P : Program} {ops : Array Oper} {o : Oper} {a : Act} {w : World} {K : Act → World → Prop} {Q : Exit → Act → World → Prop} {E : Prop} (hg : o.guard = none) (s x : Operand) (t t' : TypeId) (hop : o.op = Op.call { callee := Callee.builtin Builtin.append, args := #[s, x], argTypes := #[t, t'] })
    (v u : Value) (hs : a.eval s = v) (hx : a.eval x = u) {v' : Value} {w' : World} (hr : (Builtin.append_ #[t, t'] o.type #[v, u]).run P w = .ok v' w') (hK : K (a.put o.dst v') w') : if Region.wanted o (yielded ops a.tmps) = true then Oper.wp P o a w K Q else E := by
  have hw : Region.wanted o (yielded ops a.tmps) = true := by simp [Region.wanted, hg]
  rw [if_pos hw]
  unfold Oper.wp
  simp [execOp, hop, resolve, invoke, builtin, hs, hx, hr, Result.andThen]
  exact hK
/-- A clearing whose run is known. -/
theorem wpList_clear_knownK {P : Program} {w : World} {ops : Array Oper} {rest : List Oper} {o : Oper} {a : Act} {Q : Exit → Act → World → Prop} (hgd : o.guard = none) (s : Operand) (t : TypeId) (ho : o.op = .call { callee := .builtin .clear, args := #[s], argTypes := #[t] }) (v : Value) (hs : a.eval s = v) {v' : Value} {w' : World}
    (hr : (Builtin.clear_ #[t] o.type #[v]).run P w = .ok v' w') (h : wpList P ops Q rest (a.put o.dst v') w') : wpList P ops Q (o :: rest) a w :=
  wpList_plain hgd fun K hK => by
    unfold Oper.wp execOp
    simp only [ho, resolve, invoke, builtin, Sem.run_bind, Sem.run_pure, Result.andThen_ok, List.map_toArray, List.map_cons, List.map_nil, hs, hr]
    exact hK _ _ h
end Go.Proofs.YtmfcfkomdflhlaaDoor
/- What was answered: the program's functions: New, Look, forget, Keep, Count. -/
namespace Go.Proofs.YtmfcfkomdflhlaaDoor
open Go Go.RowKit Go.Deep Go.Maps

/-- The errors that a cache tells of lie in memory. -/
def Err4 (W : World) (A : Nat → Addr) : Prop := ∀ k, k ∈ [1, 5, 11] → W.cell? ⟨gOf k, 0, none⟩ = some (.iface 171 (.pointer (some (A k))))
theorem Err4.below {W w : World} {A : Nat → Addr} (h : Err4 W A) (hb : Below W.heap.size W w) : Err4 w A := fun k hk => (hb.cell (p := ⟨gOf k, 0, none⟩) (lt_of_cell (h k hk))).trans (h k hk)
theorem Errs.four {W : World} {A : Nat → Addr} (h : Errs W A) : Err4 W A := fun k hk => h.cell k (by simp at hk; omega)
theorem bytes_ne {s r : ByteArray} (h : ¬ s = r) : (s.toList == r.toList) = false := by
  rw [Lib.toList_data, Lib.toList_data]
  exact beq_eq_false_iff_ne.2 (fun e => h (bytes_of e))
section
variable {w w' : World} {base t b : Nat} {v v' : Value} {most : Nat} {L : List Kp}
/-- The order is another row now. -/
theorem CaAt.reordered (ht : w.heap[t]? = some (.cells #[.int .i64 (most : Nat), .map (some b), v] 99 (0, 0))) (hm : ∃ D, w.ownsMap Tryd.prog 205 anElem b L.length D ∧ Maps.size D = L.length ∧ Reads qkey anV D (findK L)) (hr : Rqs w base v' L) (hi : KInv most L) :
    w.cell? ⟨t, 2, none⟩ = some v ∧ w.frozen? ⟨t, 2, none⟩ = false ∧ t < w.heap.size ∧ CaAt (w.setCell ⟨t, 2, none⟩ v') base t b v' most L ∧ Only [t] w (w.setCell ⟨t, 2, none⟩ v') := by
  have ho : Only [t] w (w.setCell ⟨t, 2, none⟩ v') := (Only.refl [t] w).setCell (Or.inl (by simp)) _
  obtain ⟨D, h1, h2⟩ := hm
  have hbt : b ≠ t := own_ne_block h1 ht
  refine ⟨cell_of_row _ _ 2 _ _ _ ht, frozen_of_row _ _ _ _ _ ht, (Array.getElem?_eq_some_iff.1 ht).1, ⟨heap_setCell_same w t 2 _ _ _ ht, ⟨D, own_onlyK h1 ho (by simpa using hbt), h2⟩, hr.only ho (fun k hk hkt => ?_), hi⟩, ho⟩
  obtain ⟨_, _, cur, hc⟩ := own_block hr hk
  rw [List.mem_singleton.1 hkt, ht] at hc
  simp at hc
end
/-! ### New -/
set_option maxHeartbeats 1000000 in
theorem new_bad (A : Nat → Addr) (w : World) (m : Int) (hE : Err4 w A) (h : m < 1 ∨ 20 < m) : Calls Tryd.prog 15 #[.int .i64 m] w fun e w' => e = .returned (.tuple #[.pointer none, errN A 2]) ∧ Only [] w w' := by
  have c1 : w.cell? ⟨4, 0, none⟩ = some (.iface 171 (.pointer (some (A 1)))) := hE 1 (by simp)
  have e : errN A 2 = .iface 171 (.pointer (some (A 1))) := rfl
  rw [e]
  clear hE e
  by_cases h1 : m < 1
  · have d0 : decide (m < 1) = true := decide_eq_true h1
    clear h
    go_enter Tryd.func15, Tryd.ntmps15
    go_wp2
    go_region
    all_goals go_wp2
    all_goals go_ret2
    all_goals exact ⟨rfl, (Only.refl _ _).drew⟩
  · have d0 : decide (m < 1) = false := decide_eq_false h1
    have d1 : decide (20 < m) = true := decide_eq_true (by omega)
    clear h
    go_enter Tryd.func15, Tryd.ntmps15
    go_wp2
    go_region
    all_goals go_wp2
    all_goals go_ret2
    all_goals exact ⟨rfl, (Only.refl _ _).drew⟩
def NewR (w w' : World) (most : Nat) (e : Ending) : Prop := ∃ t b, e = .returned (.tuple #[.pointer (some ⟨t, 0, none⟩), .nilIface]) ∧ (∀ base, CaAt w' base t b (.slice none 0 0) most []) ∧ Only [] w w' ∧ w.heap.size ≤ t ∧ w.heap.size ≤ b
set_option maxHeartbeats 1000000 in
theorem new_ok (w : World) (most : Nat) (h1 : 1 ≤ most) (h2 : most ≤ 20) : Calls Tryd.prog 15 #[.int .i64 (most : Nat)] w fun e w' => NewR w w' most e := by
  have hm1 := run_makeMap (P := Tryd.prog) 96 w
  have d0 : decide ((most : Int) < 1) = false := decide_eq_false (by omega)
  have d1 : decide ((20 : Int) < most) = false := decide_eq_false (by omega)
  have HI : Hid (KInv most []) := KInv.nil h1 h2
  go_enter Tryd.func15, Tryd.ntmps15
  go_wp2
  go_ret2
  have hh := heap_alloc_last (w.alloc (.map #[] 0)) (.cells #[.int .i64 (most : Nat), .map (some w.heap.size), .slice none 0 0] 99)
  rw [World.size_alloc] at hh
  exact ⟨w.heap.size + 1, w.heap.size, rfl, fun base => ⟨hh, ⟨_, (World.ownsMap_made (H := Unit) w Tryd.prog 205 anElem).alloc _, rfl, Reads.empty⟩, Rqs.nil _ _, HI.out⟩, ((Only.refl [] w).alloc _).alloc _, by omega, Nat.le_refl _⟩
/-! ### Look -/
def lookV (A : Nat → Addr) (L : List Kp) (k : ByteArray × Int) (s : ByteArray) : Value := .tuple #[.string (lookK L k s).2.2, .bool (lookK L k s).2.1, errN A (lookK L k s).1]
/-! ### Count -/
/-! ### forget -/
def ForgetR (w w' : World) (base t b : Nat) (v : Value) (most : Nat) (L : List Kp) (e : Ending) : Prop := e = .returned (.tuple #[]) ∧ ∃ v', CaAt w' base t b v' most L ∧ Only (t :: b :: v.ownBlock.toList) w w' ∧ v'.ownBlock = v.ownBlock
end Go.Proofs.YtmfcfkomdflhlaaDoor
