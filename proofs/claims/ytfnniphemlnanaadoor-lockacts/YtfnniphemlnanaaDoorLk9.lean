/- Locks: slices.Clone; slices.DeleteFunc over the tests of package lock. -/
import Derived.Test.YtfnniphemlnanaaDoorLk8
import Derived.Shelf.Spec.SlicesInsert
import Derived.Lib.AppendZerosOnto
import Derived.Lib.Overlaps
namespace Go.Proofs.YtfnniphemlnanaaDoor
open Go Go.RowKit Go.Deep

theorem lkZero (w : World) : (zeroValue 39).run Tryd.prog w = .ok (.agg #[.int .i64 0, .int .i64 0, .int .i64 0, .int .i64 0, .int .i64 0, .bool false]) w := by
  obtain ⟨i0, h1, h2, _⟩ := lkInfo'
  simp [zeroValue, typeInfo, h1, h2]
theorem zeroOne (n : Nat) : ∀ v ∈ (Builtin.zeroCells (Value.agg #[.int .i64 0, .int .i64 0, .int .i64 0, .int .i64 0, .int .i64 0, .bool false]).cells n).toList, v.oneCell' = true := by
  intro v hv
  simp only [Builtin.zeroCells, Array.toList_map, List.mem_map] at hv
  obtain ⟨i, _, rfl⟩ := hv
  have h : i % 6 < 6 := Nat.mod_lt _ (by decide)
  have hs : (Value.agg #[.int .i64 0, .int .i64 0, .int .i64 0, .int .i64 0, .int .i64 0, .bool false]).cells = #[.int .i64 0, .int .i64 0, .int .i64 0, .int .i64 0, .int .i64 0, .bool false] := rfl
  rw [hs]
  rcases (show i % 6 = 0 ∨ i % 6 = 1 ∨ i % 6 = 2 ∨ i % 6 = 3 ∨ i % 6 = 4 ∨ i % 6 = 5 by omega) with e | e | e | e | e | e <;> simp [e] <;> rfl
/-- A part of a row of opens is cleared. -/
theorem clear_at {w : World} {g o n cap : Nat} {cur : Array Value} (hg : w.heap[g]? = some (.cells cur 39 (0, 0))) (hn : 0 < n) (hfit : o + n * 6 ≤ cur.size) :
    ∃ w' cs, (∀ ty, (Builtin.clear_ #[25] ty #[.slice (some ⟨g, o, none⟩) n cap]).run Tryd.prog w = .ok (.tuple #[]) w') ∧ w'.heap[g]? = some (.cells (overV cur.toList o cs).toArray 39 (0, 0)) ∧ cs.length = n * 6 ∧ Only [g] w w' :=
  ⟨_, _, fun ty => run_clear_k (P := Tryd.prog) w 25 ty 39 _ g o n cap cur 39 lksUnd lkZero hg hn (by have h := hfit; exact h) (zeroOne n), setRow_heap w g cur _ 39 _ hg, by rw [Array.length_toList, size_zeroCells]; rfl, only_row w g _⟩
/-- A clearing whose run is known. -/
theorem wpList_clear_known {P : Program} {w : World} {ops : Array Oper} {rest : List Oper} {o : Oper} {a : Act} {Q : Exit → Act → World → Prop} (hgd : o.guard = none) (s : Operand) (t : TypeId) (ho : o.op = .call { callee := .builtin .clear, args := #[s], argTypes := #[t] }) (v : Value) (hs : a.eval s = v) {v' : Value} {w' : World}
    (hr : (Builtin.clear_ #[t] o.type #[v]).run P w = .ok v' w') (h : wpList P ops Q rest (a.put o.dst v') w') : wpList P ops Q (o :: rest) a w :=
  wpList_plain hgd fun K hK => by
    unfold Oper.wp execOp
    simp only [ho, resolve, invoke, builtin, Sem.run_bind, Sem.run_pure, Result.andThen_ok, List.map_toArray, List.map_cons, List.map_nil, hs, hr]
    exact hK _ _ h
theorem Lks.rows {w : World} {base g cap n : Nat} {l : List Lk} (h : Lks w base (.slice (some ⟨g, 0, none⟩) n cap) l) (hn : l.length = n) : ∀ j u, (rowOf lkC l)[j]? = some u → w.cell? ((⟨g, 0, none⟩ : Addr).add j) = some u := by
  subst hn
  exact World.ownsRow.cells h rfl
set_option maxRecDepth 100000 in
set_option maxHeartbeats 2000000 in
theorem clone_any (w : World) (base : Nat) (v : Value) (l : List Lk) (h : Lks w base v l) (hl : l.length ≤ 1000) :
    Calls Tryd.prog 35 #[v] w fun e w' => ∃ v', e = .returned v' ∧ Lks w' w.heap.size v' l ∧ Only [] w w' := by
  have hnil : ∀ (W : World) (a : Option Addr) (n c : Nat), (binOp .eql 25 (.slice a n c) (.slice none 0 0)).run Tryd.prog W = .ok (.bool a.isNone) W := fun W a n c => Lib.run_eql_slice_nil W _ _ a n c 0 0 lksUnd
  obtain ⟨i0, hi0, hz0, hz1, hz2⟩ := lkInfo'
  rcases row_open h with ⟨rfl, rfl⟩ | ⟨g, cap, cur, rfl, _, hgl, _, hnc, _⟩
  · go_enter Tryd.func35, Tryd.ntmps35
    go_wp2
    go_ret
    exact ⟨.slice none 0 0, rfl, Lks.nil _ _, Only.refl _ _⟩
  · obtain ⟨n, hn⟩ : ∃ n, l.length = n := ⟨_, rfl⟩
    have HN : Hid (l.length = n) := hn
    rw [hn] at h hl hnc ⊢
    have hE : (w.alloc (.cells #[] 39)).ownsRow w.heap.size 39 6 (.slice (some ⟨w.heap.size, 0, none⟩) 0 0) 0 [] := World.ownsRow_lit w #[] 0 (Nat.le_refl _) (by unfold maxLen; omega) rfl
    have HE : Hid ((w.alloc (.cells #[] 39)).ownsRow w.heap.size 39 6 (.slice (some ⟨w.heap.size, 0, none⟩) 0 0) 0 []) := hE
    have HR : Hid (∀ j u, (rowOf lkC l)[j]? = some u → (w.alloc (.cells #[] 39)).cell? ((⟨g, 0, none⟩ : Addr).add j) = some u) := (h.only ((Only.refl [] w).alloc (.cells #[] 39)) (fun _ _ => by simp)).rows hn
    have HO1 : Hid (Only [] w (w.alloc (.cells #[] 39))) := (Only.refl [] w).alloc _
    clear h hE hn
    by_cases h0 : n = 0
    · subst h0
      obtain ⟨w1, hrun, hown, hgr⟩ := run_append_fits (P := Tryd.prog) (w.alloc (.cells #[] 39)) w.heap.size 25 25 39 i0 6 lksUnd hi0 hz1 w.heap.size 0 0 [] HE.out ⟨g, 0, none⟩ 0 cap [] rfl (fun j u hu => by cases hu) (fun u hu => by cases hu) (Nat.le_refl _)
      have HX : Hid (w1.ownsRow w.heap.size 39 6 (.slice (some ⟨w.heap.size, 0, none⟩) 0 0) 0 []) := hown
      have HG : Hid (Only [] w w1) := HO1.out.grown hgr (fun k hk => Or.inr (by cases hk; exact Nat.le_refl _))
      clear hown hgr
      go_enter Tryd.func35, Tryd.ntmps35
      go_wp2_with (at_builtin; refine Lib.wpList_append_run _ rfl _ _ _ _ rfl _ _ rfl rfl _ _ hrun ?_)
      go_ret
      have hl0 : l = [] := List.length_eq_zero_iff.1 HN.out
      exact ⟨.slice (some ⟨w.heap.size, 0, none⟩) 0 0, rfl, by rw [hl0]; exact HX.out, HG.out⟩
    · have hlen : (rowOf lkC l).length = n * 6 := by rw [rowOf_len lkC_len, HN.out]
      go_enter Tryd.func35, Tryd.ntmps35
      go_wp2_with (at_builtin; refine wpList_append_lies _ rfl (.tmp 5) (.tmp 6) 25 rfl w.heap.size 39 i0 _ 6 48 lksUnd hi0 hz0 hz1 hz2 rfl (by decide) _ 0 [] rfl HE.out ⟨g, 0, none⟩ n cap (rowOf lkC l) rfl hlen HR.out (rowOf_one lkC_one l) (by omega) (by unfold maxLen; omega) (by omega) (by simp) _ rfl ?_; intro gl cp w6 hown6 hgr6 hat6 hlt6; have HX : Hid (w6.ownsRow w.heap.size 39 6 (.slice (some ⟨gl, 0, none⟩) (0 + n) cp) (0 + n) ([] ++ rowOf lkC l)) := hown6; have HG : Hid (Only [] w w6) := (HO1.out.grown hgr6 (fun k hk => Or.inr (by cases hk; exact Nat.le_refl _))); clear hown6 hgr6 hat6 hlt6)
      go_ret
      refine ⟨.slice (some ⟨gl, 0, none⟩) n cp, by simp, ?_, HG.out⟩
      have := HX.out
      rw [Nat.zero_add, List.nil_append] at this
      unfold Lks
      rw [HN.out]
      exact this
/-- One of them is another one now. -/
theorem Lks.set {w : World} {base g cap n k : Nat} {l : List Lk} (h : Lks w base (.slice (some ⟨g, 0, none⟩) n cap) l) (hn : l.length = n) (hk : k < n) (x : Lk) :
    Lks ((((((w.setCell ⟨g, k * 6, none⟩ (.int .i64 x.N)).setCell ⟨g, k * 6 + 1, none⟩ (.int .i64 x.G)).setCell ⟨g, k * 6 + 2, none⟩ (.int .i64 x.O)).setCell ⟨g, k * 6 + 3, none⟩ (.int .i64 x.A)).setCell ⟨g, k * 6 + 4, none⟩ (.int .i64 x.S)).setCell ⟨g, k * 6 + 5, none⟩ (.bool x.W)) base (.slice (some ⟨g, 0, none⟩) n cap) (l.set k x) := by
  subst hn
  obtain ⟨y, hy⟩ : ∃ y, l[k]? = some y := ⟨_, List.getElem?_eq_getElem hk⟩
  have e0 := rowOf_set lkC_len l k 0 y { y with N := x.N } (.int .i64 x.N) (by decide) hy rfl
  have y1 : (l.set k { y with N := x.N })[k]? = some { y with N := x.N } := by simp [hk]
  have e1 := rowOf_set lkC_len (l.set k { y with N := x.N }) k 1 _ { y with N := x.N, G := x.G } (.int .i64 x.G) (by decide) y1 rfl
  rw [List.set_set] at e1
  have y2 : (l.set k { y with N := x.N, G := x.G })[k]? = some { y with N := x.N, G := x.G } := by simp [hk]
  have e2 := rowOf_set lkC_len (l.set k { y with N := x.N, G := x.G }) k 2 _ { y with N := x.N, G := x.G, O := x.O } (.int .i64 x.O) (by decide) y2 rfl
  rw [List.set_set] at e2
  have y3 : (l.set k { y with N := x.N, G := x.G, O := x.O })[k]? = some { y with N := x.N, G := x.G, O := x.O } := by simp [hk]
  have e3 := rowOf_set lkC_len (l.set k { y with N := x.N, G := x.G, O := x.O }) k 3 _ { y with N := x.N, G := x.G, O := x.O, A := x.A } (.int .i64 x.A) (by decide) y3 rfl
  rw [List.set_set] at e3
  have y4 : (l.set k { y with N := x.N, G := x.G, O := x.O, A := x.A })[k]? = some { y with N := x.N, G := x.G, O := x.O, A := x.A } := by simp [hk]
  have e4 := rowOf_set lkC_len (l.set k { y with N := x.N, G := x.G, O := x.O, A := x.A }) k 4 _ { y with N := x.N, G := x.G, O := x.O, A := x.A, S := x.S } (.int .i64 x.S) (by decide) y4 rfl
  rw [List.set_set] at e4
  have y5 : (l.set k { y with N := x.N, G := x.G, O := x.O, A := x.A, S := x.S })[k]? = some { y with N := x.N, G := x.G, O := x.O, A := x.A, S := x.S } := by simp [hk]
  have e5 := rowOf_set lkC_len (l.set k { y with N := x.N, G := x.G, O := x.O, A := x.A, S := x.S }) k 5 _ x (.bool x.W) (by decide) y5 rfl
  rw [List.set_set] at e5
  have h0 := (World.ownsRow.stored h (k * 6 + 0) (.int .i64 x.N)).1
  have h1 := (World.ownsRow.stored h0 (k * 6 + 1) (.int .i64 x.G)).1
  have h2 := (World.ownsRow.stored h1 (k * 6 + 2) (.int .i64 x.O)).1
  have h3 := (World.ownsRow.stored h2 (k * 6 + 3) (.int .i64 x.A)).1
  have h4 := (World.ownsRow.stored h3 (k * 6 + 4) (.int .i64 x.S)).1
  have h5 := (World.ownsRow.stored h4 (k * 6 + 5) (.bool x.W)).1
  rw [e0, e1, e2, e3, e4, e5] at h5
  unfold Lks
  rw [List.length_set]
  exact h5
def keptB (p : Lk → Bool) (l : List Lk) : List Lk := l.filter (fun x => !p x)
theorem kept_none {p : Lk → Bool} {l : List Lk} (h : ∀ x ∈ l, p x = false) : keptB p l = l := by
  unfold keptB
  rw [List.filter_eq_self]
  intro x hx
  rw [h x hx]
  rfl
theorem kept_snoc (p : Lk → Bool) (l : List Lk) (x : Lk) : keptB p (l ++ [x]) = keptB p l ++ if p x then [] else [x] := by
  unfold keptB
  rw [List.filter_append]
  cases h : p x <;> simp [h]
theorem take_succ_of {l : List Lk} {j : Nat} {x : Lk} (h : l[j]? = some x) : l.take (j + 1) = l.take j ++ [x] := by
  rw [List.take_add_one, h]
  rfl
theorem lk_cellsM {w : World} {base g cap n m : Nat} {l : List Lk} {x : Lk} (h : Lks w base (.slice (some ⟨g, 0, none⟩) n cap) l) (hn : l.length = n) (hx : l[m]? = some x) : w.cell? ⟨g, m * 6, none⟩ = some (.int .i64 x.N) ∧ w.cell? ⟨g, m * 6 + 1, none⟩ = some (.int .i64 x.G) ∧ w.cell? ⟨g, m * 6 + 2, none⟩ = some (.int .i64 x.O) ∧ w.cell? ⟨g, m * 6 + 3, none⟩ = some (.int .i64 x.A) ∧ w.cell? ⟨g, m * 6 + 4, none⟩ = some (.int .i64 x.S) ∧ w.cell? ⟨g, m * 6 + 5, none⟩ = some (.bool x.W) := lk_cells h hn hx
theorem lk_frozen {w : World} {base g cap n : Nat} {l : List Lk} (h : Lks w base (.slice (some ⟨g, 0, none⟩) n cap) l) (hn : l.length = n) (o : Nat) : w.frozen? ⟨g, o, none⟩ = false := by
  subst hn
  exact World.ownsRow.frozenAt h o
/-- While those that stay move up. -/
structure Moved (w : World) (base g n cap : Nat) (p : Lk → Bool) (l : List Lk) (j k : Nat) (wr : World) : Prop where
  own : ∃ M, Lks wr base (.slice (some ⟨g, 0, none⟩) n cap) M ∧ M.length = n ∧ M.take k = keptB p (l.take j) ∧ M.drop j = l.drop j
  kj : k < j
  jn : j ≤ n
  only : Only [g] w wr
theorem Moved.only' {w wr w' : World} {base g n cap : Nat} {p : Lk → Bool} {l : List Lk} {j k : Nat} (h : Moved w base g n cap p l j k wr) (ho : Only [] wr w') : Moved w base g n cap p l j k w' := by
  obtain ⟨M, h1, h2⟩ := h.own
  exact ⟨⟨M, h1.only ho (fun _ _ => by simp), h2⟩, h.kj, h.jn, h.only.trans ho (fun _ hk => by cases hk)⟩
theorem kept_len {M l : List Lk} {p : Lk → Bool} {j k n : Nat} (h : M.take k = keptB p (l.take j)) (hk : k ≤ n) (hM : M.length = n) : (keptB p (l.take j)).length = k := by
  rw [← h, List.length_take]
  omega
theorem set_take {M : List Lk} {k : Nat} {x : Lk} (h : k < M.length) : (M.set k x).take (k + 1) = M.take k ++ [x] := by
  rw [take_succ_of (x := x) (by simp [h]), List.take_set_of_le (Nat.le_refl _)]
theorem set_drop {M : List Lk} {k j : Nat} {x : Lk} (h : k < j) : (M.set k x).drop j = M.drop j := by
  rw [List.drop_set_of_lt h]
theorem drop_clear {w wr : World} {base g n cap k : Nat} {p : Lk → Bool} {l : List Lk} (h : Moved w base g n cap p l n k wr) (hn : l.length = n) :
    ∃ w', (∀ ty, (Builtin.clear_ #[25] ty #[.slice (some ⟨g, k * 6, none⟩) (n - k) (cap - k)]).run Tryd.prog wr = .ok (.tuple #[]) w') ∧ (Lks w' base (.slice (some ⟨g, 0, none⟩) (keptB p l).length cap) (keptB p l) ∧ (keptB p l).length = k) ∧ Only [g] w w' := by
  obtain ⟨M, h1, h2, h3, _⟩ := h.own
  have hkj := h.kj
  rw [show l.take n = l by rw [← hn]; exact List.take_length] at h3
  rcases row_open h1 with ⟨e, _⟩ | ⟨g', cap', cur, e, hbg, hgl, hg, hnc, hcm, hcs, htk⟩
  · cases e
  simp only [Value.slice.injEq, Option.some.injEq, Addr.mk.injEq, and_true] at e
  obtain ⟨rfl, -, rfl⟩ := e
  have hcl : cur.toList.length = cap * 6 := by rw [Array.length_toList, hcs]
  have hkl : (keptB p l).length = k := by rw [← h3, List.length_take]; omega
  obtain ⟨w3, cs, hc3, hh3, hcsl, o3⟩ := clear_at (g := g) (o := k * 6) (n := n - k) (cap := cap - k) hg (by omega) (by omega)
  refine ⟨w3, hc3, ⟨⟨by rw [rowOf_len lkC_len], Or.inr ⟨g, cap, _, rfl, hbg, hh3, by omega, hcm, ?_, ?_⟩⟩, hkl⟩, h.only.trans o3 (fun _ hk => Or.inl hk)⟩
  · rw [List.size_toArray, overV_len (by omega), hcl]
  · rw [List.toList_toArray, hkl]
    rw [overV, List.append_assoc, List.take_append_of_le_length (by rw [List.length_take]; omega), List.take_take, Nat.min_self, ← h3, rowOf_take lkC_len, ← htk, List.take_take, Nat.min_eq_left (by omega)]
set_option maxRecDepth 100000 in
set_option maxHeartbeats 4000000 in
theorem drop_by (w : World) (base g n cap : Nat) (b1 b2 : Value) (p : Lk → Bool) (l : List Lk) (h : Lks w base (.slice (some ⟨g, 0, none⟩) n cap) l) (hn : l.length = n) (hl : n ≤ 1000) (hok : ∀ x ∈ l, x.Ok) (ht : TestOf w [g] 46 #[b1, b2] p) :
    Calls Tryd.prog 32 #[.slice (some ⟨g, 0, none⟩) n cap, .func (.func 46) #[] #[b1, b2]] w fun e w' => e = .returned (.slice (some ⟨g, 0, none⟩) (keptB p l).length cap) ∧ Lks w' base (.slice (some ⟨g, 0, none⟩) (keptB p l).length cap) (keptB p l) ∧ Only [g] w w' := by
  have hidx := index_by w base b1 b2 p _ l h (by omega) hok [g] ht
  have hop : l.length ≤ cap ∧ cap ≤ maxLen := by
    rcases row_open h with ⟨h1, _⟩ | ⟨g', cap', cur, h1, _, _, _, h2, h3, _⟩
    · cases h1
    · simp only [Value.slice.injEq, Option.some.injEq, Addr.mk.injEq, and_true] at h1
      obtain ⟨-, -, rfl⟩ := h1
      exact ⟨h2, h3⟩
  have hcap : (cap : Int) ≤ 9223372036854775807 := by have := hop.2; unfold maxLen at this; omega
  have hnc : n ≤ cap := by omega
  have H : Hid (Lks w base (.slice (some ⟨g, 0, none⟩) n cap) l) := h
  have HN : Hid (l.length = n) := hn
  have HT : Hid (TestOf w [g] 46 #[b1, b2] p) := ht
  have HK : Hid (∀ x ∈ l, x.Ok) := hok
  clear h hn ht hok hop
  by_cases hall : ∀ x ∈ l, p x = false
  · have hidx' : Calls Tryd.prog 28 #[.slice (some ⟨g, 0, none⟩) n cap, .func (.func 46) #[] #[b1, b2]] w fun e w' => e = .returned (.int .i64 (-1)) ∧ Only [] w w' := hidx.mono fun e w' hh => by
      obtain ⟨r, he, hr, ho⟩ := hh
      rcases hr with ⟨rfl, _⟩ | ⟨q, rfl, x, hx, hp, _⟩
      · exact ⟨he, ho⟩
      · rw [hall x (List.mem_of_getElem? hx)] at hp
        cases hp
    have hk := kept_none hall
    rw [hk]
    clear hidx hall hk
    go_enter Tryd.func32, Tryd.ntmps32
    go_wp2_with (go_at_call 28; refine hidx'.mono ?_; rintro e w2 ⟨rfl, ho2⟩; have HO2 : Hid (Only [] w w2) := ho2; clear hidx' ho2)
    go_ret
    exact ⟨by rw [HN.out]; rfl, by rw [HN.out]; exact H.out.only HO2.out (fun _ _ => by simp), HO2.out.mono (fun _ hk => by cases hk)⟩
  · have hidx' : Calls Tryd.prog 28 #[.slice (some ⟨g, 0, none⟩) n cap, .func (.func 46) #[] #[b1, b2]] w fun e w' => ∃ i : Nat, e = .returned (.int .i64 i) ∧ i < n ∧ Moved w base g n cap p l (i + 1) i w' := hidx.mono fun e w' hh => by
      obtain ⟨r, he, hr, ho⟩ := hh
      rcases hr with ⟨rfl, h1⟩ | ⟨q, rfl, x, hx, hp, h1⟩
      · exact absurd h1 hall
      · have hq : q < n := by have := (List.getElem?_eq_some_iff.1 hx).1; rw [HN.out] at this; exact this
        have hkt : keptB p (l.take q) = l.take q := kept_none (fun y hy => by
          obtain ⟨m, hm⟩ := List.mem_iff_getElem?.1 hy
          rw [List.getElem?_take] at hm
          split at hm
          · exact h1 m y (by omega) hm
          · cases hm)
        refine ⟨q, he, hq, ⟨l, H.out.only ho (fun _ _ => by simp), HN.out, ?_, rfl⟩, by omega, by omega, ho.mono (fun _ hk => by cases hk)⟩
        rw [take_succ_of hx, kept_snoc, hp, hkt]
        simp
    clear hidx hall
    go_enter Tryd.func32, Tryd.ntmps32
    go_wp2_with (go_at_call 28; refine hidx'.mono ?_; rintro e w2 ⟨i, rfl, hin, hM⟩; have HM0 : Hid (Moved w base g n cap p l (i + 1) i w2) := hM; have hi1 : ((i : Int) == -1) = false := (by rw [beq_eq_false_iff_ne]; omega); clear hidx' hM)
    clear hi1
    go_loopw [5, 6] (fun a c wr => ∃ k j : Nat, a = .int .i64 k ∧ c = .int .i64 j ∧ Moved w base g n cap p l j k wr) (fun _ c _ => n - (intOf c).toNat)
    case atStart => exact ⟨i, i + 1, rfl, by go_num, HM0.out⟩
    case round =>
      obtain ⟨k, j, rfl, rfl, hM⟩ := hrel
      have HM : Hid (Moved w base g n cap p l j k wr) := hM
      have hkj := hM.kj
      have hjn := hM.jn
      clear hM HM0
      by_cases hlt : j < n
      · obtain ⟨M, hM1, hM2, hM3, hM4⟩ := HM.out.own
        obtain ⟨x, hx⟩ : ∃ x, l[j]? = some x := ⟨_, List.getElem?_eq_getElem (by rw [HN.out]; exact hlt)⟩
        have hMx : M[j]? = some x := by
          have h1 : (M.drop j)[0]? = some x := by rw [hM4, List.getElem?_drop]; exact hx
          rw [List.getElem?_drop] at h1
          exact h1
        obtain ⟨c0, c1, c2, c3, c4, c5⟩ := lk_cellsM hM1 hM2 hMx
        have HX : Hid (l[j]? = some x) := hx
        have hcall : Calls Tryd.prog 46 #[.agg #[.int .i64 x.N, .int .i64 x.G, .int .i64 x.O, .int .i64 x.A, .int .i64 x.S, .bool x.W], b1, b2] (wr.alloc (.cells #[.int .i64 x.N, .int .i64 x.G, .int .i64 x.O, .int .i64 x.A, .int .i64 x.S, .bool x.W] 39)) fun e w' => e = .returned (.bool (p x)) ∧ Only [] (wr.alloc (.cells #[.int .i64 x.N, .int .i64 x.G, .int .i64 x.O, .int .i64 x.A, .int .i64 x.S, .bool x.W] 39)) w' := HT.out (wr.alloc (.cells #[.int .i64 x.N, .int .i64 x.G, .int .i64 x.O, .int .i64 x.A, .int .i64 x.S, .bool x.W] 39)) x (HM.out.only.alloc _) (HK.out x (List.mem_of_getElem? hx))
        have hgl : g < wr.heap.size := lt_of_cell c0
        have HC : Hid (Lks wr base (.slice (some ⟨g, 0, none⟩) n cap) M ∧ M.length = n ∧ M.take k = keptB p (l.take j) ∧ M.drop j = l.drop j) := ⟨hM1, hM2, hM3, hM4⟩
        clear hM1 hM2 hM3 hM4 hx hMx
        have hln : (j : Int) < n := by omega
        cases hp : p x with
        | true =>
          rw [hp] at hcall
          go_wp2_with (go_at_call 46; refine hcall.mono ?_; rintro e w3 ⟨rfl, ho3⟩; have HO3 : Hid (Only [] wr w3) := ((Only.refl [] wr).alloc _).trans ho3 (fun _ hk => by cases hk); clear hcall c0 c1 c2 c3 c4 c5 ho3)
          go_roundw
          case rel =>
            refine ⟨k, j + 1, rfl, by go_num, ⟨M, HC.out.1.only HO3.out (fun _ _ => by simp), HC.out.2.1, ?_, ?_⟩, by omega, by omega, HM.out.only.trans HO3.out (fun _ hk => by cases hk)⟩
            · rw [take_succ_of HX.out, kept_snoc, hp, HC.out.2.2.1]
              simp
            · rw [← List.drop_drop, HC.out.2.2.2, List.drop_drop]
          case measure => simp [intOf]; omega
        | false =>
          rw [hp] at hcall
          have HXC : Hid (∀ W, Only [] (wr.alloc (.cells #[.int .i64 x.N, .int .i64 x.G, .int .i64 x.O, .int .i64 x.A, .int .i64 x.S, .bool x.W] 39)) W → W.cell? ⟨wr.heap.size, 0, none⟩ = some (.int .i64 x.N) ∧ W.cell? ⟨wr.heap.size, 1, none⟩ = some (.int .i64 x.G) ∧ W.cell? ⟨wr.heap.size, 2, none⟩ = some (.int .i64 x.O) ∧ W.cell? ⟨wr.heap.size, 3, none⟩ = some (.int .i64 x.A) ∧ W.cell? ⟨wr.heap.size, 4, none⟩ = some (.int .i64 x.S) ∧ W.cell? ⟨wr.heap.size, 5, none⟩ = some (.bool x.W)) := fun W ho => (LkIn.new wr x 39).only ho (by simp)
          have hkn : (k : Int) < n := by omega
          go_wp2_with (go_at_call 46; refine hcall.mono ?_; rintro e w3 ⟨rfl, ho3⟩; have HO3 : Hid (Only [] wr w3) := ((Only.refl [] wr).alloc _).trans ho3 (fun _ hk => by cases hk); obtain ⟨d0, d1, d2, d3, d4, d5⟩ := HXC.out w3 ho3; have HY : Hid (Lks w3 base (.slice (some ⟨g, 0, none⟩) n cap) M) := HC.out.1.only HO3.out (fun _ _ => by simp); obtain ⟨y, hy⟩ : ∃ y, M[k]? = some y := ⟨_, List.getElem?_eq_getElem (by have := HC.out.2.1; omega)⟩; obtain ⟨f0, f1, f2, f3, f4, f5⟩ := lk_cellsM HY.out HC.out.2.1 hy; have ff := lk_frozen HY.out HC.out.2.1; clear hcall c0 c1 c2 c3 c4 c5 ho3 hy)
          go_roundw
          case rel =>
            refine ⟨k + 1, j + 1, by go_num, by go_num, ⟨M.set k x, HY.out.set HC.out.2.1 (by omega) x, by rw [List.length_set]; exact HC.out.2.1, ?_, ?_⟩, by omega, by omega, ?_⟩
            · rw [take_succ_of HX.out, kept_snoc, hp, ← HC.out.2.2.1, set_take (by rw [HC.out.2.1]; omega)]
              simp
            · rw [set_drop (by omega), ← List.drop_drop, HC.out.2.2.2, List.drop_drop]
            · have hg1 : g ∈ [g] := by simp
              exact (((((((HM.out.only.trans HO3.out (fun _ hk => by cases hk)).setCell (Or.inl hg1) _).setCell (Or.inl hg1) _).setCell (Or.inl hg1) _).setCell (Or.inl hg1) _).setCell (Or.inl hg1) _).setCell (Or.inl hg1) _)
          case measure => simp [intOf]; omega
      · obtain rfl : j = n := by omega
        obtain ⟨w3, hc3, hF3, ho3⟩ := drop_clear HM.out HN.out
        have HF3 : Hid (Lks w3 base (.slice (some ⟨g, 0, none⟩) (keptB p l).length cap) (keptB p l) ∧ (keptB p l).length = k) := hF3
        have HO3 : Hid (Only [g] w w3) := ho3
        have hkn : (k : Int) ≤ j := by omega
        have hck : ¬ (cap = k) := by omega
        have hkc : (k : Int) ≤ cap := by omega
        clear hF3 ho3
        go_wp2_with (at_builtin; refine wpList_clear_known rfl _ 25 rfl _ rfl (hc3 _) ?_)
        go_ret
        exact ⟨by rw [HF3.out.2]; rfl, HF3.out.1, HO3.out⟩
set_option maxRecDepth 100000 in
set_option maxHeartbeats 4000000 in
theorem drop_continuing (w : World) (base g n cap : Nat) (b1 b2 : Value) (p : Lk → Bool) (l : List Lk) (h : Lks w base (.slice (some ⟨g, 0, none⟩) n cap) l) (hn : l.length = n) (hl : n ≤ 1000) (hok : ∀ x ∈ l, x.Ok) (ht : TestOf w [g] 55 #[b1, b2] p) :
    Calls Tryd.prog 32 #[.slice (some ⟨g, 0, none⟩) n cap, .func (.func 55) #[] #[b1, b2]] w fun e w' => e = .returned (.slice (some ⟨g, 0, none⟩) (keptB p l).length cap) ∧ Lks w' base (.slice (some ⟨g, 0, none⟩) (keptB p l).length cap) (keptB p l) ∧ Only [g] w w' := by
  have hidx := index_continuing w base b1 b2 p _ l h (by omega) hok [g] ht
  have hop : l.length ≤ cap ∧ cap ≤ maxLen := by
    rcases row_open h with ⟨h1, _⟩ | ⟨g', cap', cur, h1, _, _, _, h2, h3, _⟩
    · cases h1
    · simp only [Value.slice.injEq, Option.some.injEq, Addr.mk.injEq, and_true] at h1
      obtain ⟨-, -, rfl⟩ := h1
      exact ⟨h2, h3⟩
  have hcap : (cap : Int) ≤ 9223372036854775807 := by have := hop.2; unfold maxLen at this; omega
  have hnc : n ≤ cap := by omega
  have H : Hid (Lks w base (.slice (some ⟨g, 0, none⟩) n cap) l) := h
  have HN : Hid (l.length = n) := hn
  have HT : Hid (TestOf w [g] 55 #[b1, b2] p) := ht
  have HK : Hid (∀ x ∈ l, x.Ok) := hok
  clear h hn ht hok hop
  by_cases hall : ∀ x ∈ l, p x = false
  · have hidx' : Calls Tryd.prog 28 #[.slice (some ⟨g, 0, none⟩) n cap, .func (.func 55) #[] #[b1, b2]] w fun e w' => e = .returned (.int .i64 (-1)) ∧ Only [] w w' := hidx.mono fun e w' hh => by
      obtain ⟨r, he, hr, ho⟩ := hh
      rcases hr with ⟨rfl, _⟩ | ⟨q, rfl, x, hx, hp, _⟩
      · exact ⟨he, ho⟩
      · rw [hall x (List.mem_of_getElem? hx)] at hp
        cases hp
    have hk := kept_none hall
    rw [hk]
    clear hidx hall hk
    go_enter Tryd.func32, Tryd.ntmps32
    go_wp2_with (go_at_call 28; refine hidx'.mono ?_; rintro e w2 ⟨rfl, ho2⟩; have HO2 : Hid (Only [] w w2) := ho2; clear hidx' ho2)
    go_ret
    exact ⟨by rw [HN.out]; rfl, by rw [HN.out]; exact H.out.only HO2.out (fun _ _ => by simp), HO2.out.mono (fun _ hk => by cases hk)⟩
  · have hidx' : Calls Tryd.prog 28 #[.slice (some ⟨g, 0, none⟩) n cap, .func (.func 55) #[] #[b1, b2]] w fun e w' => ∃ i : Nat, e = .returned (.int .i64 i) ∧ i < n ∧ Moved w base g n cap p l (i + 1) i w' := hidx.mono fun e w' hh => by
      obtain ⟨r, he, hr, ho⟩ := hh
      rcases hr with ⟨rfl, h1⟩ | ⟨q, rfl, x, hx, hp, h1⟩
      · exact absurd h1 hall
      · have hq : q < n := by have := (List.getElem?_eq_some_iff.1 hx).1; rw [HN.out] at this; exact this
        have hkt : keptB p (l.take q) = l.take q := kept_none (fun y hy => by
          obtain ⟨m, hm⟩ := List.mem_iff_getElem?.1 hy
          rw [List.getElem?_take] at hm
          split at hm
          · exact h1 m y (by omega) hm
          · cases hm)
        refine ⟨q, he, hq, ⟨l, H.out.only ho (fun _ _ => by simp), HN.out, ?_, rfl⟩, by omega, by omega, ho.mono (fun _ hk => by cases hk)⟩
        rw [take_succ_of hx, kept_snoc, hp, hkt]
        simp
    clear hidx hall
    go_enter Tryd.func32, Tryd.ntmps32
    go_wp2_with (go_at_call 28; refine hidx'.mono ?_; rintro e w2 ⟨i, rfl, hin, hM⟩; have HM0 : Hid (Moved w base g n cap p l (i + 1) i w2) := hM; have hi1 : ((i : Int) == -1) = false := (by rw [beq_eq_false_iff_ne]; omega); clear hidx' hM)
    clear hi1
    go_loopw [5, 6] (fun a c wr => ∃ k j : Nat, a = .int .i64 k ∧ c = .int .i64 j ∧ Moved w base g n cap p l j k wr) (fun _ c _ => n - (intOf c).toNat)
    case atStart => exact ⟨i, i + 1, rfl, by go_num, HM0.out⟩
    case round =>
      obtain ⟨k, j, rfl, rfl, hM⟩ := hrel
      have HM : Hid (Moved w base g n cap p l j k wr) := hM
      have hkj := hM.kj
      have hjn := hM.jn
      clear hM HM0
      by_cases hlt : j < n
      · obtain ⟨M, hM1, hM2, hM3, hM4⟩ := HM.out.own
        obtain ⟨x, hx⟩ : ∃ x, l[j]? = some x := ⟨_, List.getElem?_eq_getElem (by rw [HN.out]; exact hlt)⟩
        have hMx : M[j]? = some x := by
          have h1 : (M.drop j)[0]? = some x := by rw [hM4, List.getElem?_drop]; exact hx
          rw [List.getElem?_drop] at h1
          exact h1
        obtain ⟨c0, c1, c2, c3, c4, c5⟩ := lk_cellsM hM1 hM2 hMx
        have HX : Hid (l[j]? = some x) := hx
        have hcall : Calls Tryd.prog 55 #[.agg #[.int .i64 x.N, .int .i64 x.G, .int .i64 x.O, .int .i64 x.A, .int .i64 x.S, .bool x.W], b1, b2] (wr.alloc (.cells #[.int .i64 x.N, .int .i64 x.G, .int .i64 x.O, .int .i64 x.A, .int .i64 x.S, .bool x.W] 39)) fun e w' => e = .returned (.bool (p x)) ∧ Only [] (wr.alloc (.cells #[.int .i64 x.N, .int .i64 x.G, .int .i64 x.O, .int .i64 x.A, .int .i64 x.S, .bool x.W] 39)) w' := HT.out (wr.alloc (.cells #[.int .i64 x.N, .int .i64 x.G, .int .i64 x.O, .int .i64 x.A, .int .i64 x.S, .bool x.W] 39)) x (HM.out.only.alloc _) (HK.out x (List.mem_of_getElem? hx))
        have hgl : g < wr.heap.size := lt_of_cell c0
        have HC : Hid (Lks wr base (.slice (some ⟨g, 0, none⟩) n cap) M ∧ M.length = n ∧ M.take k = keptB p (l.take j) ∧ M.drop j = l.drop j) := ⟨hM1, hM2, hM3, hM4⟩
        clear hM1 hM2 hM3 hM4 hx hMx
        have hln : (j : Int) < n := by omega
        cases hp : p x with
        | true =>
          rw [hp] at hcall
          go_wp2_with (go_at_call 55; refine hcall.mono ?_; rintro e w3 ⟨rfl, ho3⟩; have HO3 : Hid (Only [] wr w3) := ((Only.refl [] wr).alloc _).trans ho3 (fun _ hk => by cases hk); clear hcall c0 c1 c2 c3 c4 c5 ho3)
          go_roundw
          case rel =>
            refine ⟨k, j + 1, rfl, by go_num, ⟨M, HC.out.1.only HO3.out (fun _ _ => by simp), HC.out.2.1, ?_, ?_⟩, by omega, by omega, HM.out.only.trans HO3.out (fun _ hk => by cases hk)⟩
            · rw [take_succ_of HX.out, kept_snoc, hp, HC.out.2.2.1]
              simp
            · rw [← List.drop_drop, HC.out.2.2.2, List.drop_drop]
          case measure => simp [intOf]; omega
        | false =>
          rw [hp] at hcall
          have HXC : Hid (∀ W, Only [] (wr.alloc (.cells #[.int .i64 x.N, .int .i64 x.G, .int .i64 x.O, .int .i64 x.A, .int .i64 x.S, .bool x.W] 39)) W → W.cell? ⟨wr.heap.size, 0, none⟩ = some (.int .i64 x.N) ∧ W.cell? ⟨wr.heap.size, 1, none⟩ = some (.int .i64 x.G) ∧ W.cell? ⟨wr.heap.size, 2, none⟩ = some (.int .i64 x.O) ∧ W.cell? ⟨wr.heap.size, 3, none⟩ = some (.int .i64 x.A) ∧ W.cell? ⟨wr.heap.size, 4, none⟩ = some (.int .i64 x.S) ∧ W.cell? ⟨wr.heap.size, 5, none⟩ = some (.bool x.W)) := fun W ho => (LkIn.new wr x 39).only ho (by simp)
          have hkn : (k : Int) < n := by omega
          go_wp2_with (go_at_call 55; refine hcall.mono ?_; rintro e w3 ⟨rfl, ho3⟩; have HO3 : Hid (Only [] wr w3) := ((Only.refl [] wr).alloc _).trans ho3 (fun _ hk => by cases hk); obtain ⟨d0, d1, d2, d3, d4, d5⟩ := HXC.out w3 ho3; have HY : Hid (Lks w3 base (.slice (some ⟨g, 0, none⟩) n cap) M) := HC.out.1.only HO3.out (fun _ _ => by simp); obtain ⟨y, hy⟩ : ∃ y, M[k]? = some y := ⟨_, List.getElem?_eq_getElem (by have := HC.out.2.1; omega)⟩; obtain ⟨f0, f1, f2, f3, f4, f5⟩ := lk_cellsM HY.out HC.out.2.1 hy; have ff := lk_frozen HY.out HC.out.2.1; clear hcall c0 c1 c2 c3 c4 c5 ho3 hy)
          go_roundw
          case rel =>
            refine ⟨k + 1, j + 1, by go_num, by go_num, ⟨M.set k x, HY.out.set HC.out.2.1 (by omega) x, by rw [List.length_set]; exact HC.out.2.1, ?_, ?_⟩, by omega, by omega, ?_⟩
            · rw [take_succ_of HX.out, kept_snoc, hp, ← HC.out.2.2.1, set_take (by rw [HC.out.2.1]; omega)]
              simp
            · rw [set_drop (by omega), ← List.drop_drop, HC.out.2.2.2, List.drop_drop]
            · have hg1 : g ∈ [g] := by simp
              exact (((((((HM.out.only.trans HO3.out (fun _ hk => by cases hk)).setCell (Or.inl hg1) _).setCell (Or.inl hg1) _).setCell (Or.inl hg1) _).setCell (Or.inl hg1) _).setCell (Or.inl hg1) _).setCell (Or.inl hg1) _)
          case measure => simp [intOf]; omega
      · obtain rfl : j = n := by omega
        obtain ⟨w3, hc3, hF3, ho3⟩ := drop_clear HM.out HN.out
        have HF3 : Hid (Lks w3 base (.slice (some ⟨g, 0, none⟩) (keptB p l).length cap) (keptB p l) ∧ (keptB p l).length = k) := hF3
        have HO3 : Hid (Only [g] w w3) := ho3
        have hkn : (k : Int) ≤ j := by omega
        have hck : ¬ (cap = k) := by omega
        have hkc : (k : Int) ≤ cap := by omega
        clear hF3 ho3
        go_wp2_with (at_builtin; refine wpList_clear_known rfl _ 25 rfl _ rfl (hc3 _) ?_)
        go_ret
        exact ⟨by rw [HF3.out.2]; rfl, HF3.out.1, HO3.out⟩
end Go.Proofs.YtfnniphemlnanaaDoor
