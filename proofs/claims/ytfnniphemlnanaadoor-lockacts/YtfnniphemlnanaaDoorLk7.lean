/- Locks: the functions that make tests; a table; what is there without a range. -/
import Derived.Test.YtfnniphemlnanaaDoorLk6
import Derived.Laws.EntriesVeiled
namespace Go.Proofs.YtfnniphemlnanaaDoor
open Go Go.RowKit Go.Deep

theorem wpList_append_rows {P : Program} {w : World} {ops : Array Oper} {rest : List Oper} {o : Oper} {a : Act} {Q : Exit → Act → World → Prop} (hgd : o.guard = none) (s x : Operand) (t : TypeId)
    (ho : o.op = .call { callee := .builtin .append, args := #[s, x], argTypes := #[t, t] })
    (base : Nat) (e : TypeId) (i : TypeInfo) (z : Value) (size bytes : Nat) (ht : P.underlying t = some (.slice e)) (hi : P.info? e = some i) (hz : i.zero = some z)
    (hsize : i.size = size) (hby : i.bytes = bytes) (hzs : z.cells.size = size) (hsz : 0 < size)
    (v : Value) (n : Nat) (xs : List Value) (hs : a.eval s = v) (hown : w.ownsRow base e size v n xs)
    (vx : Value) (m base2 : Nat) (news : List Value) (hx : a.eval x = vx) (hvx : w.ownsRow base2 e size vx m news) (h1 : ∀ u ∈ news, u.oneCell' = true)
    (h63 : n + m ≤ maxLen) (hbytes : (n + m) * bytes ≤ 140737488355328) (hbase : base ≤ w.heap.size)
    (h : ∀ v' w', w'.ownsRow base e size v' (n + m) (xs ++ news) → w.grownBy w' v.ownBlock → (v'.ownBlock = v.ownBlock ∨ v'.ownBlock = some w.heap.size) → wpList P ops Q rest (a.put o.dst v') w') :
    wpList P ops Q (o :: rest) a w := by
  have hl := hvx.1
  rcases hvx.2 with ⟨hv, hm⟩ | ⟨g, cap, cur, hv, _⟩
  · subst hm
    have hn : news = [] := List.length_eq_zero_iff.1 (by rw [hl]; omega)
    subst hn
    rw [hv] at hx
    refine wpList_append_own_none hgd s x t ho base e i size ht hi v n xs hs hown hx (h v w ?_ (World.grownBy.refl _ _) (Or.inl rfl))
    rw [List.append_nil]
    exact hown
  · subst hv
    refine wpList_append_own_at _ hgd s x t ho base e i z size bytes ht hi hz hsize hby hzs hsz v n xs hs hown ⟨g, 0, none⟩ m cap news hx hl (fun j u hu => ?_) h1 h63 hbytes hbase (fun v' w' a1 a2 _ a4 => h v' w' a1 a2 a4)
    have hj : j < m * size := by rw [← hl]; exact (List.getElem?_eq_some_iff.1 hu).1
    rw [add_none, Nat.zero_add, World.ownsRow.cellAt hvx j hj]
    exact hu
theorem lkRow_one (l : List Lk) : ∀ u ∈ rowOf lkC l, u.oneCell' = true := rowOf_one lkC_one l
theorem against_any (w : World) (v : Lk) (hv : v.Ok) (L : List Nat) (hL : ∀ k ∈ L, k < w.heap.size) : Calls Tryd.prog 29 #[lkV v] w fun e w' => ∃ b, e = .returned (.func (.func 43) #[] #[.pointer (some ⟨b, 0, none⟩)]) ∧ TestOf w' L 43 #[.pointer (some ⟨b, 0, none⟩)] (agB v) ∧ w' = w.alloc (.cells #[.int .i64 v.N, .int .i64 v.G, .int .i64 v.O, .int .i64 v.A, .int .i64 v.S, .bool v.W] 39) := by
  have HT : Hid (TestOf (w.alloc (.cells #[.int .i64 v.N, .int .i64 v.G, .int .i64 v.O, .int .i64 v.A, .int .i64 v.S, .bool v.W] 39)) L 43 #[.pointer (some ⟨w.heap.size, 0, none⟩)] (agB v)) := against1_any _ L _ v hv (LkIn.new w v 39) (fun h => Nat.lt_irrefl _ (hL _ h))
  unfold lkV
  clear hL hv
  go_enter Tryd.func29, Tryd.ntmps29
  go_wp2
  go_ret
  exact ⟨_, rfl, HT.out, rfl⟩
theorem by_any (w : World) (N G O : Int) (L : List Nat) (hL : ∀ k ∈ L, k < w.heap.size) : Calls Tryd.prog 33 #[.agg #[.int .i64 N, .int .i64 G], .int .i64 O] w fun e w' => ∃ b c, e = .returned (.func (.func 46) #[] #[.pointer (some ⟨b, 0, none⟩), .pointer (some ⟨c, 0, none⟩)]) ∧ TestOf w' L 46 #[.pointer (some ⟨b, 0, none⟩), .pointer (some ⟨c, 0, none⟩)] (ownB N G O) ∧ Only [] w w' := by
  have HT : Hid (TestOf ((w.alloc (.cells #[.int .i64 N, .int .i64 G] 33)).alloc (.cells #[.int .i64 O] 3)) L 46 #[.pointer (some ⟨w.heap.size, 0, none⟩), .pointer (some ⟨w.heap.size + 1, 0, none⟩)] (ownB N G O)) := by
    have h1 := heap_alloc_last w (.cells #[.int .i64 N, .int .i64 G] 33)
    have h2 := heap_alloc_last (w.alloc (.cells #[.int .i64 N, .int .i64 G] 33)) (.cells #[.int .i64 O] 3)
    rw [World.size_alloc] at h2
    have o2 : Only [] (w.alloc (.cells #[.int .i64 N, .int .i64 G] 33)) ((w.alloc (.cells #[.int .i64 N, .int .i64 G] 33)).alloc (.cells #[.int .i64 O] 3)) := (Only.refl _ _).alloc _
    exact by1_any _ L _ _ N G O ((o2.cell (p := ⟨w.heap.size, 0, none⟩) (by simp) (by simp)).trans (cell_of_row _ _ 0 _ _ _ h1)) ((o2.cell (p := ⟨w.heap.size, 1, none⟩) (by simp) (by simp)).trans (cell_of_row _ _ 1 _ _ _ h1)) (cell_of_row _ _ 0 _ _ _ h2) (fun h => Nat.lt_irrefl _ (hL _ h)) (fun h => by have := hL _ h; omega)
  clear hL
  go_enter Tryd.func33, Tryd.ntmps33
  go_wp2
  go_ret
  exact ⟨_, _, rfl, HT.out, ((Only.refl _ _).alloc _).alloc _⟩
set_option maxHeartbeats 1000000 in
theorem cutting_any (w : World) (N G O A S : Int) (hr : OkR A S) : Calls Tryd.prog 45 #[.agg #[.int .i64 N, .int .i64 G], .int .i64 O, .agg #[.int .i64 A, .int .i64 S]] w fun e w' => ∃ a b, e = .returned (.func (.func 65) #[] #[.pointer (some ⟨a, 0, none⟩), .pointer (some ⟨b, 0, none⟩)]) ∧ CutOf w' #[.pointer (some ⟨a, 0, none⟩), .pointer (some ⟨b, 0, none⟩)] N G O A S ∧ Only [] w w' := by
  have HO : Hid (Only [] w ((w.alloc (.cells #[.int .i64 N, .int .i64 G] 33)).alloc (.cells #[.int .i64 A, .int .i64 S] 35))) := ((Only.refl _ _).alloc _).alloc _
  have HB : Hid (∀ W, Calls Tryd.prog 33 #[.agg #[.int .i64 N, .int .i64 G], .int .i64 O] W fun e w' => ∃ b c, e = .returned (.func (.func 46) #[] #[.pointer (some ⟨b, 0, none⟩), .pointer (some ⟨c, 0, none⟩)]) ∧ TestOf w' [] 46 #[.pointer (some ⟨b, 0, none⟩), .pointer (some ⟨c, 0, none⟩)] (ownB N G O) ∧ Only [] W w') := fun W => by_any W N G O [] (fun _ h => by cases h)
  have HR : Hid (OkR A S) := hr
  have HC : Hid (∀ W, Only [] ((w.alloc (.cells #[.int .i64 N, .int .i64 G] 33)).alloc (.cells #[.int .i64 A, .int .i64 S] 35)) W → W.cell? ⟨w.heap.size + 1, 0, none⟩ = some (.int .i64 A) ∧ W.cell? ⟨w.heap.size + 1, 1, none⟩ = some (.int .i64 S)) := fun W ho => by
    have hh := two_own (B := w.heap.size + 1) ho (by simp)
    exact ⟨hh.1, hh.2.1⟩
  clear hr
  go_enter Tryd.func45, Tryd.ntmps45
  go_wp2_with (go_at_call 33; refine (HB.out _).mono ?_; rintro e w2 ⟨b1, b2, rfl, ht2, ho2⟩; have HT2 : Hid (TestOf w2 [] 46 #[.pointer (some ⟨b1, 0, none⟩), .pointer (some ⟨b2, 0, none⟩)] (ownB N G O)) := ht2; have HO2 : Hid (Only [] ((w.alloc (.cells #[.int .i64 N, .int .i64 G] 33)).alloc (.cells #[.int .i64 A, .int .i64 S] 35)) w2) := ho2; clear ht2 ho2)
  go_ret
  have hc := HC.out _ (HO2.out.alloc (.cells #[.func (.func 46) #[] #[.pointer (some ⟨b1, 0, none⟩), .pointer (some ⟨b2, 0, none⟩)]] 71))
  have hf := cell_of_row _ _ 0 _ _ _ (heap_alloc_last w2 (.cells #[.func (.func 46) #[] #[.pointer (some ⟨b1, 0, none⟩), .pointer (some ⟨b2, 0, none⟩)]] 71))
  exact ⟨_, _, rfl, cut1_any _ _ _ b1 b2 N G O A S HR.out hf hc.1 hc.2 (HT2.out.only0 ((Only.refl _ _).alloc _)), (only_nil HO.out HO2.out).alloc _⟩
set_option maxHeartbeats 1000000 in
theorem continuing_any (w : World) (v : Lk) (hv : v.Ok) (L : List Nat) (hL : ∀ k ∈ L, k < w.heap.size) : Calls Tryd.prog 39 #[lkV v] w fun e w' => ∃ a b, e = .returned (.func (.func 55) #[] #[.pointer (some ⟨a, 0, none⟩), .pointer (some ⟨b, 0, none⟩)]) ∧ TestOf w' L 55 #[.pointer (some ⟨a, 0, none⟩), .pointer (some ⟨b, 0, none⟩)] (goesB v) ∧ Only [] w w' := by
  have HO : Hid (Only [] w (w.alloc (.cells #[.int .i64 v.N, .int .i64 v.G, .int .i64 v.O, .int .i64 v.A, .int .i64 v.S, .bool v.W] 39))) := (Only.refl _ _).alloc _
  have HI : Hid (LkIn (w.alloc (.cells #[.int .i64 v.N, .int .i64 v.G, .int .i64 v.O, .int .i64 v.A, .int .i64 v.S, .bool v.W] 39)) w.heap.size v) := LkIn.new w v 39
  have HB : Hid (∀ W, Only [] w W → Calls Tryd.prog 33 #[.agg #[.int .i64 v.N, .int .i64 v.G], .int .i64 v.O] W fun e w' => ∃ b c, e = .returned (.func (.func 46) #[] #[.pointer (some ⟨b, 0, none⟩), .pointer (some ⟨c, 0, none⟩)]) ∧ TestOf w' L 46 #[.pointer (some ⟨b, 0, none⟩), .pointer (some ⟨c, 0, none⟩)] (ownB v.N v.G v.O) ∧ Only [] W w') := fun W ho => by_any W _ _ _ L (fun k hk => Nat.lt_of_lt_of_le (hL k hk) ho.size)
  have HV : Hid (v.Ok) := hv
  have HL : Hid (∀ k ∈ L, k < w.heap.size) := hL
  obtain ⟨d0, d1, d2, d3, d4, d5⟩ := HI.out
  unfold lkV
  clear hv hL
  go_enter Tryd.func39, Tryd.ntmps39
  go_wp2_with (go_at_call 33; refine (HB.out _ HO.out).mono ?_; rintro e w2 ⟨b1, b2, rfl, ht2, ho2⟩; have HT2 : Hid (TestOf w2 L 46 #[.pointer (some ⟨b1, 0, none⟩), .pointer (some ⟨b2, 0, none⟩)] (ownB v.N v.G v.O)) := ht2; have HO2 : Hid (Only [] (w.alloc (.cells #[.int .i64 v.N, .int .i64 v.G, .int .i64 v.O, .int .i64 v.A, .int .i64 v.S, .bool v.W] 39)) w2) := ho2; clear ht2 ho2)
  go_ret
  have hf := cell_of_row _ _ 0 _ _ _ (heap_alloc_last w2 (.cells #[.func (.func 46) #[] #[.pointer (some ⟨b1, 0, none⟩), .pointer (some ⟨b2, 0, none⟩)]] 71))
  have hs := HO2.out.size
  exact ⟨_, _, rfl, continuing1_any _ L _ _ v HV.out (HI.out.only (HO2.out.alloc _) (by simp)) (fun h => Nat.lt_irrefl _ (HL.out _ h)) (fun h => by have := HL.out _ h; rw [World.size_alloc] at hs; omega) b1 b2 hf (HT2.out.only0 ((Only.refl _ _).alloc _)), (only_nil HO.out HO2.out).alloc _⟩
/-- A table of runs. -/
structure TbAt (w : World) (base t : Nat) (v : Value) (l : List Lk) : Prop where
  c0 : w.cell? ⟨t, 0, none⟩ = some v
  fr : w.frozen? ⟨t, 0, none⟩ = false
  own : Lks w base v l
  ne : ∀ k, v.ownBlock = some k → k ≠ t
theorem TbAt.only {w w' : World} {base t : Nat} {v : Value} {l : List Lk} (h : TbAt w base t v l) (ho : Only [] w w') : TbAt w' base t v l :=
  ⟨(ho.cell (p := ⟨t, 0, none⟩) (lt_of_cell h.c0) (by simp)).trans h.c0, (ho.frozen (p := ⟨t, 0, none⟩) (lt_of_cell h.c0) (by simp)).trans h.fr, h.own.only ho (fun _ _ => by simp), h.ne⟩
theorem lk_cells {w : World} {base g cap n i : Nat} {l : List Lk} {x : Lk} (h : Lks w base (.slice (some ⟨g, 0, none⟩) n cap) l) (hn : l.length = n) (hi : l[i]? = some x) : w.cell? ⟨g, i * 6, none⟩ = some (.int .i64 x.N) ∧ w.cell? ⟨g, i * 6 + 1, none⟩ = some (.int .i64 x.G) ∧ w.cell? ⟨g, i * 6 + 2, none⟩ = some (.int .i64 x.O) ∧ w.cell? ⟨g, i * 6 + 3, none⟩ = some (.int .i64 x.A) ∧ w.cell? ⟨g, i * 6 + 4, none⟩ = some (.int .i64 x.S) ∧ w.cell? ⟨g, i * 6 + 5, none⟩ = some (.bool x.W) := by
  have k := row_cells (enc := lkC) lkC_len h hn hi
  exact ⟨k 0 (by decide), k 1 (by decide), k 2 (by decide), k 3 (by decide), k 4 (by decide), k 5 (by decide)⟩
theorem without_take {N G O A S : Int} {l : List Lk} {j : Nat} {x : Lk} (h : l[j]? = some x) : withoutL N G O A S (l.take (j + 1)) = withoutL N G O A S (l.take j) ++ cutL N G O A S x := by
  obtain ⟨hj, rfl⟩ := List.getElem?_eq_some_iff.1 h
  rw [← List.take_append_getElem hj]
  unfold withoutL
  rw [List.flatMap_append]
  simp
theorem cut_len (N G O A S : Int) (x : Lk) : (cutL N G O A S x).length ≤ 2 := by
  unfold cutL outL
  split
  · split <;> split <;> simp
  · simp
theorem without_len (N G O A S : Int) (l : List Lk) : (withoutL N G O A S l).length ≤ 2 * l.length := by
  induction l with
  | nil => exact Nat.le_refl _
  | cons x l ih =>
    show (cutL N G O A S x ++ withoutL N G O A S l).length ≤ _
    rw [List.length_append, List.length_cons]
    have := cut_len N G O A S x
    omega
theorem without_step {w2 w3 w4 : World} {base j m q : Nat} {N G O A S : Int} {l : List Lk} {x : Lk} {o v4 : Value} (hx : l[j]? = some x) (hm : (withoutL N G O A S (l.take j)).length = m) (hq : (cutL N G O A S x).length = q) (hown : w4.ownsRow base 39 6 v4 (m + q) (rowOf lkC (withoutL N G O A S (l.take j)) ++ rowOf lkC (cutL N G O A S x))) (hgr : w3.grownBy w4 o.ownBlock) (hat : v4.ownBlock = o.ownBlock ∨ v4.ownBlock = some w3.heap.size) (hf : ∀ k, o.ownBlock = some k → w2.heap.size ≤ k) (h3 : Only [] w2 w3) :
    Lks w4 base v4 (withoutL N G O A S (l.take (j + 1))) ∧ (∀ k, v4.ownBlock = some k → w2.heap.size ≤ k) ∧ Only [] w2 w4 := by
  refine ⟨?_, ?_, ?_⟩
  · unfold Lks
    rw [without_take hx, rowOf_append, List.length_append, hm, hq]
    exact hown
  · intro k hk
    rcases hat with e | e
    · exact hf k (e.symm.trans hk)
    · rw [e] at hk
      cases hk
      exact h3.size
  · exact h3.grown hgr (fun k hk => Or.inr (hf k hk))
set_option maxRecDepth 100000 in
set_option maxHeartbeats 4000000 in
theorem without_any (w : World) (base t : Nat) (v : Value) (l : List Lk) (N G O A S : Int) (h : TbAt w base t v l) (hb : base ≤ w.heap.size) (hl : l.length ≤ 1000) (hok : ∀ x ∈ l, x.Ok) (hr : OkR A S) : Calls Tryd.prog 31 #[.pointer (some ⟨t, 0, none⟩), .agg #[.int .i64 N, .int .i64 G], .int .i64 O, .agg #[.int .i64 A, .int .i64 S]] w fun e w' => ∃ v', e = .returned v' ∧ Lks w' base v' (withoutL N G O A S l) ∧ (∀ k, v'.ownBlock = some k → w.heap.size ≤ k) ∧ Only [] w w' := by
  obtain ⟨adT, cap, rfl, had, _⟩ := row_form h.own
  have HA : Hid (l ≠ [] → ∃ g, adT = some ⟨g, 0, none⟩) := had
  obtain ⟨n, hn⟩ : ∃ n, l.length = n := ⟨_, rfl⟩
  have HN : Hid (l.length = n) := hn
  rw [hn] at hl h
  have H : Hid (TbAt w base t (.slice adT n cap) l) := h
  have HB : Hid (base ≤ w.heap.size) := hb
  have HOK : Hid (∀ x ∈ l, x.Ok) := hok
  have HO : Hid (Only [] w ((w.alloc (.cells #[.int .i64 N, .int .i64 G] 33)).alloc (.cells #[.int .i64 A, .int .i64 S] 35))) := ((Only.refl _ _).alloc _).alloc _
  have HC : Hid (∀ W, Calls Tryd.prog 45 #[.agg #[.int .i64 N, .int .i64 G], .int .i64 O, .agg #[.int .i64 A, .int .i64 S]] W fun e w' => ∃ a b, e = .returned (.func (.func 65) #[] #[.pointer (some ⟨a, 0, none⟩), .pointer (some ⟨b, 0, none⟩)]) ∧ CutOf w' #[.pointer (some ⟨a, 0, none⟩), .pointer (some ⟨b, 0, none⟩)] N G O A S ∧ Only [] W w') := fun W => cutting_any W N G O A S hr
  clear h hn had hb hok hr
  obtain ⟨i0, hi0, hz0, hz1, hz2⟩ := lkInfo'
  go_enter Tryd.func31, Tryd.ntmps31
  go_wp2_with (go_at_call 45; refine (HC.out _).mono ?_; rintro e w2 ⟨ca, cb, rfl, ht2, ho2⟩; have HT2 : Hid (CutOf w2 #[.pointer (some ⟨ca, 0, none⟩), .pointer (some ⟨cb, 0, none⟩)] N G O A S) := ht2; have HO2 : Hid (Only [] w w2) := only_nil HO.out ho2; have hc0 := (H.out.only HO2.out).c0; have htl := lt_of_cell hc0; clear ht2 ho2)
  clear hc0 htl
  go_loopw [10, 12, 22] (fun o _x i wr => ∃ j : Nat, i = .int .i64 j ∧ j ≤ n ∧ Lks wr base o (withoutL N G O A S (l.take j)) ∧ (∀ k, o.ownBlock = some k → w2.heap.size ≤ k) ∧ Only [] w2 wr) (fun _ _ i _ => n - (intOf i).toNat)
  case atStart => exact ⟨0, rfl, Nat.zero_le _, Lks.nil _ _, (fun k hk => by cases hk), Only.refl _ _⟩
  case round =>
    obtain ⟨j, rfl, hj, hL, hfr, hO⟩ := hrel
    have HL : Hid (Lks wr base u10 (withoutL N G O A S (l.take j))) := hL
    have HF : Hid (∀ k, u10.ownBlock = some k → w2.heap.size ≤ k) := hfr
    have HOW : Hid (Only [] w2 wr) := hO
    clear hL hfr hO
    by_cases hlt : j < n
    · obtain ⟨x, hx⟩ : ∃ x, l[j]? = some x := ⟨_, List.getElem?_eq_getElem (by rw [HN.out]; exact hlt)⟩
      obtain ⟨gT, rfl⟩ := HA.out (fun e => by rw [e] at hx; cases hx)
      obtain ⟨c0, c1, c2, c3, c4, c5⟩ := lk_cells (H.out.own.only (only_nil HO2.out HOW.out) (fun _ _ => by simp)) HN.out hx
      have HX : Hid (l[j]? = some x) := hx
      have HOA : Hid (Only [] w2 (wr.alloc (.cells #[.int .i64 x.N, .int .i64 x.G, .int .i64 x.O, .int .i64 x.A, .int .i64 x.S, .bool x.W] 39))) := HOW.out.alloc _
      have HOB : Hid (Only [] wr (wr.alloc (.cells #[.int .i64 x.N, .int .i64 x.G, .int .i64 x.O, .int .i64 x.A, .int .i64 x.S, .bool x.W] 39))) := (Only.refl [] wr).alloc _
      have HIN : Hid (LkIn (wr.alloc (.cells #[.int .i64 x.N, .int .i64 x.G, .int .i64 x.O, .int .i64 x.A, .int .i64 x.S, .bool x.W] 39)) wr.heap.size x) := LkIn.new wr x 39
      have HCC : Hid (∀ W, Only [] w2 W → Calls Tryd.prog 65 #[.agg #[.int .i64 x.N, .int .i64 x.G, .int .i64 x.O, .int .i64 x.A, .int .i64 x.S, .bool x.W], .pointer (some ⟨ca, 0, none⟩), .pointer (some ⟨cb, 0, none⟩)] W fun e w' => ∃ v, e = .returned v ∧ Lks w' base v (cutL N G O A S x) ∧ (∀ k, v.ownBlock = some k → W.heap.size ≤ k) ∧ Only [] W w') := fun W ho => HT2.out W x base ho (HOK.out x (List.mem_of_getElem? hx)) (Nat.le_trans HB.out (Nat.le_trans HO2.out.size ho.size))
      have hj2 : (j : Int) < n := by omega
      have hwl := without_len N G O A S (l.take j)
      rw [List.length_take] at hwl
      obtain ⟨m, hm⟩ : ∃ m, (withoutL N G O A S (l.take j)).length = m := ⟨_, rfl⟩
      have HM : Hid ((withoutL N G O A S (l.take j)).length = m) := hm
      rw [hm] at hwl
      have hm2 : m ≤ 2000 := by omega
      have hcl := cut_len N G O A S x
      obtain ⟨q, hq⟩ : ∃ q, (cutL N G O A S x).length = q := ⟨_, rfl⟩
      have HQ : Hid ((cutL N G O A S x).length = q) := hq
      rw [hq] at hcl
      clear hx hm hwl hq
      go_upto_region 6 with fail
      generalize wr.alloc (.cells #[.int .i64 x.N, .int .i64 x.G, .int .i64 x.O, .int .i64 x.A, .int .i64 x.S, .bool x.W] 39) = wq at HOA HOB HIN ⊢
      obtain ⟨D, hD⟩ : ∃ D, wr.heap.size = D := ⟨_, rfl⟩
      rw [hD] at HIN ⊢
      clear c0 c1 c2 c3 c4 c5 hD
      obtain ⟨c0, c1, c2, c3, c4, c5⟩ := HIN.out
      go_wp2_with (first
        | (go_at_call 65; refine (HCC.out _ HOA.out).mono ?_; rintro e w3 ⟨vC, rfl, hC, hfr3, ho3⟩; obtain ⟨adC, cC, rfl, hadC, _, hcC⟩ := row_form hC; have HAC : Hid (cutL N G O A S x ≠ [] → ∃ g, adC = some ⟨g, 0, none⟩) := hadC; have HC3 : Hid (Lks w3 base (.slice adC (cutL N G O A S x).length cC) (cutL N G O A S x)) := hC; have HO3 : Hid (Only [] wr w3) := only_nil HOB.out ho3; have HCQ : Hid (w3.ownsRow base 39 6 (.slice adC (cutL N G O A S x).length cC) q (rowOf lkC (cutL N G O A S x))) := (by have hh := hC; unfold Lks at hh; rw [HQ.out] at hh ⊢; exact hh); have HLM : Hid (w3.ownsRow base 39 6 u10 m (rowOf lkC (withoutL N G O A S (l.take j)))) := (by have hh := HL.out.only HO3.out (fun _ _ => by simp); unfold Lks at hh; rw [HM.out] at hh; exact hh); clear hC hfr3 ho3 hadC c0 c1 c2 c3 c4 c5)
        | (at_builtin; refine wpList_append_rows rfl (.tmp 26) (.tmp 29) 25 rfl base 39 i0 _ 6 48 lksUnd hi0 hz0 hz1 hz2 rfl (by decide) u10 m (rowOf lkC (withoutL N G O A S (l.take j))) rfl HLM.out _ q base (rowOf lkC (cutL N G O A S x)) rfl HCQ.out (lkRow_one _) (by unfold maxLen; omega) (by omega) (Nat.le_trans HB.out (Nat.le_trans HO2.out.size (Nat.le_trans HOW.out.size HO3.out.size))) ?_; intro v4 w4 hown4 hgr4 hat4; have HST : Hid (Lks w4 base v4 (withoutL N G O A S (l.take (j + 1))) ∧ (∀ k, v4.ownBlock = some k → w2.heap.size ≤ k) ∧ Only [] w2 w4) := without_step HX.out HM.out HQ.out hown4 hgr4 hat4 HF.out (only_nil HOW.out HO3.out); clear hown4 hgr4 hat4)
        | go_in)
      go_roundw
      case rel => exact ⟨j + 1, by go_num, by omega, HST.out.1, HST.out.2.1, HST.out.2.2⟩
      case measure => simp [intOf]; omega
    · obtain rfl : j = n := by omega
      have HE : Hid (Lks wr base u10 (withoutL N G O A S l)) := by show Lks _ _ _ _; have hh := HL.out; rw [← HN.out, List.take_length] at hh; exact hh
      have hj2 : decide ((j : Int) < j) = false := decide_eq_false (by omega)
      go_wp2
      go_ret
      exact ⟨_, rfl, HE.out, (fun k hk => Nat.le_trans HO2.out.size (HF.out k hk)), only_nil HO2.out HOW.out⟩
end Go.Proofs.YtfnniphemlnanaaDoor
