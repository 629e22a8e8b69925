/- Compounds on the wire: lists read. -/
import Derived.Test.YtkopiffnkbjbiaaDoorWi8
import Derived.Deep.AppendLies
import Derived.Deep.WholeRow
import Derived.Laws.AppendOwn
namespace Go.Proofs.YtkopiffnkbjbiaaDoor
open Go Go.RowKit Go.Deep

/-! ### plain: so many, one behind the other -/
def contP {α : Type} (l : List α) (o : Option (List α × ByteArray)) : Option (List α × ByteArray) := o.map fun p => (l ++ p.1, p.2)
theorem contP_none {α : Type} {p : Par α} {l : List α} {m : Nat} {t : ByteArray} (h : p t = none) : contP l (pTimes p (m + 1) t) = none := by simp [contP, pTimes, bindP_none h]
theorem contP_some {α : Type} {p : Par α} {l : List α} {m : Nat} {t t' : ByteArray} {a : α} (h : p t = some (a, t')) : contP l (pTimes p (m + 1) t) = contP (l ++ [a]) (pTimes p m t') := by
  simp only [pTimes, bindP_some h]
  cases hm : pTimes p m t' with
  | none => simp [contP, bindP_none hm]
  | some q => simp [contP, bindP_some hm, retP]
theorem contP_end {α : Type} (p : Par α) (l : List α) (t : ByteArray) : contP l (pTimes p 0 t) = some (l, t) := by simp [contP, pTimes, retP]
theorem contP_start {α : Type} (o : Option (List α × ByteArray)) : contP [] o = o := by
  cases o <;> simp [contP]
theorem grown_only {w w' : World} {v : Value} {L : List Nat} {o : Obj} (h : (w.alloc o).grownBy w' v.ownBlock) (hL : ∀ b, v.ownBlock = some b → b ∈ L ∨ w.heap.size ≤ b) : Only L w w' := ((Only.refl _ w).alloc _).grown h hL
theorem own_at {w : World} {base e k n b : Nat} {v : Value} {xs : List Value} (h : w.ownsRow base e k v n xs) (hb : v.ownBlock = some b) : base ≤ b ∧ b < w.heap.size ∧ ∃ cur, w.heap[b]? = some (.cells cur e (0, 0)) := by
  rcases h.2 with ⟨rfl, _⟩ | ⟨g, cap, cur, rfl, h1, h2, _⟩
  · cases hb
  · cases hb
    exact ⟨h1, (Array.getElem?_eq_some_iff.1 h2).1, cur, h2⟩
theorem own_low {w : World} {base b2 e k n : Nat} {v : Value} {xs : List Value} (h : w.ownsRow base e k v n xs) (hb : b2 ≤ base) : w.ownsRow b2 e k v n xs := ⟨h.1, by
  rcases h.2 with e | ⟨g, cp, cur, h1, h2, h3⟩
  · exact Or.inl e
  · exact Or.inr ⟨g, cp, cur, h1, Nat.le_trans hb h2, h3⟩⟩
theorem own_rws {α : Type} {w : World} {base e k B : Nat} {v : Value} {c : α → List Value} {l : List α} (h : w.ownsRow base e k v l.length (rowOf c l)) (hc : ∀ a, (c a).length = k) (hB : w.heap.size ≤ B) : ∃ ad cap, v = .slice ad l.length cap ∧ Rws w B c k ad l := by
  rcases h.2 with ⟨rfl, hz⟩ | ⟨g, cap, cur, rfl, h1, h2, h3⟩
  · have := List.eq_nil_of_length_eq_zero hz
    subst this
    exact ⟨none, 0, rfl, Rws.nil _ _ _ _ _⟩
  · refine ⟨_, _, rfl, ⟨fun i x hx => ⟨g, rfl, Nat.lt_of_lt_of_le (Array.getElem?_eq_some_iff.1 h2).1 hB, fun j u hu => ?_⟩⟩⟩
    have hlt : i < l.length := (List.getElem?_eq_some_iff.1 hx).1
    have hj : j < k := by rw [← hc x]; exact (List.getElem?_eq_some_iff.1 hu).1
    rw [World.ownsRow.cellAt h _ (by
      have : i * k + k ≤ l.length * k := by rw [← Nat.succ_mul]; exact Nat.mul_le_mul_right _ hlt
      omega), rowOf_get hc l i j x hj hx]
    exact hu
theorem row_snoc {α : Type} {w : World} {base e k n : Nat} {v : Value} {c : α → List Value} {l : List α} {x : α} (hn : l.length = n) (h : w.ownsRow base e k v (n + 1) (rowOf c l ++ c x)) : w.ownsRow base e k v (l ++ [x]).length (rowOf c (l ++ [x])) := by
  rw [rowOf_append, List.length_append, List.length_singleton, hn, show rowOf c [x] = c x by simp [rowOf]]
  exact h
/-- How a list that is read ends. -/
def LEnd {α : Type} (A : Nat → Addr) (rb xb : Nat) (w : World) (t : ByteArray) (p : Par α) (T k : Nat) (c : α → List Value) (e : Ending) (w' : World) : Prop :=
  (∃ l t' v, pList p t = some (l, t') ∧ e = .returned v ∧ Only [xb] w w' ∧ RS w' A rb xb t' ∧ w'.ownsRow w.heap.size T k v l.length (rowOf c l)) ∨ (pList p t = none ∧ e = .panicked (thr (eV A 0)) ∧ Only [xb] w w')
theorem opC_len (x : OpV) : (opC x).length = 9 := rfl
theorem opC_one (x : OpV) : ∀ v ∈ opC x, v.oneCell' = true := by
  intro v hv
  simp only [opC, List.mem_cons, List.not_mem_nil, or_false] at hv
  rcases hv with rfl | rfl | rfl | rfl | rfl | rfl | rfl | rfl | rfl <;> rfl
theorem opInfo : ∃ i, Tryd.prog.info? 65 = some i ∧ i.zero = some (.agg #[.string ⟨#[]⟩, .string ⟨#[]⟩, .string ⟨#[]⟩, .int .i64 0, .int .i64 0, .int .i64 0, .int .i64 0, .int .i64 0, .int .i64 0]) ∧ i.size = 9 ∧ i.bytes = 96 := by
  have h : (Tryd.prog.info? 65).map (fun i => (i.zero, i.size, i.bytes)) = some (some (.agg #[.string ⟨#[]⟩, .string ⟨#[]⟩, .string ⟨#[]⟩, .int .i64 0, .int .i64 0, .int .i64 0, .int .i64 0, .int .i64 0, .int .i64 0]), 9, 96) := by kernel_rfl
  obtain ⟨i, hi, hz⟩ := Option.map_eq_some_iff.1 h
  simp only [Prod.mk.injEq] at hz
  exact ⟨i, hi, hz⟩
theorem opsUnd : Tryd.prog.underlying 29 = some (.slice 65) := by kernel_rfl
theorem op_news {w : World} (x : OpV) (ty : TypeId) : ∀ (r : Nat) (q : Value), (opC x)[r]? = some q → (w.alloc (.cells #[.string x.K, .string x.N, .string x.T, .int .i64 x.x1, .int .i64 x.x2, .int .i64 x.x3, .int .i64 x.x4, .int .i64 x.x5, .int .i64 x.x6] ty)).cell? ((⟨w.heap.size, 0, none⟩ : Addr).add r) = some q := World.news_of_block (w := w.alloc (.cells #[.string x.K, .string x.N, .string x.T, .int .i64 x.x1, .int .i64 x.x2, .int .i64 x.x3, .int .i64 x.x4, .int .i64 x.x5, .int .i64 x.x6] ty)) (heap_alloc_last w _)
theorem enC_len (x : EnV) : (enC x).length = 3 := rfl
theorem enC_one (x : EnV) : ∀ v ∈ enC x, v.oneCell' = true := by
  intro v hv
  simp only [enC, List.mem_cons, List.not_mem_nil, or_false] at hv
  rcases hv with rfl | rfl | rfl <;> rfl
theorem enInfo : ∃ i, Tryd.prog.info? 52 = some i ∧ i.zero = some (.agg #[.string ⟨#[]⟩, .int .i64 0, .int .i64 0]) ∧ i.size = 3 ∧ i.bytes = 32 := by
  have h : (Tryd.prog.info? 52).map (fun i => (i.zero, i.size, i.bytes)) = some (some (.agg #[.string ⟨#[]⟩, .int .i64 0, .int .i64 0]), 3, 32) := by kernel_rfl
  obtain ⟨i, hi, hz⟩ := Option.map_eq_some_iff.1 h
  simp only [Prod.mk.injEq] at hz
  exact ⟨i, hi, hz⟩
theorem ensUnd : Tryd.prog.underlying 48 = some (.slice 52) := by kernel_rfl
theorem en_news {w : World} (x : EnV) (ty : TypeId) : ∀ (r : Nat) (q : Value), (enC x)[r]? = some q → (w.alloc (.cells #[.string x.n, .int .i64 x.x, .int .i64 x.y] ty)).cell? ((⟨w.heap.size, 0, none⟩ : Addr).add r) = some q := World.news_of_block (w := w.alloc (.cells #[.string x.n, .int .i64 x.x, .int .i64 x.y] ty)) (heap_alloc_last w _)
set_option maxHeartbeats 2000000 in
theorem rOps (A : Nat → Addr) (rb xb : Nat) (t : ByteArray) (w : World) (h : RS w A rb xb t) : Calls Tryd.prog 55 #[P0 rb, .func (.func 32) #[] #[]] w (LEnd A rb xb w t pOp 65 9 opC) := by
  obtain ⟨i0, hi0, hz0, hz1, hz2⟩ := opInfo
  have K0 : Hid (∀ _ : Unit, _) := fun _ => yInt A rb xb t w h
  have HX : Hid (xb < w.heap.size) := h.lt
  have KX : Hid (∀ t1 w1, RS w1 A rb xb t1 → _) := fun t1 w1 k => rOp A rb xb t1 w1 k
  have HH : Hid (RS w A rb xb t) := h
  obtain ⟨pr, hpr⟩ : ∃ pr, pList pOp t = pr := ⟨_, rfl⟩
  have HP : Hid (pList pOp t = pr) := hpr
  have R0 : Hid (pr = pList pOp t) := hpr.symm
  have c0 := h.ptr
  clear h hpr
  go_enter Tryd.func55, Tryd.ntmps55
  go_wp2_with fail
  clear c0
  refine (K0.out ()).mono ?_
  rintro e w1 (⟨n, t1, r, rfl, o, s⟩ | ⟨r, rfl, o⟩)
  rotate_left
  · go_wp2_with (go_at_call 56; refine (must_err _ _ _).mono ?_; rintro e w2 ⟨rfl, rfl⟩)
    exact ⟨rfl, Or.inr ⟨HP.out.trans (R0.out.trans (bindP_none r)), rfl, o⟩⟩
  have hnb : n < 4294967296 := by
    unfold pInt at r
    split at r
    · cases r
      exact numAt_lt t 4
    · cases r
  have R1 : Hid (pr = contP [] (pTimes pOp n t1)) := (R0.out.trans (bindP_some r)).trans (contP_start _).symm
  have O1 : Hid (Only [xb] w w1) := o
  have S1 : Hid (RS w1 A rb xb t1) := s
  clear r o s R0 K0
  go_wp2_with (go_at_call 56; refine (must_nil _).mono ?_; rintro e w2 ⟨rfl, rfl⟩)
  go_loopw [7, 19] (fun v i wr => ∃ (j : Nat) (tj : ByteArray) (l : List OpV), j ≤ n ∧ i = .int .i64 (j : Nat) ∧ l.length = j ∧ pr = contP l (pTimes pOp (n - j) tj) ∧ Only [xb] w wr ∧ RS wr A rb xb tj ∧ wr.ownsRow w.heap.size 65 9 v l.length (rowOf opC l)) (fun _ i _ => n - (intOf i).toNat)
  case atStart => exact ⟨0, t1, [], Nat.zero_le _, rfl, rfl, R1.out, O1.out, S1.out, World.ownsRow_nil _ _ _ _⟩
  case round =>
    obtain ⟨j, tj, l, hj, rfl, hlj, hr, ho, hs, hrow⟩ := hrel
    have HL : Hid (l.length = j) := hlj
    have R : Hid (pr = contP l (pTimes pOp (n - j) tj)) := hr
    have O : Hid (Only [xb] w wr) := ho
    have S : Hid (RS wr A rb xb tj) := hs
    have HROW : Hid (wr.ownsRow w.heap.size 65 9 u7 j (rowOf opC l)) := by
      rw [hlj] at hrow
      exact hrow
    clear hr ho hs hrow hlj
    by_cases hlt : j < n
    · have RX : Hid (pr = contP l (pTimes pOp (n - (j + 1) + 1) tj)) := by
        have := R.out
        rw [show n - j = n - (j + 1) + 1 by omega] at this
        exact this
      go_wp2_with fail
      refine (KX.out _ _ S.out).mono ?_
      rintro e w2 (⟨a, t2, r2, rfl, o2, s2⟩ | ⟨r2, rfl, o2⟩)
      rotate_left
      · exact ⟨rfl, Or.inr ⟨HP.out.trans (RX.out.trans (contP_none r2)), rfl, O.out.seq o2⟩⟩
      have R2 : Hid (pr = contP (l ++ [a]) (pTimes pOp (n - (j + 1)) t2)) := RX.out.trans (contP_some r2)
      have O2 : Hid (Only [xb] w w2) := O.out.seq o2
      have S2 : Hid (RS w2 A rb xb t2) := s2
      have HROW2 : Hid (w2.ownsRow w.heap.size 65 9 u7 j (rowOf opC l)) := o2.owns HROW.out (fun b hb => by have := (own_at HROW.out hb).1; have := HX.out; simp; omega)
      clear r2 o2 s2 RX R
      go_wp2_with (first
        | (at_builtin; refine wpList_append_lies _ rfl (.tmp 21) (.tmp 25) 29 rfl w.heap.size 65 i0 _ 9 96 opsUnd hi0 hz0 hz1 hz2 rfl (by decide) u7 j _ rfl (World.ownsRow.alloc HROW2.out _) ⟨w2.heap.size, 0, none⟩ 1 1 (opC a) rfl rfl (op_news a _) (opC_one a) (by decide) (by unfold maxLen; omega) (by omega) (by rw [World.size_alloc]; have := O2.out.size; omega) (w2.heap.size + 1) (by simp) ?_; intro g5 c5 w5 hown5 hgr5 hat5 hlt5; have HV5 : Hid (w5.ownsRow w.heap.size 65 9 (.slice (some ⟨g5, 0, none⟩) (j + 1) c5) (l ++ [a]).length (rowOf opC (l ++ [a]))) := row_snoc HL.out hown5; have HG5 : Hid ((w2.alloc (.cells #[.string a.K, .string a.N, .string a.T, .int .i64 a.x1, .int .i64 a.x2, .int .i64 a.x3, .int .i64 a.x4, .int .i64 a.x5, .int .i64 a.x6] 65)).grownBy w5 u7.ownBlock) := hgr5; clear hown5 hgr5 hat5 hlt5)
        | go_in)
      go_roundw
      case rel =>
        have hg : Only u7.ownBlock.toList w2 w5 := grown_only HG5.out (fun b hb => Or.inl (by simp [hb]))
        have hge : ∀ k ∈ u7.ownBlock.toList, w.heap.size ≤ k := fun k hk => (own_at HROW2.out (by simpa using hk)).1
        exact ⟨j + 1, t2, l ++ [a], by omega, by go_num, by rw [List.length_append, HL.out]; rfl, R2.out, O2.out.trans hg (fun k hk => Or.inr (hge k hk)), HH.out.over S2.out hg hge, HV5.out⟩
      case measure => simp [intOf]; omega
    · obtain rfl : n = j := by omega
      have R2 : Hid (pr = some (l, tj)) := by
        have := R.out
        rw [Nat.sub_self, contP_end] at this
        exact this
      go_wp2
      go_ret
      exact Or.inl ⟨_, _, _, HP.out.trans R2.out, rfl, O.out, S.out, by rw [HL.out]; exact HROW.out⟩
set_option maxHeartbeats 2000000 in
theorem rEntries (A : Nat → Addr) (rb xb : Nat) (t : ByteArray) (w : World) (h : RS w A rb xb t) : Calls Tryd.prog 72 #[P0 rb, .func (.func 73) #[] #[]] w (LEnd A rb xb w t pEntry 52 3 enC) := by
  obtain ⟨i0, hi0, hz0, hz1, hz2⟩ := enInfo
  have K0 : Hid (∀ _ : Unit, _) := fun _ => yInt A rb xb t w h
  have HX : Hid (xb < w.heap.size) := h.lt
  have KX : Hid (∀ t1 w1, RS w1 A rb xb t1 → _) := fun t1 w1 k => rEntry A rb xb t1 w1 k
  have HH : Hid (RS w A rb xb t) := h
  obtain ⟨pr, hpr⟩ : ∃ pr, pList pEntry t = pr := ⟨_, rfl⟩
  have HP : Hid (pList pEntry t = pr) := hpr
  have R0 : Hid (pr = pList pEntry t) := hpr.symm
  have c0 := h.ptr
  clear h hpr
  go_enter Tryd.func72, Tryd.ntmps72
  go_wp2_with fail
  clear c0
  refine (K0.out ()).mono ?_
  rintro e w1 (⟨n, t1, r, rfl, o, s⟩ | ⟨r, rfl, o⟩)
  rotate_left
  · go_wp2_with (go_at_call 56; refine (must_err _ _ _).mono ?_; rintro e w2 ⟨rfl, rfl⟩)
    exact ⟨rfl, Or.inr ⟨HP.out.trans (R0.out.trans (bindP_none r)), rfl, o⟩⟩
  have hnb : n < 4294967296 := by
    unfold pInt at r
    split at r
    · cases r
      exact numAt_lt t 4
    · cases r
  have R1 : Hid (pr = contP [] (pTimes pEntry n t1)) := (R0.out.trans (bindP_some r)).trans (contP_start _).symm
  have O1 : Hid (Only [xb] w w1) := o
  have S1 : Hid (RS w1 A rb xb t1) := s
  clear r o s R0 K0
  go_wp2_with (go_at_call 56; refine (must_nil _).mono ?_; rintro e w2 ⟨rfl, rfl⟩)
  go_loopw [7, 19] (fun v i wr => ∃ (j : Nat) (tj : ByteArray) (l : List EnV), j ≤ n ∧ i = .int .i64 (j : Nat) ∧ l.length = j ∧ pr = contP l (pTimes pEntry (n - j) tj) ∧ Only [xb] w wr ∧ RS wr A rb xb tj ∧ wr.ownsRow w.heap.size 52 3 v l.length (rowOf enC l)) (fun _ i _ => n - (intOf i).toNat)
  case atStart => exact ⟨0, t1, [], Nat.zero_le _, rfl, rfl, R1.out, O1.out, S1.out, World.ownsRow_nil _ _ _ _⟩
  case round =>
    obtain ⟨j, tj, l, hj, rfl, hlj, hr, ho, hs, hrow⟩ := hrel
    have HL : Hid (l.length = j) := hlj
    have R : Hid (pr = contP l (pTimes pEntry (n - j) tj)) := hr
    have O : Hid (Only [xb] w wr) := ho
    have S : Hid (RS wr A rb xb tj) := hs
    have HROW : Hid (wr.ownsRow w.heap.size 52 3 u7 j (rowOf enC l)) := by
      rw [hlj] at hrow
      exact hrow
    clear hr ho hs hrow hlj
    by_cases hlt : j < n
    · have RX : Hid (pr = contP l (pTimes pEntry (n - (j + 1) + 1) tj)) := by
        have := R.out
        rw [show n - j = n - (j + 1) + 1 by omega] at this
        exact this
      go_wp2_with fail
      refine (KX.out _ _ S.out).mono ?_
      rintro e w2 (⟨a, t2, r2, rfl, o2, s2⟩ | ⟨r2, rfl, o2⟩)
      rotate_left
      · exact ⟨rfl, Or.inr ⟨HP.out.trans (RX.out.trans (contP_none r2)), rfl, O.out.seq o2⟩⟩
      have R2 : Hid (pr = contP (l ++ [a]) (pTimes pEntry (n - (j + 1)) t2)) := RX.out.trans (contP_some r2)
      have O2 : Hid (Only [xb] w w2) := O.out.seq o2
      have S2 : Hid (RS w2 A rb xb t2) := s2
      have HROW2 : Hid (w2.ownsRow w.heap.size 52 3 u7 j (rowOf enC l)) := o2.owns HROW.out (fun b hb => by have := (own_at HROW.out hb).1; have := HX.out; simp; omega)
      clear r2 o2 s2 RX R
      go_wp2_with (first
        | (at_builtin; refine wpList_append_lies _ rfl (.tmp 21) (.tmp 25) 48 rfl w.heap.size 52 i0 _ 3 32 ensUnd hi0 hz0 hz1 hz2 rfl (by decide) u7 j _ rfl (World.ownsRow.alloc HROW2.out _) ⟨w2.heap.size, 0, none⟩ 1 1 (enC a) rfl rfl (en_news a _) (enC_one a) (by decide) (by unfold maxLen; omega) (by omega) (by rw [World.size_alloc]; have := O2.out.size; omega) (w2.heap.size + 1) (by simp) ?_; intro g5 c5 w5 hown5 hgr5 hat5 hlt5; have HV5 : Hid (w5.ownsRow w.heap.size 52 3 (.slice (some ⟨g5, 0, none⟩) (j + 1) c5) (l ++ [a]).length (rowOf enC (l ++ [a]))) := row_snoc HL.out hown5; have HG5 : Hid ((w2.alloc (.cells #[.string a.n, .int .i64 a.x, .int .i64 a.y] 52)).grownBy w5 u7.ownBlock) := hgr5; clear hown5 hgr5 hat5 hlt5)
        | go_in)
      go_roundw
      case rel =>
        have hg : Only u7.ownBlock.toList w2 w5 := grown_only HG5.out (fun b hb => Or.inl (by simp [hb]))
        have hge : ∀ k ∈ u7.ownBlock.toList, w.heap.size ≤ k := fun k hk => (own_at HROW2.out (by simpa using hk)).1
        exact ⟨j + 1, t2, l ++ [a], by omega, by go_num, by rw [List.length_append, HL.out]; rfl, R2.out, O2.out.trans hg (fun k hk => Or.inr (hge k hk)), HH.out.over S2.out hg hge, HV5.out⟩
      case measure => simp [intOf]; omega
    · obtain rfl : n = j := by omega
      have R2 : Hid (pr = some (l, tj)) := by
        have := R.out
        rw [Nat.sub_self, contP_end] at this
        exact this
      go_wp2
      go_ret
      exact Or.inl ⟨_, _, _, HP.out.trans R2.out, rfl, O.out, S.out, by rw [HL.out]; exact HROW.out⟩
end Go.Proofs.YtkopiffnkbjbiaaDoor
