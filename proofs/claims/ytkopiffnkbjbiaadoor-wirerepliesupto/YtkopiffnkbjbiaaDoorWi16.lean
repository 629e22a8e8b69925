/- Compounds on the wire, the document's side: the ops of a text; ops as the other side has them. -/
import Derived.Test.YtkopiffnkbjbiaaDoorWi15
import Derived.Test.YtkopiffnkbjbiaaDoorWi11
namespace Go.Proofs.YtkopiffnkbjbiaaDoor
open Go Go.RowKit Go.Deep

theorem Cells.set {w : World} {p k : Nat} {cs : List Value} {v : Value} (h : Cells w p cs) (hk : k < cs.length) : Cells (w.setCell ⟨p, k, none⟩ v) p (cs.set k v) := by
  intro j u hj
  by_cases e : j = k
  · subst e
    rw [List.getElem?_set_self hk] at hj
    cases hj
    exact World.cell?_setCell_same _ _ _ (h j _ (List.getElem?_eq_getElem hk))
  · rw [List.getElem?_set_ne (fun x => e x.symm)] at hj
    exact set_off _ (h j u hj) e
theorem Var.set {w : World} {p k : Nat} {cs : List Value} {v : Value} (h : Var w p cs) (hk : k < cs.length) : Var (w.setCell ⟨p, k, none⟩ v) p (cs.set k v) := ⟨h.1.set hk, fun j => by simpa using h.2 j⟩
theorem Var.lt {w : World} {p : Nat} {cs : List Value} (h : Var w p cs) (hk : 0 < cs.length) : p < w.heap.size := lt_of_cell (h.1 0 _ (List.getElem?_eq_getElem hk))
/-- The document's ops in a row of one's own. -/
def SOpsOwn (w : World) (base : Nat) (v : Value) (l : List OpV) : Prop := w.ownsRow base 40 9 v l.length (rowOf opC l)
theorem soInfo : ∃ i, Tryd.prog.info? 40 = some i ∧ i.zero = some (.agg #[.string ⟨#[]⟩, .string ⟨#[]⟩, .string ⟨#[]⟩, .int .i64 0, .int .i64 0, .int .i64 0, .int .i64 0, .int .i64 0, .int .i64 0]) ∧ i.size = 9 ∧ i.bytes = 96 := by
  have h : (Tryd.prog.info? 40).map (fun i => (i.zero, i.size, i.bytes)) = some (some (.agg #[.string ⟨#[]⟩, .string ⟨#[]⟩, .string ⟨#[]⟩, .int .i64 0, .int .i64 0, .int .i64 0, .int .i64 0, .int .i64 0, .int .i64 0]), 9, 96) := by kernel_rfl
  obtain ⟨i, hi, hz⟩ := Option.map_eq_some_iff.1 h
  simp only [Prod.mk.injEq] at hz
  exact ⟨i, hi, hz⟩
theorem sosUnd : Tryd.prog.underlying 22 = some (.slice 40) := by kernel_rfl
theorem op_news1 {w : World} (o : Obj) (x : OpV) (ty : TypeId) : ∀ (r : Nat) (q : Value), (opC x)[r]? = some q → ((w.alloc o).alloc (.cells #[.string x.K, .string x.N, .string x.T, .int .i64 x.x1, .int .i64 x.x2, .int .i64 x.x3, .int .i64 x.x4, .int .i64 x.x5, .int .i64 x.x6] ty)).cell? ((⟨w.heap.size + 1, 0, none⟩ : Addr).add r) = some q := by
  have := op_news (w := w.alloc o) x ty
  rw [World.size_alloc] at this
  exact this
theorem op_news2 {w : World} (x : OpV) (a : Addr) (v : Value) (ty : TypeId) : ∀ (r : Nat) (q : Value), (opC x)[r]? = some q → ((w.setCell a v).alloc (.cells #[.string x.K, .string x.N, .string x.T, .int .i64 x.x1, .int .i64 x.x2, .int .i64 x.x3, .int .i64 x.x4, .int .i64 x.x5, .int .i64 x.x6] ty)).cell? ((⟨w.heap.size, 0, none⟩ : Addr).add r) = some q := by
  have := op_news (w := w.setCell a v) x ty
  rw [show (w.setCell a v).heap.size = w.heap.size by simp] at this
  exact this
theorem not_empty {t : ByteArray} (h : 0 < t.size) : t.toList.isEmpty = false := by
  rw [ByteArray.toList_eq]
  cases hd : t.data.toList with
  | nil => rw [← bs_self t, hd] at h; exact absurd h (by decide)
  | cons _ _ => rfl
theorem own_form {α : Type} {w : World} {base e k : Nat} {v : Value} {c : α → List Value} {l : List α} (h : w.ownsRow base e k v l.length (rowOf c l)) (hc : ∀ a, (c a).length = k) : ∃ ad cap, v = .slice ad l.length cap := by
  obtain ⟨ad, cap, e, _⟩ := own_rws (B := w.heap.size) h hc (Nat.le_refl _)
  exact ⟨ad, cap, e⟩
set_option maxHeartbeats 1000000 in
theorem backOps_any (ad : Option Addr) (cap : Nat) (l : List OpV) (B : Nat) (w : World) (hr : Rws w B opC 9 ad l) (hl : l.length ≤ 4294967295) : Calls Tryd.prog 15 #[.slice ad l.length cap] w fun e w' => ∃ v, e = .returned v ∧ Only [] w w' ∧ w'.ownsRow w.heap.size 40 9 v l.length (rowOf opC l) := by
  obtain ⟨i0, hi0, hz0, hz1, hz2⟩ := soInfo
  have HR : Hid (Rws w B opC 9 ad l) := hr
  obtain ⟨n, hn⟩ : ∃ n, l.length = n := ⟨_, rfl⟩
  have HN : Hid (l.length = n) := hn
  have hnb : n ≤ 4294967295 := hn ▸ hl
  rw [hn]
  clear hn hl hr
  go_enter Tryd.func15, Tryd.ntmps15
  go_wp2
  go_loopw [3, 4] (fun v i wr => ∃ j : Nat, j ≤ n ∧ i = .int .i64 (j : Nat) ∧ Only [] w wr ∧ wr.ownsRow w.heap.size 40 9 v (l.take j).length (rowOf opC (l.take j))) (fun _ i _ => n - (intOf i).toNat)
  case atStart => exact ⟨0, Nat.zero_le _, rfl, Only.refl _ _, World.ownsRow_nil _ _ _ _⟩
  case round =>
    obtain ⟨j, hj, rfl, ho, hrow⟩ := hrel
    have O : Hid (Only [] w wr) := ho
    have HLT : Hid ((l.take j).length = j) := by show _ = _; rw [List.length_take, HN.out]; omega
    have HROW : Hid (wr.ownsRow w.heap.size 40 9 u3 j (rowOf opC (l.take j))) := by
      rw [HLT.out] at hrow
      exact hrow
    clear ho hrow
    by_cases hlt : j < n
    · obtain ⟨x, hx⟩ := at_lt l (j := j) (by rw [HN.out]; exact hlt)
      have hrx := HR.out.in_ O.out
      obtain ⟨g, rfl, hg, hc⟩ := hrx.at_ j x hx
      have HX : Hid (l.take j ++ [x] = l.take (j + 1)) := by
        show _ = _
        rw [List.take_add_one, hx]
        rfl
      have c0 : wr.cell? ⟨g, j * 9, none⟩ = some (.string x.K) := hc 0 _ rfl
      have c1 : wr.cell? ⟨g, j * 9 + 1, none⟩ = some (.string x.N) := hc 1 _ rfl
      have c2 : wr.cell? ⟨g, j * 9 + 2, none⟩ = some (.string x.T) := hc 2 _ rfl
      have c3 : wr.cell? ⟨g, j * 9 + 3, none⟩ = some (.int .i64 x.x1) := hc 3 _ rfl
      have c4 : wr.cell? ⟨g, j * 9 + 4, none⟩ = some (.int .i64 x.x2) := hc 4 _ rfl
      have c5 : wr.cell? ⟨g, j * 9 + 5, none⟩ = some (.int .i64 x.x3) := hc 5 _ rfl
      have c6 : wr.cell? ⟨g, j * 9 + 6, none⟩ = some (.int .i64 x.x4) := hc 6 _ rfl
      have c7 : wr.cell? ⟨g, j * 9 + 7, none⟩ = some (.int .i64 x.x5) := hc 7 _ rfl
      have c8 : wr.cell? ⟨g, j * 9 + 8, none⟩ = some (.int .i64 x.x6) := hc 8 _ rfl
      clear hrx hc hx
      go_wp2_with (first
        | (at_builtin; refine wpList_append_lies _ rfl (.tmp 16) (.tmp 34) 22 rfl w.heap.size 40 i0 _ 9 96 sosUnd hi0 hz0 hz1 hz2 rfl (by decide) u3 j _ rfl (World.ownsRow.alloc (World.ownsRow.alloc HROW.out _) _) ⟨wr.heap.size + 1, 0, none⟩ 1 1 (opC x) rfl rfl (op_news1 _ x _) (opC_one x) (by decide) (by unfold maxLen; omega) (by omega) (by rw [World.size_alloc, World.size_alloc]; have := O.out.size; omega) (wr.heap.size + 1 + 1) (by simp) ?_; intro g5 c5 w5 hown5 hgr5 hat5 hlt5; have HV5 : Hid (w5.ownsRow w.heap.size 40 9 (.slice (some ⟨g5, 0, none⟩) (j + 1) c5) (l.take j ++ [x]).length (rowOf opC (l.take j ++ [x]))) := row_snoc HLT.out hown5; have HG5 : Hid (Only u3.ownBlock.toList wr w5) := ((Only.refl _ wr).alloc _).seq (grown_only hgr5 (fun b hb => Or.inl (by simp [hb]))); clear hown5 hgr5 hat5 hlt5)
        | go_in)
      go_roundw
      case rel => exact ⟨j + 1, by omega, by go_num, O.out.trans HG5.out (fun k hk => Or.inr (own_at HROW.out (by simpa using hk)).1), by rw [← HX.out]; exact HV5.out⟩
      case measure => simp [intOf]; omega
    · obtain rfl : n = j := by omega
      go_wp2
      go_ret
      exact ⟨_, rfl, O.out, by
        have := HROW.out
        rw [← HN.out, List.take_length] at this
        rw [HN.out] at this
        exact this⟩
set_option maxHeartbeats 1000000 in
theorem lawOps_any (ad : Option Addr) (cap : Nat) (l : List OpV) (B : Nat) (w : World) (hr : Rws w B opC 9 ad l) (hl : l.length ≤ 4294967295) : Calls Tryd.prog 11 #[.slice ad l.length cap] w fun e w' => ∃ v, e = .returned v ∧ Only [] w w' ∧ w'.ownsRow w.heap.size 65 9 v l.length (rowOf opC l) := by
  obtain ⟨i0, hi0, hz0, hz1, hz2⟩ := opInfo
  have HR : Hid (Rws w B opC 9 ad l) := hr
  obtain ⟨n, hn⟩ : ∃ n, l.length = n := ⟨_, rfl⟩
  have HN : Hid (l.length = n) := hn
  have hnb : n ≤ 4294967295 := hn ▸ hl
  rw [hn]
  clear hn hl hr
  go_enter Tryd.func11, Tryd.ntmps11
  go_wp2
  go_loopw [3, 4] (fun v i wr => ∃ j : Nat, j ≤ n ∧ i = .int .i64 (j : Nat) ∧ Only [] w wr ∧ wr.ownsRow w.heap.size 65 9 v (l.take j).length (rowOf opC (l.take j))) (fun _ i _ => n - (intOf i).toNat)
  case atStart => exact ⟨0, Nat.zero_le _, rfl, Only.refl _ _, World.ownsRow_nil _ _ _ _⟩
  case round =>
    obtain ⟨j, hj, rfl, ho, hrow⟩ := hrel
    have O : Hid (Only [] w wr) := ho
    have HLT : Hid ((l.take j).length = j) := by show _ = _; rw [List.length_take, HN.out]; omega
    have HROW : Hid (wr.ownsRow w.heap.size 65 9 u3 j (rowOf opC (l.take j))) := by
      rw [HLT.out] at hrow
      exact hrow
    clear ho hrow
    by_cases hlt : j < n
    · obtain ⟨x, hx⟩ := at_lt l (j := j) (by rw [HN.out]; exact hlt)
      have hrx := HR.out.in_ O.out
      obtain ⟨g, rfl, hg, hc⟩ := hrx.at_ j x hx
      have HX : Hid (l.take j ++ [x] = l.take (j + 1)) := by
        show _ = _
        rw [List.take_add_one, hx]
        rfl
      have c0 : wr.cell? ⟨g, j * 9, none⟩ = some (.string x.K) := hc 0 _ rfl
      have c1 : wr.cell? ⟨g, j * 9 + 1, none⟩ = some (.string x.N) := hc 1 _ rfl
      have c2 : wr.cell? ⟨g, j * 9 + 2, none⟩ = some (.string x.T) := hc 2 _ rfl
      have c3 : wr.cell? ⟨g, j * 9 + 3, none⟩ = some (.int .i64 x.x1) := hc 3 _ rfl
      have c4 : wr.cell? ⟨g, j * 9 + 4, none⟩ = some (.int .i64 x.x2) := hc 4 _ rfl
      have c5 : wr.cell? ⟨g, j * 9 + 5, none⟩ = some (.int .i64 x.x3) := hc 5 _ rfl
      have c6 : wr.cell? ⟨g, j * 9 + 6, none⟩ = some (.int .i64 x.x4) := hc 6 _ rfl
      have c7 : wr.cell? ⟨g, j * 9 + 7, none⟩ = some (.int .i64 x.x5) := hc 7 _ rfl
      have c8 : wr.cell? ⟨g, j * 9 + 8, none⟩ = some (.int .i64 x.x6) := hc 8 _ rfl
      clear hrx hc hx
      go_wp2_with (first
        | (at_builtin; refine wpList_append_lies _ rfl (.tmp 16) (.tmp 34) 29 rfl w.heap.size 65 i0 _ 9 96 opsUnd hi0 hz0 hz1 hz2 rfl (by decide) u3 j _ rfl (World.ownsRow.alloc (World.ownsRow.alloc HROW.out _) _) ⟨wr.heap.size + 1, 0, none⟩ 1 1 (opC x) rfl rfl (op_news1 _ x _) (opC_one x) (by decide) (by unfold maxLen; omega) (by omega) (by rw [World.size_alloc, World.size_alloc]; have := O.out.size; omega) (wr.heap.size + 1 + 1) (by simp) ?_; intro g5 c5 w5 hown5 hgr5 hat5 hlt5; have HV5 : Hid (w5.ownsRow w.heap.size 65 9 (.slice (some ⟨g5, 0, none⟩) (j + 1) c5) (l.take j ++ [x]).length (rowOf opC (l.take j ++ [x]))) := row_snoc HLT.out hown5; have HG5 : Hid (Only u3.ownBlock.toList wr w5) := ((Only.refl _ wr).alloc _).seq (grown_only hgr5 (fun b hb => Or.inl (by simp [hb]))); clear hown5 hgr5 hat5 hlt5)
        | go_in)
      go_roundw
      case rel => exact ⟨j + 1, by omega, by go_num, O.out.trans HG5.out (fun k hk => Or.inr (own_at HROW.out (by simpa using hk)).1), by rw [← HX.out]; exact HV5.out⟩
      case measure => simp [intOf]; omega
    · obtain rfl : n = j := by omega
      go_wp2
      go_ret
      exact ⟨_, rfl, O.out, by
        have := HROW.out
        rw [← HN.out, List.take_length] at this
        rw [HN.out] at this
        exact this⟩
/-- The document's ops of a text. -/
def DocOpsR (s : ByteArray) (base : Nat) (w' : World) (r : Value) : Prop :=
  (pAll pOp s = none ∧ r = .tuple #[.slice none 0 0, .int .i64 1]) ∨ (∃ l, pAll pOp s = some l ∧ 16 < l.length ∧ r = .tuple #[.slice none 0 0, .int .i64 2]) ∨ ∃ l v, pAll pOp s = some l ∧ l.length ≤ 16 ∧ r = .tuple #[v, .int .i64 0] ∧ SOpsOwn w' base v l
def LInv {α : Type} (p : Par α) (pr : Option (List α × ByteArray)) (m : Nat) (l : List α) (q : Option ByteArray) : Prop := (∃ t, q = some t ∧ pr = contP l (pTimes p m t)) ∨ (q = none ∧ pr = none)
theorem LInv.step {α : Type} {p : Par α} {pr : Option (List α × ByteArray)} {m : Nat} {l : List α} {t : ByteArray} {q' : Option ByteArray} {a : α} (h : pr = contP l (pTimes p (m + 1) t)) (hs : Stp p (some t) a q') : LInv p pr m (l ++ [a]) q' := by
  rcases hs with ⟨s', h1, rfl⟩ | ⟨h1, rfl⟩
  · have h1' : p t = some (a, s') := h1
    exact Or.inl ⟨s', rfl, h.trans (contP_some h1')⟩
  · have h1' : p t = none := h1
    exact Or.inr ⟨rfl, h.trans (contP_none h1')⟩
theorem LInv.start {α : Type} {p : Par α} {s : ByteArray} {n : Nat} {q : Option ByteArray} (hs : Stp pInt (some s) n q) : LInv p (pList p s) n [] q := by
  rcases hs with ⟨s', h1, rfl⟩ | ⟨h1, rfl⟩
  · have h1' : pInt s = some (n, s') := h1
    exact Or.inl ⟨s', rfl, (bindP_some h1').trans (contP_start _).symm⟩
  · have h1' : pInt s = none := h1
    exact Or.inr ⟨rfl, bindP_none h1'⟩
theorem op_steps {q0 q1 q2 q3 q4 q5 q6 q7 q8 q9 : Option ByteArray} {a0 a1 a2 : ByteArray} {a3 a4 a5 a6 a7 a8 : Int} (h0 : Stp pBytes q0 a0 q1) (h1 : Stp pBytes q1 a1 q2) (h2 : Stp pBytes q2 a2 q3) (h3 : Stp pNumber q3 a3 q4) (h4 : Stp pNumber q4 a4 q5) (h5 : Stp pNumber q5 a5 q6) (h6 : Stp pNumber q6 a6 q7) (h7 : Stp pNumber q7 a7 q8) (h8 : Stp pNumber q8 a8 q9) :
    Stp pOp q0 ⟨a0, a1, a2, a3, a4, a5, a6, a7, a8⟩ q9 :=
  h0.bind (h1.bind (h2.bind (h3.bind (h4.bind (h5.bind (h6.bind (Stp.bind (a := (a7, a8)) (h7.bind (h8.bind (Stp.ret _ _))) (Stp.ret _ _))))))))
set_option maxRecDepth 100000 in
set_option maxHeartbeats 4000000 in
theorem docOps (s : ByteArray) (w : World) (hs : s.size ≤ 5000) : Calls Tryd.prog 16 #[.string s] w fun e w' => (∃ r, e = .returned r ∧ DocOpsR s w.heap.size w' r) ∧ Only [] w w' := by
  obtain ⟨i0, hi0, hz0, hz1, hz2⟩ := soInfo
  obtain ⟨pr, hpr⟩ : ∃ pr, pList pOp s = pr := ⟨_, rfl⟩
  have HP : Hid (pList pOp s = pr) := hpr
  clear hpr
  have V0 := Var.new w [.string s, .bool false] 84
  have D0 : Hid (DS (w.alloc (.cells #[.string s, .bool false] 84)) w.heap.size (some s)) := ⟨⟨s, V0.1 0 _ rfl, V0.1 1 _ rfl, hs, fun s' e => by cases e; rfl⟩, V0.2⟩
  have KI : Hid (∀ q1 w1, DS w1 w.heap.size q1 → _) := fun q1 w1 k => dNum4 w.heap.size q1 w1 k
  have KT : Hid (∀ q1 w1, DS w1 w.heap.size q1 → _) := fun q1 w1 k => dText w.heap.size q1 w1 k
  have KS : Hid (∀ q1 w1, DS w1 w.heap.size q1 → _) := fun q1 w1 k => dSigned w.heap.size q1 w1 k
  clear V0 hs
  go_enter Tryd.func16, Tryd.ntmps16
  go_wp2_with fail
  refine (KI.out _ _ D0.out).mono ?_
  rintro e w1 ⟨n, q1, hst, hn, rfl, ho, hd⟩
  have O1 : Hid (Only [] w w1) := only_old ((Only.refl [] w).alloc _) ho (by simp)
  have D1 : Hid (DS w1 w.heap.size q1) := hd
  have I1 : Hid (LInv pOp pr n [] q1) := HP.out ▸ LInv.start hst
  clear hst ho hd D0 KI
  go_wp2_with fail
  go_loopw [6, 7] (fun v i wr => ∃ (j : Nat) (q : Option ByteArray) (l : List OpV), j ≤ n ∧ i = .int .i64 (j : Nat) ∧ l.length = j ∧ LInv pOp pr (n - j) l q ∧ Only [] w wr ∧ DS wr w.heap.size q ∧ wr.ownsRow (w.heap.size + 1) 40 9 v l.length (rowOf opC l)) (fun _ i _ => n - (intOf i).toNat)
  case atStart => exact ⟨0, q1, [], Nat.zero_le _, rfl, rfl, I1.out, O1.out, D1.out, World.ownsRow_nil _ _ _ _⟩
  case round =>
    obtain ⟨j, q, l, hj, rfl, hlj, hi, ho, hd, hrow⟩ := hrel
    have HL : Hid (l.length = j) := hlj
    have O : Hid (Only [] w wr) := ho
    have D : Hid (DS wr w.heap.size q) := hd
    have HROW : Hid (wr.ownsRow (w.heap.size + 1) 40 9 u6 j (rowOf opC l)) := by
      rw [hlj] at hrow
      exact hrow
    have HI : Hid (LInv pOp pr (n - j) l q) := hi
    clear ho hd hrow hlj hi
    cases q with
    | none =>
      obtain ⟨sx, k0, k1, _⟩ := D.out.bads
      have HB : Hid (pAll pOp s = none) := by
        rcases HI.out with ⟨t, h, _⟩ | ⟨_, h⟩
        · cases h
        · exact pAll_none (HP.out.trans h)
      by_cases hlt : j < n
      · go_wp2
        go_ret2
        exact ⟨⟨_, rfl, Or.inl ⟨HB.out, rfl⟩⟩, O.out⟩
      · go_wp2
        go_ret2
        exact ⟨⟨_, rfl, Or.inl ⟨HB.out, rfl⟩⟩, O.out⟩
    | some t =>
      obtain ⟨k0, k1, hts⟩ := D.out.good
      have R : Hid (pr = contP l (pTimes pOp (n - j) t)) := by
        rcases HI.out with ⟨t', h, h2⟩ | ⟨h, _⟩
        · cases h
          exact h2
        · cases h
      clear HI
      by_cases hlt : j < n
      · have RX : Hid (pr = contP l (pTimes pOp (n - (j + 1) + 1) t)) := by
          have := R.out
          rw [show n - j = n - (j + 1) + 1 by omega] at this
          exact this
        clear R
        obtain ⟨bo, hbo⟩ : ∃ bo, wr.heap.size = bo := ⟨_, rfl⟩
        have HBO : Hid (wr.heap.size = bo) := hbo
        have hsz := O.out.size
        have hml := D.out.lt
        have HMB : Hid (w.heap.size < bo) := hbo ▸ hml
        have V0 : Hid (Var (wr.alloc (.cells #[.string ⟨#[]⟩, .string ⟨#[]⟩, .string ⟨#[]⟩, .int .i64 0, .int .i64 0, .int .i64 0, .int .i64 0, .int .i64 0, .int .i64 0] 40)) bo [.string ⟨#[]⟩, .string ⟨#[]⟩, .string ⟨#[]⟩, .int .i64 0, .int .i64 0, .int .i64 0, .int .i64 0, .int .i64 0, .int .i64 0]) := hbo ▸ Var.new wr [.string ⟨#[]⟩, .string ⟨#[]⟩, .string ⟨#[]⟩, .int .i64 0, .int .i64 0, .int .i64 0, .int .i64 0, .int .i64 0, .int .i64 0] 40
        have D0 : Hid (DS (wr.alloc (.cells #[.string ⟨#[]⟩, .string ⟨#[]⟩, .string ⟨#[]⟩, .int .i64 0, .int .i64 0, .int .i64 0, .int .i64 0, .int .i64 0, .int .i64 0] 40)) w.heap.size (some t)) := D.out.later ((Only.refl [] wr).alloc _)
        have OO0 : Hid (Only [w.heap.size] wr (wr.alloc (.cells #[.string ⟨#[]⟩, .string ⟨#[]⟩, .string ⟨#[]⟩, .int .i64 0, .int .i64 0, .int .i64 0, .int .i64 0, .int .i64 0, .int .i64 0] 40))) := (Only.refl _ wr).alloc _
        clear hsz hml hts
        go_wp2_with fail
        clear hbo
        refine (KT.out _ _ D0.out).mono ?_
        rintro e w1 ⟨a0, q1, hst, hok, rfl, ho, hd⟩
        have H0 : Hid (Stp pBytes (some t) a0 q1) := hst
        have hv := V0.out.only ho (V0.out.lt (by simp)) (by have := HMB.out; simp; omega)
        have c0 := hv.1 0 _ rfl
        have f0 := hv.2 0
        have V1 : Hid (Var (w1.setCell ⟨bo, 0, none⟩ (.string a0)) bo [.string a0, .string ⟨#[]⟩, .string ⟨#[]⟩, .int .i64 0, .int .i64 0, .int .i64 0, .int .i64 0, .int .i64 0, .int .i64 0]) := hv.set (k := 0) (by simp)
        have OO1 : Hid (Only [w.heap.size] wr (w1.setCell ⟨bo, 0, none⟩ (.string a0))) := (OO0.out.seq ho).setCell (p := ⟨bo, 0, none⟩) (Or.inr (by rw [HBO.out]; exact Nat.le_refl _)) _
        have D1 : Hid (DS (w1.setCell ⟨bo, 0, none⟩ (.string a0)) w.heap.size q1) := hd.only (setO _ _ _ _) (by have := HMB.out; simp; omega)
        clear hst ho hd hv hok V0 OO0 D0
        go_wp2_with fail
        refine (KT.out _ _ D1.out).mono ?_
        rintro e w2 ⟨a1, q2, hst, hok, rfl, ho, hd⟩
        have H1 : Hid (Stp pBytes q1 a1 q2) := hst
        have hv := V1.out.only ho (V1.out.lt (by simp)) (by have := HMB.out; simp; omega)
        have c1 := hv.1 1 _ rfl
        have f1 := hv.2 1
        have V2 : Hid (Var (w2.setCell ⟨bo, 1, none⟩ (.string a1)) bo [.string a0, .string a1, .string ⟨#[]⟩, .int .i64 0, .int .i64 0, .int .i64 0, .int .i64 0, .int .i64 0, .int .i64 0]) := hv.set (k := 1) (by simp)
        have OO2 : Hid (Only [w.heap.size] wr (w2.setCell ⟨bo, 1, none⟩ (.string a1))) := (OO1.out.seq ho).setCell (p := ⟨bo, 1, none⟩) (Or.inr (by rw [HBO.out]; exact Nat.le_refl _)) _
        have D2 : Hid (DS (w2.setCell ⟨bo, 1, none⟩ (.string a1)) w.heap.size q2) := hd.only (setO _ _ _ _) (by have := HMB.out; simp; omega)
        clear hst ho hd hv hok V1 OO1 D1
        go_wp2_with fail
        refine (KT.out _ _ D2.out).mono ?_
        rintro e w3 ⟨a2, q3, hst, hok, rfl, ho, hd⟩
        have H2 : Hid (Stp pBytes q2 a2 q3) := hst
        have hv := V2.out.only ho (V2.out.lt (by simp)) (by have := HMB.out; simp; omega)
        have c2 := hv.1 2 _ rfl
        have f2 := hv.2 2
        have V3 : Hid (Var (w3.setCell ⟨bo, 2, none⟩ (.string a2)) bo [.string a0, .string a1, .string a2, .int .i64 0, .int .i64 0, .int .i64 0, .int .i64 0, .int .i64 0, .int .i64 0]) := hv.set (k := 2) (by simp)
        have OO3 : Hid (Only [w.heap.size] wr (w3.setCell ⟨bo, 2, none⟩ (.string a2))) := (OO2.out.seq ho).setCell (p := ⟨bo, 2, none⟩) (Or.inr (by rw [HBO.out]; exact Nat.le_refl _)) _
        have D3 : Hid (DS (w3.setCell ⟨bo, 2, none⟩ (.string a2)) w.heap.size q3) := hd.only (setO _ _ _ _) (by have := HMB.out; simp; omega)
        clear hst ho hd hv hok V2 OO2 D2
        go_wp2_with fail
        refine (KS.out _ _ D3.out).mono ?_
        rintro e w4 ⟨a3, q4, hst, hok, rfl, ho, hd⟩
        have H3 : Hid (Stp pNumber q3 a3 q4) := hst
        have hv := V3.out.only ho (V3.out.lt (by simp)) (by have := HMB.out; simp; omega)
        have c3 := hv.1 3 _ rfl
        have f3 := hv.2 3
        have V4 : Hid (Var (w4.setCell ⟨bo, 3, none⟩ (.int .i64 a3)) bo [.string a0, .string a1, .string a2, .int .i64 a3, .int .i64 0, .int .i64 0, .int .i64 0, .int .i64 0, .int .i64 0]) := hv.set (k := 3) (by simp)
        have OO4 : Hid (Only [w.heap.size] wr (w4.setCell ⟨bo, 3, none⟩ (.int .i64 a3))) := (OO3.out.seq ho).setCell (p := ⟨bo, 3, none⟩) (Or.inr (by rw [HBO.out]; exact Nat.le_refl _)) _
        have D4 : Hid (DS (w4.setCell ⟨bo, 3, none⟩ (.int .i64 a3)) w.heap.size q4) := hd.only (setO _ _ _ _) (by have := HMB.out; simp; omega)
        clear hst ho hd hv hok V3 OO3 D3
        go_wp2_with fail
        refine (KS.out _ _ D4.out).mono ?_
        rintro e w5 ⟨a4, q5, hst, hok, rfl, ho, hd⟩
        have H4 : Hid (Stp pNumber q4 a4 q5) := hst
        have hv := V4.out.only ho (V4.out.lt (by simp)) (by have := HMB.out; simp; omega)
        have c4 := hv.1 4 _ rfl
        have f4 := hv.2 4
        have V5 : Hid (Var (w5.setCell ⟨bo, 4, none⟩ (.int .i64 a4)) bo [.string a0, .string a1, .string a2, .int .i64 a3, .int .i64 a4, .int .i64 0, .int .i64 0, .int .i64 0, .int .i64 0]) := hv.set (k := 4) (by simp)
        have OO5 : Hid (Only [w.heap.size] wr (w5.setCell ⟨bo, 4, none⟩ (.int .i64 a4))) := (OO4.out.seq ho).setCell (p := ⟨bo, 4, none⟩) (Or.inr (by rw [HBO.out]; exact Nat.le_refl _)) _
        have D5 : Hid (DS (w5.setCell ⟨bo, 4, none⟩ (.int .i64 a4)) w.heap.size q5) := hd.only (setO _ _ _ _) (by have := HMB.out; simp; omega)
        clear hst ho hd hv hok V4 OO4 D4
        go_wp2_with fail
        refine (KS.out _ _ D5.out).mono ?_
        rintro e w6 ⟨a5, q6, hst, hok, rfl, ho, hd⟩
        have H5 : Hid (Stp pNumber q5 a5 q6) := hst
        have hv := V5.out.only ho (V5.out.lt (by simp)) (by have := HMB.out; simp; omega)
        have c5 := hv.1 5 _ rfl
        have f5 := hv.2 5
        have V6 : Hid (Var (w6.setCell ⟨bo, 5, none⟩ (.int .i64 a5)) bo [.string a0, .string a1, .string a2, .int .i64 a3, .int .i64 a4, .int .i64 a5, .int .i64 0, .int .i64 0, .int .i64 0]) := hv.set (k := 5) (by simp)
        have OO6 : Hid (Only [w.heap.size] wr (w6.setCell ⟨bo, 5, none⟩ (.int .i64 a5))) := (OO5.out.seq ho).setCell (p := ⟨bo, 5, none⟩) (Or.inr (by rw [HBO.out]; exact Nat.le_refl _)) _
        have D6 : Hid (DS (w6.setCell ⟨bo, 5, none⟩ (.int .i64 a5)) w.heap.size q6) := hd.only (setO _ _ _ _) (by have := HMB.out; simp; omega)
        clear hst ho hd hv hok V5 OO5 D5
        go_wp2_with fail
        refine (KS.out _ _ D6.out).mono ?_
        rintro e w7 ⟨a6, q7, hst, hok, rfl, ho, hd⟩
        have H6 : Hid (Stp pNumber q6 a6 q7) := hst
        have hv := V6.out.only ho (V6.out.lt (by simp)) (by have := HMB.out; simp; omega)
        have c6 := hv.1 6 _ rfl
        have f6 := hv.2 6
        have V7 : Hid (Var (w7.setCell ⟨bo, 6, none⟩ (.int .i64 a6)) bo [.string a0, .string a1, .string a2, .int .i64 a3, .int .i64 a4, .int .i64 a5, .int .i64 a6, .int .i64 0, .int .i64 0]) := hv.set (k := 6) (by simp)
        have OO7 : Hid (Only [w.heap.size] wr (w7.setCell ⟨bo, 6, none⟩ (.int .i64 a6))) := (OO6.out.seq ho).setCell (p := ⟨bo, 6, none⟩) (Or.inr (by rw [HBO.out]; exact Nat.le_refl _)) _
        have D7 : Hid (DS (w7.setCell ⟨bo, 6, none⟩ (.int .i64 a6)) w.heap.size q7) := hd.only (setO _ _ _ _) (by have := HMB.out; simp; omega)
        clear hst ho hd hv hok V6 OO6 D6
        go_wp2_with fail
        refine (KS.out _ _ D7.out).mono ?_
        rintro e w8 ⟨a7, q8, hst, hok, rfl, ho, hd⟩
        have H7 : Hid (Stp pNumber q7 a7 q8) := hst
        have hv := V7.out.only ho (V7.out.lt (by simp)) (by have := HMB.out; simp; omega)
        have c7 := hv.1 7 _ rfl
        have f7 := hv.2 7
        have V8 : Hid (Var (w8.setCell ⟨bo, 7, none⟩ (.int .i64 a7)) bo [.string a0, .string a1, .string a2, .int .i64 a3, .int .i64 a4, .int .i64 a5, .int .i64 a6, .int .i64 a7, .int .i64 0]) := hv.set (k := 7) (by simp)
        have OO8 : Hid (Only [w.heap.size] wr (w8.setCell ⟨bo, 7, none⟩ (.int .i64 a7))) := (OO7.out.seq ho).setCell (p := ⟨bo, 7, none⟩) (Or.inr (by rw [HBO.out]; exact Nat.le_refl _)) _
        have D8 : Hid (DS (w8.setCell ⟨bo, 7, none⟩ (.int .i64 a7)) w.heap.size q8) := hd.only (setO _ _ _ _) (by have := HMB.out; simp; omega)
        clear hst ho hd hv hok V7 OO7 D7
        go_wp2_with fail
        refine (KS.out _ _ D8.out).mono ?_
        rintro e w9 ⟨a8, q9, hst, hok, rfl, ho, hd⟩
        have H8 : Hid (Stp pNumber q8 a8 q9) := hst
        have hv := V8.out.only ho (V8.out.lt (by simp)) (by have := HMB.out; simp; omega)
        have c8 := hv.1 8 _ rfl
        have f8 := hv.2 8
        have V9 : Hid (Var (w9.setCell ⟨bo, 8, none⟩ (.int .i64 a8)) bo [.string a0, .string a1, .string a2, .int .i64 a3, .int .i64 a4, .int .i64 a5, .int .i64 a6, .int .i64 a7, .int .i64 a8]) := hv.set (k := 8) (by simp)
        have OO9 : Hid (Only [w.heap.size] wr (w9.setCell ⟨bo, 8, none⟩ (.int .i64 a8))) := (OO8.out.seq ho).setCell (p := ⟨bo, 8, none⟩) (Or.inr (by rw [HBO.out]; exact Nat.le_refl _)) _
        have D9 : Hid (DS (w9.setCell ⟨bo, 8, none⟩ (.int .i64 a8)) w.heap.size q9) := hd.only (setO _ _ _ _) (by have := HMB.out; simp; omega)
        have g0 := hv.1 0 _ rfl
        have g1 := hv.1 1 _ rfl
        have g2 := hv.1 2 _ rfl
        have g3 := hv.1 3 _ rfl
        have g4 := hv.1 4 _ rfl
        have g5 := hv.1 5 _ rfl
        have g6 := hv.1 6 _ rfl
        have g7 := hv.1 7 _ rfl
        clear hst ho hd hv hok V8 OO8 D8
        have HST : Hid (Stp pOp (some t) ⟨a0, a1, a2, a3, a4, a5, a6, a7, a8⟩ q9) := op_steps H0.out H1.out H2.out H3.out H4.out H5.out H6.out H7.out H8.out
        have I2 : Hid (LInv pOp pr (n - (j + 1)) (l ++ [(⟨a0, a1, a2, a3, a4, a5, a6, a7, a8⟩ : OpV)]) q9) := LInv.step RX.out HST.out
        have HROW2 : Hid ((w9.setCell ⟨bo, 8, none⟩ (.int .i64 a8)).ownsRow (w.heap.size + 1) 40 9 u6 j (rowOf opC l)) := OO9.out.owns HROW.out (fun b hb => by have := (own_at HROW.out hb).1; simp; omega)
        have HSZ : Hid (w.heap.size + 1 ≤ (w9.setCell ⟨bo, 8, none⟩ (.int .i64 a8)).heap.size) := by have := OO9.out.size; have := D.out.lt; show _ ≤ _; omega
        clear c0 c1 c2 c3 c4 c5 c6 c7 H0 H1 H2 H3 H4 H5 H6 H7 H8 k0 k1
        go_wp2_with (first
          | (at_builtin; refine wpList_append_lies _ rfl (.tmp 56) (.tmp 58) 22 rfl (w.heap.size + 1) 40 i0 _ 9 96 sosUnd hi0 hz0 hz1 hz2 rfl (by decide) u6 j _ rfl (World.ownsRow.alloc HROW2.out _) ⟨w9.heap.size, 0, none⟩ 1 1 (opC (⟨a0, a1, a2, a3, a4, a5, a6, a7, a8⟩ : OpV)) rfl rfl (op_news2 (⟨a0, a1, a2, a3, a4, a5, a6, a7, a8⟩ : OpV) _ _ _) (opC_one (⟨a0, a1, a2, a3, a4, a5, a6, a7, a8⟩ : OpV)) (by decide) (by unfold maxLen; omega) (by omega) (by rw [World.size_alloc]; have := HSZ.out; omega) (w9.heap.size + 1) (by simp) ?_; intro g5 c5 w5 hown5 hgr5 hat5 hlt5; have HV5 : Hid (w5.ownsRow (w.heap.size + 1) 40 9 (.slice (some ⟨g5, 0, none⟩) (j + 1) c5) (l ++ [(⟨a0, a1, a2, a3, a4, a5, a6, a7, a8⟩ : OpV)]).length (rowOf opC (l ++ [(⟨a0, a1, a2, a3, a4, a5, a6, a7, a8⟩ : OpV)]))) := row_snoc HL.out hown5; have HG5 : Hid (Only u6.ownBlock.toList (w9.setCell ⟨bo, 8, none⟩ (.int .i64 a8)) w5) := grown_only hgr5 (fun b hb => Or.inl (by simp [hb])); clear hown5 hgr5 hat5 hlt5)
          | go_in)
        go_roundw
        case rel =>
          have hge : ∀ k ∈ u6.ownBlock.toList, w.heap.size + 1 ≤ k := fun k hk => (own_at HROW2.out (by simpa using hk)).1
          exact ⟨j + 1, q9, l ++ [(⟨a0, a1, a2, a3, a4, a5, a6, a7, a8⟩ : OpV)], by omega, by go_num, by rw [List.length_append, HL.out]; rfl, I2.out, only_old (only_old O.out OO9.out (by simp)) HG5.out (fun k hk => by have := hge k hk; omega), D9.out.only HG5.out (fun hm => by have := hge _ hm; omega), HV5.out⟩
        case measure => simp [intOf]; omega
      · obtain rfl : n = j := by omega
        have R2 : Hid (pList pOp s = some (l, t)) := by
          have := R.out
          rw [Nat.sub_self, contP_end] at this
          exact HP.out.trans this
        obtain ⟨ad, cp, rfl⟩ : ∃ ad cp, u6 = .slice ad n cp := by
          have h1 := HROW.out
          rw [← HL.out] at h1
          obtain ⟨ad, cp, e⟩ := own_form h1 opC_len
          exact ⟨ad, cp, by rw [e, HL.out]⟩
        have HFIN : Hid (SOpsOwn wr w.heap.size (.slice ad n cp) l) := by
          have h1 := HROW.out
          rw [← HL.out] at h1
          have h2 := own_low h1 (Nat.le_succ _)
          rw [HL.out] at h2
          show wr.ownsRow _ _ _ _ l.length _
          rw [HL.out]
          exact h2
        clear R
        by_cases h0 : t.size = 0
        · have HB : Hid (pAll pOp s = some l) := pAll_some R2.out h0
          have k0' : wr.cell? ⟨w.heap.size, 0, none⟩ = some (.string ⟨#[]⟩) := by
            rw [nil_of_size h0] at k0
            exact k0
          clear k0 R2 h0
          by_cases h16 : 16 < n
          · go_wp2
            go_ret2
            exact ⟨⟨_, rfl, Or.inr (Or.inl ⟨l, HB.out, by rw [HL.out]; exact h16, rfl⟩)⟩, O.out⟩
          · go_wp2
            go_ret2
            exact ⟨⟨_, rfl, Or.inr (Or.inr ⟨l, _, HB.out, by rw [HL.out]; omega, rfl, HFIN.out⟩)⟩, O.out⟩
        · have HB : Hid (pAll pOp s = none) := pAll_more R2.out h0
          have hne : t.toList.isEmpty = false := not_empty (by omega)
          clear R2
          go_wp2
          go_ret2
          exact ⟨⟨_, rfl, Or.inl ⟨HB.out, rfl⟩⟩, O.out⟩
end Go.Proofs.YtkopiffnkbjbiaaDoor
