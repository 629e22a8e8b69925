/- LogFails: what lies in memory once the power went; bits that came in. -/
import Derived.Test.YtlcloahkeamdkaaDoorLg24
import Derived.Test.YtlcloahkeamdkaaDoorLg25
namespace Go.Proofs.YtlcloahkeamdkaaDoor
open Go Go.RowKit Go.Deep Go.Maps

/-- Bits that came in. -/
structure Bls (w : World) (ad : Option Addr) (cap : Nat) (B : List Bool) : Prop where
  nil : ad = none → B = [] ∧ cap = 0
  at' : ∀ a, ad = some a → ∀ j v, (B.map Value.bool)[j]? = some v → w.cell? (a.add j) = some v
theorem Bls.only {w w' : World} {ad : Option Addr} {cap : Nat} {B : List Bool} (h : Bls w ad cap B) (ho : Only [] w w') : Bls w' ad cap B := ⟨h.nil, fun a e j v hv => by
  have hc := h.at' a e j v hv
  exact (ho.cell (p := a.add j) (lt_of_cell hc) (by simp)).trans hc⟩
theorem Bls.below {w w' : World} {ad : Option Addr} {cap : Nat} {B : List Bool} (h : Bls w ad cap B) (hb : Below w.heap.size w w') : Bls w' ad cap B := h.only (Only.of_below hb [])
theorem append_bl {w : World} {ops : Array Oper} {rest : List Oper} {oo : Oper} {a : Act} {Q : Exit → Act → World → Prop} (hgd : oo.guard = none) (s x : Operand)
    (ho : oo.op = .call { callee := .builtin .append, args := #[s, x], argTypes := #[45, 45] }) (hs : a.eval s = .slice none 0 0) {ad : Option Addr} {cap : Nat} {B : List Bool} (hx : a.eval x = .slice ad B.length cap) (hB : Bls w ad cap B) (hL : B.length ≤ 2000000)
    (h : ∀ v' w', w'.ownsRow w.heap.size 4 1 v' B.length (B.map Value.bool) → Only [] w w' → wpList Tryd.prog ops Q rest (a.put oo.dst v') w') : wpList Tryd.prog ops Q (oo :: rest) a w := by
  obtain ⟨i0, hi0, hz⟩ := Option.map_eq_some_iff.1 boolInfo
  simp only [Prod.mk.injEq] at hz
  obtain ⟨hz0, hz1, hz2⟩ := hz
  cases ad with
  | none =>
    obtain ⟨rfl, rfl⟩ := hB.nil rfl
    exact wpList_append_own_none hgd s x 45 ho w.heap.size 4 i0 1 boolsUnd hi0 (.slice none 0 0) 0 [] hs (World.ownsRow_nil _ _ _ _) hx (h _ _ (World.ownsRow_nil _ _ _ _) (Only.refl _ _))
  | some ad =>
    refine wpList_append_own_at _ hgd s x 45 ho w.heap.size 4 i0 _ 1 1 boolsUnd hi0 hz0 hz1 hz2 rfl (by decide) (.slice none 0 0) 0 [] hs (World.ownsRow_nil _ _ _ _) ad B.length cap (B.map Value.bool) hx (by simp) (hB.at' ad rfl) (fun u hu => ?_) (by unfold maxLen; omega) (by omega) (Nat.le_refl _) (fun v' w' a1 a2 _ _ => h v' w' (by simpa using a1) ((Only.refl [] w).grown a2 (fun k hk => by cases hk)))
    obtain ⟨b, _, rfl⟩ := List.mem_map.1 hu
    rfl
theorem Ds.crash_row {g : Dv} {w : World} {s : DSt} (hd : Ds g w s) {B0 : Nat} {v : Value} {B : List Bool} (hr : w.ownsRow B0 4 1 v B.length (B.map Value.bool)) (hw : s.wt.length ≤ 100001) :
    Calls Tryd.prog 16 #[.pointer (some ⟨g.t, 0, none⟩), v] w fun e w' => ∃ u, e = .returned u ∧ Ds g w' ⟨none, crashS (keepB B) s, []⟩ ∧ Oth w w' := by
  obtain ⟨ka, kc, e, hkp⟩ := keep_of hr rfl
  have hb : ∀ k, v.ownBlock = some k → ∃ cs fr, w.heap[k]? = some (.cells cs 4 fr) := fun k hk => by
    obtain ⟨_, _, cur, hc⟩ := own_blk hr hk
    exact ⟨cur, _, hc⟩
  subst e
  refine hd.crash ka B.length kc (keepB B) (fun j hj => ?_) (fun j hj => by simp [keepB, List.getD, List.getElem?_eq_none hj]) hw
  obtain ⟨kb, ko, rfl, h1, h2, h3⟩ := hkp j hj
  exact ⟨kb, ko, rfl, h1, hb kb rfl, h3⟩
def IsBools (w : World) (ad : Option Addr) (len cap : Nat) : Prop := ∃ B : List Bool, B.length = len ∧ Bls w ad cap B
theorem isBools_of {H : Type} {enc : TypeId × Value → H} {w : World} {base n : Nat} {sp : Nat → Bool} {held : Bool} {a : Option Addr} {len cap : Nat} {x : DataW H × List MemPlace} (h : DataW.trod enc Tryd.prog w base sp held n 45 [.slice a len cap] = some x) (hN : Rows.uptoBulk x.1 ≤ 1048576) : IsBools w a len cap := by
  obtain ⟨a', cap', B, e, _, hB⟩ := bools_of h hN
  simp only [List.cons.injEq, Value.slice.injEq, and_true] at e
  obtain ⟨rfl, rfl, rfl⟩ := e
  refine ⟨B, rfl, ?_⟩
  rcases hB with ⟨rfl, rfl, rfl⟩ | ⟨ad, rfl, hc⟩
  · exact ⟨fun _ => ⟨rfl, rfl⟩, fun _ e => (by cases e)⟩
  · exact ⟨fun e => (by cases e), fun b e => (by cases e; exact hc)⟩
/-- The power went within an act: the records are R, or M. -/
structure Lost (g : Dv) (l : Nat) (W : World) (v m : Value) (R M : List (List UInt8)) (s : DSt) : Prop where
  ds : Ds g W s
  lg : LogAt W g l true
  row : W.ownsRow g.base 9 1 v R.length (R.map txv)
  rom : W.ownsRow g.base 9 1 m M.length (M.map txv)
  wt : s.wt.length ≤ 5000
  ok : ∀ keep, (∃ n, LogOk (crashS keep s) R n) ∨ ∃ n, LogOk (crashS keep s) M n
section
variable {g : Dv} {l : Nat} {W W' : World} {v m : Value} {R M : List (List UInt8)} {n : Nat} {s : DSt}
theorem Lost.keep (h : Lost g l W v m R M s) (ho : Only [] W W') : Lost g l W' v m R M s := ⟨h.ds.keep ho, h.lg.keep (Oth.of_only ho), ho.owns h.row (fun _ _ => by simp), ho.owns h.rom (fun _ _ => by simp), h.wt, h.ok⟩
/-- What an act leaves, in three ways. -/
def Act3 (g : Dv) (l : Nat) (W : World) (vn : Value) (R R' : List (List UInt8)) (n n' : Nat) (s : DSt) (u : Value) : Prop :=
  (u = .nilIface ∧ ∃ s', Ds g W s' ∧ LogAt W g l false ∧ LogOk s'.sec R' n' ∧ s'.wt = [] ∧ W.ownsRow g.base 9 1 vn R.length (R.map txv)) ∨
  (u = .iface 154 (.pointer (some (g.A 8))) ∧ Lk g l W vn R n s) ∨
  (u = .iface 154 (.pointer (some (g.A 14))) ∧ ∃ s', Ds g W s' ∧ LogAt W g l true ∧ W.ownsRow g.base 9 1 vn R.length (R.map txv) ∧ s'.wt.length ≤ 5000 ∧ ∀ keep, LogOk (crashS keep s') R n ∨ LogOk (crashS keep s') R' n')
theorem Lk.act (h : Lk g l W v R n s) (c : Bool) (ad : Option Addr) (cap : Nat) (L : List (List UInt8)) (hT : Txs W ad cap L) (hL : L.length ≤ 1000000) (hW : wgt L < 4000000000) :
    Calls Tryd.prog 12 #[.pointer (some ⟨l, 0, none⟩), .agg #[.bool c, .slice ad L.length cap]] W fun e w' => ∃ u, e = .returned u ∧ Act3 g l w' v R (nxt R c L) n (nxn n c) s u :=
  (act_lit h.ds h.lg h.wt h.ok c ad cap L hT hL hW).mono fun e w' q => by
    obtain ⟨k, d, s', rfl, hP, h1, h2, h3⟩ := q
    rcases hP with ⟨rfl, rfl, rfl, a⟩ | ⟨rfl, rfl, a, b, c, d, _⟩ | ⟨rfl, rfl, a, b, c, d⟩
    · exact ⟨_, rfl, Or.inr (Or.inl ⟨rfl, h1, h2, h3.owns h.row, h.ok, h.wt⟩)⟩
    · exact ⟨_, rfl, Or.inl ⟨rfl, s', h1, h2, b, a, h3.owns h.row⟩⟩
    · exact ⟨_, rfl, Or.inr (Or.inr ⟨rfl, s', h1, h2, h3.owns h.row, b, d⟩)⟩
/-- With power an act goes in two ways. -/
theorem Lk.act_lit (h : Lk g l W v R n s) (hp : s.pw = none) (c : Bool) (ad : Option Addr) (cap : Nat) (L : List (List UInt8)) (hT : Txs W ad cap L) (hL : L.length ≤ 1000000) (hW : wgt L < 4000000000) :
    Calls Tryd.prog 12 #[.pointer (some ⟨l, 0, none⟩), .agg #[.bool c, .slice ad L.length cap]] W fun e w' => ∃ u, e = .returned u ∧ ((u = .nilIface ∧ ∃ s', Ds g w' s' ∧ LogAt w' g l false ∧ LogOk s'.sec (nxt R c L) (nxn n c) ∧ s'.wt = [] ∧ s'.pw = none ∧ w'.ownsRow g.base 9 1 v R.length (R.map txv)) ∨ (u = .iface 154 (.pointer (some (g.A 8))) ∧ Lk g l w' v R n s)) :=
  (Go.Proofs.YtlcloahkeamdkaaDoor.act_lit h.ds h.lg h.wt h.ok c ad cap L hT hL hW).mono fun e w' q => by
    obtain ⟨k, d, s', rfl, hP, h1, h2, h3⟩ := q
    rcases hP with ⟨rfl, rfl, rfl, a⟩ | ⟨rfl, rfl, a, b, c, d, _⟩ | ⟨rfl, rfl, a, b, c, d⟩
    · exact ⟨_, rfl, Or.inr ⟨rfl, h1, h2, h3.owns h.row, h.ok, h.wt⟩⟩
    · exact ⟨_, rfl, Or.inl ⟨rfl, s', h1, h2, b, a, d hp, h3.owns h.row⟩⟩
    · exact absurd hp a
end
end Go.Proofs.YtlcloahkeamdkaaDoor
