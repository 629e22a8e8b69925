/- Locks: what is left of a run: the function that package lock makes for it. -/
import Derived.Test.YtfnniphemlnanaaDoorLk5
import Derived.Laws.AppendOwnNone
import Derived.Maps.AppendAt
import Derived.Deep.CutBlock
namespace Go.Proofs.YtfnniphemlnanaaDoor
open Go Go.RowKit Go.Deep

/-- A function value that tells what is left of a run. -/
def CutOf (w : World) (bs : Array Value) (N G O A S : Int) : Prop := ∀ W x base, Only [] w W → x.Ok → base ≤ W.heap.size → Calls Tryd.prog 65 (#[lkV x] ++ bs) W fun e w' => ∃ v, e = .returned v ∧ Lks w' base v (cutL N G O A S x) ∧ (∀ k, v.ownBlock = some k → W.heap.size ≤ k) ∧ Only [] W w'
def putR (x : Lk) (p : Int × Int) : Lk := ⟨x.N, x.G, x.O, p.1, p.2, x.W⟩
theorem row_open {α : Type} {enc : α → List Value} {w : World} {base : Nat} {e : TypeId} {k : Nat} {v : Value} {l : List α} (h : w.ownsRow base e k v l.length (rowOf enc l)) : (v = .slice none 0 0 ∧ l = []) ∨ ∃ g cap cur, v = .slice (some ⟨g, 0, none⟩) l.length cap ∧ base ≤ g ∧ g < w.heap.size ∧ w.heap[g]? = some (.cells cur e (0, 0)) ∧ l.length ≤ cap ∧ cap ≤ maxLen ∧ cur.size = cap * k ∧ cur.toList.take (l.length * k) = rowOf enc l := by
  rcases h with ⟨_, h | ⟨g, cap, cur, h1, h2, h3, h4⟩⟩
  · exact Or.inl ⟨h.1, List.length_eq_zero_iff.1 h.2⟩
  · exact Or.inr ⟨g, cap, cur, h1, h2, (Array.getElem?_eq_some_iff.1 h3).1, h3, h4⟩
theorem row_form {α : Type} {enc : α → List Value} {w : World} {base : Nat} {e : TypeId} {k : Nat} {v : Value} {l : List α} (h : w.ownsRow base e k v l.length (rowOf enc l)) : ∃ ad cap, v = .slice ad l.length cap ∧ (l ≠ [] → ∃ g, ad = some ⟨g, 0, none⟩) ∧ l.length ≤ cap ∧ cap ≤ maxLen := by
  rcases row_open h with ⟨rfl, rfl⟩ | ⟨g, cap, cur, rfl, _, _, _, h1, h2, _⟩
  · exact ⟨none, 0, rfl, fun h => absurd rfl h, Nat.le_refl _, Nat.zero_le _⟩
  · exact ⟨_, cap, rfl, fun _ => ⟨g, rfl⟩, h1, h2⟩
theorem row_cells {α : Type} {enc : α → List Value} {w : World} {base g cap n i k : Nat} {e : TypeId} {l : List α} {p : α} (hk : ∀ x, (enc x).length = k) (h : w.ownsRow base e k (.slice (some ⟨g, 0, none⟩) n cap) l.length (rowOf enc l)) (hn : l.length = n) (hi : l[i]? = some p) : ∀ j, j < k → w.cell? ⟨g, i * k + j, none⟩ = (enc p)[j]? := by
  subst hn
  have hlt : i < l.length := (List.getElem?_eq_some_iff.1 hi).1
  intro j hj
  have hb : i * k + j < l.length * k := by
    have : (i + 1) * k ≤ l.length * k := Nat.mul_le_mul_right k hlt
    rw [Nat.succ_mul] at this
    omega
  rw [World.ownsRow.cellAt h _ hb]
  exact rowOf_get hk l i j p hj hi
theorem row_news {α : Type} {enc : α → List Value} {w : World} {base g cap n k : Nat} {e : TypeId} {l : List α} (hk : ∀ x, (enc x).length = k) (h : w.ownsRow base e k (.slice (some ⟨g, 0, none⟩) n cap) l.length (rowOf enc l)) (hn : l.length = n) : ∀ j u, (rowOf enc l)[j]? = some u → w.cell? ((⟨g, 0, none⟩ : Addr).add j) = some u := by
  subst hn
  intro j u hu
  have hj : j < l.length * k := by rw [← rowOf_len hk l]; exact (List.getElem?_eq_some_iff.1 hu).1
  rw [add_none, Nat.zero_add, World.ownsRow.cellAt h j hj]
  exact hu
theorem rg_cells {w : World} {base g cap n i : Nat} {l : List (Int × Int)} {p : Int × Int} (h : Rgs w base (.slice (some ⟨g, 0, none⟩) n cap) l) (hn : l.length = n) (hi : l[i]? = some p) : w.cell? ⟨g, i * 2, none⟩ = some (.int .i64 p.1) ∧ w.cell? ⟨g, i * 2 + 1, none⟩ = some (.int .i64 p.2) :=
  ⟨row_cells (enc := rgC) (fun _ => rfl) h hn hi 0 (by decide), row_cells (enc := rgC) (fun _ => rfl) h hn hi 1 (by decide)⟩
/-- A run in a block of its own, known whole. -/
def LkBox (w : World) (b : Nat) (x : Lk) : Prop := w.heap[b]? = some (.cells #[.int .i64 x.N, .int .i64 x.G, .int .i64 x.O, .int .i64 x.A, .int .i64 x.S, .bool x.W] 39 (0, 0))
theorem LkBox.new (w : World) (x : Lk) : LkBox (w.alloc (.cells #[.int .i64 x.N, .int .i64 x.G, .int .i64 x.O, .int .i64 x.A, .int .i64 x.S, .bool x.W] 39)) w.heap.size x := heap_alloc_last w _
theorem LkBox.pos {w : World} {b : Nat} {x : Lk} (h : LkBox w b x) : b < w.heap.size := (Array.getElem?_eq_some_iff.1 h).1
theorem LkBox.only {w W : World} {b : Nat} {x : Lk} {L : List Nat} (h : LkBox w b x) (ho : Only L w W) (hn : b ∉ L) : LkBox W b x := (ho.block b h.pos hn).trans h
theorem LkBox.cells {w : World} {b : Nat} {x : Lk} (h : LkBox w b x) : LkIn w b x :=
  ⟨cell_of_row _ _ 0 _ _ _ h, cell_of_row _ _ 1 _ _ _ h, cell_of_row _ _ 2 _ _ _ h, cell_of_row _ _ 3 _ _ _ h, cell_of_row _ _ 4 _ _ _ h, cell_of_row _ _ 5 _ _ _ h⟩
theorem LkBox.frozen {w : World} {b : Nat} {x : Lk} (h : LkBox w b x) (o : Nat) : w.frozen? ⟨b, o, none⟩ = false := by
  unfold World.frozen?
  rw [h]
  simp
/-- The range of a run that lies in a block is put anew. -/
theorem LkBox.put {w : World} {b : Nat} {x : Lk} (h : LkBox w b x) (c d : Int) : LkBox ((w.setCell ⟨b, 3, none⟩ (.int .i64 c)).setCell ⟨b, 4, none⟩ (.int .i64 d)) b (putR x (c, d)) := by
  have h1 := heap_setCell_same w b 3 _ _ (.int .i64 c) h
  have h2 := heap_setCell_same _ b 4 _ _ (.int .i64 d) h1
  unfold LkBox
  rw [h2]
  rfl
theorem putR_putR (x : Lk) (p q : Int × Int) : putR (putR x p) q = putR x q := rfl
theorem map_take_one {α β : Type} {l : List α} {f : α → β} {j : Nat} {p : α} (h : l[j]? = some p) : (l.take (j + 1)).map f = (l.take j).map f ++ [f p] := by
  obtain ⟨hj, rfl⟩ := List.getElem?_eq_some_iff.1 h
  rw [← List.take_append_getElem hj, List.map_append]; rfl
theorem cut_step {w3 wr ws w6 : World} {base B j gl cl : Nat} {l : List (Int × Int)} {x : Lk} {p : Int × Int} {o : Value} {ob : Obj} (hp : l[j]? = some p) (hown : w6.ownsRow base 39 6 (.slice (some ⟨gl, 0, none⟩) (j + 1) cl) (j + 1) (rowOf lkC ((l.take j).map (putR x)) ++ lkC (putR x p))) (hgr : (ws.alloc ob).grownBy w6 o.ownBlock) (hat : o.ownBlock = some gl ∨ gl = ws.heap.size + 1) (hf : ∀ k, o.ownBlock = some k → w3.heap.size ≤ k) (hB3 : B < w3.heap.size) (hY : LkBox ws B (putR x p)) (hs : Only [B] wr ws) (hw : Only [B] w3 wr) :
    Lks w6 base (.slice (some ⟨gl, 0, none⟩) (j + 1) cl) ((l.take (j + 1)).map (putR x)) ∧ (∀ k, (Value.slice (some ⟨gl, 0, none⟩) (j + 1) cl).ownBlock = some k → w3.heap.size ≤ k) ∧ LkBox w6 B (putR x p) ∧ Only [B] w3 w6 := by
  have hj := (List.getElem?_eq_some_iff.1 hp).1
  have hB := hY.pos
  have hso : Only [] ws (ws.alloc ob) := (Only.refl [] ws).alloc _
  refine ⟨?_, ?_, ?_, ?_⟩
  · unfold Lks
    rw [map_take_one hp, rowOf_append, show ((l.take j).map (putR x) ++ [putR x p]).length = j + 1 by rw [List.length_append, List.length_map, List.length_take, List.length_singleton]; omega]
    have : rowOf lkC [putR x p] = lkC (putR x p) := by simp [rowOf]
    rw [this]
    exact hown
  · intro k hk
    obtain rfl : gl = k := Option.some.inj hk
    rcases hat with h | h
    · exact hf _ h
    · have := hw.size; have := hs.size; omega
  · have hb : (ws.alloc ob).heap[B]? = ws.heap[B]? := hso.block B hB (by simp)
    have := hgr.block B (Nat.lt_of_lt_of_le hB hso.size) (fun e => by have := hf B e.symm; omega)
    exact (this.trans hb).trans hY
  · have h1 : Only [B] w3 (ws.alloc ob) := (hw.trans hs (fun k hk => Or.inl hk)).trans hso (fun _ hk => by cases hk)
    exact h1.grown hgr (fun k hk => Or.inr (hf k hk))
set_option maxRecDepth 100000 in
set_option maxHeartbeats 4000000 in
theorem cut1_any (w : World) (a b b1 b2 : Nat) (N G O A S : Int) (hr : OkR A S) (hf : w.cell? ⟨a, 0, none⟩ = some (.func (.func 46) #[] #[.pointer (some ⟨b1, 0, none⟩), .pointer (some ⟨b2, 0, none⟩)])) (h0 : w.cell? ⟨b, 0, none⟩ = some (.int .i64 A)) (h1 : w.cell? ⟨b, 1, none⟩ = some (.int .i64 S)) (ht : TestOf w [] 46 #[.pointer (some ⟨b1, 0, none⟩), .pointer (some ⟨b2, 0, none⟩)] (ownB N G O)) : CutOf w #[.pointer (some ⟨a, 0, none⟩), .pointer (some ⟨b, 0, none⟩)] N G O A S := by
  intro W x base ho hx hbase
  have f1 := (ho.cell (p := ⟨a, 0, none⟩) (lt_of_cell hf) (by simp)).trans hf
  have r0 := (ho.cell (p := ⟨b, 0, none⟩) (lt_of_cell h0) (by simp)).trans h0
  have r1 := (ho.cell (p := ⟨b, 1, none⟩) (lt_of_cell h1) (by simp)).trans h1
  have HR0 : Hid (∀ W', Only [] W W' → W'.cell? ⟨b, 0, none⟩ = some (.int .i64 A) ∧ W'.cell? ⟨b, 1, none⟩ = some (.int .i64 S)) := fun W' h' => ⟨(h'.cell (p := ⟨b, 0, none⟩) (lt_of_cell r0) (by simp)).trans r0, (h'.cell (p := ⟨b, 1, none⟩) (lt_of_cell r1) (by simp)).trans r1⟩
  have l1 := lt_of_cell f1
  have HW : Hid (Only [] W (W.alloc (.cells #[.int .i64 x.N, .int .i64 x.G, .int .i64 x.O, .int .i64 x.A, .int .i64 x.S, .bool x.W] 39))) := (Only.refl [] W).alloc _
  have HB : Hid (∀ W', Only [] W W' → Calls Tryd.prog 46 #[.agg #[.int .i64 x.N, .int .i64 x.G, .int .i64 x.O, .int .i64 x.A, .int .i64 x.S, .bool x.W], .pointer (some ⟨b1, 0, none⟩), .pointer (some ⟨b2, 0, none⟩)] W' fun e w' => e = .returned (.bool (ownB N G O x)) ∧ Only [] W' w') := fun W' h' => ht W' x (only_nil ho h') hx
  have HN : Hid (LkIn (W.alloc (.cells #[.int .i64 x.N, .int .i64 x.G, .int .i64 x.O, .int .i64 x.A, .int .i64 x.S, .bool x.W] 39)) W.heap.size x) := LkIn.new W x 39
  have HX : Hid (x.Ok) := hx
  have HRR : Hid (OkR A S) := hr
  have HBS : Hid (base ≤ W.heap.size) := hbase
  have HU : Hid (∀ W', base ≤ W'.heap.size → Calls Tryd.prog 66 #[.agg #[.int .i64 x.A, .int .i64 x.S], .agg #[.int .i64 A, .int .i64 S]] W' fun e w' => ∃ v, e = .returned v ∧ Rgs w' base v (outR x.A x.S A S) ∧ (∀ k, v.ownBlock = some k → W'.heap.size ≤ k) ∧ Only [] W' w') := fun W' hb' => outside_any _ _ _ _ W' base hb' hx hr
  unfold lkV cutL
  clear hf h0 h1 ht ho hx hr hbase r0 r1
  show Calls Tryd.prog 65 #[.agg #[.int .i64 x.N, .int .i64 x.G, .int .i64 x.O, .int .i64 x.A, .int .i64 x.S, .bool x.W], .pointer (some ⟨a, 0, none⟩), .pointer (some ⟨b, 0, none⟩)] W _
  cases how : ownB N G O x with
  | false =>
    rw [how] at HB
    go_enter Tryd.func65, Tryd.ntmps65
    go_wp2_with (go_at_call 46; refine (HB.out _ HW.out).mono ?_; rintro e w2 ⟨rfl, ho2⟩; have HO2 : Hid (Only [] W w2) := only_nil HW.out ho2; obtain ⟨e0, e1, e2, e3, e4, e5⟩ := HN.out.only ho2 (by simp); have le := lt_of_cell e0; clear ho2 f1 l1)
    go_ret
    refine ⟨_, rfl, ?_, ?_, HO2.out.alloc _⟩
    · exact World.ownsRow_lit w2 #[.int .i64 x.N, .int .i64 x.G, .int .i64 x.O, .int .i64 x.A, .int .i64 x.S, .bool x.W] 1 (Nat.le_trans HBS.out HO2.out.size) (by unfold maxLen; omega) rfl
    · intro k hk
      cases hk
      exact HO2.out.size
  | true =>
    rw [how] at HB
    rw [if_pos rfl, outL_eq]
    obtain ⟨l, hl⟩ : ∃ l, outR x.A x.S A S = l := ⟨_, rfl⟩
    have hlen : l.length ≤ 2 := by rw [← hl]; unfold outR; split <;> split <;> simp
    rw [hl] at HU ⊢
    clear hl
    go_enter Tryd.func65, Tryd.ntmps65
    go_wp2_with (first
      | (go_at_call 46; refine (HB.out _ HW.out).mono ?_; rintro e w2 ⟨rfl, ho2⟩; have HO2 : Hid (Only [] W w2) := only_nil HW.out ho2; have HN2 : Hid (LkBox w2 W.heap.size x) := (LkBox.new W x).only ho2 (by simp); obtain ⟨e0, e1, e2, e3, e4, e5⟩ := HN2.out.cells; obtain ⟨r0, r1⟩ := HR0.out w2 HO2.out; have le := lt_of_cell e0; have lr := lt_of_cell r0; have HD2 : Hid (Only [] (W.alloc (.cells #[.int .i64 x.N, .int .i64 x.G, .int .i64 x.O, .int .i64 x.A, .int .i64 x.S, .bool x.W] 39)) w2) := ho2; clear ho2 f1 l1)
      | (go_at_call 66; refine (HU.out _ (Nat.le_trans HBS.out HO2.out.size)).mono ?_; rintro e w3 ⟨vR, rfl, hR, hfr, ho3⟩; obtain ⟨ad, cp, rfl, had, _⟩ := row_form hR; have HAD : Hid (l ≠ [] → ∃ g, ad = some ⟨g, 0, none⟩) := had; have HR : Hid (Rgs w3 base (.slice ad l.length cp) l) := hR; have HFR : Hid (∀ k, (Value.slice ad l.length cp).ownBlock = some k → w2.heap.size ≤ k) := hfr; have HO3 : Hid (Only [] W w3) := only_nil HO2.out ho3; have HN3 : Hid (LkBox w3 W.heap.size x) := HN2.out.only ho3 (by simp); have HD3 : Hid (Only [] (W.alloc (.cells #[.int .i64 x.N, .int .i64 x.G, .int .i64 x.O, .int .i64 x.A, .int .i64 x.S, .bool x.W] 39)) w3) := only_nil HD2.out ho3; clear had hR hfr ho3 e0 e1 e2 e3 e4 e5 r0 r1 le lr))
    have HWL : Hid (Only [] W w3) := HO3.out
    obtain ⟨i0, hi0, hz0, hz1, hz2⟩ := lkInfo'
    go_loopw [5, 7, 19] (fun o _lv i wr => ∃ (j : Nat) (y : Lk), i = .int .i64 j ∧ j ≤ l.length ∧ Lks wr base o ((l.take j).map (putR x)) ∧ (∀ k, o.ownBlock = some k → w3.heap.size ≤ k) ∧ LkBox wr W.heap.size y ∧ (∃ p, y = putR x p) ∧ Only [W.heap.size] w3 wr) (fun _ _ i _ => l.length - (intOf i).toNat)
    case atStart => exact ⟨0, x, rfl, Nat.zero_le _, Lks.nil _ _, (fun k hk => by cases hk), HN3.out, ⟨(x.A, x.S), rfl⟩, Only.refl _ _⟩
    case round =>
      obtain ⟨j, y, rfl, hj, hL, hfr, hY, ⟨p0, rfl⟩, hO⟩ := hrel
      have HL : Hid (Lks wr base u5 ((l.take j).map (putR x))) := hL
      have HF : Hid (∀ k, u5.ownBlock = some k → w3.heap.size ≤ k) := hfr
      have HY : Hid (LkBox wr W.heap.size (putR x p0)) := hY
      have HOW : Hid (Only [W.heap.size] w3 wr) := hO
      clear hL hfr hY hO
      by_cases hlt : j < l.length
      · obtain ⟨p, hp⟩ : ∃ p, l[j]? = some p := ⟨_, List.getElem?_eq_getElem hlt⟩
        obtain ⟨gR, rfl⟩ := HAD.out (fun e => by rw [e] at hp; cases hp)
        have HP : Hid (l[j]? = some p) := hp
        obtain ⟨c0, c1⟩ := rg_cells (HR.out.only HOW.out (fun k hk => by cases hk; have h1 : w2.heap.size ≤ gR := HFR.out _ rfl; have h2 := HN2.out.pos; simp; omega)) rfl hp
        have hj2 : (j : Int) < l.length := by omega
        have HOA : Hid (Only [] wr (wr.alloc (.cells #[.int .i64 p.1, .int .i64 p.2] 35))) := (Only.refl [] wr).alloc _
        have HPP : Hid ((wr.alloc (.cells #[.int .i64 p.1, .int .i64 p.2] 35)).cell? ⟨wr.heap.size, 0, none⟩ = some (.int .i64 p.1) ∧ (wr.alloc (.cells #[.int .i64 p.1, .int .i64 p.2] 35)).cell? ⟨wr.heap.size, 1, none⟩ = some (.int .i64 p.2) ∧ (wr.alloc (.cells #[.int .i64 p.1, .int .i64 p.2] 35)).frozen? ⟨wr.heap.size, 0, none⟩ = false ∧ (wr.alloc (.cells #[.int .i64 p.1, .int .i64 p.2] 35)).frozen? ⟨wr.heap.size, 1, none⟩ = false) := two_own (Only.refl [] _) rfl
        obtain ⟨B, hB⟩ : ∃ B, W.heap.size = B := ⟨_, rfl⟩
        have hB3 : B < w3.heap.size := by rw [← hB]; exact HN3.out.pos
        rw [hB] at HY HOW ⊢
        have hBr := HY.out.pos
        clear hp hB
        go_upto_region 7 with fail
        generalize wr.alloc (.cells #[.int .i64 p.1, .int .i64 p.2] 35) = wq at HOA HPP ⊢
        obtain ⟨D, hD⟩ : ∃ D, wr.heap.size = D := ⟨_, rfl⟩
        rw [hD] at HPP hBr ⊢
        clear c0 c1 hD
        have HYq : Hid (LkBox wq B (putR x p0)) := HY.out.only HOA.out (by simp)
        obtain ⟨d0, d1, d2, d3, d4, d5⟩ := HYq.out.cells
        have z3 := HYq.out.frozen 3
        have z4 := HYq.out.frozen 4
        obtain ⟨q0, q1, _, _⟩ := HPP.out
        go_upto_region 8 with fail
        have HYs : Hid (LkBox ((wq.setCell ⟨B, 3, none⟩ (.int .i64 p.1)).setCell ⟨B, 4, none⟩ (.int .i64 p.2)) B (putR x p)) := HYq.out.put p.1 p.2
        have HOs : Hid (Only [B] wr ((wq.setCell ⟨B, 3, none⟩ (.int .i64 p.1)).setCell ⟨B, 4, none⟩ (.int .i64 p.2))) := by
          have h0 : Only [B] wr wq := HOA.out.mono (fun _ hk => by cases hk)
          exact (h0.setCell (p := ⟨B, 3, none⟩) (Or.inl (List.mem_singleton.2 rfl)) _).setCell (p := ⟨B, 4, none⟩) (Or.inl (List.mem_singleton.2 rfl)) _
        clear d0 d1 d2 d3 d4 d5 z3 z4 q0 q1
        generalize (wq.setCell ⟨B, 3, none⟩ (.int .i64 p.1)).setCell ⟨B, 4, none⟩ (.int .i64 p.2) = ws at HYs HOs ⊢
        obtain ⟨d0, d1, d2, d3, d4, d5⟩ := HYs.out.cells
        have hln : ((l.take j).map (putR x)).length = j := by rw [List.length_map, List.length_take]; omega
        have HLs : Hid (ws.ownsRow base 39 6 u5 j (rowOf lkC ((l.take j).map (putR x)))) := by
          have hh := HL.out.only HOs.out (fun k hk => by have := HF.out k hk; rw [List.mem_singleton]; omega)
          unfold Lks at hh
          rw [hln] at hh
          exact hh
        clear hln
        have HNW : Hid (∀ (q : Nat) (u : Value), (lkC (putR x p))[q]? = some u → (ws.alloc (.cells #[.int .i64 (putR x p).N, .int .i64 (putR x p).G, .int .i64 (putR x p).O, .int .i64 (putR x p).A, .int .i64 (putR x p).S, .bool (putR x p).W] 39)).cell? ((⟨ws.heap.size, 0, none⟩ : Addr).add q) = some u) := World.news_of_block (w := ws.alloc (.cells #[.int .i64 (putR x p).N, .int .i64 (putR x p).G, .int .i64 (putR x p).O, .int .i64 (putR x p).A, .int .i64 (putR x p).S, .bool (putR x p).W] 39)) (heap_alloc_last ws _)
        have HB2 : Hid (base ≤ (ws.alloc (.cells #[.int .i64 (putR x p).N, .int .i64 (putR x p).G, .int .i64 (putR x p).O, .int .i64 (putR x p).A, .int .i64 (putR x p).S, .bool (putR x p).W] 39)).heap.size) := by show base ≤ _; rw [World.size_alloc]; have := HOs.out.size; have := HOW.out.size; have := HO3.out.size; have := HBS.out; omega
        have HSZ : Hid (B < ws.heap.size) := HYs.out.pos
        go_wp2_with (first
          | (at_builtin; refine wpList_append_lies _ rfl (.tmp 25) (.tmp 27) 25 rfl base 39 i0 _ 6 48 lksUnd hi0 hz0 hz1 hz2 rfl (by decide) u5 j (rowOf lkC ((l.take j).map (putR x))) rfl (World.ownsRow.alloc HLs.out _) ⟨ws.heap.size, 0, none⟩ 1 1 (lkC (putR x p)) rfl rfl HNW.out (lkC_one _) (by decide) (by unfold maxLen; omega) (by omega) HB2.out (ws.heap.size + 1) (by simp) ?_; intro gl cl w6 hown6 hgr6 hat6 hlt6; have HST : Hid (Lks w6 base (.slice (some ⟨gl, 0, none⟩) (j + 1) cl) ((l.take (j + 1)).map (putR x)) ∧ (∀ k, (Value.slice (some ⟨gl, 0, none⟩) (j + 1) cl).ownBlock = some k → w3.heap.size ≤ k) ∧ LkBox w6 B (putR x p) ∧ Only [B] w3 w6) := cut_step HP.out hown6 hgr6 hat6 HF.out hB3 HYs.out HOs.out HOW.out; clear hown6 hgr6 hat6 hlt6 d0 d1 d2 d3 d4 d5)
          | go_in)
        go_roundw
        case rel => exact ⟨j + 1, putR x p, by go_num, by omega, HST.out.1, HST.out.2.1, HST.out.2.2.1, ⟨p, rfl⟩, HST.out.2.2.2⟩
        case measure => simp [intOf]; omega
      · obtain rfl : j = l.length := by omega
        have HE : Hid (Lks wr base u5 (l.map (putR x)) ∧ Only [] W wr) := ⟨by have hh := HL.out; rw [List.take_length] at hh; exact hh, HO3.out.trans HOW.out (fun k hk => Or.inr (by rw [List.mem_singleton.1 hk]; exact Nat.le_refl _))⟩
        have hj2 : decide ((l.length : Int) < l.length) = false := decide_eq_false (by omega)
        go_wp2
        go_ret
        exact ⟨_, rfl, HE.out.1, (fun k hk => Nat.le_trans HO3.out.size (HF.out k hk)), HE.out.2⟩
end Go.Proofs.YtfnniphemlnanaaDoor
