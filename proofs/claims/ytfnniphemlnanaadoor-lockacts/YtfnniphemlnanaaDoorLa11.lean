/- LockActs: the document's table: Unlock, Test. -/
import Derived.Test.YtfnniphemlnanaaDoorLa10
namespace Go.Proofs.YtfnniphemlnanaaDoor
open Go Go.RowKit Go.Deep

def RkBox (w : World) (b : Nat) (x : Lk) : Prop := w.heap[b]? = some (.cells #[.int .i64 x.N, .int .i64 x.G, .int .i64 x.O, .int .i64 x.A, .int .i64 x.S, .bool x.W] 44 (0, 0))
theorem RkBox.new (w : World) (x : Lk) : RkBox (w.alloc (.cells #[.int .i64 x.N, .int .i64 x.G, .int .i64 x.O, .int .i64 x.A, .int .i64 x.S, .bool x.W] 44)) w.heap.size x := heap_alloc_last w _
theorem RkBox.pos {w : World} {b : Nat} {x : Lk} (h : RkBox w b x) : b < w.heap.size := (Array.getElem?_eq_some_iff.1 h).1
theorem RkBox.only {w W : World} {b : Nat} {x : Lk} {L : List Nat} (h : RkBox w b x) (ho : Only L w W) (hn : b ∉ L) : RkBox W b x := (ho.block b h.pos hn).trans h
theorem RkBox.cells {w : World} {b : Nat} {x : Lk} (h : RkBox w b x) : LkIn w b x :=
  ⟨cell_of_row _ _ 0 _ _ _ h, cell_of_row _ _ 1 _ _ _ h, cell_of_row _ _ 2 _ _ _ h, cell_of_row _ _ 3 _ _ _ h, cell_of_row _ _ 4 _ _ _ h, cell_of_row _ _ 5 _ _ _ h⟩
theorem RkBox.frozen {w : World} {b : Nat} {x : Lk} (h : RkBox w b x) (o : Nat) : w.frozen? ⟨b, o, none⟩ = false := by
  unfold World.frozen?
  rw [h]
  simp
theorem RkBox.fill {w : World} {b : Nat} {x : Lk} (h : RkBox w b x) (y : Lk) : RkBox (((((((w.setCell ⟨b, 0, none⟩ (.int .i64 y.N)).setCell ⟨b, 1, none⟩ (.int .i64 y.G)).setCell ⟨b, 2, none⟩ (.int .i64 y.O)).setCell ⟨b, 3, none⟩ (.int .i64 y.A)).setCell ⟨b, 4, none⟩ (.int .i64 y.S)).setCell ⟨b, 5, none⟩ (.bool y.W))) b y ∧ Only [b] w (((((((w.setCell ⟨b, 0, none⟩ (.int .i64 y.N)).setCell ⟨b, 1, none⟩ (.int .i64 y.G)).setCell ⟨b, 2, none⟩ (.int .i64 y.O)).setCell ⟨b, 3, none⟩ (.int .i64 y.A)).setCell ⟨b, 4, none⟩ (.int .i64 y.S)).setCell ⟨b, 5, none⟩ (.bool y.W))) := by
  have hb : b ∈ [b] := List.mem_singleton.2 rfl
  refine ⟨?_, ((((((Only.refl [b] w).setCell (p := ⟨b, 0, none⟩) (Or.inl hb) _).setCell (p := ⟨b, 1, none⟩) (Or.inl hb) _).setCell (p := ⟨b, 2, none⟩) (Or.inl hb) _).setCell (p := ⟨b, 3, none⟩) (Or.inl hb) _).setCell (p := ⟨b, 4, none⟩) (Or.inl hb) _).setCell (p := ⟨b, 5, none⟩) (Or.inl hb) _⟩
  have h0 := heap_setCell_same w b 0 _ _ (.int .i64 y.N) h
  have h1 := heap_setCell_same _ b 1 _ _ (.int .i64 y.G) h0
  have h2 := heap_setCell_same _ b 2 _ _ (.int .i64 y.O) h1
  have h3 := heap_setCell_same _ b 3 _ _ (.int .i64 y.A) h2
  have h4 := heap_setCell_same _ b 4 _ _ (.int .i64 y.S) h3
  have h5 := heap_setCell_same _ b 5 _ _ (.bool y.W) h4
  unfold RkBox
  rw [h5]
  rfl
theorem rbox_cells {w W : World} {N G A S : Int} (ho : Only [] (((w.alloc (.cells #[.int .i64 N, .int .i64 G] 33)).alloc (.cells #[.int .i64 A, .int .i64 S] 35)).alloc (.cells #[.int .i64 0, .int .i64 0, .int .i64 0, .int .i64 0, .int .i64 0, .bool false] 44)) W) : W.cell? ⟨w.heap.size, 0, none⟩ = some (.int .i64 N) ∧ W.cell? ⟨w.heap.size, 1, none⟩ = some (.int .i64 G) ∧ W.cell? ⟨w.heap.size + 1, 0, none⟩ = some (.int .i64 A) ∧ W.cell? ⟨w.heap.size + 1, 1, none⟩ = some (.int .i64 S) ∧ RkBox W (w.heap.size + 1 + 1) zeroL := by
  have a := four_new w N G A S 33 35
  have o2 : Only [] ((w.alloc (.cells #[.int .i64 N, .int .i64 G] 33)).alloc (.cells #[.int .i64 A, .int .i64 S] 35)) W := only_nil ((Only.refl [] _).alloc _) ho
  have b := Four.only a o2
  refine ⟨b.1, b.2.1, b.2.2.1, b.2.2.2, ?_⟩
  have c := (RkBox.new ((w.alloc (.cells #[.int .i64 N, .int .i64 G] 33)).alloc (.cells #[.int .i64 A, .int .i64 S] 35)) zeroL).only ho (by simp)
  rw [World.size_alloc, World.size_alloc] at c
  exact c
def Brushed (w w' : World) (base m : Nat) (P : List Pt) (p : Pt) (c : Int) : Prop := ∃ D, ListOf (P ++ [p]) D ∧ ((60 < D.length ∧ c = 9 ∧ Only [] w w') ∨ (D.length ≤ 60 ∧ c = 0 ∧ ∃ u', RlAt w' base m u' (P ++ [p]) ∧ Only [m] w w' ∧ (∀ k, u'.ownBlock = some k → w.heap.size ≤ k)))
theorem Brushed.from {w0 w w' : World} {base m : Nat} {P : List Pt} {p : Pt} {c : Int} (h : Brushed w w' base m P p c) (ho : Only [] w0 w) : Brushed w0 w' base m P p c := by
  obtain ⟨D, hD, h⟩ := h
  refine ⟨D, hD, ?_⟩
  rcases h with ⟨h1, h2, h3⟩ | ⟨h1, h2, u', h3, h4, h5⟩
  · exact Or.inl ⟨h1, h2, only_nil ho h3⟩
  · exact Or.inr ⟨h1, h2, u', h3, (ho.mono (fun _ hk => by cases hk)).trans h4 (fun k hk => Or.inl hk), fun k hk => Nat.le_trans ho.size (h5 k hk)⟩
theorem Brushed.drew {w w' : World} {base m : Nat} {P : List Pt} {p : Pt} {c : Int} (h : Brushed w w' base m P p c) {w2 : World} (ho : Only [] w' w2) : Brushed w w2 base m P p c := by
  obtain ⟨D, hD, h⟩ := h
  refine ⟨D, hD, ?_⟩
  rcases h with ⟨h1, h2, h3⟩ | ⟨h1, h2, u', h3, h4, h5⟩
  · exact Or.inl ⟨h1, h2, only_nil h3 ho⟩
  · exact Or.inr ⟨h1, h2, u', h3.only ho, h4.trans (ho.mono (fun _ hk => by cases hk)) (fun k hk => Or.inl hk), h5⟩
theorem brush_is (w : World) (base m : Nat) (u : Value) (P : List Pt) (N G O F T K : Int) (h : RlAt w base m u P) (hb : base ≤ w.heap.size) (hl : P.length ≤ 99) (hP : ∀ q ∈ P, q.Ok) (hp : (⟨N, G, O, F, T, K⟩ : Pt).Ok) : Calls Tryd.prog 25 #[.pointer (some ⟨m, 0, none⟩), .agg #[.int .i64 N, .int .i64 G, .int .i64 O, .int .i64 F, .int .i64 T, .int .i64 K]] w fun e w' => ∃ c, e = .returned (.int .i64 c) ∧ (c = 9 ∨ c = 0) ∧ Brushed w w' base m P ⟨N, G, O, F, T, K⟩ c :=
  (brush_any w base m u P ⟨N, G, O, F, T, K⟩ h hb hl hP hp).mono fun e w' hh => by
    obtain ⟨D, hD, hh⟩ := hh
    rcases hh with ⟨h1, h2, h3⟩ | ⟨h1, h2, h3⟩
    · exact ⟨9, h2, Or.inl rfl, D, hD, Or.inl ⟨h1, rfl, h3⟩⟩
    · exact ⟨0, h2, Or.inr rfl, D, hD, Or.inr ⟨h1, rfl, h3⟩⟩
theorem stroke_ok {N G O A S K : Int} (hr : rngB A S = true) (hk : K = 0 ∨ K = 1 ∨ K = 2) : (⟨N, G, O, A, toR A S, K⟩ : Pt).Ok := by
  unfold rngB at hr
  simp at hr
  refine ⟨by show 0 ≤ A; omega, by show A ≤ _; omega, ?_, hk⟩
  show toR A S = -1 ∨ (A < toR A S ∧ toR A S ≤ _)
  unfold toR
  split <;> omega
theorem runlock_bad (w : World) (m : Nat) (N G O A S : Int) (hr : rngB A S = false) : Calls Tryd.prog 15 #[.pointer (some ⟨m, 0, none⟩), .agg #[.int .i64 N, .int .i64 G], .int .i64 O, .agg #[.int .i64 A, .int .i64 S]] w fun e w' => e = .returned (.int .i64 2) ∧ Only [] w w' := by
  have hiR : ∀ W, Calls Tryd.prog 24 #[.agg #[.int .i64 A, .int .i64 S]] W fun e w' => e = .returned (.tuple #[.int .i64 0, .int .i64 0, .bool false]) ∧ Only [] W w' := fun W => by have := rangeOf_any A S W; rw [hr] at this; exact this
  have HO : Hid (Only [] w ((w.alloc (.cells #[.int .i64 N, .int .i64 G] 33)).alloc (.cells #[.int .i64 A, .int .i64 S] 35))) := ((Only.refl [] w).alloc _).alloc _
  clear hr
  go_enter Tryd.func15, Tryd.ntmps15
  go_wp2_with (go_at_call 24; refine (hiR _).mono ?_; rintro e w2 ⟨rfl, ho2⟩; have HW2 : Hid (Only [] w w2) := only_nil HO.out ho2; clear hiR ho2)
  go_ret
  exact ⟨rfl, HW2.out⟩
theorem runlock_ok (w : World) (base m : Nat) (u : Value) (P : List Pt) (N G O A S : Int) (h : RlAt w base m u P) (hb : base ≤ w.heap.size) (hl : P.length ≤ 99) (hP : ∀ q ∈ P, q.Ok) (hr : rngB A S = true) : Calls Tryd.prog 15 #[.pointer (some ⟨m, 0, none⟩), .agg #[.int .i64 N, .int .i64 G], .int .i64 O, .agg #[.int .i64 A, .int .i64 S]] w fun e w' => ∃ c, e = .returned (.int .i64 c) ∧ (c = 9 ∨ c = 0) ∧ Brushed w w' base m P ⟨N, G, O, A, toR A S, 0⟩ c := by
  have hiR : ∀ W, Calls Tryd.prog 24 #[.agg #[.int .i64 A, .int .i64 S]] W fun e w' => e = .returned (.tuple #[.int .i64 A, .int .i64 (toR A S), .bool true]) ∧ Only [] W w' := fun W => by have := rangeOf_any A S W; rw [hr] at this; exact this
  have HO : Hid (Only [] w ((w.alloc (.cells #[.int .i64 N, .int .i64 G] 33)).alloc (.cells #[.int .i64 A, .int .i64 S] 35))) := ((Only.refl [] w).alloc _).alloc _
  have HBR : Hid (∀ W, Only [] w W → Calls Tryd.prog 25 #[.pointer (some ⟨m, 0, none⟩), .agg #[.int .i64 N, .int .i64 G, .int .i64 O, .int .i64 A, .int .i64 (toR A S), .int .i64 0]] W fun e w' => ∃ c, e = .returned (.int .i64 c) ∧ (c = 9 ∨ c = 0) ∧ Brushed W w' base m P ⟨N, G, O, A, toR A S, 0⟩ c) := fun W ho => brush_is W base m u P N G O A (toR A S) 0 (h.only ho) (Nat.le_trans hb ho.size) hl hP (stroke_ok hr (Or.inl rfl))
  clear hr h hb hP hl
  generalize toR A S = T at *
  go_enter Tryd.func15, Tryd.ntmps15
  go_wp2_with (first
    | (go_at_call 24; refine (hiR _).mono ?_; rintro e w2 ⟨rfl, ho2⟩; have HW2 : Hid (Only [] w w2) := only_nil HO.out ho2; obtain ⟨b0, b1, b2, b3⟩ := Four.only (four_new w N G A S 33 35) ho2; have hbl := lt_of_cell b0; clear hiR ho2)
    | (go_at_call 25; refine (HBR.out _ HW2.out).mono ?_; rintro e w3 ⟨c, rfl, hc, hbr⟩; have HBS : Hid ((c = 9 ∨ c = 0) ∧ Brushed w w3 base m P ⟨N, G, O, A, T, 0⟩ c) := ⟨hc, hbr.from HW2.out⟩; clear hc hbr b0 b1 b2 b3 hbl))
  go_ret
  exact ⟨c, rfl, HBS.out⟩
end Go.Proofs.YtfnniphemlnanaaDoor
