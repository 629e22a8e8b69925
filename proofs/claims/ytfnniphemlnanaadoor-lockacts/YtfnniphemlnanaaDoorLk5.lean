/- Locks: how runs lie in memory; the tests of package lock. -/
import Derived.Test.YtfnniphemlnanaaDoorLk4
namespace Go.Proofs.YtfnniphemlnanaaDoor
open Go Go.RowKit Go.Deep

def lkC (x : Lk) : List Value := [.int .i64 x.N, .int .i64 x.G, .int .i64 x.O, .int .i64 x.A, .int .i64 x.S, .bool x.W]
theorem lkC_len (x : Lk) : (lkC x).length = 6 := rfl
theorem lkC_one (x : Lk) : ∀ v ∈ lkC x, v.oneCell' = true := by
  intro v hv
  simp only [lkC, List.mem_cons, List.not_mem_nil, or_false] at hv
  rcases hv with rfl | rfl | rfl | rfl | rfl | rfl <;> rfl
def lkV (x : Lk) : Value := .agg #[.int .i64 x.N, .int .i64 x.G, .int .i64 x.O, .int .i64 x.A, .int .i64 x.S, .bool x.W]
theorem lkInfo : (Tryd.prog.info? 39).map (fun i => (i.zero, i.size, i.bytes)) = some (some (.agg #[.int .i64 0, .int .i64 0, .int .i64 0, .int .i64 0, .int .i64 0, .bool false]), 6, 48) := by kernel_rfl
theorem lkInfo' : ∃ i, Tryd.prog.info? 39 = some i ∧ i.zero = some (.agg #[.int .i64 0, .int .i64 0, .int .i64 0, .int .i64 0, .int .i64 0, .bool false]) ∧ i.size = 6 ∧ i.bytes = 48 := by
  have h := lkInfo
  cases hi : Tryd.prog.info? 39 with
  | none => rw [hi] at h; cases h
  | some i =>
    rw [hi] at h
    simp only [Option.map_some, Option.some.injEq, Prod.mk.injEq] at h
    exact ⟨i, rfl, h.1, h.2.1, h.2.2⟩
theorem lksUnd : Tryd.prog.underlying 25 = some (.slice 39) := by kernel_rfl
/-- Runs in a row of one's own. -/
def Lks (w : World) (base : Nat) (v : Value) (l : List Lk) : Prop := w.ownsRow base 39 6 v l.length (rowOf lkC l)
theorem Lks.only {w w' : World} {base : Nat} {v : Value} {l : List Lk} {L : List Nat} (h : Lks w base v l) (ho : Only L w w') (hn : ∀ k, v.ownBlock = some k → k ∉ L) : Lks w' base v l := ho.owns h hn
theorem Lks.nil (w : World) (base : Nat) : Lks w base (.slice none 0 0) [] := World.ownsRow_nil _ _ _ _
/-- A run that lies in a block of its own. -/
def LkIn (w : World) (b : Nat) (x : Lk) : Prop := w.cell? ⟨b, 0, none⟩ = some (.int .i64 x.N) ∧ w.cell? ⟨b, 1, none⟩ = some (.int .i64 x.G) ∧ w.cell? ⟨b, 2, none⟩ = some (.int .i64 x.O) ∧ w.cell? ⟨b, 3, none⟩ = some (.int .i64 x.A) ∧ w.cell? ⟨b, 4, none⟩ = some (.int .i64 x.S) ∧ w.cell? ⟨b, 5, none⟩ = some (.bool x.W)
theorem LkIn.only {w W : World} {b : Nat} {x : Lk} {L : List Nat} (h : LkIn w b x) (ho : Only L w W) (hn : b ∉ L) : LkIn W b x :=
  ⟨(ho.cell (p := ⟨b, 0, none⟩) (lt_of_cell h.1) hn).trans h.1, (ho.cell (p := ⟨b, 1, none⟩) (lt_of_cell h.2.1) hn).trans h.2.1, (ho.cell (p := ⟨b, 2, none⟩) (lt_of_cell h.2.2.1) hn).trans h.2.2.1, (ho.cell (p := ⟨b, 3, none⟩) (lt_of_cell h.2.2.2.1) hn).trans h.2.2.2.1, (ho.cell (p := ⟨b, 4, none⟩) (lt_of_cell h.2.2.2.2.1) hn).trans h.2.2.2.2.1, (ho.cell (p := ⟨b, 5, none⟩) (lt_of_cell h.2.2.2.2.2) hn).trans h.2.2.2.2.2⟩
theorem LkIn.new (w : World) (x : Lk) (ty : TypeId) : LkIn (w.alloc (.cells #[.int .i64 x.N, .int .i64 x.G, .int .i64 x.O, .int .i64 x.A, .int .i64 x.S, .bool x.W] ty)) w.heap.size x := by
  have hh := heap_alloc_last w (.cells #[.int .i64 x.N, .int .i64 x.G, .int .i64 x.O, .int .i64 x.A, .int .i64 x.S, .bool x.W] ty)
  exact ⟨cell_of_row _ _ 0 _ _ _ hh, cell_of_row _ _ 1 _ _ _ hh, cell_of_row _ _ 2 _ _ _ hh, cell_of_row _ _ 3 _ _ _ hh, cell_of_row _ _ 4 _ _ _ hh, cell_of_row _ _ 5 _ _ _ hh⟩

/-! ### tests -/
/-- A function value that is a test of runs, as long as no other block than those of L is written. -/
def TestOf (w : World) (L : List Nat) (F : Nat) (bs : Array Value) (p : Lk → Bool) : Prop := ∀ W x, Only L w W → x.Ok → Calls Tryd.prog F (#[lkV x] ++ bs) W fun e w' => e = .returned (.bool (p x)) ∧ Only [] W w'
theorem TestOf.only {w w' : World} {L : List Nat} {F : Nat} {bs : Array Value} {p : Lk → Bool} (h : TestOf w L F bs p) (ho : Only L w w') : TestOf w' L F bs p := fun W x h1 h2 => h W x (ho.trans h1 (fun _ hk => Or.inl hk)) h2
theorem TestOf.only0 {w w' : World} {L : List Nat} {F : Nat} {bs : Array Value} {p : Lk → Bool} (h : TestOf w L F bs p) (ho : Only [] w w') : TestOf w' L F bs p := h.only (ho.mono (fun _ hk => by cases hk))
theorem TestOf.less {w : World} {L M : List Nat} {F : Nat} {bs : Array Value} {p : Lk → Bool} (h : TestOf w L F bs p) (hm : ∀ k ∈ M, k ∈ L ∨ w.heap.size ≤ k) : TestOf w M F bs p := fun W x h1 h2 => h W x (h1.mono hm) h2
set_option maxHeartbeats 1000000 in
theorem by1_any (w : World) (L : List Nat) (b c : Nat) (N G O : Int) (h0 : w.cell? ⟨b, 0, none⟩ = some (.int .i64 N)) (h1 : w.cell? ⟨b, 1, none⟩ = some (.int .i64 G)) (h2 : w.cell? ⟨c, 0, none⟩ = some (.int .i64 O)) (hb : b ∉ L) (hc : c ∉ L) : TestOf w L 46 #[.pointer (some ⟨b, 0, none⟩), .pointer (some ⟨c, 0, none⟩)] (ownB N G O) := by
  intro W x ho _
  have c0 := (ho.cell (p := ⟨b, 0, none⟩) (lt_of_cell h0) hb).trans h0
  have c1 := (ho.cell (p := ⟨b, 1, none⟩) (lt_of_cell h1) hb).trans h1
  have c2 := (ho.cell (p := ⟨c, 0, none⟩) (lt_of_cell h2) hc).trans h2
  have hbl := lt_of_cell c0
  have hcl := lt_of_cell c2
  unfold lkV ownB
  clear h0 h1 h2 ho hb hc
  obtain ⟨xN, xG, xO, xA, xS, xW⟩ := x
  show Calls Tryd.prog 46 #[.agg #[.int .i64 xN, .int .i64 xG, .int .i64 xO, .int .i64 xA, .int .i64 xS, .bool xW], .pointer (some ⟨b, 0, none⟩), .pointer (some ⟨c, 0, none⟩)] W _
  by_cases hN : xN = N
  · subst hN
    by_cases hG : xG = G
    · subst hG
      go_enter Tryd.func46, Tryd.ntmps46
      go_wp2
      go_ret
      exact ⟨by simp; rfl, (Only.refl _ _).alloc _⟩
    · have dG : (xG == G) = false := beq_eq_false_iff_ne.2 hG
      have dG2 : decide (xG = G) = false := decide_eq_false hG
      go_enter Tryd.func46, Tryd.ntmps46
      go_wp2
      go_ret
      exact ⟨by simp, (Only.refl _ _).alloc _⟩
  · have dN : (xN == N) = false := beq_eq_false_iff_ne.2 hN
    have dN2 : decide (xN = N) = false := decide_eq_false hN
    go_enter Tryd.func46, Tryd.ntmps46
    go_wp2
    go_ret
    exact ⟨by simp, (Only.refl _ _).alloc _⟩
set_option maxRecDepth 100000 in
set_option maxHeartbeats 2000000 in
theorem against1_any (w : World) (L : List Nat) (b : Nat) (v : Lk) (hv : v.Ok) (h : LkIn w b v) (hb : b ∉ L) : TestOf w L 43 #[.pointer (some ⟨b, 0, none⟩)] (agB v) := by
  intro W x ho hx
  have hI := h.only ho hb
  obtain ⟨c0, c1, c2, c3, c4, c5⟩ := hI
  have hbl := lt_of_cell c0
  have HM : Hid (∀ W', Calls Tryd.prog 44 #[.agg #[.int .i64 x.A, .int .i64 x.S], .agg #[.int .i64 v.A, .int .i64 v.S]] W' fun e w' => e = .returned (.bool (meetB x.A x.S v.A v.S)) ∧ Only [] W' w') := fun W' => meet_any _ _ _ _ W' hx hv
  have HW : Hid (Only [] W (W.alloc (.cells #[.int .i64 x.N, .int .i64 x.G, .int .i64 x.O, .int .i64 x.A, .int .i64 x.S, .bool x.W] 39))) := (Only.refl [] W).alloc _
  unfold lkV agB
  clear h ho hb hx hv
  show Calls Tryd.prog 43 #[.agg #[.int .i64 x.N, .int .i64 x.G, .int .i64 x.O, .int .i64 x.A, .int .i64 x.S, .bool x.W], .pointer (some ⟨b, 0, none⟩)] W _
  generalize meetB x.A x.S v.A v.S = mt at HM ⊢
  obtain ⟨xN, xG, xO, xA, xS, xW⟩ := x
  obtain ⟨N, G, O, A, S, B⟩ := v
  simp only at *
  by_cases hN : xN = N
  · subst hN
    by_cases hG : xG = G
    · subst hG
      by_cases hO : xO = O
      · subst hO
        go_enter Tryd.func43, Tryd.ntmps43
        go_wp2
        go_ret
        exact ⟨by simp, HW.out⟩
      · have dO : (xO == O) = false := beq_eq_false_iff_ne.2 hO
        have dO3 : (xO != O) = true := bne_iff_ne.2 hO
        have dO2 : decide (xO = O) = false := decide_eq_false hO
        cases xW
        · cases B
          · go_enter Tryd.func43, Tryd.ntmps43
            go_wp2
            go_ret
            exact ⟨by simp, HW.out⟩
          · go_enter Tryd.func43, Tryd.ntmps43
            go_wp2_with (go_at_call 44; refine (HM.out _).mono ?_; rintro e w2 ⟨rfl, ho2⟩; have HO2 : Hid (Only [] W w2) := only_nil HW.out ho2; clear ho2)
            go_ret
            exact ⟨by simp [hO], HO2.out⟩
        · go_enter Tryd.func43, Tryd.ntmps43
          go_wp2_with (go_at_call 44; refine (HM.out _).mono ?_; rintro e w2 ⟨rfl, ho2⟩; have HO2 : Hid (Only [] W w2) := only_nil HW.out ho2; clear ho2)
          go_ret
          exact ⟨by simp [hO], HO2.out⟩
    · have dG : (xG == G) = false := beq_eq_false_iff_ne.2 hG
      have dG2 : decide (xG = G) = false := decide_eq_false hG
      go_enter Tryd.func43, Tryd.ntmps43
      go_wp2
      go_ret
      exact ⟨by simp [hG], HW.out⟩
  · have dN : (xN == N) = false := beq_eq_false_iff_ne.2 hN
    have dN2 : decide (xN = N) = false := decide_eq_false hN
    go_enter Tryd.func43, Tryd.ntmps43
    go_wp2
    go_ret
    exact ⟨by simp [hN], HW.out⟩
set_option maxRecDepth 100000 in
set_option maxHeartbeats 2000000 in
theorem continuing1_any (w : World) (L : List Nat) (a b : Nat) (v : Lk) (hv : v.Ok) (h : LkIn w b v) (hb : b ∉ L) (ha : a ∉ L) (b1 b2 : Nat) (hf : w.cell? ⟨a, 0, none⟩ = some (.func (.func 46) #[] #[.pointer (some ⟨b1, 0, none⟩), .pointer (some ⟨b2, 0, none⟩)])) (ht : TestOf w L 46 #[.pointer (some ⟨b1, 0, none⟩), .pointer (some ⟨b2, 0, none⟩)] (ownB v.N v.G v.O)) : TestOf w L 55 #[.pointer (some ⟨a, 0, none⟩), .pointer (some ⟨b, 0, none⟩)] (goesB v) := by
  intro W x ho hx
  have f1 := (ho.cell (p := ⟨a, 0, none⟩) (lt_of_cell hf) ha).trans hf
  have hI := h.only ho hb
  have HI : Hid (LkIn W b v) := hI
  have l1 := lt_of_cell f1
  have HT : Hid (∀ W', Calls Tryd.prog 56 #[.agg #[.int .i64 x.A, .int .i64 x.S], .agg #[.int .i64 v.A, .int .i64 v.S]] W' fun e w' => e = .returned (.bool (touchB x.A x.S v.A v.S)) ∧ Only [] W' w') := fun W' => touch_any _ _ _ _ W' hx hv
  have HW : Hid (Only [] W (W.alloc (.cells #[.int .i64 x.N, .int .i64 x.G, .int .i64 x.O, .int .i64 x.A, .int .i64 x.S, .bool x.W] 39))) := (Only.refl [] W).alloc _
  have HB : Hid (∀ W', Only [] W W' → Calls Tryd.prog 46 #[.agg #[.int .i64 x.N, .int .i64 x.G, .int .i64 x.O, .int .i64 x.A, .int .i64 x.S, .bool x.W], .pointer (some ⟨b1, 0, none⟩), .pointer (some ⟨b2, 0, none⟩)] W' fun e w' => e = .returned (.bool (ownB v.N v.G v.O x)) ∧ Only [] W' w') := fun W' h' => ht W' x (only_nil ho h') hx
  have HN : Hid (LkIn (W.alloc (.cells #[.int .i64 x.N, .int .i64 x.G, .int .i64 x.O, .int .i64 x.A, .int .i64 x.S, .bool x.W] 39)) W.heap.size x) := LkIn.new W x 39
  unfold lkV goesB
  clear h hf ht ho hb ha hx hv hI
  show Calls Tryd.prog 55 #[.agg #[.int .i64 x.N, .int .i64 x.G, .int .i64 x.O, .int .i64 x.A, .int .i64 x.S, .bool x.W], .pointer (some ⟨a, 0, none⟩), .pointer (some ⟨b, 0, none⟩)] W _
  generalize touchB x.A x.S v.A v.S = mt at HT ⊢
  generalize ownB v.N v.G v.O x = ow at HB ⊢
  obtain ⟨xN, xG, xO, xA, xS, xW⟩ := x
  obtain ⟨N, G, O, A, S, B⟩ := v
  simp only at *
  cases ow
  · go_enter Tryd.func55, Tryd.ntmps55
    go_wp2_with (go_at_call 46; refine (HB.out _ HW.out).mono ?_; rintro e w2 ⟨rfl, ho2⟩; have HO2 : Hid (Only [] W w2) := only_nil HW.out ho2; clear ho2)
    go_ret
    exact ⟨by simp, HO2.out⟩
  · cases xW <;> cases B
    all_goals
      go_enter Tryd.func55, Tryd.ntmps55
      go_wp2_with (first
        | (go_at_call 46; refine (HB.out _ HW.out).mono ?_; rintro e w2 ⟨rfl, ho2⟩; have HO2 : Hid (Only [] W w2) := only_nil HW.out ho2; obtain ⟨d0, d1, d2, d3, d4, d5⟩ := HI.out.only HO2.out (by simp); obtain ⟨e0, e1, e2, e3, e4, e5⟩ := HN.out.only ho2 (by simp); clear ho2 f1 l1)
        | (go_at_call 56; refine (HT.out _).mono ?_; rintro e w3 ⟨rfl, ho3⟩; have HO3 : Hid (Only [] W w3) := only_nil HO2.out ho3; clear ho3))
      go_ret
      first | exact ⟨by simp, HO3.out⟩ | exact ⟨by simp, HO2.out⟩
end Go.Proofs.YtfnniphemlnanaaDoor
