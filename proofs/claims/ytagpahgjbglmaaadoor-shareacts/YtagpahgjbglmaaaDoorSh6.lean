/- Shares: which opens are against one; is there one? -/
import Derived.Test.YtagpahgjbglmaaaDoorSh5
import Derived.Test.YtagpahgjbglmaaaDoorSh3
import Derived.Test.YtagpahgjbglmaaaDoorSh4
namespace Go.Proofs.YtagpahgjbglmaaaDoor
open Go Go.RowKit Go.Deep

/-- A function value in a variable. -/
def FnAt (w : World) (b F : Nat) (bs : Array Value) : Prop := w.cell? ⟨b, 0, none⟩ = some (.func (.func F) #[] bs)
set_option maxHeartbeats 2000000 in
theorem against1_any (w : World) (a b c : Nat) (a1 b1 b2 c1 c2 : Nat) (N G o ac dn : Int) (ha : FnAt w a 52 #[.pointer (some ⟨a1, 0, none⟩)]) (hb : FnAt w b 50 #[.pointer (some ⟨b1, 0, none⟩), .pointer (some ⟨b2, 0, none⟩)]) (hc : FnAt w c 55 #[.pointer (some ⟨c1, 0, none⟩), .pointer (some ⟨c2, 0, none⟩)])
    (ta : TestOf w 52 #[.pointer (some ⟨a1, 0, none⟩)] (byB o)) (tb : TestOf w 50 #[.pointer (some ⟨b1, 0, none⟩), .pointer (some ⟨b2, 0, none⟩)] (denyB N G ac)) (tc : TestOf w 55 #[.pointer (some ⟨c1, 0, none⟩), .pointer (some ⟨c2, 0, none⟩)] (haveB N G dn)) :
    TestOf w 45 #[.pointer (some ⟨a, 0, none⟩), .pointer (some ⟨b, 0, none⟩), .pointer (some ⟨c, 0, none⟩)] (agB N G o ac dn) := by
  intro W x ho hx
  have f1 := (ho.cell (p := ⟨a, 0, none⟩) (lt_of_cell ha) (by simp)).trans ha
  have f2 := (ho.cell (p := ⟨b, 0, none⟩) (lt_of_cell hb) (by simp)).trans hb
  have f3 := (ho.cell (p := ⟨c, 0, none⟩) (lt_of_cell hc) (by simp)).trans hc
  have HO1 : Hid (Only [] w (W.alloc (.cells #[.int .i64 x.N, .int .i64 x.G, .int .i64 x.O, .int .i64 x.A, .int .i64 x.D] 52))) := ho.alloc _
  have H1 : Hid (∀ W', Only [] w W' → Calls Tryd.prog 52 #[.agg #[.int .i64 x.N, .int .i64 x.G, .int .i64 x.O, .int .i64 x.A, .int .i64 x.D], .pointer (some ⟨a1, 0, none⟩)] W' fun e w' => e = .returned (.bool (byB o x)) ∧ Only [] W' w') := fun W' h => ta W' x h hx
  have H2 : Hid (∀ W', Only [] w W' → Calls Tryd.prog 50 #[.agg #[.int .i64 x.N, .int .i64 x.G, .int .i64 x.O, .int .i64 x.A, .int .i64 x.D], .pointer (some ⟨b1, 0, none⟩), .pointer (some ⟨b2, 0, none⟩)] W' fun e w' => e = .returned (.bool (denyB N G ac x)) ∧ Only [] W' w') := fun W' h => tb W' x h hx
  have H3 : Hid (∀ W', Only [] w W' → Calls Tryd.prog 55 #[.agg #[.int .i64 x.N, .int .i64 x.G, .int .i64 x.O, .int .i64 x.A, .int .i64 x.D], .pointer (some ⟨c1, 0, none⟩), .pointer (some ⟨c2, 0, none⟩)] W' fun e w' => e = .returned (.bool (haveB N G dn x)) ∧ Only [] W' w') := fun W' h => tc W' x h hx
  have l1 := lt_of_cell f1
  have l2 := lt_of_cell f2
  have l3 := lt_of_cell f3
  have HA : Hid (∀ W', Only [] (W.alloc (.cells #[.int .i64 x.N, .int .i64 x.G, .int .i64 x.O, .int .i64 x.A, .int .i64 x.D] 52)) W' → W'.cell? ⟨b, 0, none⟩ = some (.func (.func 50) #[] #[.pointer (some ⟨b1, 0, none⟩), .pointer (some ⟨b2, 0, none⟩)]) ∧ W'.cell? ⟨c, 0, none⟩ = some (.func (.func 55) #[] #[.pointer (some ⟨c1, 0, none⟩), .pointer (some ⟨c2, 0, none⟩)]) ∧ W'.cell? ⟨W.heap.size, 0, none⟩ = some (.int .i64 x.N) ∧ W'.cell? ⟨W.heap.size, 1, none⟩ = some (.int .i64 x.G) ∧ W'.cell? ⟨W.heap.size, 2, none⟩ = some (.int .i64 x.O) ∧ W'.cell? ⟨W.heap.size, 3, none⟩ = some (.int .i64 x.A) ∧ W'.cell? ⟨W.heap.size, 4, none⟩ = some (.int .i64 x.D)) := fun W' h => by
    have hh := heap_alloc_last W (.cells #[.int .i64 x.N, .int .i64 x.G, .int .i64 x.O, .int .i64 x.A, .int .i64 x.D] 52)
    have hw : Only [] W W' := ((Only.refl [] W).alloc _).trans h (fun _ hk => by cases hk)
    have hl : W.heap.size < (W.alloc (.cells #[.int .i64 x.N, .int .i64 x.G, .int .i64 x.O, .int .i64 x.A, .int .i64 x.D] 52)).heap.size := by simp
    exact ⟨(hw.cell (p := ⟨b, 0, none⟩) l2 (by simp)).trans f2, (hw.cell (p := ⟨c, 0, none⟩) l3 (by simp)).trans f3, (h.cell (p := ⟨W.heap.size, 0, none⟩) hl (by simp)).trans (cell_of_row _ _ 0 _ _ _ hh), (h.cell (p := ⟨W.heap.size, 1, none⟩) hl (by simp)).trans (cell_of_row _ _ 1 _ _ _ hh), (h.cell (p := ⟨W.heap.size, 2, none⟩) hl (by simp)).trans (cell_of_row _ _ 2 _ _ _ hh), (h.cell (p := ⟨W.heap.size, 3, none⟩) hl (by simp)).trans (cell_of_row _ _ 3 _ _ _ hh), (h.cell (p := ⟨W.heap.size, 4, none⟩) hl (by simp)).trans (cell_of_row _ _ 4 _ _ _ hh)⟩
  unfold opV agB
  clear ha hb hc ta tb tc ho hx f2 f3 l2 l3
  show Calls Tryd.prog 45 #[.agg #[.int .i64 x.N, .int .i64 x.G, .int .i64 x.O, .int .i64 x.A, .int .i64 x.D], .pointer (some ⟨a, 0, none⟩), .pointer (some ⟨b, 0, none⟩), .pointer (some ⟨c, 0, none⟩)] W fun e w' => e = .returned (.bool (!byB o x && (denyB N G ac x || haveB N G dn x))) ∧ Only [] W w'
  generalize byB o x = y1 at H1 ⊢
  generalize denyB N G ac x = y2 at H2 ⊢
  generalize haveB N G dn x = y3 at H3 ⊢
  generalize x.N = xN at *
  generalize x.G = xG at *
  generalize x.O = xO at *
  generalize x.A = xA at *
  generalize x.D = xD at *
  have HW : Hid (Only [] W (W.alloc (.cells #[.int .i64 xN, .int .i64 xG, .int .i64 xO, .int .i64 xA, .int .i64 xD] 52))) := (Only.refl [] W).alloc _
  cases y1 <;> cases y2
  all_goals
    go_enter Tryd.func45, Tryd.ntmps45
    go_wp2_with (first
      | (go_at_call 52; refine (H1.out _ HO1.out).mono ?_; rintro e w2 ⟨rfl, ho2⟩; have HO2 : Hid (Only [] (W.alloc (.cells #[.int .i64 xN, .int .i64 xG, .int .i64 xO, .int .i64 xA, .int .i64 xD] 52)) w2) := ho2; obtain ⟨g2, g3, e0, e1, e2, e3, e4⟩ := HA.out w2 ho2; have HL : Hid (Only [] (W.alloc (.cells #[.int .i64 xN, .int .i64 xG, .int .i64 xO, .int .i64 xA, .int .i64 xD] 52)) w2) := ho2; clear ho2 f1 l1)
      | (go_at_call 50; refine (H2.out _ (HO1.out.trans HO2.out (fun _ hk => by cases hk))).mono ?_; rintro e w3 ⟨rfl, ho3⟩; have HO3 : Hid (Only [] (W.alloc (.cells #[.int .i64 xN, .int .i64 xG, .int .i64 xO, .int .i64 xA, .int .i64 xD] 52)) w3) := HO2.out.trans ho3 (fun _ hk => by cases hk); clear g2 g3 e0 e1 e2 e3 e4; obtain ⟨g2, g3, e0, e1, e2, e3, e4⟩ := HA.out w3 HO3.out; clear HL; have HL : Hid (Only [] (W.alloc (.cells #[.int .i64 xN, .int .i64 xG, .int .i64 xO, .int .i64 xA, .int .i64 xD] 52)) w3) := HO3.out; clear ho3)
      | (go_at_call 55; refine (H3.out _ (HO1.out.trans HL.out (fun _ hk => by cases hk))).mono ?_; rintro e w4 ⟨rfl, ho4⟩; have HO4 : Hid (Only [] (W.alloc (.cells #[.int .i64 xN, .int .i64 xG, .int .i64 xO, .int .i64 xA, .int .i64 xD] 52)) w4) := HL.out.trans ho4 (fun _ hk => by cases hk); clear HL; have HL : Hid (Only [] (W.alloc (.cells #[.int .i64 xN, .int .i64 xG, .int .i64 xO, .int .i64 xA, .int .i64 xD] 52)) w4) := HO4.out; clear ho4)
      | go_in)
    go_ret
    exact ⟨by simp, HW.out.trans HL.out (fun _ hk => by cases hk)⟩
end Go.Proofs.YtagpahgjbglmaaaDoor
