/- LockActs: the walk. -/
import Derived.Test.YtfnniphemlnanaaDoorLa17
namespace Go.Proofs.YtfnniphemlnanaaDoor
open Go Go.RowKit Go.Deep

theorem act_cells {W w : World} {t m b : Nat} {l : List Lk} {P : List Pt} {x : LActM} (h : Mem2 W w t m l P b #[.string x.K, .int .i64 x.N, .int .i64 x.G, .int .i64 x.O, .int .i64 x.A, .int .i64 x.S, .bool x.W]) : w.cell? ⟨b, 0, none⟩ = some (.string x.K) ∧ w.cell? ⟨b, 1, none⟩ = some (.int .i64 x.N) ∧ w.cell? ⟨b, 2, none⟩ = some (.int .i64 x.G) ∧ w.cell? ⟨b, 3, none⟩ = some (.int .i64 x.O) ∧ w.cell? ⟨b, 4, none⟩ = some (.int .i64 x.A) ∧ w.cell? ⟨b, 5, none⟩ = some (.int .i64 x.S) ∧ w.cell? ⟨b, 6, none⟩ = some (.bool x.W) :=
  ⟨h.cells 0, h.cells 1, h.cells 2, h.cells 3, h.cells 4, h.cells 5, h.cells 6⟩
theorem lkin_far {w w' : World} {B m : Nat} {r : Lk} (h : LkIn w B r) (ho : Only [m] w w') (hm : m < B) : LkIn w' B r := by
  obtain ⟨h0, h1, h2, h3, h4, h5⟩ := h
  have hb := lt_of_cell h0
  have hn : B ∉ [m] := by rw [List.mem_singleton]; omega
  exact ⟨(ho.cell (p := ⟨B, 0, none⟩) hb hn).trans h0, (ho.cell (p := ⟨B, 1, none⟩) hb hn).trans h1, (ho.cell (p := ⟨B, 2, none⟩) hb hn).trans h2, (ho.cell (p := ⟨B, 3, none⟩) hb hn).trans h3, (ho.cell (p := ⟨B, 4, none⟩) hb hn).trans h4, (ho.cell (p := ⟨B, 5, none⟩) hb hn).trans h5⟩
theorem lkin_only {w w' : World} {B : Nat} {r : Lk} (h : LkIn w B r) (ho : Only [] w w') : LkIn w' B r := by
  obtain ⟨h0, h1, h2, h3, h4, h5⟩ := h
  have hb := lt_of_cell h0
  exact ⟨(ho.cell (p := ⟨B, 0, none⟩) hb (by simp)).trans h0, (ho.cell (p := ⟨B, 1, none⟩) hb (by simp)).trans h1, (ho.cell (p := ⟨B, 2, none⟩) hb (by simp)).trans h2, (ho.cell (p := ⟨B, 3, none⟩) hb (by simp)).trans h3, (ho.cell (p := ⟨B, 4, none⟩) hb (by simp)).trans h4, (ho.cell (p := ⟨B, 5, none⟩) hb (by simp)).trans h5⟩
theorem Mem2.mlt {W w : World} {t m b : Nat} {l : List Lk} {P : List Pt} {cs : Array Value} (h : Mem2 W w t m l P b cs) : m < w.heap.size := by
  obtain ⟨v, u, h⟩ := h
  exact lt_of_cell h.rl.c0
/-- The round's end: both lists are the same. -/
structure Ends (W w : World) (t m n : Nat) : Prop where
  ex : ∃ l P b cs, Mem2 W w t m l P b cs ∧ Pair l P ∧ P.length ≤ n
set_option maxRecDepth 100000 in
set_option maxHeartbeats 8000000 in
theorem lacts_walk (ad0 : Option Addr) (len cap : Nat) (A : Nat → Addr) (w : World) (hP : IsLActs w ad0 len) (hE : Errs w A) (hl : len ≤ 40) : Calls Tryd.prog 3 #[.slice ad0 len cap] w fun e w' => e = .returned (.bool true) ∧ Below w.heap.size w w' := by
  have HP : Hid (IsLActs w ad0 len) := hP
  have HE : Hid (Errs w A) := hE
  have HE3 : Hid (Err3 w A) := hE.three
  have hh := held_any A w hE.three
  have g1 : decide (40 < (len : Int)) = false := decide_eq_false (by omega)
  clear hP hE
  go_enter Tryd.func3, Tryd.ntmps3
  go_wp2_with (go_at_call 7; refine hh.mono ?_; rintro e w1 ⟨rfl, hb1⟩; have HG0 : Hid (Good2 w ((w1.alloc (.cells #[.slice none 0 0] 27)).alloc (.cells #[.slice none 0 0] 31)) w1.heap.size (w1.heap.size + 1) 0) := Good2.fresh hb1; clear hh hb1)
  generalize (w1.alloc (.cells #[.slice none 0 0] 27)).alloc (.cells #[.slice none 0 0] 31) = w2 at HG0 ⊢
  generalize w1.heap.size + 1 = m at HG0 ⊢
  generalize w1.heap.size = t at HG0 ⊢
  clear g1
  go_loopw [6, 7, 8, 9, 10, 11, 12, 13, 14, 15] (fun i _ _ _ _ _ _ _ _ _ wr => ∃ j : Nat, i = .int .i64 j ∧ j ≤ len ∧ Good2 w wr t m j) (fun i _ _ _ _ _ _ _ _ _ _ => len - (intOf i).toNat)
  case atStart => exact ⟨0, rfl, Nat.zero_le _, HG0.out⟩
  case round =>
    obtain ⟨j, rfl, hj, hG⟩ := hrel
    clear HG0
    by_cases hlt : j < len
    · have hj2 : (j : Int) < len := by omega
      obtain ⟨ab, ao, Q, rfl, hPP⟩ := HP.out.resolve_left (by omega)
      obtain ⟨x, hx⟩ : ∃ x, Q j = x := ⟨_, rfl⟩
      obtain ⟨p0, p1, p2, p3, p4, p5, p6⟩ := hPP j hlt
      rw [hx] at p0 p1 p2 p3 p4 p5 p6
      have k : ∀ (o : Nat) (u : Value), w.cell? ⟨ab, o, none⟩ = some u → wr.cell? ⟨ab, o, none⟩ = some u := fun o u hc => (hG.below.cell (p := ⟨ab, o, none⟩) (lt_of_cell hc)).trans hc
      have c0 := k _ _ p0
      have c1 := k _ _ p1
      have c2 := k _ _ p2
      have c3 := k _ _ p3
      have c4 := k _ _ p4
      have c5 := k _ _ p5
      have c6 := k _ _ p6
      clear p0 p1 p2 p3 p4 p5 p6 k hPP hx
      obtain ⟨l, P, hM, hPr, hPl⟩ := hG.box #[.string x.K, .int .i64 x.N, .int .i64 x.G, .int .i64 x.O, .int .i64 x.A, .int .i64 x.S, .bool x.W]
      have HM1 : Hid (Mem2 w (wr.alloc (.cells #[.string x.K, .int .i64 x.N, .int .i64 x.G, .int .i64 x.O, .int .i64 x.A, .int .i64 x.S, .bool x.W] 37)) t m l P wr.heap.size #[.string x.K, .int .i64 x.N, .int .i64 x.G, .int .i64 x.O, .int .i64 x.A, .int .i64 x.S, .bool x.W]) := hM
      have HPR : Hid (Pair l P) := hPr
      have HPL : Hid (P.length ≤ j) := hPl
      have HPL1 : Hid (P.length ≤ j + 1) := Nat.le_succ_of_le hPl
      have HP99 : Hid (P.length ≤ 99) := by show _ ≤ _; omega
      clear hM hPr hPl hG
      go_upto_region 13 with fail
      clear c0 c1 c2 c3 c4 c5 c6
      generalize wr.alloc (.cells #[.string x.K, .int .i64 x.N, .int .i64 x.G, .int .i64 x.O, .int .i64 x.A, .int .i64 x.S, .bool x.W] 37) = wb at HM1 ⊢
      generalize wr.heap.size = b at HM1 ⊢
      obtain ⟨y0, y1, y2, y3, y4, y5, y6⟩ := act_cells HM1.out
      have hyl := lt_of_cell y0
      have HCOD : Hid (∀ W c r, Below w.heap.size w W → Told A c r → Calls Tryd.prog 10 #[r, .int .i64 ((c : Nat) : Int)] W fun e w' => e = .returned (.bool true) ∧ Only [] W w') := fun W c r hb ht => (coded2_any A c r W (HE.out.below hb (Nat.le_refl _)) ht).mono fun e w' hh => ⟨hh.1, Only.of_below hh.2 []⟩
      go_wp2_with (first
        | (go_at_call 8; refine (HM1.out.lockP HPR.out HE3.out x.N x.G x.O x.A x.S x.W).mono ?_; rintro e w3 ⟨c, r, res, l3, rfl, hR, hT⟩; have HR3 : Hid (LockR A l ⟨x.N, x.G, x.O, x.A, x.S, x.W⟩ c r res l3) := hR; have HN3 : Hid (Mem2 w w3 t m l3 P b #[.string x.K, .int .i64 x.N, .int .i64 x.G, .int .i64 x.O, .int .i64 x.A, .int .i64 x.S, .bool x.W]) := hT; have HB3 : Hid (Mem2 w (w3.alloc (.cells #[.int .i64 res.N, .int .i64 res.G, .int .i64 res.O, .int .i64 res.A, .int .i64 res.S, .bool res.W] 39)) t m l3 P b #[.string x.K, .int .i64 x.N, .int .i64 x.G, .int .i64 x.O, .int .i64 x.A, .int .i64 x.S, .bool x.W]) := hT.only ((Only.refl [] w3).alloc _); have HI3 : Hid (LkIn (w3.alloc (.cells #[.int .i64 res.N, .int .i64 res.G, .int .i64 res.O, .int .i64 res.A, .int .i64 res.S, .bool res.W] 39)) w3.heap.size res) := LkIn.new w3 res _; have HML : Hid (m < w3.heap.size) := hT.mlt; clear hR hT y0 y1 y2 y3 y4 y5 y6 hyl; obtain ⟨y0, y1, y2, y3, y4, y5, y6⟩ := act_cells HN3.out; have hyl := lt_of_cell y0)
        | (go_at_call 9; refine (HB3.out.lockD HPR.out HP99.out x.N x.G x.O x.A x.S x.W).mono ?_; rintro e w4 ⟨cd, res2, P3, rfl, hR2, hT2, ho2⟩; obtain ⟨rfl, rfl, hp4, ht4, hpl4⟩ := pair_lock HPR.out HR3.out hR2; have HN4 : Hid (Mem2 w w4 t m l3 P3 b #[.string x.K, .int .i64 x.N, .int .i64 x.G, .int .i64 x.O, .int .i64 x.A, .int .i64 x.S, .bool x.W]) := hT2; have HP4 : Hid (Pair l3 P3) := hp4; have HPL4 : Hid (P3.length ≤ j + 1) := (by have := HPL.out; show _ ≤ _; omega); have HT4 : Hid (Told A c r) := ht4; have HI4 : Hid (LkIn w4 w3.heap.size res2) := lkin_far HI3.out ho2 HML.out; clear hR2 hT2 hp4 ht4 ho2 hpl4 y0 y1 y2 y3 y4 y5 y6 hyl)
        | (go_at_call 12; refine (HM1.out.testP HPR.out HE3.out x.N x.G x.O x.A x.S x.W).mono ?_; rintro e w3 ⟨c, r, res, rfl, hR, hT⟩; have HR3 : Hid (TestR A l ⟨x.N, x.G, x.O, x.A, x.S, x.W⟩ c r res) := hR; have HN3 : Hid (Mem2 w w3 t m l P b #[.string x.K, .int .i64 x.N, .int .i64 x.G, .int .i64 x.O, .int .i64 x.A, .int .i64 x.S, .bool x.W]) := hT; have HB3 : Hid (Mem2 w (w3.alloc (.cells #[.int .i64 res.N, .int .i64 res.G, .int .i64 res.O, .int .i64 res.A, .int .i64 res.S, .bool res.W] 39)) t m l P b #[.string x.K, .int .i64 x.N, .int .i64 x.G, .int .i64 x.O, .int .i64 x.A, .int .i64 x.S, .bool x.W]) := hT.only ((Only.refl [] w3).alloc _); have HI3 : Hid (LkIn (w3.alloc (.cells #[.int .i64 res.N, .int .i64 res.G, .int .i64 res.O, .int .i64 res.A, .int .i64 res.S, .bool res.W] 39)) w3.heap.size res) := LkIn.new w3 res _; clear hR hT y0 y1 y2 y3 y4 y5 y6 hyl; obtain ⟨y0, y1, y2, y3, y4, y5, y6⟩ := act_cells HN3.out; have hyl := lt_of_cell y0)
        | (go_at_call 13; refine (HB3.out.testD HPR.out HP99.out x.N x.G x.O x.A x.S x.W).mono ?_; rintro e w4 ⟨cd, res2, rfl, hR2, hT2, ho2⟩; obtain ⟨rfl, rfl, ht4⟩ := pair_test HR3.out hR2; have HN4 : Hid (Mem2 w w4 t m l P b #[.string x.K, .int .i64 x.N, .int .i64 x.G, .int .i64 x.O, .int .i64 x.A, .int .i64 x.S, .bool x.W]) := hT2; have HT4 : Hid (Told A c r) := ht4; have HI4 : Hid (LkIn w4 w3.heap.size res2) := lkin_only HI3.out ho2; clear hR2 hT2 ht4 ho2 y0 y1 y2 y3 y4 y5 y6 hyl)
        | fail)
      · have HW5 : Hid (Only [] w4 (w4.alloc (.cells #[.int .i64 res2.N, .int .i64 res2.G, .int .i64 res2.O, .int .i64 res2.A, .int .i64 res2.S, .bool res2.W] 44))) := (Only.refl [] w4).alloc _
        have HIB : Hid (LkIn (w4.alloc (.cells #[.int .i64 res2.N, .int .i64 res2.G, .int .i64 res2.O, .int .i64 res2.A, .int .i64 res2.S, .bool res2.W] 44)) w4.heap.size res2) := LkIn.new w4 res2 _
        have HI5 : Hid (LkIn (w4.alloc (.cells #[.int .i64 res2.N, .int .i64 res2.G, .int .i64 res2.O, .int .i64 res2.A, .int .i64 res2.S, .bool res2.W] 44)) w3.heap.size res2) := lkin_only HI4.out HW5.out
        have HN5 : Hid (Mem2 w (w4.alloc (.cells #[.int .i64 res2.N, .int .i64 res2.G, .int .i64 res2.O, .int .i64 res2.A, .int .i64 res2.S, .bool res2.W] 44)) t m l3 P3 b #[.string x.K, .int .i64 x.N, .int .i64 x.G, .int .i64 x.O, .int .i64 x.A, .int .i64 x.S, .bool x.W]) := HN4.out.only HW5.out
        clear HW5
        generalize (w4.alloc (.cells #[.int .i64 res2.N, .int .i64 res2.G, .int .i64 res2.O, .int .i64 res2.A, .int .i64 res2.S, .bool res2.W] 44)) = w5 at HIB HI5 HN5 ⊢
        generalize w4.heap.size = B10 at HIB ⊢
        generalize w3.heap.size = B8 at HI5 ⊢
        have HS3 : Hid (∀ W, Only [] w5 W → (W.cell? ⟨B8, 0, none⟩ = some (.int .i64 res2.N) ∧ W.cell? ⟨B8, 1, none⟩ = some (.int .i64 res2.G) ∧ W.cell? ⟨B8, 2, none⟩ = some (.int .i64 res2.O) ∧ W.cell? ⟨B8, 3, none⟩ = some (.int .i64 res2.A) ∧ W.cell? ⟨B8, 4, none⟩ = some (.int .i64 res2.S) ∧ W.cell? ⟨B8, 5, none⟩ = some (.bool res2.W)) ∧ (W.cell? ⟨B10, 0, none⟩ = some (.int .i64 res2.N) ∧ W.cell? ⟨B10, 1, none⟩ = some (.int .i64 res2.G) ∧ W.cell? ⟨B10, 2, none⟩ = some (.int .i64 res2.O) ∧ W.cell? ⟨B10, 3, none⟩ = some (.int .i64 res2.A) ∧ W.cell? ⟨B10, 4, none⟩ = some (.int .i64 res2.S) ∧ W.cell? ⟨B10, 5, none⟩ = some (.bool res2.W))) := fun W ho => ⟨lkin_only HI5.out ho, lkin_only HIB.out ho⟩
        have HS0 : Hid ((w5.drew.cell? ⟨B8, 0, none⟩ = some (.int .i64 res2.N) ∧ w5.drew.cell? ⟨B8, 1, none⟩ = some (.int .i64 res2.G) ∧ w5.drew.cell? ⟨B8, 2, none⟩ = some (.int .i64 res2.O) ∧ w5.drew.cell? ⟨B8, 3, none⟩ = some (.int .i64 res2.A) ∧ w5.drew.cell? ⟨B8, 4, none⟩ = some (.int .i64 res2.S) ∧ w5.drew.cell? ⟨B8, 5, none⟩ = some (.bool res2.W)) ∧ (w5.drew.cell? ⟨B10, 0, none⟩ = some (.int .i64 res2.N) ∧ w5.drew.cell? ⟨B10, 1, none⟩ = some (.int .i64 res2.G) ∧ w5.drew.cell? ⟨B10, 2, none⟩ = some (.int .i64 res2.O) ∧ w5.drew.cell? ⟨B10, 3, none⟩ = some (.int .i64 res2.A) ∧ w5.drew.cell? ⟨B10, 4, none⟩ = some (.int .i64 res2.S) ∧ w5.drew.cell? ⟨B10, 5, none⟩ = some (.bool res2.W))) := HS3.out _ (Only.refl [] w5).drew
        have HD5 : Hid (Only [] w5 w5.drew) := (Only.refl [] w5).drew
        have HBE : Hid (Below w.heap.size w w5.drew) := (HN5.out.only HD5.out).below
        go_region_held3 (fun W => (W.cell? ⟨B8, 0, none⟩ = some (.int .i64 res2.N) ∧ W.cell? ⟨B8, 1, none⟩ = some (.int .i64 res2.G) ∧ W.cell? ⟨B8, 2, none⟩ = some (.int .i64 res2.O) ∧ W.cell? ⟨B8, 3, none⟩ = some (.int .i64 res2.A) ∧ W.cell? ⟨B8, 4, none⟩ = some (.int .i64 res2.S) ∧ W.cell? ⟨B8, 5, none⟩ = some (.bool res2.W)) ∧ (W.cell? ⟨B10, 0, none⟩ = some (.int .i64 res2.N) ∧ W.cell? ⟨B10, 1, none⟩ = some (.int .i64 res2.G) ∧ W.cell? ⟨B10, 2, none⟩ = some (.int .i64 res2.O) ∧ W.cell? ⟨B10, 3, none⟩ = some (.int .i64 res2.A) ∧ W.cell? ⟨B10, 4, none⟩ = some (.int .i64 res2.S) ∧ W.cell? ⟨B10, 5, none⟩ = some (.bool res2.W))) (with_reducible first | exact HS0.out | exact HS6.out | exact HS7.out)
          (first
            | (go_at_call 10; refine (HCOD.out _ c r HBE.out HT4.out).mono ?_; rintro e w6 ⟨rfl, ho6⟩; have HW6 : Hid (Only [] w5 w6) := only_nil HD5.out ho6; have HS6 : Hid ((w6.cell? ⟨B8, 0, none⟩ = some (.int .i64 res2.N) ∧ w6.cell? ⟨B8, 1, none⟩ = some (.int .i64 res2.G) ∧ w6.cell? ⟨B8, 2, none⟩ = some (.int .i64 res2.O) ∧ w6.cell? ⟨B8, 3, none⟩ = some (.int .i64 res2.A) ∧ w6.cell? ⟨B8, 4, none⟩ = some (.int .i64 res2.S) ∧ w6.cell? ⟨B8, 5, none⟩ = some (.bool res2.W)) ∧ (w6.cell? ⟨B10, 0, none⟩ = some (.int .i64 res2.N) ∧ w6.cell? ⟨B10, 1, none⟩ = some (.int .i64 res2.G) ∧ w6.cell? ⟨B10, 2, none⟩ = some (.int .i64 res2.O) ∧ w6.cell? ⟨B10, 3, none⟩ = some (.int .i64 res2.A) ∧ w6.cell? ⟨B10, 4, none⟩ = some (.int .i64 res2.S) ∧ w6.cell? ⟨B10, 5, none⟩ = some (.bool res2.W))) := HS3.out w6 HW6.out; clear ho6)
            | (go_at_call 11; refine (lockOf_any _ res2).mono ?_; rintro e w7 ⟨rfl, ho7⟩; have HW7 : Hid (Only [] w5 w7) := only_nil HW6.out ho7; have HS7 : Hid ((w7.cell? ⟨B8, 0, none⟩ = some (.int .i64 res2.N) ∧ w7.cell? ⟨B8, 1, none⟩ = some (.int .i64 res2.G) ∧ w7.cell? ⟨B8, 2, none⟩ = some (.int .i64 res2.O) ∧ w7.cell? ⟨B8, 3, none⟩ = some (.int .i64 res2.A) ∧ w7.cell? ⟨B8, 4, none⟩ = some (.int .i64 res2.S) ∧ w7.cell? ⟨B8, 5, none⟩ = some (.bool res2.W)) ∧ (w7.cell? ⟨B10, 0, none⟩ = some (.int .i64 res2.N) ∧ w7.cell? ⟨B10, 1, none⟩ = some (.int .i64 res2.G) ∧ w7.cell? ⟨B10, 2, none⟩ = some (.int .i64 res2.O) ∧ w7.cell? ⟨B10, 3, none⟩ = some (.int .i64 res2.A) ∧ w7.cell? ⟨B10, 4, none⟩ = some (.int .i64 res2.S) ∧ w7.cell? ⟨B10, 5, none⟩ = some (.bool res2.W))) := HS3.out w7 HW7.out; clear ho7))
        have HN7 : Hid (Mem2 w w7 t m l3 P3 b #[.string x.K, .int .i64 x.N, .int .i64 x.G, .int .i64 x.O, .int .i64 x.A, .int .i64 x.S, .bool x.W]) := HN5.out.only HW7.out
        go_wp2_with (first
          | (go_at_call 19; refine (HN7.out.listP HP4.out).mono ?_; rintro e w8 ⟨v8, rfl, h8, ho8⟩; have H8 : Hid (Lks w8 w7.heap.size v8 l3) := h8; have HN8 : Hid (Mem2 w w8 t m l3 P3 b #[.string x.K, .int .i64 x.N, .int .i64 x.G, .int .i64 x.O, .int .i64 x.A, .int .i64 x.S, .bool x.W]) := HN7.out.only ho8; clear h8 ho8)
          | (go_at_call 20; refine (HN8.out.listD HP4.out (Nat.le_trans HPL4.out (by omega))).mono ?_; rintro e w9 ⟨v9, rfl, h9, ho9⟩; have H9 : Hid (Rks w9 w8.heap.size v9 l3) := h9; have HL9 : Hid (Lks w9 w7.heap.size v8 l3) := H8.out.only ho9 (fun _ _ => by simp); have HN9 : Hid (Mem2 w w9 t m l3 P3 b #[.string x.K, .int .i64 x.N, .int .i64 x.G, .int .i64 x.O, .int .i64 x.A, .int .i64 x.S, .bool x.W]) := HN8.out.only ho9; clear h9 ho9)
          | (go_at_call 18; refine (sameL_any w9 _ _ _ _ l3 HL9.out H9.out HP4.out.len).mono ?_; rintro e w10 ⟨rfl, ho10⟩; have HG10 : Hid (Good2 w w10 t m (j + 1)) := (HN9.out.only ho10).good HP4.out HPL4.out; clear ho10)
          | go_in)
        go_roundw
        case rel => exact ⟨j + 1, by go_num, by omega, HG10.out⟩
        case measure => simp [intOf]; omega
      · have HW5 : Hid (Only [] w4 (w4.alloc (.cells #[.int .i64 res2.N, .int .i64 res2.G, .int .i64 res2.O, .int .i64 res2.A, .int .i64 res2.S, .bool res2.W] 44))) := (Only.refl [] w4).alloc _
        have HIB : Hid (LkIn (w4.alloc (.cells #[.int .i64 res2.N, .int .i64 res2.G, .int .i64 res2.O, .int .i64 res2.A, .int .i64 res2.S, .bool res2.W] 44)) w4.heap.size res2) := LkIn.new w4 res2 _
        have HI5 : Hid (LkIn (w4.alloc (.cells #[.int .i64 res2.N, .int .i64 res2.G, .int .i64 res2.O, .int .i64 res2.A, .int .i64 res2.S, .bool res2.W] 44)) w3.heap.size res2) := lkin_only HI4.out HW5.out
        have HN5 : Hid (Mem2 w (w4.alloc (.cells #[.int .i64 res2.N, .int .i64 res2.G, .int .i64 res2.O, .int .i64 res2.A, .int .i64 res2.S, .bool res2.W] 44)) t m l P b #[.string x.K, .int .i64 x.N, .int .i64 x.G, .int .i64 x.O, .int .i64 x.A, .int .i64 x.S, .bool x.W]) := HN4.out.only HW5.out
        clear HW5
        generalize (w4.alloc (.cells #[.int .i64 res2.N, .int .i64 res2.G, .int .i64 res2.O, .int .i64 res2.A, .int .i64 res2.S, .bool res2.W] 44)) = w5 at HIB HI5 HN5 ⊢
        generalize w4.heap.size = B10 at HIB ⊢
        generalize w3.heap.size = B8 at HI5 ⊢
        have HS3 : Hid (∀ W, Only [] w5 W → (W.cell? ⟨B8, 0, none⟩ = some (.int .i64 res2.N) ∧ W.cell? ⟨B8, 1, none⟩ = some (.int .i64 res2.G) ∧ W.cell? ⟨B8, 2, none⟩ = some (.int .i64 res2.O) ∧ W.cell? ⟨B8, 3, none⟩ = some (.int .i64 res2.A) ∧ W.cell? ⟨B8, 4, none⟩ = some (.int .i64 res2.S) ∧ W.cell? ⟨B8, 5, none⟩ = some (.bool res2.W)) ∧ (W.cell? ⟨B10, 0, none⟩ = some (.int .i64 res2.N) ∧ W.cell? ⟨B10, 1, none⟩ = some (.int .i64 res2.G) ∧ W.cell? ⟨B10, 2, none⟩ = some (.int .i64 res2.O) ∧ W.cell? ⟨B10, 3, none⟩ = some (.int .i64 res2.A) ∧ W.cell? ⟨B10, 4, none⟩ = some (.int .i64 res2.S) ∧ W.cell? ⟨B10, 5, none⟩ = some (.bool res2.W))) := fun W ho => ⟨lkin_only HI5.out ho, lkin_only HIB.out ho⟩
        have HS0 : Hid ((w5.drew.cell? ⟨B8, 0, none⟩ = some (.int .i64 res2.N) ∧ w5.drew.cell? ⟨B8, 1, none⟩ = some (.int .i64 res2.G) ∧ w5.drew.cell? ⟨B8, 2, none⟩ = some (.int .i64 res2.O) ∧ w5.drew.cell? ⟨B8, 3, none⟩ = some (.int .i64 res2.A) ∧ w5.drew.cell? ⟨B8, 4, none⟩ = some (.int .i64 res2.S) ∧ w5.drew.cell? ⟨B8, 5, none⟩ = some (.bool res2.W)) ∧ (w5.drew.cell? ⟨B10, 0, none⟩ = some (.int .i64 res2.N) ∧ w5.drew.cell? ⟨B10, 1, none⟩ = some (.int .i64 res2.G) ∧ w5.drew.cell? ⟨B10, 2, none⟩ = some (.int .i64 res2.O) ∧ w5.drew.cell? ⟨B10, 3, none⟩ = some (.int .i64 res2.A) ∧ w5.drew.cell? ⟨B10, 4, none⟩ = some (.int .i64 res2.S) ∧ w5.drew.cell? ⟨B10, 5, none⟩ = some (.bool res2.W))) := HS3.out _ (Only.refl [] w5).drew
        have HD5 : Hid (Only [] w5 w5.drew) := (Only.refl [] w5).drew
        have HBE : Hid (Below w.heap.size w w5.drew) := (HN5.out.only HD5.out).below
        go_region_held3 (fun W => (W.cell? ⟨B8, 0, none⟩ = some (.int .i64 res2.N) ∧ W.cell? ⟨B8, 1, none⟩ = some (.int .i64 res2.G) ∧ W.cell? ⟨B8, 2, none⟩ = some (.int .i64 res2.O) ∧ W.cell? ⟨B8, 3, none⟩ = some (.int .i64 res2.A) ∧ W.cell? ⟨B8, 4, none⟩ = some (.int .i64 res2.S) ∧ W.cell? ⟨B8, 5, none⟩ = some (.bool res2.W)) ∧ (W.cell? ⟨B10, 0, none⟩ = some (.int .i64 res2.N) ∧ W.cell? ⟨B10, 1, none⟩ = some (.int .i64 res2.G) ∧ W.cell? ⟨B10, 2, none⟩ = some (.int .i64 res2.O) ∧ W.cell? ⟨B10, 3, none⟩ = some (.int .i64 res2.A) ∧ W.cell? ⟨B10, 4, none⟩ = some (.int .i64 res2.S) ∧ W.cell? ⟨B10, 5, none⟩ = some (.bool res2.W))) (with_reducible first | exact HS0.out | exact HS6.out | exact HS7.out)
          (first
            | (go_at_call 10; refine (HCOD.out _ c r HBE.out HT4.out).mono ?_; rintro e w6 ⟨rfl, ho6⟩; have HW6 : Hid (Only [] w5 w6) := only_nil HD5.out ho6; have HS6 : Hid ((w6.cell? ⟨B8, 0, none⟩ = some (.int .i64 res2.N) ∧ w6.cell? ⟨B8, 1, none⟩ = some (.int .i64 res2.G) ∧ w6.cell? ⟨B8, 2, none⟩ = some (.int .i64 res2.O) ∧ w6.cell? ⟨B8, 3, none⟩ = some (.int .i64 res2.A) ∧ w6.cell? ⟨B8, 4, none⟩ = some (.int .i64 res2.S) ∧ w6.cell? ⟨B8, 5, none⟩ = some (.bool res2.W)) ∧ (w6.cell? ⟨B10, 0, none⟩ = some (.int .i64 res2.N) ∧ w6.cell? ⟨B10, 1, none⟩ = some (.int .i64 res2.G) ∧ w6.cell? ⟨B10, 2, none⟩ = some (.int .i64 res2.O) ∧ w6.cell? ⟨B10, 3, none⟩ = some (.int .i64 res2.A) ∧ w6.cell? ⟨B10, 4, none⟩ = some (.int .i64 res2.S) ∧ w6.cell? ⟨B10, 5, none⟩ = some (.bool res2.W))) := HS3.out w6 HW6.out; clear ho6)
            | (go_at_call 11; refine (lockOf_any _ res2).mono ?_; rintro e w7 ⟨rfl, ho7⟩; have HW7 : Hid (Only [] w5 w7) := only_nil HW6.out ho7; have HS7 : Hid ((w7.cell? ⟨B8, 0, none⟩ = some (.int .i64 res2.N) ∧ w7.cell? ⟨B8, 1, none⟩ = some (.int .i64 res2.G) ∧ w7.cell? ⟨B8, 2, none⟩ = some (.int .i64 res2.O) ∧ w7.cell? ⟨B8, 3, none⟩ = some (.int .i64 res2.A) ∧ w7.cell? ⟨B8, 4, none⟩ = some (.int .i64 res2.S) ∧ w7.cell? ⟨B8, 5, none⟩ = some (.bool res2.W)) ∧ (w7.cell? ⟨B10, 0, none⟩ = some (.int .i64 res2.N) ∧ w7.cell? ⟨B10, 1, none⟩ = some (.int .i64 res2.G) ∧ w7.cell? ⟨B10, 2, none⟩ = some (.int .i64 res2.O) ∧ w7.cell? ⟨B10, 3, none⟩ = some (.int .i64 res2.A) ∧ w7.cell? ⟨B10, 4, none⟩ = some (.int .i64 res2.S) ∧ w7.cell? ⟨B10, 5, none⟩ = some (.bool res2.W))) := HS3.out w7 HW7.out; clear ho7))
        have HN7 : Hid (Mem2 w w7 t m l P b #[.string x.K, .int .i64 x.N, .int .i64 x.G, .int .i64 x.O, .int .i64 x.A, .int .i64 x.S, .bool x.W]) := HN5.out.only HW7.out
        go_wp2_with (first
          | (go_at_call 19; refine (HN7.out.listP HPR.out).mono ?_; rintro e w8 ⟨v8, rfl, h8, ho8⟩; have H8 : Hid (Lks w8 w7.heap.size v8 l) := h8; have HN8 : Hid (Mem2 w w8 t m l P b #[.string x.K, .int .i64 x.N, .int .i64 x.G, .int .i64 x.O, .int .i64 x.A, .int .i64 x.S, .bool x.W]) := HN7.out.only ho8; clear h8 ho8)
          | (go_at_call 20; refine (HN8.out.listD HPR.out (Nat.le_trans HPL1.out (by omega))).mono ?_; rintro e w9 ⟨v9, rfl, h9, ho9⟩; have H9 : Hid (Rks w9 w8.heap.size v9 l) := h9; have HL9 : Hid (Lks w9 w7.heap.size v8 l) := H8.out.only ho9 (fun _ _ => by simp); have HN9 : Hid (Mem2 w w9 t m l P b #[.string x.K, .int .i64 x.N, .int .i64 x.G, .int .i64 x.O, .int .i64 x.A, .int .i64 x.S, .bool x.W]) := HN8.out.only ho9; clear h9 ho9)
          | (go_at_call 18; refine (sameL_any w9 _ _ _ _ l HL9.out H9.out HPR.out.len).mono ?_; rintro e w10 ⟨rfl, ho10⟩; have HG10 : Hid (Good2 w w10 t m (j + 1)) := (HN9.out.only ho10).good HPR.out HPL1.out; clear ho10)
          | go_in)
        go_roundw
        case rel => exact ⟨j + 1, by go_num, by omega, HG10.out⟩
        case measure => simp [intOf]; omega
      · have HD1 : Hid (Mem2 w wb.drew t m l P b #[.string x.K, .int .i64 x.N, .int .i64 x.G, .int .i64 x.O, .int .i64 x.A, .int .i64 x.S, .bool x.W]) := HM1.out.only (Only.refl [] wb).drew
        have HS0 : Hid (wb.drew.cell? ⟨b, 1, none⟩ = some (.int .i64 x.N) ∧ wb.drew.cell? ⟨b, 2, none⟩ = some (.int .i64 x.G) ∧ wb.drew.cell? ⟨b, 3, none⟩ = some (.int .i64 x.O) ∧ wb.drew.cell? ⟨b, 4, none⟩ = some (.int .i64 x.A) ∧ wb.drew.cell? ⟨b, 5, none⟩ = some (.int .i64 x.S)) := by obtain ⟨_, q1, q2, q3, q4, q5, _⟩ := act_cells HD1.out; exact ⟨q1, q2, q3, q4, q5⟩
        have HUP : Hid (∀ _u : Unit, Calls Tryd.prog 14 #[.pointer (some ⟨t, 0, none⟩), .agg #[.int .i64 x.N, .int .i64 x.G], .int .i64 x.O, .agg #[.int .i64 x.A, .int .i64 x.S]] wb.drew fun e w' => ∃ c r l', e = .returned r ∧ UnlockR A l x.N x.G x.O x.A x.S c r l' ∧ Mem2 w w' t m l' P b #[.string x.K, .int .i64 x.N, .int .i64 x.G, .int .i64 x.O, .int .i64 x.A, .int .i64 x.S, .bool x.W]) := fun _u => HD1.out.unlockP HPR.out HE3.out x.N x.G x.O x.A x.S
        clear y0 y1 y2 y3 y4 y5 y6
        go_region_held3 (fun W => W.cell? ⟨b, 1, none⟩ = some (.int .i64 x.N) ∧ W.cell? ⟨b, 2, none⟩ = some (.int .i64 x.G) ∧ W.cell? ⟨b, 3, none⟩ = some (.int .i64 x.O) ∧ W.cell? ⟨b, 4, none⟩ = some (.int .i64 x.A) ∧ W.cell? ⟨b, 5, none⟩ = some (.int .i64 x.S)) (with_reducible first | exact HS0.out | exact HS3.out | exact HS4.out | exact HS5.out)
          (first
            | (go_at_call 14; refine (HUP.out ()).mono ?_; rintro e w3 ⟨c, r, l3, rfl, hR, hT⟩; have HR3 : Hid (UnlockR A l x.N x.G x.O x.A x.S c r l3) := hR; have HN3 : Hid (Mem2 w w3 t m l3 P b #[.string x.K, .int .i64 x.N, .int .i64 x.G, .int .i64 x.O, .int .i64 x.A, .int .i64 x.S, .bool x.W]) := hT; have HS3 : Hid (w3.cell? ⟨b, 1, none⟩ = some (.int .i64 x.N) ∧ w3.cell? ⟨b, 2, none⟩ = some (.int .i64 x.G) ∧ w3.cell? ⟨b, 3, none⟩ = some (.int .i64 x.O) ∧ w3.cell? ⟨b, 4, none⟩ = some (.int .i64 x.A) ∧ w3.cell? ⟨b, 5, none⟩ = some (.int .i64 x.S)) := (by obtain ⟨_, q1, q2, q3, q4, q5, _⟩ := act_cells HN3.out; exact ⟨q1, q2, q3, q4, q5⟩); clear hR hT)
            | (go_at_call 15; refine (HN3.out.unlockD HPR.out HP99.out x.N x.G x.O x.A x.S).mono ?_; rintro e w4 ⟨cd, P3, rfl, hR2, hT2⟩; obtain ⟨rfl, hp4, ht4, hpl4⟩ := pair_unlock HPR.out HR3.out hR2; have HN4 : Hid (Mem2 w w4 t m l3 P3 b #[.string x.K, .int .i64 x.N, .int .i64 x.G, .int .i64 x.O, .int .i64 x.A, .int .i64 x.S, .bool x.W]) := hT2; have HP4 : Hid (Pair l3 P3) := hp4; have HPL4 : Hid (P3.length ≤ j + 1) := (by have := HPL.out; show _ ≤ _; omega); have HT4 : Hid (Told A c r) := ht4; have HS4 : Hid (w4.cell? ⟨b, 1, none⟩ = some (.int .i64 x.N) ∧ w4.cell? ⟨b, 2, none⟩ = some (.int .i64 x.G) ∧ w4.cell? ⟨b, 3, none⟩ = some (.int .i64 x.O) ∧ w4.cell? ⟨b, 4, none⟩ = some (.int .i64 x.A) ∧ w4.cell? ⟨b, 5, none⟩ = some (.int .i64 x.S)) := (by obtain ⟨_, q1, q2, q3, q4, q5, _⟩ := act_cells HN4.out; exact ⟨q1, q2, q3, q4, q5⟩); clear hR2 hT2 hp4 ht4 hpl4)
            | (go_at_call 10; refine (HCOD.out w4 c r HN4.out.below HT4.out).mono ?_; rintro e w5 ⟨rfl, ho5⟩; have HN5 : Hid (Mem2 w w5 t m l3 P3 b #[.string x.K, .int .i64 x.N, .int .i64 x.G, .int .i64 x.O, .int .i64 x.A, .int .i64 x.S, .bool x.W]) := HN4.out.only ho5; have HS5 : Hid (w5.cell? ⟨b, 1, none⟩ = some (.int .i64 x.N) ∧ w5.cell? ⟨b, 2, none⟩ = some (.int .i64 x.G) ∧ w5.cell? ⟨b, 3, none⟩ = some (.int .i64 x.O) ∧ w5.cell? ⟨b, 4, none⟩ = some (.int .i64 x.A) ∧ w5.cell? ⟨b, 5, none⟩ = some (.int .i64 x.S)) := (by obtain ⟨_, q1, q2, q3, q4, q5, _⟩ := act_cells HN5.out; exact ⟨q1, q2, q3, q4, q5⟩); clear ho5))
        go_wp2_with (first
          | (go_at_call 19; refine (HN5.out.listP HP4.out).mono ?_; rintro e w8 ⟨v8, rfl, h8, ho8⟩; have H8 : Hid (Lks w8 w5.heap.size v8 l3) := h8; have HN8 : Hid (Mem2 w w8 t m l3 P3 b #[.string x.K, .int .i64 x.N, .int .i64 x.G, .int .i64 x.O, .int .i64 x.A, .int .i64 x.S, .bool x.W]) := HN5.out.only ho8; clear h8 ho8)
          | (go_at_call 20; refine (HN8.out.listD HP4.out (Nat.le_trans HPL4.out (by omega))).mono ?_; rintro e w9 ⟨v9, rfl, h9, ho9⟩; have H9 : Hid (Rks w9 w8.heap.size v9 l3) := h9; have HL9 : Hid (Lks w9 w5.heap.size v8 l3) := H8.out.only ho9 (fun _ _ => by simp); have HN9 : Hid (Mem2 w w9 t m l3 P3 b #[.string x.K, .int .i64 x.N, .int .i64 x.G, .int .i64 x.O, .int .i64 x.A, .int .i64 x.S, .bool x.W]) := HN8.out.only ho9; clear h9 ho9)
          | (go_at_call 18; refine (sameL_any w9 _ _ _ _ l3 HL9.out H9.out HP4.out.len).mono ?_; rintro e w10 ⟨rfl, ho10⟩; have HG10 : Hid (Good2 w w10 t m (j + 1)) := (HN9.out.only ho10).good HP4.out HPL4.out; clear ho10)
          | go_in)
        go_roundw
        case rel => exact ⟨j + 1, by go_num, by omega, HG10.out⟩
        case measure => simp [intOf]; omega
      · have HD1 : Hid (Mem2 w wb.drew t m l P b #[.string x.K, .int .i64 x.N, .int .i64 x.G, .int .i64 x.O, .int .i64 x.A, .int .i64 x.S, .bool x.W]) := HM1.out.only (Only.refl [] wb).drew
        have HS0 : Hid (wb.drew.cell? ⟨b, 1, none⟩ = some (.int .i64 x.N) ∧ wb.drew.cell? ⟨b, 2, none⟩ = some (.int .i64 x.G) ∧ wb.drew.cell? ⟨b, 3, none⟩ = some (.int .i64 x.O) ∧ wb.drew.cell? ⟨b, 4, none⟩ = some (.int .i64 x.A) ∧ wb.drew.cell? ⟨b, 5, none⟩ = some (.int .i64 x.S)) := by obtain ⟨_, q1, q2, q3, q4, q5, _⟩ := act_cells HD1.out; exact ⟨q1, q2, q3, q4, q5⟩
        obtain ⟨dn, hdn⟩ : ∃ dn : Int, (l.length : Int) - ((keptB (ownB x.N x.G x.O) l).length : Int) = dn := ⟨_, rfl⟩
        obtain ⟨l3, hl3⟩ : ∃ l3, keptB (ownB x.N x.G x.O) l = l3 := ⟨_, rfl⟩
        obtain ⟨P3, hP3⟩ : ∃ P3, P.filter (fun p => !keyP x.N x.G x.O p) = P3 := ⟨_, rfl⟩
        have HDP : Hid (∀ _u : Unit, Calls Tryd.prog 16 #[.pointer (some ⟨t, 0, none⟩), .agg #[.int .i64 x.N, .int .i64 x.G], .int .i64 x.O] wb.drew fun e w' => e = .returned (.int .i64 dn) ∧ Mem2 w w' t m l3 P b #[.string x.K, .int .i64 x.N, .int .i64 x.G, .int .i64 x.O, .int .i64 x.A, .int .i64 x.S, .bool x.W]) := fun _u => by have hh := HD1.out.dropP HPR.out x.N x.G x.O; rw [hdn, hl3] at hh; exact hh
        have HDD : Hid (∀ W, Mem2 w W t m l3 P b #[.string x.K, .int .i64 x.N, .int .i64 x.G, .int .i64 x.O, .int .i64 x.A, .int .i64 x.S, .bool x.W] → Calls Tryd.prog 17 #[.pointer (some ⟨m, 0, none⟩), .agg #[.int .i64 x.N, .int .i64 x.G], .int .i64 x.O] W fun e w' => e = .returned (.int .i64 dn) ∧ Mem2 w w' t m l3 P3 b #[.string x.K, .int .i64 x.N, .int .i64 x.G, .int .i64 x.O, .int .i64 x.A, .int .i64 x.S, .bool x.W]) := fun W hW => by have hh := hW.dropD HPR.out HP99.out x.N x.G x.O; rw [hdn, hP3] at hh; exact hh
        have HP4 : Hid (Pair l3 P3) := by show Pair _ _; rw [← hl3, ← hP3]; exact pair_drop HPR.out x.N x.G x.O
        have HPL4 : Hid (P3.length ≤ j + 1) := by show _ ≤ _; rw [← hP3]; have := List.length_filter_le (fun p => !keyP x.N x.G x.O p) P; have := HPL.out; omega
        clear hdn hl3 hP3 y0 y1 y2 y3 y4 y5 y6
        go_region_held3 (fun W => W.cell? ⟨b, 1, none⟩ = some (.int .i64 x.N) ∧ W.cell? ⟨b, 2, none⟩ = some (.int .i64 x.G) ∧ W.cell? ⟨b, 3, none⟩ = some (.int .i64 x.O) ∧ W.cell? ⟨b, 4, none⟩ = some (.int .i64 x.A) ∧ W.cell? ⟨b, 5, none⟩ = some (.int .i64 x.S)) (with_reducible first | exact HS0.out | exact HS3.out | exact HS4.out)
          (first
            | (go_at_call 16; refine (HDP.out ()).mono ?_; rintro e w3 ⟨rfl, hT⟩; have HN3 : Hid (Mem2 w w3 t m l3 P b #[.string x.K, .int .i64 x.N, .int .i64 x.G, .int .i64 x.O, .int .i64 x.A, .int .i64 x.S, .bool x.W]) := hT; have HS3 : Hid (w3.cell? ⟨b, 1, none⟩ = some (.int .i64 x.N) ∧ w3.cell? ⟨b, 2, none⟩ = some (.int .i64 x.G) ∧ w3.cell? ⟨b, 3, none⟩ = some (.int .i64 x.O) ∧ w3.cell? ⟨b, 4, none⟩ = some (.int .i64 x.A) ∧ w3.cell? ⟨b, 5, none⟩ = some (.int .i64 x.S)) := (by obtain ⟨_, q1, q2, q3, q4, q5, _⟩ := act_cells HN3.out; exact ⟨q1, q2, q3, q4, q5⟩); clear hT)
            | (go_at_call 17; refine (HDD.out w3 HN3.out).mono ?_; rintro e w4 ⟨rfl, hT2⟩; have HN4 : Hid (Mem2 w w4 t m l3 P3 b #[.string x.K, .int .i64 x.N, .int .i64 x.G, .int .i64 x.O, .int .i64 x.A, .int .i64 x.S, .bool x.W]) := hT2; have HS4 : Hid (w4.cell? ⟨b, 1, none⟩ = some (.int .i64 x.N) ∧ w4.cell? ⟨b, 2, none⟩ = some (.int .i64 x.G) ∧ w4.cell? ⟨b, 3, none⟩ = some (.int .i64 x.O) ∧ w4.cell? ⟨b, 4, none⟩ = some (.int .i64 x.A) ∧ w4.cell? ⟨b, 5, none⟩ = some (.int .i64 x.S)) := (by obtain ⟨_, q1, q2, q3, q4, q5, _⟩ := act_cells HN4.out; exact ⟨q1, q2, q3, q4, q5⟩); clear hT2))
        go_wp2_with (first
          | (go_at_call 19; refine (HN4.out.listP HP4.out).mono ?_; rintro e w8 ⟨v8, rfl, h8, ho8⟩; have H8 : Hid (Lks w8 w4.heap.size v8 l3) := h8; have HN8 : Hid (Mem2 w w8 t m l3 P3 b #[.string x.K, .int .i64 x.N, .int .i64 x.G, .int .i64 x.O, .int .i64 x.A, .int .i64 x.S, .bool x.W]) := HN4.out.only ho8; clear h8 ho8)
          | (go_at_call 20; refine (HN8.out.listD HP4.out (Nat.le_trans HPL4.out (by omega))).mono ?_; rintro e w9 ⟨v9, rfl, h9, ho9⟩; have H9 : Hid (Rks w9 w8.heap.size v9 l3) := h9; have HL9 : Hid (Lks w9 w4.heap.size v8 l3) := H8.out.only ho9 (fun _ _ => by simp); have HN9 : Hid (Mem2 w w9 t m l3 P3 b #[.string x.K, .int .i64 x.N, .int .i64 x.G, .int .i64 x.O, .int .i64 x.A, .int .i64 x.S, .bool x.W]) := HN8.out.only ho9; clear h9 ho9)
          | (go_at_call 18; refine (sameL_any w9 _ _ _ _ l3 HL9.out H9.out HP4.out.len).mono ?_; rintro e w10 ⟨rfl, ho10⟩; have HG10 : Hid (Good2 w w10 t m (j + 1)) := (HN9.out.only ho10).good HP4.out HPL4.out; clear ho10)
          | go_in)
        go_roundw
        case rel => exact ⟨j + 1, by go_num, by omega, HG10.out⟩
        case measure => simp [intOf]; omega
    · obtain rfl : j = len := by omega
      have hj2 : decide ((j : Int) < j) = false := decide_eq_false (by omega)
      go_wp2
      go_ret
      exact ⟨rfl, hG.below⟩
end Go.Proofs.YtfnniphemlnanaaDoor
