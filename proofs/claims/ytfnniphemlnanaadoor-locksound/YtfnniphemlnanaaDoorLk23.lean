/- LockSound: her walk. -/
import Derived.Test.YtfnniphemlnanaaDoorLk17
namespace Go.Proofs.YtfnniphemlnanaaDoor
open Go Go.RowKit Go.Deep

def behB (aA bA bS : Int) : Bool := decide (0 < bS) && decide (bA + bS ≤ aA)
set_option maxHeartbeats 1000000 in
theorem behind_grown (aA aS bA bS : Int) (w : World) (h : OkR bA bS) : Calls Tryd.prog 21 #[.agg #[.int .i64 aA, .int .i64 aS], .agg #[.int .i64 bA, .int .i64 bS]] w fun e w' => e = .returned (.bool (behB aA bA bS)) ∧ ∃ q os', w' = Sort.grow (w.drewN q) os' := by
  unfold behB
  have ha := h.a0; have hb := h.s0; have hc := h.s1
  have hadd : IntKind.i64.wrap (bA + bS) = bA + bS := by simp [IntKind.wrap, IntKind.bits, IntKind.signed]; omega
  have HG : Hid (∃ q os', (w.alloc (.cells #[.int .i64 aA, .int .i64 aS] 35)).alloc (.cells #[.int .i64 bA, .int .i64 bS] 35) = Sort.grow (w.drewN q) os') := ⟨0, #[.cells #[.int .i64 aA, .int .i64 aS] 35] ++ #[.cells #[.int .i64 bA, .int .i64 bS] 35], by rw [Sort.alloc_eq_grow, Sort.alloc_eq_grow, Sort.grow_grow]; rfl⟩
  clear h
  by_cases h1 : 0 < bS
  · have d1 : decide (0 < bS) = true := decide_eq_true h1
    go_enter Tryd.func21, Tryd.ntmps21
    go_wp2
    go_ret
    exact ⟨by simp [h1], HG.out⟩
  · have d1 : decide (0 < bS) = false := decide_eq_false h1
    go_enter Tryd.func21, Tryd.ntmps21
    go_wp2
    go_ret
    exact ⟨by simp, HG.out⟩
/-- Two runs that lie over each other are of two owners, and for reading. -/
theorem sound_over {l : List Lk} (h : LInv l) {a q : Nat} {x y : Lk} (hx : l[a]? = some x) (hy : l[q]? = some y) (hqa : q ≠ a) (hN : y.N = x.N) (hG : y.G = x.G) (h1 : behB x.A y.A y.S = false) (h2 : behB y.A x.A x.S = false) : y.O ≠ x.O ∧ y.W = false ∧ x.W = false := by
  have hap : Apt y x := by
    obtain ⟨ha, rfl⟩ := List.getElem?_eq_some_iff.1 hx
    obtain ⟨hq, rfl⟩ := List.getElem?_eq_some_iff.1 hy
    rcases Nat.lt_or_ge q a with hlt | hge
    · exact List.pairwise_iff_getElem.1 h.apt q a hq ha hlt
    · exact (List.pairwise_iff_getElem.1 h.apt a q ha hq (by omega)).symm
  have hxo := h.ok x (List.mem_of_getElem? hx)
  have hyo := h.ok y (List.mem_of_getElem? hy)
  have hno : ¬ (y.e ≤ x.A ∨ x.e ≤ y.A) := by
    have x2 := hxo.s1; have y2 := hyo.s1; have x3 := hxo.a1; have y3 := hyo.a1; have x4 := hxo.s0; have y4 := hyo.s0
    unfold behB at h1 h2
    simp only [Bool.and_eq_false_iff, decide_eq_false_iff_not] at h1 h2
    unfold Lk.e endR farE
    split <;> split <;> omega
  obtain ⟨p1, p2⟩ := hap hN hG
  have ho : y.O ≠ x.O := fun e => hno (p1 e).1
  refine ⟨ho, ?_, ?_⟩
  · cases hw : y.W with
    | false => rfl
    | true => exact absurd (p2 ho (Or.inl hw)) hno
  · cases hw : x.W with
    | false => rfl
    | true => exact absurd (p2 ho (Or.inr hw)) hno
theorem sound_touch {l : List Lk} (h : LInv l) {a q : Nat} {x y : Lk} (hx : l[a]? = some x) (hy : l[q]? = some y) (hqa : q ≠ a) (hS : 0 < y.S) (ht : y.A + y.S = x.A) (hN : y.N = x.N) (hG : y.G = x.G) (hO : y.O = x.O) (hW : y.W = x.W) : False := by
  have hap : Apt y x := by
    obtain ⟨ha, rfl⟩ := List.getElem?_eq_some_iff.1 hx
    obtain ⟨hq, rfl⟩ := List.getElem?_eq_some_iff.1 hy
    rcases Nat.lt_or_ge q a with hlt | hge
    · exact List.pairwise_iff_getElem.1 h.apt q a hq ha hlt
    · exact (List.pairwise_iff_getElem.1 h.apt a q ha hq (by omega)).symm
  have := (((hap hN hG).1 hO).2 hW).1
  unfold Lk.e endR at this
  rw [if_neg (by omega)] at this
  exact this ht
set_option maxRecDepth 100000 in
set_option maxHeartbeats 8000000 in
theorem sound_walk (ad0 : Option Addr) (len cap : Nat) (A0 : Nat → Addr) (w : World) (hP : IsLActs w ad0 len) (hE : Err3 w A0) (hl : len ≤ 40) : Calls Tryd.prog 4 #[.slice ad0 len cap] w fun e w' => e = .returned (.bool true) ∧ Below w.heap.size w w' := by
  have HP : Hid (IsLActs w ad0 len) := hP
  have HE : Hid (Err3 w A0) := hE
  have hh := held_any A0 w hE
  have g1 : decide (40 < (len : Int)) = false := decide_eq_false (by omega)
  clear hP hE
  go_enter Tryd.func4, Tryd.ntmps4
  go_wp2_with (go_at_call 7; refine hh.mono ?_; rintro e w1 ⟨rfl, hb1⟩; have HW1 : Hid (LkW w (w1.alloc (.cells #[.slice none 0 0] 27)) w1.heap.size []) := LkW.fresh hb1; clear hh hb1)
  generalize w1.alloc (.cells #[.slice none 0 0] 27) = w2 at HW1 ⊢
  generalize w1.heap.size = t at HW1 ⊢
  clear g1
  go_loopw [5, 6] (fun i _a wr => ∃ (j : Nat) (l : List Lk), i = .int .i64 j ∧ j ≤ len ∧ LkW w wr t l) (fun i _ _ => len - (intOf i).toNat)
  case atStart => exact ⟨0, [], rfl, Nat.zero_le _, HW1.out⟩
  case round =>
    obtain ⟨j, l, rfl, hj, hW⟩ := hrel
    have HW : Hid (LkW w wr t l) := hW
    clear hW HW1
    by_cases hlt : j < len
    · have hj2 : (j : Int) < len := by omega
      obtain ⟨ab, ao, P, rfl, hPP⟩ := HP.out.resolve_left (by omega)
      obtain ⟨x, hx⟩ : ∃ x, P j = x := ⟨_, rfl⟩
      obtain ⟨p0, p1, p2, p3, p4, p5, p6⟩ := hPP j hlt
      rw [hx] at p0 p1 p2 p3 p4 p5 p6
      have k : ∀ (o : Nat) (u : Value), w.cell? ⟨ab, o, none⟩ = some u → wr.cell? ⟨ab, o, none⟩ = some u := fun o u hc => (HW.out.below.cell (p := ⟨ab, o, none⟩) (lt_of_cell hc)).trans hc
      have c0 := k _ _ p0
      have c1 := k _ _ p1
      have c2 := k _ _ p2
      have c3 := k _ _ p3
      have c4 := k _ _ p4
      have c5 := k _ _ p5
      have c6 := k _ _ p6
      clear p0 p1 p2 p3 p4 p5 p6 k hPP hx
      have HS1 : Hid (LkW w (wr.alloc (.cells #[.string x.K, .int .i64 x.N, .int .i64 x.G, .int .i64 x.O, .int .i64 x.A, .int .i64 x.S, .bool x.W] 37)) t l) := HW.out.only ((Only.refl [] wr).alloc _)
      have HLO : Hid (Calls Tryd.prog 8 #[.pointer (some ⟨t, 0, none⟩), .agg #[.int .i64 x.N, .int .i64 x.G], .int .i64 x.O, .agg #[.int .i64 x.A, .int .i64 x.S], .bool x.W] (wr.alloc (.cells #[.string x.K, .int .i64 x.N, .int .i64 x.G, .int .i64 x.O, .int .i64 x.A, .int .i64 x.S, .bool x.W] 37)) fun e w' => ∃ (r : Value) (res : Lk) (l' : List Lk), e = .returned (.tuple #[.agg #[.int .i64 res.N, .int .i64 res.G, .int .i64 res.O, .int .i64 res.A, .int .i64 res.S, .bool res.W], r]) ∧ LkW w w' t l') := (HS1.out.lock HE.out x.N x.G x.O x.A x.S x.W).mono fun e w' hh => by
        obtain ⟨c, r, res, l', he, _, hw, _⟩ := hh
        exact ⟨r, res, l', he, hw⟩
      have HUN : Hid (Calls Tryd.prog 14 #[.pointer (some ⟨t, 0, none⟩), .agg #[.int .i64 x.N, .int .i64 x.G], .int .i64 x.O, .agg #[.int .i64 x.A, .int .i64 x.S]] (wr.alloc (.cells #[.string x.K, .int .i64 x.N, .int .i64 x.G, .int .i64 x.O, .int .i64 x.A, .int .i64 x.S, .bool x.W] 37)) fun e w' => ∃ (r : Value) (l' : List Lk), e = .returned r ∧ LkW w w' t l') := (HS1.out.unlock HE.out x.N x.G x.O x.A x.S).mono fun e w' hh => by
        obtain ⟨c, r, l', he, _, hw, _⟩ := hh
        exact ⟨r, l', he, hw⟩
      have HDR : Hid (Calls Tryd.prog 16 #[.pointer (some ⟨t, 0, none⟩), .agg #[.int .i64 x.N, .int .i64 x.G], .int .i64 x.O] (wr.alloc (.cells #[.string x.K, .int .i64 x.N, .int .i64 x.G, .int .i64 x.O, .int .i64 x.A, .int .i64 x.S, .bool x.W] 37)) fun e w' => ∃ (r : Value) (l' : List Lk), e = .returned r ∧ LkW w w' t l') := (HS1.out.drop x.N x.G x.O).mono fun e w' hh => ⟨_, _, hh.1, hh.2⟩
      have hA := heap_alloc_last wr (.cells #[.string x.K, .int .i64 x.N, .int .i64 x.G, .int .i64 x.O, .int .i64 x.A, .int .i64 x.S, .bool x.W] 37)
      have y0 := cell_of_row _ _ 0 _ _ _ hA
      have y1 := cell_of_row _ _ 1 _ _ _ hA
      have y2 := cell_of_row _ _ 2 _ _ _ hA
      have y3 := cell_of_row _ _ 3 _ _ _ hA
      have y4 := cell_of_row _ _ 4 _ _ _ hA
      have y5 := cell_of_row _ _ 5 _ _ _ hA
      have y6 := cell_of_row _ _ 6 _ _ _ hA
      clear hA
      go_wp2_with (first
        | (go_at_call 8; refine HLO.out.mono ?_; rintro e w3 ⟨r, res, l3, rfl, hN3⟩; have HN3 : Hid (LkW w w3 t l3) := hN3; clear hN3 HLO HUN HDR c0 c1 c2 c3 c4 c5 c6 y0 y1 y2 y3 y4 y5 y6)
        | (go_at_call 14; refine HUN.out.mono ?_; rintro e w3 ⟨r, l3, rfl, hN3⟩; have HN3 : Hid (LkW w w3 t l3) := hN3; clear hN3 HLO HUN HDR c0 c1 c2 c3 c4 c5 c6 y0 y1 y2 y3 y4 y5 y6)
        | (go_at_call 16; refine HDR.out.mono ?_; rintro e w3 ⟨r, l3, rfl, hN3⟩; have HN3 : Hid (LkW w w3 t l3) := hN3; clear hN3 HLO HUN HDR c0 c1 c2 c3 c4 c5 c6 y0 y1 y2 y3 y4 y5 y6)
        | fail)
      all_goals go_roundw
      all_goals first
        | (case rel => first | exact ⟨j + 1, l3, by go_num, by omega, HN3.out⟩ | exact ⟨j + 1, l, by go_num, by omega, HS1.out⟩)
        | (case measure => simp [intOf]; omega)
    · obtain rfl : j = len := by omega
      have hj2 : decide ((j : Int) < j) = false := decide_eq_false (by omega)
      have hl60 := HW.out.len
      have HLI : Hid (Calls Tryd.prog 19 #[.pointer (some ⟨t, 0, none⟩)] wr fun e w' => ∃ ad cp, e = .returned (.slice ad l.length cp) ∧ Lks w' wr.heap.size (.slice ad l.length cp) l ∧ (l ≠ [] → ∃ g, ad = some ⟨g, 0, none⟩) ∧ Only [] wr w') := HW.out.list.mono fun e w' hh => by
        obtain ⟨v, he, hl, ho⟩ := hh
        obtain ⟨ad, cp, rfl, had, _⟩ := row_form hl
        exact ⟨ad, cp, he, hl, had, ho⟩
      obtain ⟨n, hn⟩ : ∃ n, l.length = n := ⟨_, rfl⟩
      rw [hn] at HLI hl60
      have HN : Hid (l.length = n) := hn
      clear hn
      go_wp2_with (go_at_call 19; refine HLI.out.mono ?_; rintro e w3 ⟨ad, cp, rfl, hO3, had, ho3⟩; have HA : Hid (l ≠ [] → ∃ g, ad = some ⟨g, 0, none⟩) := had; have HO3 : Hid (Lks w3 wr.heap.size (.slice ad n cp) l) := hO3; have HS3 : Hid (LkW w w3 t l) := HW.out.only ho3; clear hO3 had ho3 HLI)
      clear hj2
      have mixed : Tryd.prog.follows Departure.mixedOrders = true := by kernel_rfl
      have HBE : Hid (∀ aA aS bA bS W r, OkR bA bS → behB aA bA bS = r → Calls Tryd.prog 21 #[.agg #[.int .i64 aA, .int .i64 aS], .agg #[.int .i64 bA, .int .i64 bS]] W fun e w' => e = .returned (.bool r) ∧ ∃ q os', w' = Sort.grow (W.drewN q) os') := fun aA aS bA bS W r h e => by
        have := behind_grown aA aS bA bS W h
        rw [e] at this
        exact this
      go_loopw [8, 9, 10, 11] (fun i _b _c _d wx => ∃ j : Nat, j ≤ n ∧ i = .int .i64 j ∧ Only [] w3 wx) (fun i _ _ _ _ => n - (intOf i).toNat)
      case atStart => exact ⟨0, Nat.zero_le _, rfl, Only.refl _ _⟩
      case round =>
        obtain ⟨a, ha, rfl, ho⟩ := hrel
        have HO : Hid (Only [] w3 wr) := ho
        clear ho
        by_cases han : a < n
        · obtain ⟨x, hx⟩ : ∃ x, l[a]? = some x := ⟨_, List.getElem?_eq_getElem (by rw [HN.out]; exact han)⟩
          obtain ⟨g, rfl⟩ := HA.out (fun e => by rw [e] at hx; cases hx)
          have HX : Hid (l[a]? = some x) := hx
          have HXO : Hid (OkR x.A x.S) := HS3.out.inv.ok x (List.mem_of_getElem? hx)
          have HCL : Hid (∀ W m y, Only [] w3 W → l[m]? = some y → W.cell? ⟨g, m * 6, none⟩ = some (.int .i64 y.N) ∧ W.cell? ⟨g, m * 6 + 1, none⟩ = some (.int .i64 y.G) ∧ W.cell? ⟨g, m * 6 + 2, none⟩ = some (.int .i64 y.O) ∧ W.cell? ⟨g, m * 6 + 3, none⟩ = some (.int .i64 y.A) ∧ W.cell? ⟨g, m * 6 + 4, none⟩ = some (.int .i64 y.S) ∧ W.cell? ⟨g, m * 6 + 5, none⟩ = some (.bool y.W)) := fun W m y ho hy => lk_cells (HO3.out.only ho (fun _ _ => by simp)) HN.out hy
          have hai : (a : Int) < n := by omega
          clear hx
          go_wp2
          go_loopw [9] (fun k wx => ∃ q : Nat, q ≤ n ∧ k = .int .i64 q ∧ Only [] w3 wx) (fun k _ => n - (intOf k).toNat)
          case atStart => exact ⟨0, Nat.zero_le _, rfl, HO.out⟩
          case round =>
            obtain ⟨q, hq, rfl, hoq⟩ := hrel
            have HQ : Hid (Only [] w3 wr) := hoq
            clear hoq
            by_cases hqn : q < n
            · obtain ⟨y, hy⟩ : ∃ y, l[q]? = some y := ⟨_, List.getElem?_eq_getElem (by rw [HN.out]; exact hqn)⟩
              obtain ⟨x0, x1, x2, x3, x4, x5⟩ := HCL.out wr a x HQ.out HX.out
              obtain ⟨y0, y1, y2, y3, y4, y5⟩ := HCL.out wr q y HQ.out hy
              have hqi : (q : Int) < n := by omega
              have HYO : Hid (OkR y.A y.S) := HS3.out.inv.ok y (List.mem_of_getElem? hy)
              have HY : Hid (l[q]? = some y) := hy
              clear hy
              by_cases hqa : q = a
              · subst hqa
                as_aux_lemma =>
                  go_wp2
                  go_big_quiet (fail)
                  go_wp2
                  go_roundw
                  case rel => exact ⟨q + 1, by omega, by go_num, HQ.out.drewsN _⟩
                  case measure => simp [intOf]; omega
              · have dqa : ((q : Int) == (a : Int)) = false := beq_eq_false_iff_ne.2 (by omega)
                by_cases hN : y.N = x.N
                · by_cases hG : y.G = x.G
                  · rw [hN] at y0
                    rw [hG] at y1
                    cases hb1 : behB x.A y.A y.S with
                    | true =>
                      clear hN hG
                      as_aux_lemma =>
                        have z0 := fun n os => cell_grown (w := wr) (lt_of_cell x0) x0 n os
                        have z1 := fun n os => cell_grown (w := wr) (lt_of_cell x1) x1 n os
                        have z3 := fun n os => cell_grown (w := wr) (lt_of_cell x3) x3 n os
                        have z4 := fun n os => cell_grown (w := wr) (lt_of_cell x4) x4 n os
                        have v0 := fun n os => cell_grown (w := wr) (lt_of_cell y0) y0 n os
                        have v1 := fun n os => cell_grown (w := wr) (lt_of_cell y1) y1 n os
                        have v3 := fun n os => cell_grown (w := wr) (lt_of_cell y3) y3 n os
                        have v4 := fun n os => cell_grown (w := wr) (lt_of_cell y4) y4 n os
                        go_wp2
                        refine wp_region_quiet_grown (by assumption) (by kernel_rfl) ?_
                        repeat (first | go_big_quiet_skip | quiet_step (first | (go_at_call 21; refine Calls.grown_of (HBE.out _ _ _ _ _ _ (by first | exact HXO.out | exact HYO.out) (by exact hb1)))))
                        refine wpQuiet_nil ?_
                        intro _ hw'
                        obtain ⟨⟨nq, osq⟩, hw2⟩ := hw'
                        subst hw2
                        have HO4 : Hid (Only [] w3 (Sort.grow (wr.drewN nq) osq)) := only_grow (HQ.out.drewsN nq) osq
                        clear z0 z1 z3 z4 v0 v1 v3 v4 x0 x1 x2 x3 x4 x5 y0 y1 y2 y3 y4 y5
                        generalize Sort.grow (wr.drewN nq) osq = wg at HO4 ⊢
                        go_wp2
                        go_roundw
                        case rel => exact ⟨q + 1, by omega, by go_num, HO4.out⟩
                        case measure => simp [intOf]; omega
                    | false =>
                      cases hb2 : behB y.A x.A x.S with
                      | true =>
                        clear hN hG
                        as_aux_lemma =>
                          have z0 := fun n os => cell_grown (w := wr) (lt_of_cell x0) x0 n os
                          have z1 := fun n os => cell_grown (w := wr) (lt_of_cell x1) x1 n os
                          have z3 := fun n os => cell_grown (w := wr) (lt_of_cell x3) x3 n os
                          have z4 := fun n os => cell_grown (w := wr) (lt_of_cell x4) x4 n os
                          have v0 := fun n os => cell_grown (w := wr) (lt_of_cell y0) y0 n os
                          have v1 := fun n os => cell_grown (w := wr) (lt_of_cell y1) y1 n os
                          have v3 := fun n os => cell_grown (w := wr) (lt_of_cell y3) y3 n os
                          have v4 := fun n os => cell_grown (w := wr) (lt_of_cell y4) y4 n os
                          go_wp2
                          refine wp_region_quiet_grown (by assumption) (by kernel_rfl) ?_
                          repeat (first | go_big_quiet_skip | quiet_step (first | (go_at_call 21; refine Calls.grown_of (HBE.out _ _ _ _ _ _ (by first | exact HXO.out | exact HYO.out) (by first | exact hb1 | exact hb2)))))
                          refine wpQuiet_nil ?_
                          intro _ hw'
                          obtain ⟨⟨nq, osq⟩, hw2⟩ := hw'
                          subst hw2
                          have HO4 : Hid (Only [] w3 (Sort.grow (wr.drewN nq) osq)) := only_grow (HQ.out.drewsN nq) osq
                          clear z0 z1 z3 z4 v0 v1 v3 v4 x0 x1 x2 x3 x4 x5 y0 y1 y2 y3 y4 y5
                          generalize Sort.grow (wr.drewN nq) osq = wg at HO4 ⊢
                          go_wp2
                          go_roundw
                          case rel => exact ⟨q + 1, by omega, by go_num, HO4.out⟩
                          case measure => simp [intOf]; omega
                      | false =>
                        obtain ⟨hO, hW1, hW2⟩ := sound_over HS3.out.inv HX.out HY.out hqa hN hG hb1 hb2
                        have dO : (y.O == x.O) = false := beq_eq_false_iff_ne.2 hO
                        clear hN hG
                        as_aux_lemma =>
                          have z0 := fun n os => cell_grown (w := wr) (lt_of_cell x0) x0 n os
                          have z1 := fun n os => cell_grown (w := wr) (lt_of_cell x1) x1 n os
                          have z3 := fun n os => cell_grown (w := wr) (lt_of_cell x3) x3 n os
                          have z4 := fun n os => cell_grown (w := wr) (lt_of_cell x4) x4 n os
                          have v0 := fun n os => cell_grown (w := wr) (lt_of_cell y0) y0 n os
                          have v1 := fun n os => cell_grown (w := wr) (lt_of_cell y1) y1 n os
                          have v3 := fun n os => cell_grown (w := wr) (lt_of_cell y3) y3 n os
                          have v4 := fun n os => cell_grown (w := wr) (lt_of_cell y4) y4 n os
                          go_wp2
                          refine wp_region_quiet_grown (by assumption) (by kernel_rfl) ?_
                          repeat (first | go_big_quiet_skip | quiet_step (first | (go_at_call 21; refine Calls.grown_of (HBE.out _ _ _ _ _ _ (by first | exact HXO.out | exact HYO.out) (by first | exact hb1 | exact hb2)))))
                          refine wpQuiet_nil ?_
                          intro _ hw'
                          obtain ⟨⟨nq, osq⟩, hw2⟩ := hw'
                          subst hw2
                          have HO4 : Hid (Only [] w3 (Sort.grow (wr.drewN nq) osq)) := only_grow (HQ.out.drewsN nq) osq
                          clear z0 z1 z3 z4 v0 v1 v3 v4 x0 x1 x2 x3 x4 x5 y0 y1 y2 y3 y4 y5
                          generalize Sort.grow (wr.drewN nq) osq = wg at HO4 ⊢
                          go_wp2
                          obtain ⟨x0, x1, x2, x3, x4, x5⟩ := HCL.out wg a x HO4.out HX.out
                          obtain ⟨y0, y1, y2, y3, y4, y5⟩ := HCL.out wg q y HO4.out HY.out
                          rw [hW1] at y5
                          rw [hW2] at x5
                          go_big_quiet (fail)
                          go_wp2
                          go_roundw
                          case rel => exact ⟨q + 1, by omega, by go_num, HO4.out.drewsN _⟩
                          case measure => simp [intOf]; omega
                  · have dG : (y.G == x.G) = false := beq_eq_false_iff_ne.2 hG
                    rw [hN] at y0
                    clear hN hG
                    as_aux_lemma =>
                      go_wp2
                      go_big_quiet (fail)
                      go_wp2
                      go_roundw
                      case rel => exact ⟨q + 1, by omega, by go_num, HQ.out.drewsN _⟩
                      case measure => simp [intOf]; omega
                · have dN : (y.N == x.N) = false := beq_eq_false_iff_ne.2 hN
                  clear hN
                  as_aux_lemma =>
                    go_wp2
                    go_big_quiet (fail)
                    go_wp2
                    go_roundw
                    case rel => exact ⟨q + 1, by omega, by go_num, HQ.out.drewsN _⟩
                    case measure => simp [intOf]; omega
            · obtain rfl : q = n := by omega
              have hqd : decide ((q : Int) < q) = false := decide_eq_false (by omega)
              go_wp2
              go_loopw [10, 11] (fun k _d wx => ∃ q2 : Nat, q2 ≤ a ∧ k = .int .i64 q2 ∧ Only [] w3 wx) (fun k _ _ => a - (intOf k).toNat)
              case atStart => exact ⟨0, Nat.zero_le _, rfl, HQ.out⟩
              case round =>
                obtain ⟨k2, hk2, rfl, hok2⟩ := hrel
                have HQ : Hid (Only [] w3 wr) := hok2
                clear hok2
                by_cases hka : k2 < a
                · obtain ⟨y, hy⟩ : ∃ y, l[k2]? = some y := ⟨_, List.getElem?_eq_getElem (by rw [HN.out]; omega)⟩
                  obtain ⟨x0, x1, x2, x3, x4, x5⟩ := HCL.out wr a x HQ.out HX.out
                  obtain ⟨y0, y1, y2, y3, y4, y5⟩ := HCL.out wr k2 y HQ.out hy
                  have hki : (k2 : Int) < a := by omega
                  have hkn : (k2 : Int) < q := by omega
                  have HY : Hid (l[k2]? = some y) := hy
                  have hyo : OkR y.A y.S := HS3.out.inv.ok y (List.mem_of_getElem? hy)
                  have hadd : IntKind.i64.wrap (y.A + y.S) = y.A + y.S := by
                    have := hyo.a0; have := hyo.s0; have := hyo.s1
                    simp [IntKind.wrap, IntKind.bits, IntKind.signed]; omega
                  clear hy hyo
                  by_cases hS : 0 < y.S
                  · have dS : decide (0 < y.S) = true := decide_eq_true hS
                    by_cases hT : y.A + y.S = x.A
                    · have dT : ((y.A + y.S) == x.A) = true := beq_iff_eq.2 hT
                      by_cases hN : y.N = x.N
                      · by_cases hG : y.G = x.G
                        · by_cases hO : y.O = x.O
                          · have hW : y.W ≠ x.W := fun e => sound_touch HS3.out.inv HX.out HY.out (by omega) hS hT hN hG hO e
                            have HNE : Hid (y.N = x.N ∧ y.G = x.G ∧ y.O = x.O) := ⟨hN, hG, hO⟩
                            have dW : (y.W == x.W) = false := by cases hyw : y.W <;> cases hxw : x.W <;> simp_all
                            clear hN hG hO hW hT
                            as_aux_lemma =>
                              go_wp2
                              go_big_quiet (fail)
                              have HQ2 : Hid (Only [] w3 (wr.drewN nq)) := HQ.out.drewsN _
                              clear x0 x1 x2 x3 x4 x5 y0 y1 y2 y3 y4 y5
                              generalize wr.drewN nq = wq at HQ2 ⊢
                              obtain ⟨x0, x1, x2, x3, x4, x5⟩ := HCL.out wq a x HQ2.out HX.out
                              obtain ⟨y0, y1, y2, y3, y4, y5⟩ := HCL.out wq k2 y HQ2.out HY.out
                              rw [HNE.out.1] at y0
                              rw [HNE.out.2.1] at y1
                              rw [HNE.out.2.2] at y2
                              go_wp2
                              go_big_quiet (fail)
                              go_wp2
                              go_roundw
                              case rel => exact ⟨k2 + 1, by omega, by go_num, HQ2.out.drewsN _⟩
                              case measure => simp [intOf]; omega
                          · have dO : (y.O == x.O) = false := beq_eq_false_iff_ne.2 hO
                            have HNE : Hid (y.N = x.N ∧ y.G = x.G) := ⟨hN, hG⟩
                            clear hN hG hO hT
                            as_aux_lemma =>
                              go_wp2
                              go_big_quiet (fail)
                              have HQ2 : Hid (Only [] w3 (wr.drewN nq)) := HQ.out.drewsN _
                              clear x0 x1 x2 x3 x4 x5 y0 y1 y2 y3 y4 y5
                              generalize wr.drewN nq = wq at HQ2 ⊢
                              obtain ⟨x0, x1, x2, x3, x4, x5⟩ := HCL.out wq a x HQ2.out HX.out
                              obtain ⟨y0, y1, y2, y3, y4, y5⟩ := HCL.out wq k2 y HQ2.out HY.out
                              rw [HNE.out.1] at y0
                              rw [HNE.out.2] at y1
                              go_wp2
                              go_big_quiet (fail)
                              go_wp2
                              go_roundw
                              case rel => exact ⟨k2 + 1, by omega, by go_num, HQ2.out.drewsN _⟩
                              case measure => simp [intOf]; omega
                        · have dG : (y.G == x.G) = false := beq_eq_false_iff_ne.2 hG
                          have HNE : Hid (y.N = x.N) := hN
                          clear hN hG hT
                          as_aux_lemma =>
                            go_wp2
                            go_big_quiet (fail)
                            have HQ2 : Hid (Only [] w3 (wr.drewN nq)) := HQ.out.drewsN _
                            clear x0 x1 x2 x3 x4 x5 y0 y1 y2 y3 y4 y5
                            generalize wr.drewN nq = wq at HQ2 ⊢
                            obtain ⟨x0, x1, x2, x3, x4, x5⟩ := HCL.out wq a x HQ2.out HX.out
                            obtain ⟨y0, y1, y2, y3, y4, y5⟩ := HCL.out wq k2 y HQ2.out HY.out
                            rw [HNE.out] at y0
                            go_wp2
                            go_big_quiet (fail)
                            go_wp2
                            go_roundw
                            case rel => exact ⟨k2 + 1, by omega, by go_num, HQ2.out.drewsN _⟩
                            case measure => simp [intOf]; omega
                      · have dN : (y.N == x.N) = false := beq_eq_false_iff_ne.2 hN
                        clear hN hT
                        as_aux_lemma =>
                          go_wp2
                          go_big_quiet (fail)
                          have HQ2 : Hid (Only [] w3 (wr.drewN nq)) := HQ.out.drewsN _
                          clear x0 x1 x2 x3 x4 x5 y0 y1 y2 y3 y4 y5
                          generalize wr.drewN nq = wq at HQ2 ⊢
                          obtain ⟨x0, x1, x2, x3, x4, x5⟩ := HCL.out wq a x HQ2.out HX.out
                          obtain ⟨y0, y1, y2, y3, y4, y5⟩ := HCL.out wq k2 y HQ2.out HY.out
                          go_wp2
                          go_big_quiet (fail)
                          go_wp2
                          go_roundw
                          case rel => exact ⟨k2 + 1, by omega, by go_num, HQ2.out.drewsN _⟩
                          case measure => simp [intOf]; omega
                    · have dT : ((y.A + y.S) == x.A) = false := beq_eq_false_iff_ne.2 hT
                      clear hT
                      as_aux_lemma =>
                        go_wp2
                        go_big_quiet (fail)
                        have HQ2 : Hid (Only [] w3 (wr.drewN nq)) := HQ.out.drewsN _
                        clear x0 x1 x2 x3 x4 x5 y0 y1 y2 y3 y4 y5
                        generalize wr.drewN nq = wq at HQ2 ⊢
                        obtain ⟨x0, x1, x2, x3, x4, x5⟩ := HCL.out wq a x HQ2.out HX.out
                        obtain ⟨y0, y1, y2, y3, y4, y5⟩ := HCL.out wq k2 y HQ2.out HY.out
                        go_wp2
                        go_big_quiet (fail)
                        go_wp2
                        go_roundw
                        case rel => exact ⟨k2 + 1, by omega, by go_num, HQ2.out.drewsN _⟩
                        case measure => simp [intOf]; omega
                  · have dS : decide (0 < y.S) = false := decide_eq_false hS
                    as_aux_lemma =>
                      go_wp2
                      go_big_quiet (fail)
                      have HQ2 : Hid (Only [] w3 (wr.drewN nq)) := HQ.out.drewsN _
                      clear x0 x1 x2 x3 x4 x5 y0 y1 y2 y3 y4 y5
                      generalize wr.drewN nq = wq at HQ2 ⊢
                      obtain ⟨x0, x1, x2, x3, x4, x5⟩ := HCL.out wq a x HQ2.out HX.out
                      obtain ⟨y0, y1, y2, y3, y4, y5⟩ := HCL.out wq k2 y HQ2.out HY.out
                      go_wp2
                      go_big_quiet (fail)
                      go_wp2
                      go_roundw
                      case rel => exact ⟨k2 + 1, by omega, by go_num, HQ2.out.drewsN _⟩
                      case measure => simp [intOf]; omega
                · obtain rfl : k2 = a := by omega
                  have hkd : decide ((k2 : Int) < k2) = false := decide_eq_false (by omega)
                  go_wp2
                  go_roundw
                  case rel => exact ⟨k2 + 1, by omega, by go_num, HQ.out⟩
                  case measure => simp [intOf]; omega
        · obtain rfl : a = n := by omega
          have had2 : decide ((a : Int) < a) = false := decide_eq_false (by omega)
          have h60d : decide ((a : Int) ≤ 60) = true := decide_eq_true (by omega)
          have HB : Hid (Below w.heap.size w wr) := (HS3.out.only HO.out).below
          go_wp2
          go_ret
          exact ⟨by simp, HB.out⟩
end Go.Proofs.YtfnniphemlnanaaDoor
