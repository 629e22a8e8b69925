/- ShareSound: the walk. -/
import Derived.Test.YtagpahgjbglmaaaDoorSh23
namespace Go.Proofs.YtagpahgjbglmaaaDoor
open Go Go.RowKit Go.Deep

theorem SActsAt.below {W w : World} {ab ao len : Nat} {P : Nat → SActM} (h : SActsAt W ab ao len P) (hb : Below W.heap.size W w) : SActsAt w ab ao len P := fun i hi => by
  obtain ⟨a, b, c, d, e, f⟩ := h i hi
  exact ⟨(hb.cell (p := ⟨ab, ao + i * 6, none⟩) (lt_of_cell a)).trans a, (hb.cell (p := ⟨ab, ao + i * 6 + 1, none⟩) (lt_of_cell b)).trans b, (hb.cell (p := ⟨ab, ao + i * 6 + 2, none⟩) (lt_of_cell c)).trans c, (hb.cell (p := ⟨ab, ao + i * 6 + 3, none⟩) (lt_of_cell d)).trans d, (hb.cell (p := ⟨ab, ao + i * 6 + 4, none⟩) (lt_of_cell e)).trans e, (hb.cell (p := ⟨ab, ao + i * 6 + 5, none⟩) (lt_of_cell f)).trans f⟩
def SoW (W w : World) (t : Nat) (l : List Opn) : Prop := ShW W w t l ∧ SoundO l
theorem SoW.open {W w : World} {t : Nat} {l : List Opn} {A : Nat → Addr} (h : SoW W w t l) (hE : Err5 W A) (x : SActM) : Calls Tryd.prog 6 #[.pointer (some ⟨t, 0, none⟩), .agg #[.int .i64 x.N, .int .i64 x.G], .int .i64 x.O, .int .i64 x.A, .int .i64 x.D] w fun e w' => ∃ r l', e = .returned r ∧ SoW W w' t l' :=
  (h.1.open hE x.N x.G x.O x.A x.D).mono fun e w' hh => by
    obtain ⟨c, r, l', he, hr, hs⟩ := hh
    exact ⟨r, l', he, hs, hr.sound h.1.good h.2⟩
theorem SoW.down {W w : World} {t : Nat} {l : List Opn} {A : Nat → Addr} (h : SoW W w t l) (hE : Err5 W A) (x : SActM) : Calls Tryd.prog 8 #[.pointer (some ⟨t, 0, none⟩), .agg #[.int .i64 x.N, .int .i64 x.G], .int .i64 x.O, .int .i64 x.A, .int .i64 x.D] w fun e w' => ∃ r l', e = .returned r ∧ SoW W w' t l' :=
  (h.1.down hE x.N x.G x.O x.A x.D).mono fun e w' hh => by
    obtain ⟨c, r, l', he, hr, hs⟩ := hh
    exact ⟨r, l', he, hs, hr.sound h.1.good h.2⟩
theorem SoW.close {W w : World} {t : Nat} {l : List Opn} {A : Nat → Addr} (h : SoW W w t l) (hE : Err5 W A) (x : SActM) : Calls Tryd.prog 10 #[.pointer (some ⟨t, 0, none⟩), .agg #[.int .i64 x.N, .int .i64 x.G], .int .i64 x.O] w fun e w' => ∃ r l', e = .returned r ∧ SoW W w' t l' :=
  (h.1.close hE x.N x.G x.O).mono fun e w' hh => by
    obtain ⟨c, r, l', he, hr, hs⟩ := hh
    exact ⟨r, l', he, hs, hr.sound h.2⟩
theorem SoW.drop {W w : World} {t : Nat} {l : List Opn} (h : SoW W w t l) (x : SActM) : Calls Tryd.prog 16 #[.pointer (some ⟨t, 0, none⟩), .int .i64 x.O] w fun e w' => ∃ r l', e = .returned r ∧ SoW W w' t l' :=
  (h.1.drop x.O).mono fun _ _ hh => ⟨_, _, hh.1, hh.2, h.2.sub (kept_sub x.O l)⟩
theorem sact_cells {w W : World} {x : SActM} (ho : Only [] (w.alloc (.cells #[.string x.K, .int .i64 x.N, .int .i64 x.G, .int .i64 x.O, .int .i64 x.A, .int .i64 x.D] 35)) W) : W.cell? ⟨w.heap.size, 0, none⟩ = some (.string x.K) ∧ W.cell? ⟨w.heap.size, 1, none⟩ = some (.int .i64 x.N) ∧ W.cell? ⟨w.heap.size, 2, none⟩ = some (.int .i64 x.G) ∧ W.cell? ⟨w.heap.size, 3, none⟩ = some (.int .i64 x.O) ∧ W.cell? ⟨w.heap.size, 4, none⟩ = some (.int .i64 x.A) ∧ W.cell? ⟨w.heap.size, 5, none⟩ = some (.int .i64 x.D) := by
  have hh := heap_alloc_last w (.cells #[.string x.K, .int .i64 x.N, .int .i64 x.G, .int .i64 x.O, .int .i64 x.A, .int .i64 x.D] 35)
  have hl : w.heap.size < (w.alloc (.cells #[.string x.K, .int .i64 x.N, .int .i64 x.G, .int .i64 x.O, .int .i64 x.A, .int .i64 x.D] 35)).heap.size := by simp
  exact ⟨(ho.cell (p := ⟨w.heap.size, 0, none⟩) hl (by simp)).trans (cell_of_row _ _ 0 _ _ _ hh), (ho.cell (p := ⟨w.heap.size, 1, none⟩) hl (by simp)).trans (cell_of_row _ _ 1 _ _ _ hh), (ho.cell (p := ⟨w.heap.size, 2, none⟩) hl (by simp)).trans (cell_of_row _ _ 2 _ _ _ hh), (ho.cell (p := ⟨w.heap.size, 3, none⟩) hl (by simp)).trans (cell_of_row _ _ 3 _ _ _ hh), (ho.cell (p := ⟨w.heap.size, 4, none⟩) hl (by simp)).trans (cell_of_row _ _ 4 _ _ _ hh), (ho.cell (p := ⟨w.heap.size, 5, none⟩) hl (by simp)).trans (cell_of_row _ _ 5 _ _ _ hh)⟩
theorem list_form {W w : World} {t : Nat} {l : List Opn} (h : ShW W w t l) : Calls Tryd.prog 21 #[.pointer (some ⟨t, 0, none⟩)] w fun e w' => ∃ ad cp, e = .returned (.slice ad l.length cp) ∧ Opns w' w.heap.size (.slice ad l.length cp) l ∧ (l ≠ [] → ∃ g, ad = some ⟨g, 0, none⟩) ∧ Only [] w w' :=
  h.list.mono fun e w' hh => by
    obtain ⟨v, he, hO, ho⟩ := hh
    rcases hO.open with ⟨rfl, rfl⟩ | ⟨g, cp, cur, rfl, _⟩
    · exact ⟨none, 0, he, hO, fun hn => absurd rfl hn, ho⟩
    · exact ⟨_, cp, he, hO, fun _ => ⟨g, rfl⟩, ho⟩
theorem may_there {W w : World} {t : Nat} {l : List Opn} {A : Nat → Addr} {x : Opn} (h : ShW W w t l) (hE : Err5 W A) (hx : x ∈ l) : Calls Tryd.prog 12 #[.pointer (some ⟨t, 0, none⟩), .agg #[.int .i64 x.N, .int .i64 x.G], .int .i64 x.O, .int .i64 x.A] w fun e w' => e = .returned .nilIface ∧ Only [] w w' :=
  (h.may hE x.N x.G x.O x.A).mono fun e w' hh => by
    obtain ⟨c, r, he, hr, ho⟩ := hh
    rw [MayR.there h.good hx hr] at he
    exact ⟨he, ho⟩
theorem sound_pair {W w : World} {t : Nat} {l : List Opn} {x y : Opn} {a q : Nat} (h : SoW W w t l) (hx : l[a]? = some x) (hy : l[q]? = some y) (hne : q ≠ a) (h1 : y.N = x.N) (h2 : y.G = x.G) : y.O ≠ x.O ∧ meetB x.A y.D = false := by
  have ho : y.O ≠ x.O := fun e => by
    rcases Nat.lt_trichotomy q a with h3 | h3 | h3
    · have := h.1.good.sorted.get h3 hy hx
      unfold ltO at this
      omega
    · exact hne h3
    · have := h.1.good.sorted.get h3 hx hy
      unfold ltO at this
      omega
  exact ⟨ho, h.2 x (List.mem_of_getElem? hx) y (List.mem_of_getElem? hy) h1.symm h2.symm (fun e => ho e.symm)⟩
theorem bitsMeet_any (a b : Int) (w : World) (ha : 0 ≤ a ∧ a ≤ 3) (hb : 0 ≤ b ∧ b ≤ 3) : Calls Tryd.prog 23 #[.int .i64 a, .int .i64 b] w fun e w' => e = .returned (.bool (meetB a b)) ∧ w = w' := by
  rcases upto3 ha.1 ha.2 with rfl | rfl | rfl | rfl <;> rcases upto3 hb.1 hb.2 with rfl | rfl | rfl | rfl
  all_goals
    go_enter Tryd.func23, Tryd.ntmps23
    go_wp2
    go_ret
    exact ⟨rfl, rfl⟩
set_option maxRecDepth 100000 in
set_option maxHeartbeats 8000000 in
theorem ssound_walk (ab ao len cap : Nat) (P : Nat → SActM) (A : Nat → Addr) (w : World) (hp : SActsAt w ab ao len P) (hlen : len ≤ 80) (hE : Err5 w A) :
    Calls Tryd.prog 4 #[.slice (some ⟨ab, ao, none⟩) len cap] w fun e w' => e = .returned (.bool true) ∧ Below w.heap.size w w' := by
  have hsh := shared_any A w hE
  have HE : Hid (Err5 w A) := hE
  have HP : Hid (SActsAt w ab ao len P) := hp
  have hd1 : decide (80 < (len : Int)) = false := decide_eq_false (by omega)
  clear hE hp
  go_enter Tryd.func4, Tryd.ntmps4
  go_wp2_with (go_at_call 5; refine hsh.mono ?_; rintro e w1 ⟨rfl, hb1⟩; have HS0 : Hid (SoW w (w1.alloc (.cells #[.slice none 0 0] 27)) w1.heap.size []) := ⟨ShW.fresh hb1, fun x hx => by cases hx⟩; clear hsh hb1)
  clear hd1
  generalize w1.alloc (.cells #[.slice none 0 0] 27) = w2 at HS0 ⊢
  generalize w1.heap.size = t at HS0 ⊢
  go_loopw [5] (fun i wr => ∃ (j : Nat) (l : List Opn), j ≤ len ∧ i = .int .i64 j ∧ SoW w wr t l) (fun i _ => len - (intOf i).toNat)
  case atStart => exact ⟨0, [], Nat.zero_le _, rfl, HS0.out⟩
  case round =>
    obtain ⟨j, l, hj, rfl, hS⟩ := hrel
    have HS : Hid (SoW w wr t l) := hS
    clear HS0 hS
    by_cases hlt : j < len
    · obtain ⟨c0, c1, c2, c3, c4, c5⟩ := (HP.out.below HS.out.1.below) j hlt
      generalize P j = x at c0 c1 c2 c3 c4 c5
      have HS1 : Hid (SoW w (wr.alloc (.cells #[.string x.K, .int .i64 x.N, .int .i64 x.G, .int .i64 x.O, .int .i64 x.A, .int .i64 x.D] 35)) t l) := ⟨HS.out.1.only ((Only.refl [] wr).alloc _), HS.out.2⟩
      have HO : Hid (∀ _u : Unit, _) := fun _u => HS1.out.open HE.out x
      have HD : Hid (∀ _u : Unit, _) := fun _u => HS1.out.down HE.out x
      have HC : Hid (∀ _u : Unit, _) := fun _u => HS1.out.close HE.out x
      have HR : Hid (∀ _u : Unit, _) := fun _u => HS1.out.drop x
      obtain ⟨y0, y1, y2, y3, y4, y5⟩ := sact_cells (w := wr) (x := x) (Only.refl [] _)
      go_wp2_with (first
        | (go_at_call 6; refine (HO.out ()).mono ?_; rintro e w3 ⟨r, l3, rfl, hN3⟩; have HN3 : Hid (SoW w w3 t l3) := hN3; clear hN3 HO HD HC HR c0 c1 c2 c3 c4 c5 y0 y1 y2 y3 y4 y5)
        | (go_at_call 8; refine (HD.out ()).mono ?_; rintro e w3 ⟨r, l3, rfl, hN3⟩; have HN3 : Hid (SoW w w3 t l3) := hN3; clear hN3 HO HD HC HR c0 c1 c2 c3 c4 c5 y0 y1 y2 y3 y4 y5)
        | (go_at_call 10; refine (HC.out ()).mono ?_; rintro e w3 ⟨r, l3, rfl, hN3⟩; have HN3 : Hid (SoW w w3 t l3) := hN3; clear hN3 HO HD HC HR c0 c1 c2 c3 c4 c5 y0 y1 y2 y3 y4 y5)
        | (go_at_call 16; refine (HR.out ()).mono ?_; rintro e w3 ⟨r, l3, rfl, hN3⟩; have HN3 : Hid (SoW w w3 t l3) := hN3; clear hN3 HO HD HC HR c0 c1 c2 c3 c4 c5 y0 y1 y2 y3 y4 y5)
        | fail)
      all_goals go_roundw
      all_goals first
        | (case rel => first | exact ⟨j + 1, l3, by omega, by go_num, HN3.out⟩ | exact ⟨j + 1, l, by omega, by go_num, HS1.out⟩)
        | (case measure => simp [intOf]; omega)
    · obtain rfl : j = len := by omega
      have HL : Hid (∀ _u : Unit, _) := fun _u => list_form HS.out.1
      have hl40 := HS.out.1.good.most
      obtain ⟨n, hn⟩ : ∃ n, l.length = n := ⟨_, rfl⟩
      rw [hn] at HL hl40
      have HN : Hid (l.length = n) := hn
      clear hn
      have hd40 : decide (40 < (n : Int)) = false := decide_eq_false (by omega)
      go_wp2_with (go_at_call 21; refine (HL.out ()).mono ?_; rintro e w3 ⟨ad, cp, rfl, hO3, had, ho3⟩; have HA : Hid (l ≠ [] → ∃ g, ad = some ⟨g, 0, none⟩) := had; have HO3 : Hid (Opns w3 wr.heap.size (.slice ad n cp) l) := hO3; have HS3 : Hid (SoW w w3 t l) := ⟨HS.out.1.only ho3, HS.out.2⟩; clear HL hO3 had ho3)
      clear hd40
      go_loopw [8] (fun i wx => ∃ j : Nat, j ≤ n ∧ i = .int .i64 j ∧ Only [] w3 wx) (fun i _ => n - (intOf i).toNat)
      case atStart => exact ⟨0, Nat.zero_le _, rfl, Only.refl _ _⟩
      case round =>
        obtain ⟨a, ha, rfl, ho⟩ := hrel
        have HO : Hid (Only [] w3 wr) := ho
        clear ho
        by_cases han : a < n
        · obtain ⟨x, hx⟩ : ∃ x, l[a]? = some x := ⟨_, List.getElem?_eq_getElem (by rw [HN.out]; exact han)⟩
          obtain ⟨g, rfl⟩ := HA.out (fun e => by rw [e] at hx; cases hx)
          have HX : Hid (l[a]? = some x) := hx
          have hok := HS3.out.1.good.ok x (List.mem_of_getElem? hx)
          have HCL : Hid (∀ W m y, Only [] w3 W → l[m]? = some y → W.cell? ⟨g, m * 5, none⟩ = some (.int .i64 y.N) ∧ W.cell? ⟨g, m * 5 + 1, none⟩ = some (.int .i64 y.G) ∧ W.cell? ⟨g, m * 5 + 2, none⟩ = some (.int .i64 y.O) ∧ W.cell? ⟨g, m * 5 + 3, none⟩ = some (.int .i64 y.A) ∧ W.cell? ⟨g, m * 5 + 4, none⟩ = some (.int .i64 y.D)) := fun W m y hW hy => opn_cellsM (HO3.out.only hW (fun _ _ => by simp)) HN.out hy
          have HS0 : Hid (wr.drew.cell? ⟨g, a * 5, none⟩ = some (.int .i64 x.N) ∧ wr.drew.cell? ⟨g, a * 5 + 1, none⟩ = some (.int .i64 x.G) ∧ wr.drew.cell? ⟨g, a * 5 + 2, none⟩ = some (.int .i64 x.O) ∧ wr.drew.cell? ⟨g, a * 5 + 3, none⟩ = some (.int .i64 x.A) ∧ wr.drew.cell? ⟨g, a * 5 + 4, none⟩ = some (.int .i64 x.D)) := HCL.out _ a x HO.out.drew hx
          have HM : Hid (∀ _u : Unit, _) := fun _u => may_there (HS3.out.1.only HO.out.drew) HE.out (List.mem_of_getElem? hx)
          have dA1 : decide (x.A < 1) = false := decide_eq_false (by have := hok.1; omega)
          have dA2 : decide (3 < x.A) = false := decide_eq_false (by have := hok.2.1; omega)
          have dD1 : decide (x.D < 0) = false := decide_eq_false (by have := hok.2.2.1; omega)
          have dD2 : decide (3 < x.D) = false := decide_eq_false (by have := hok.2.2.2; omega)
          have hai : (a : Int) < n := by omega
          have HOK : Hid (OkO x) := hok
          clear hx hok
          go_wp2
          go_region_held3 (fun W => W.cell? ⟨g, a * 5, none⟩ = some (.int .i64 x.N) ∧ W.cell? ⟨g, a * 5 + 1, none⟩ = some (.int .i64 x.G) ∧ W.cell? ⟨g, a * 5 + 2, none⟩ = some (.int .i64 x.O) ∧ W.cell? ⟨g, a * 5 + 3, none⟩ = some (.int .i64 x.A) ∧ W.cell? ⟨g, a * 5 + 4, none⟩ = some (.int .i64 x.D)) (with_reducible first | exact HS0.out | exact HS4.out)
            (first
              | (go_at_call 12; refine (HM.out ()).mono ?_; rintro e w4 ⟨rfl, ho4⟩; have HO4 : Hid (Only [] w3 w4) := HO.out.drew.trans ho4 (fun _ hk => by cases hk); have HS4 : Hid (w4.cell? ⟨g, a * 5, none⟩ = some (.int .i64 x.N) ∧ w4.cell? ⟨g, a * 5 + 1, none⟩ = some (.int .i64 x.G) ∧ w4.cell? ⟨g, a * 5 + 2, none⟩ = some (.int .i64 x.O) ∧ w4.cell? ⟨g, a * 5 + 3, none⟩ = some (.int .i64 x.A) ∧ w4.cell? ⟨g, a * 5 + 4, none⟩ = some (.int .i64 x.D)) := HCL.out w4 a x HO4.out HX.out; clear ho4 HM))
          clear HS0 HS4 dA1 dA2 dD1 dD2
          go_wp2
          go_loopw [9] (fun k wx => ∃ q : Nat, q ≤ n ∧ k = .int .i64 q ∧ Only [] w3 wx) (fun k _ => n - (intOf k).toNat)
          case atStart => exact ⟨0, Nat.zero_le _, rfl, HO4.out⟩
          case round =>
            obtain ⟨q, hq, rfl, hoq⟩ := hrel
            have HQ : Hid (Only [] w3 wr) := hoq
            clear hoq
            by_cases hqn : q < n
            · obtain ⟨y, hy⟩ : ∃ y, l[q]? = some y := ⟨_, List.getElem?_eq_getElem (by rw [HN.out]; exact hqn)⟩
              obtain ⟨x0, x1, x2, x3, x4⟩ := HCL.out wr a x HQ.out HX.out
              obtain ⟨y0, y1, y2, y3, y4⟩ := HCL.out wr q y HQ.out hy
              have hqi : (q : Int) < n := by omega
              by_cases hqa : q = a
              · subst hqa
                go_wp2
                go_big_quiet (fail)
                go_wp2
                go_roundw
                case rel => exact ⟨q + 1, by omega, by go_num, HQ.out.drewsN _⟩
                case measure => simp [intOf]; omega
              · have dqa : ((q : Int) == (a : Int)) = false := beq_eq_false_iff_ne.2 (by omega)
                by_cases hkey : y.N = x.N ∧ y.G = x.G
                · have hpair := sound_pair HS3.out HX.out hy hqa hkey.1 hkey.2
                  have dO : (y.O == x.O) = false := beq_eq_false_iff_ne.2 hpair.1
                  have HB : Hid (∀ W, Calls Tryd.prog 23 #[.int .i64 x.A, .int .i64 y.D] W fun e w' => e = .returned (.bool false) ∧ W = w') := fun W => by
                    have hyo := HS3.out.1.good.ok y (List.mem_of_getElem? hy)
                    have := bitsMeet_any x.A y.D W ⟨by have := HOK.out.1; omega, HOK.out.2.1⟩ hyo.2.2
                    rw [hpair.2] at this
                    exact this
                  obtain ⟨e1, e2⟩ := hkey
                  rw [e1] at y0
                  rw [e2] at y1
                  have HY : Hid (l[q]? = some y) := hy
                  clear hpair hy
                  go_wp2
                  go_big_quiet (fail)
                  go_wp2
                  have HQ2 : Hid (Only [] w3 (wr.drewN nq)) := HQ.out.drewsN _
                  clear x0 x1 x2 x3 x4 y0 y1 y2 y3 y4
                  generalize wr.drewN nq = wq at HQ2 ⊢
                  have HSq : Hid ((wq.drew.cell? ⟨g, a * 5, none⟩ = some (.int .i64 x.N) ∧ wq.drew.cell? ⟨g, a * 5 + 1, none⟩ = some (.int .i64 x.G) ∧ wq.drew.cell? ⟨g, a * 5 + 2, none⟩ = some (.int .i64 x.O) ∧ wq.drew.cell? ⟨g, a * 5 + 3, none⟩ = some (.int .i64 x.A) ∧ wq.drew.cell? ⟨g, a * 5 + 4, none⟩ = some (.int .i64 x.D)) ∧ wq.drew.cell? ⟨g, q * 5 + 2, none⟩ = some (.int .i64 y.O) ∧ wq.drew.cell? ⟨g, q * 5 + 4, none⟩ = some (.int .i64 y.D)) := ⟨HCL.out _ a x HQ2.out.drew HX.out, (HCL.out _ q y HQ2.out.drew HY.out).2.2.1, (HCL.out _ q y HQ2.out.drew HY.out).2.2.2.2⟩
                  go_region_held3 (fun W => (W.cell? ⟨g, a * 5, none⟩ = some (.int .i64 x.N) ∧ W.cell? ⟨g, a * 5 + 1, none⟩ = some (.int .i64 x.G) ∧ W.cell? ⟨g, a * 5 + 2, none⟩ = some (.int .i64 x.O) ∧ W.cell? ⟨g, a * 5 + 3, none⟩ = some (.int .i64 x.A) ∧ W.cell? ⟨g, a * 5 + 4, none⟩ = some (.int .i64 x.D)) ∧ W.cell? ⟨g, q * 5 + 2, none⟩ = some (.int .i64 y.O) ∧ W.cell? ⟨g, q * 5 + 4, none⟩ = some (.int .i64 y.D)) (with_reducible first | exact HSq.out)
                    (first
                      | (go_at_call 23; refine (HB.out _).mono ?_; rintro e w5 ⟨rfl, rfl⟩))
                  go_wp2
                  go_roundw
                  case rel => exact ⟨q + 1, by omega, by go_num, HQ2.out.drew⟩
                  case measure => simp [intOf]; omega
                · by_cases hN : y.N = x.N
                  · have hG : (y.G == x.G) = false := beq_eq_false_iff_ne.2 (fun e => hkey ⟨hN, e⟩)
                    rw [hN] at y0
                    clear hkey hy hN
                    go_wp2
                    go_big_quiet (fail)
                    go_wp2
                    go_roundw
                    case rel => exact ⟨q + 1, by omega, by go_num, HQ.out.drewsN _⟩
                    case measure => simp [intOf]; omega
                  · have hN' : (y.N == x.N) = false := beq_eq_false_iff_ne.2 hN
                    clear hkey hy hN
                    go_wp2
                    go_big_quiet (fail)
                    go_wp2
                    go_roundw
                    case rel => exact ⟨q + 1, by omega, by go_num, HQ.out.drewsN _⟩
                    case measure => simp [intOf]; omega
            · obtain rfl : q = n := by omega
              go_wp2
              go_roundw
              case rel => exact ⟨a + 1, by omega, by go_num, HQ.out⟩
              case measure => simp [intOf]; omega
        · obtain rfl : a = n := by omega
          have HB : Hid (Below w.heap.size w wr) := (HS3.out.1.only HO.out).below
          go_wp2
          go_ret
          exact ⟨rfl, HB.out⟩
end Go.Proofs.YtagpahgjbglmaaaDoor
