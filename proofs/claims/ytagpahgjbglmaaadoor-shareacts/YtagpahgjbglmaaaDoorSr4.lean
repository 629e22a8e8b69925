/- Shares: the document's Anyone. -/
import Derived.Test.YtagpahgjbglmaaaDoorSr3
namespace Go.Proofs.YtagpahgjbglmaaaDoor
open Go Go.RowKit Go.Deep

set_option maxHeartbeats 1000000 in
theorem ranyone_bound (w : World) (t : Nat) (N G a : Int) (hac : accB a = false) :
    Calls Tryd.prog 15 #[.pointer (some ⟨t, 0, none⟩), .agg #[.int .i64 N, .int .i64 G], .int .i64 a] w fun e w' => e = .returned (.int .i64 2) ∧ Only [] w w' := by
  have HO1 : Hid (Only [] w (w.alloc (.cells #[.int .i64 N, .int .i64 G] 33))) := (Only.refl [] w).alloc _
  by_cases h1 : a < 1
  · have d1 : decide (a < 1) = true := decide_eq_true h1
    go_enter Tryd.func15, Tryd.ntmps15
    go_wp2
    go_ret
    exact ⟨rfl, HO1.out⟩
  · have d1 : decide (a < 1) = false := decide_eq_false h1
    have d2 : decide (3 < a) = true := decide_eq_true (by rcases acc_cases hac with h | h <;> omega)
    go_enter Tryd.func15, Tryd.ntmps15
    go_wp2
    go_ret
    exact ⟨rfl, HO1.out⟩
theorem any_none {p : Opn → Bool} {l : List Opn} {n : Nat} (hn : l.length = n) (h : ∀ q y, q < n → l[q]? = some y → p y = false) : l.any p = false := by
  rw [List.any_eq_false]
  intro x hx
  obtain ⟨q, hq⟩ := List.mem_iff_getElem?.1 hx
  simp [h q x (by have := (List.getElem?_eq_some_iff.1 hq).1; omega) hq]
theorem any_some {p : Opn → Bool} {l : List Opn} {j : Nat} {x : Opn} (hx : l[j]? = some x) (hp : p x = true) : l.any p = true := List.any_eq_true.2 ⟨x, List.mem_of_getElem? hx, hp⟩
set_option maxRecDepth 100000 in
set_option maxHeartbeats 2000000 in
theorem ranyone_in (w : World) (base t : Nat) (v : Value) (l : List Opn) (N G a : Int) (h : RsAt w base t v l) (hl : l.length ≤ 40) (hok : ∀ x ∈ l, OkO x) (hac : accB a = true) :
    Calls Tryd.prog 15 #[.pointer (some ⟨t, 0, none⟩), .agg #[.int .i64 N, .int .i64 G], .int .i64 a] w fun e w' => ((e = .returned (.int .i64 11) ∧ l.any (denyB N G a) = true) ∨ (e = .returned (.int .i64 0) ∧ l.any (denyB N G a) = false)) ∧ Only [] w w' := by
  obtain ⟨ad, cap, rfl, had, _⟩ := h.own.form
  have HA : Hid (l ≠ [] → ∃ g, ad = some ⟨g, 0, none⟩) := had
  obtain ⟨n, hn⟩ : ∃ n, l.length = n := ⟨_, rfl⟩
  have HN : Hid (l.length = n) := hn
  rw [hn] at hl h
  have H : Hid (RsAt w base t (.slice ad n cap) l) := h
  have HK : Hid (∀ x ∈ l, OkO x) := hok
  clear h hn had hok
  have HO1 : Hid (Only [] w (w.alloc (.cells #[.int .i64 N, .int .i64 G] 33))) := (Only.refl [] w).alloc _
  have hB0 : (w.alloc (.cells #[.int .i64 N, .int .i64 G] 33)).cell? ⟨w.heap.size, 0, none⟩ = some (.int .i64 N) := cell_of_row _ _ 0 _ _ _ (heap_alloc_last w _)
  have hB1 : (w.alloc (.cells #[.int .i64 N, .int .i64 G] 33)).cell? ⟨w.heap.size, 1, none⟩ = some (.int .i64 G) := cell_of_row _ _ 1 _ _ _ (heap_alloc_last w _)
  have HB : Hid ((w.alloc (.cells #[.int .i64 N, .int .i64 G] 33)).cell? ⟨w.heap.size, 0, none⟩ = some (.int .i64 N) ∧ (w.alloc (.cells #[.int .i64 N, .int .i64 G] 33)).cell? ⟨w.heap.size, 1, none⟩ = some (.int .i64 G)) := ⟨hB0, hB1⟩
  clear hB0 hB1
  have hra := acc_in hac
  have d1 : decide (a < 1) = false := decide_eq_false (by omega)
  have d2 : decide (3 < a) = false := decide_eq_false (by omega)
  clear hac
  go_enter Tryd.func15, Tryd.ntmps15
  go_wp2
  clear d1 d2
  generalize w.alloc (.cells #[.int .i64 N, .int .i64 G] 33) = w1 at HO1 HB ⊢
  generalize w.heap.size = b at HB ⊢
  go_loopw [7] (fun i wr => ∃ j : Nat, i = .int .i64 j ∧ j ≤ n ∧ (∀ q y, q < j → l[q]? = some y → denyB N G a y = false) ∧ Only [] w1 wr) (fun i _ => n - (intOf i).toNat)
  case atStart => exact ⟨0, rfl, Nat.zero_le _, fun q y hq => by omega, Only.refl _ _⟩
  case round =>
    obtain ⟨j, rfl, hj, hall, ho⟩ := hrel
    have HJ : Hid (∀ q y, q < j → l[q]? = some y → denyB N G a y = false) := hall
    have HO : Hid (Only [] w1 wr) := ho
    have HW : Hid (Only [] w wr) := HO1.out.trans ho (fun _ hk => by cases hk)
    have hR := H.out.only HW.out
    have hc0 := hR.c0
    have b0 := (ho.cell (p := ⟨b, 0, none⟩) (lt_of_cell HB.out.1) (by simp)).trans HB.out.1
    have b1 := (ho.cell (p := ⟨b, 1, none⟩) (lt_of_cell HB.out.2) (by simp)).trans HB.out.2
    clear hall ho
    by_cases hlt : j < n
    · obtain ⟨x, hx⟩ : ∃ x, l[j]? = some x := ⟨_, List.getElem?_eq_getElem (by rw [HN.out]; exact hlt)⟩
      obtain ⟨g, rfl⟩ := HA.out (fun e => by rw [e] at hx; cases hx)
      obtain ⟨c0, c1, c2, c3, c4⟩ := rn_cells hR.own HN.out hx
      have HX : Hid (l[j]? = some x) := hx
      have hokx := HK.out x (List.mem_of_getElem? hx)
      have hji : (j : Int) < n := by omega
      clear hR hx
      have next : denyB N G a x = false → ∀ q y, q < j + 1 → l[q]? = some y → denyB N G a y = false := fun hp q y hq hy => by
        rcases Nat.lt_or_ge q j with h1 | h1
        · exact HJ.out q y h1 hy
        · obtain rfl : q = j := by omega
          rw [HX.out] at hy
          cases hy
          exact hp
      have HNX : Hid (denyB N G a x = false → ∀ q y, q < j + 1 → l[q]? = some y → denyB N G a y = false) := next
      clear next
      by_cases hN : x.N = N
      · by_cases hG : x.G = G
        · have HM : Hid (∀ W, Calls Tryd.prog 31 #[.int .i64 x.D, .int .i64 a] W fun e w' => e = .returned (.bool (meetB x.D a)) ∧ W = w') := fun W => rmeets_any x.D a W hokx.2.2 ⟨by omega, by omega⟩
          have HP : Hid (denyB N G a x = meetB x.D a) := by show denyB N G a x = _; unfold denyB; simp [hN, hG]
          have HS0 : Hid (wr.drew.cell? ⟨t, 0, none⟩ = some (.slice (some ⟨g, 0, none⟩) n cap) ∧ wr.drew.cell? ⟨g, j * 5, none⟩ = some (.int .i64 N) ∧ wr.drew.cell? ⟨g, j * 5 + 1, none⟩ = some (.int .i64 G) ∧ wr.drew.cell? ⟨g, j * 5 + 4, none⟩ = some (.int .i64 x.D) ∧ wr.drew.cell? ⟨b, 0, none⟩ = some (.int .i64 N) ∧ wr.drew.cell? ⟨b, 1, none⟩ = some (.int .i64 G)) := ⟨hc0, by rw [← hN]; exact c0, by rw [← hG]; exact c1, c4, b0, b1⟩
          clear hN hG c1 c2 c3 c4 hokx
          generalize x.D = xD at *
          cases hm : meetB xD a with
          | true =>
            rw [hm] at HM HP
            go_wp2
            clear hc0 c0 b0 b1
            go_region_held3 (fun W => W.cell? ⟨t, 0, none⟩ = some (.slice (some ⟨g, 0, none⟩) n cap) ∧ W.cell? ⟨g, j * 5, none⟩ = some (.int .i64 N) ∧ W.cell? ⟨g, j * 5 + 1, none⟩ = some (.int .i64 G) ∧ W.cell? ⟨g, j * 5 + 4, none⟩ = some (.int .i64 xD) ∧ W.cell? ⟨b, 0, none⟩ = some (.int .i64 N) ∧ W.cell? ⟨b, 1, none⟩ = some (.int .i64 G)) (with_reducible first | exact HS0.out)
              (first
                | (go_at_call 31; refine (HM.out _).mono ?_; rintro e w5 ⟨rfl, rfl⟩))
            go_wp2
            go_ret
            exact ⟨Or.inl ⟨rfl, any_some HX.out HP.out⟩, HW.out.drew⟩
          | false =>
            rw [hm] at HM HP
            go_wp2
            clear hc0 c0 b0 b1
            go_region_held3 (fun W => W.cell? ⟨t, 0, none⟩ = some (.slice (some ⟨g, 0, none⟩) n cap) ∧ W.cell? ⟨g, j * 5, none⟩ = some (.int .i64 N) ∧ W.cell? ⟨g, j * 5 + 1, none⟩ = some (.int .i64 G) ∧ W.cell? ⟨g, j * 5 + 4, none⟩ = some (.int .i64 xD) ∧ W.cell? ⟨b, 0, none⟩ = some (.int .i64 N) ∧ W.cell? ⟨b, 1, none⟩ = some (.int .i64 G)) (with_reducible first | exact HS0.out)
              (first
                | (go_at_call 31; refine (HM.out _).mono ?_; rintro e w5 ⟨rfl, rfl⟩))
            go_wp2
            go_roundw
            case rel => exact ⟨j + 1, by go_num, by omega, HNX.out HP.out, HO.out.drew⟩
            case measure => simp [intOf]; omega
        · have HP : Hid (denyB N G a x = false) := by show denyB N G a x = _; unfold denyB; simp [hG]
          have dG : (x.G == G) = false := beq_eq_false_iff_ne.2 hG
          rw [hN] at c0
          clear hN hG hokx
          go_wp2
          go_big_quiet (fail)
          go_wp2
          go_roundw
          case rel => exact ⟨j + 1, by go_num, by omega, HNX.out HP.out, HO.out.drewsN _⟩
          case measure => simp [intOf]; omega
      · have HP : Hid (denyB N G a x = false) := by show denyB N G a x = _; unfold denyB; simp [hN]
        have dN : (x.N == N) = false := beq_eq_false_iff_ne.2 hN
        clear hN hokx
        go_wp2
        go_big_quiet (fail)
        go_wp2
        go_roundw
        case rel => exact ⟨j + 1, by go_num, by omega, HNX.out HP.out, HO.out.drewsN _⟩
        case measure => simp [intOf]; omega
    · obtain rfl : j = n := by omega
      go_wp2
      go_ret
      exact ⟨Or.inr ⟨rfl, any_none HN.out HJ.out⟩, HW.out⟩
theorem ranyone_any (w : World) (base t : Nat) (v : Value) (l : List Opn) (A : Nat → Addr) (N G a : Int) (h : RsAt w base t v l) (hl : l.length ≤ 40) (hok : ∀ x ∈ l, OkO x) :
    Calls Tryd.prog 15 #[.pointer (some ⟨t, 0, none⟩), .agg #[.int .i64 N, .int .i64 G], .int .i64 a] w fun e w' => ∃ (c : Nat) (r : Value), e = .returned (.int .i64 (c : Int)) ∧ AnyR A l N G a c r ∧ Only [] w w' := by
  cases hac : accB a with
  | false => exact (ranyone_bound w t N G a hac).mono fun e w' hh => ⟨2, _, hh.1, Or.inl ⟨hac, rfl, rfl⟩, hh.2⟩
  | true =>
    refine (ranyone_in w base t v l N G a h hl hok hac).mono fun e w' hh => ?_
    rcases hh.1 with ⟨he, hw⟩ | ⟨he, hw⟩
    · exact ⟨11, _, he, Or.inr (Or.inl ⟨hac, hw, rfl, rfl⟩), hh.2⟩
    · exact ⟨0, _, he, Or.inr (Or.inr ⟨hac, hw, rfl, rfl⟩), hh.2⟩
end Go.Proofs.YtagpahgjbglmaaaDoor
