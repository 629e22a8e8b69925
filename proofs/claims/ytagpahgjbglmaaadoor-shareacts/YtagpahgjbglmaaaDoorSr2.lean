/- Shares: the document's find. -/
import Derived.Test.YtagpahgjbglmaaaDoorSr1
namespace Go.Proofs.YtagpahgjbglmaaaDoor
open Go Go.RowKit Go.Deep

/-- Has it this key? -/
def keyB (N G O : Int) (x : Opn) : Bool := decide (x.N = N ∧ x.G = G ∧ x.O = O)
theorem key_same {N G O : Int} {x : Opn} (h : keyB N G O x = true) : sameO x (keyO N G O) := by
  have h2 : x.N = N ∧ x.G = G ∧ x.O = O := of_decide_eq_true h
  exact h2
theorem key_not {N G O : Int} {x : Opn} (h : keyB N G O x = false) : ¬ sameO x (keyO N G O) := by
  have h2 : ¬ (x.N = N ∧ x.G = G ∧ x.O = O) := of_decide_eq_false h
  exact h2
set_option maxRecDepth 100000 in
set_option maxHeartbeats 2000000 in
theorem rfind_any (w : World) (base t : Nat) (v : Value) (l : List Opn) (N G O : Int) (h : RsAt w base t v l) (hl : l.length ≤ 1000) :
    Calls Tryd.prog 32 #[.pointer (some ⟨t, 0, none⟩), .agg #[.int .i64 N, .int .i64 G], .int .i64 O] w fun e w' => ∃ r, e = .returned (.int .i64 r) ∧ firstI (keyB N G O) l r ∧ Only [] w w' := by
  obtain ⟨ad, cap, rfl, had, _⟩ := h.own.form
  have HA : Hid (l ≠ [] → ∃ g, ad = some ⟨g, 0, none⟩) := had
  obtain ⟨n, hn⟩ : ∃ n, l.length = n := ⟨_, rfl⟩
  have HN : Hid (l.length = n) := hn
  rw [hn] at hl h
  have H : Hid (RsAt w base t (.slice ad n cap) l) := h
  clear h hn had
  have HO1 : Hid (Only [] w (w.alloc (.cells #[.int .i64 N, .int .i64 G] 33))) := (Only.refl [] w).alloc _
  have hB0 : (w.alloc (.cells #[.int .i64 N, .int .i64 G] 33)).cell? ⟨w.heap.size, 0, none⟩ = some (.int .i64 N) := cell_of_row _ _ 0 _ _ _ (heap_alloc_last w _)
  have hB1 : (w.alloc (.cells #[.int .i64 N, .int .i64 G] 33)).cell? ⟨w.heap.size, 1, none⟩ = some (.int .i64 G) := cell_of_row _ _ 1 _ _ _ (heap_alloc_last w _)
  have HB : Hid ((w.alloc (.cells #[.int .i64 N, .int .i64 G] 33)).cell? ⟨w.heap.size, 0, none⟩ = some (.int .i64 N) ∧ (w.alloc (.cells #[.int .i64 N, .int .i64 G] 33)).cell? ⟨w.heap.size, 1, none⟩ = some (.int .i64 G)) := ⟨hB0, hB1⟩
  clear hB0 hB1
  go_enter Tryd.func32, Tryd.ntmps32
  go_wp2
  generalize w.alloc (.cells #[.int .i64 N, .int .i64 G] 33) = w1 at HO1 HB ⊢
  generalize w.heap.size = b at HB ⊢
  go_loopw [7] (fun i wr => ∃ j : Nat, i = .int .i64 j ∧ j ≤ n ∧ (∀ q y, q < j → l[q]? = some y → keyB N G O y = false) ∧ Only [] w1 wr) (fun i _ => n - (intOf i).toNat)
  case atStart => exact ⟨0, rfl, Nat.zero_le _, fun q y hq => by omega, Only.refl _ _⟩
  case round =>
    obtain ⟨j, rfl, hj, hall, ho⟩ := hrel
    have HJ : Hid (∀ q y, q < j → l[q]? = some y → keyB N G O y = false) := hall
    have HO : Hid (Only [] w1 wr) := ho
    have HW : Hid (Only [] w wr) := HO1.out.trans ho (fun _ hk => by cases hk)
    have hR := H.out.only HW.out
    have hc0 := hR.c0
    have b0 := (ho.cell (p := ⟨b, 0, none⟩) (lt_of_cell HB.out.1) (by simp)).trans HB.out.1
    have b1 := (ho.cell (p := ⟨b, 1, none⟩) (lt_of_cell HB.out.2) (by simp)).trans HB.out.2
    clear hall ho
    by_cases hlt : j < n
    · obtain ⟨x, hx⟩ : ∃ x, l[j]? = some x := ⟨_, List.getElem?_eq_getElem (by rw [HN.out]; exact hlt)⟩
      obtain ⟨g, rfl⟩ := HA.out (fun e => by rw [e] at hx; cases hx)
      obtain ⟨c0, c1, c2, c3, c4⟩ := rn_cells hR.own HN.out hx
      have HX : Hid (l[j]? = some x) := hx
      have hji : (j : Int) < n := by omega
      clear hR hx
      have next : keyB N G O x = false → ∀ q y, q < j + 1 → l[q]? = some y → keyB N G O y = false := fun hp q y hq hy => by
        rcases Nat.lt_or_ge q j with h1 | h1
        · exact HJ.out q y h1 hy
        · obtain rfl : q = j := by omega
          rw [HX.out] at hy
          cases hy
          exact hp
      have HNX : Hid (keyB N G O x = false → ∀ q y, q < j + 1 → l[q]? = some y → keyB N G O y = false) := next
      clear next
      by_cases hN : x.N = N
      · by_cases hG : x.G = G
        · rw [hN] at c0
          rw [hG] at c1
          by_cases hO : x.O = O
          · rw [hO] at c2
            have HP : Hid (keyB N G O x = true) := decide_eq_true ⟨hN, hG, hO⟩
            clear hN hG hO
            go_wp2
            go_big_quiet (fail)
            go_wp2
            go_ret
            exact ⟨(j : Int), rfl, Or.inr ⟨j, rfl, x, HX.out, HP.out, HJ.out⟩, HW.out.drewsN _⟩
          · have HP : Hid (keyB N G O x = false) := decide_eq_false (fun e => hO e.2.2)
            have dO : (x.O == O) = false := beq_eq_false_iff_ne.2 hO
            clear hN hG hO
            go_wp2
            go_big_quiet (fail)
            go_wp2
            go_roundw
            case rel => exact ⟨j + 1, by go_num, by omega, HNX.out HP.out, HO.out.drewsN _⟩
            case measure => simp [intOf]; omega
        · have HP : Hid (keyB N G O x = false) := decide_eq_false (fun e => hG e.2.1)
          have dG : (x.G == G) = false := beq_eq_false_iff_ne.2 hG
          rw [hN] at c0
          clear hN hG
          go_wp2
          go_big_quiet (fail)
          go_wp2
          go_roundw
          case rel => exact ⟨j + 1, by go_num, by omega, HNX.out HP.out, HO.out.drewsN _⟩
          case measure => simp [intOf]; omega
      · have HP : Hid (keyB N G O x = false) := decide_eq_false (fun e => hN e.1)
        have dN : (x.N == N) = false := beq_eq_false_iff_ne.2 hN
        clear hN
        go_wp2
        go_big_quiet (fail)
        go_wp2
        go_roundw
        case rel => exact ⟨j + 1, by go_num, by omega, HNX.out HP.out, HO.out.drewsN _⟩
        case measure => simp [intOf]; omega
    · obtain rfl : j = n := by omega
      go_wp2
      go_ret
      refine ⟨-1, rfl, Or.inl ⟨rfl, fun x hx => ?_⟩, HW.out⟩
      obtain ⟨q, hq⟩ := List.mem_iff_getElem?.1 hx
      exact HJ.out q x (by have := (List.getElem?_eq_some_iff.1 hq).1; rw [HN.out] at this; exact this) hq
end Go.Proofs.YtagpahgjbglmaaaDoor
