/- Names: lists of texts in memory; the document's PathError, SameTexts; faulted: by their contracts. -/
import Derived.Test.YtnhpgpjopogbiaaDoorM1
import Derived.Laws.ResultCell
namespace Go.Proofs.YtnhpgpjopogbiaaDoor
open Go Go.RowKit Go.Deep

theorem fine_any (w : World) : Calls Tryd.prog 56 #[] w fun e w' => e = .returned (.agg #[.int .i64 0, .int .i64 (-1)]) ∧ Below w.heap.size w w' := by
  go_enter Tryd.func56, Tryd.ntmps56
  go_wp2
  exact bodyPost_ret (v := .agg #[.int .i64 0, .int .i64 (-1)]) (by simp [results, Tryd.results56, go_sem]) rfl ⟨rfl, (Below.refl _ _).alloc (Nat.le_refl _) _⟩
theorem bare_any (n : Int) (w : World) : Calls Tryd.prog 57 #[.int .i64 n] w fun e w' => e = .returned (.agg #[.int .i64 n, .int .i64 (-1)]) ∧ Below w.heap.size w w' := by
  go_enter Tryd.func57, Tryd.ntmps57
  go_wp2
  exact bodyPost_ret (v := .agg #[.int .i64 n, .int .i64 (-1)]) (by simp [results, Tryd.results57, go_sem]) rfl ⟨rfl, (Below.refl _ _).alloc (Nat.le_refl _) _⟩

theorem sameTexts_none (a1 a2 : Option Addr) (c1 c2 : Nat) (w : World) : Calls Tryd.prog 36 #[.slice a1 0 c1, .slice a2 0 c2] w fun e w' => e = .returned (.bool true) ∧ Below w.heap.size w w' := by
  go_enter Tryd.func36, Tryd.ntmps36
  go_wp2
  refine wp_loop_rounds 1 ?_
  rw [rounds_succ]
  go_wp2
  go_ret
  exact ⟨rfl, Below.refl _ _⟩
theorem sameTexts_some (b1 o1 c1 b2 o2 c2 n : Nat) (T : Nat → ByteArray) (w : World) (h1 : ∀ i, i < n → w.cell? ⟨b1, o1 + i, none⟩ = some (.string (T i))) (h2 : ∀ i, i < n → w.cell? ⟨b2, o2 + i, none⟩ = some (.string (T i))) (hn : n ≤ 1000000) :
    Calls Tryd.prog 36 #[.slice (some ⟨b1, o1, none⟩) n c1, .slice (some ⟨b2, o2, none⟩) n c2] w fun e w' => e = .returned (.bool true) ∧ Below w.heap.size w w' := by
  have H1 : Hid _ := h1
  have H2 : Hid _ := h2
  clear h1 h2
  go_enter Tryd.func36, Tryd.ntmps36
  go_wp2
  go_loopw [5] (fun i wr => ∃ j : Nat, j ≤ n ∧ i = .int .i64 j ∧ (∀ a, wr.cell? a = w.cell? a) ∧ Below w.heap.size w wr) (fun i _ => n - (intOf i).toNat)
  case atStart => exact ⟨0, Nat.zero_le _, rfl, fun _ => rfl, Below.refl _ _⟩
  case round =>
    obtain ⟨j, hj, rfl, hall, hb⟩ := hrel
    by_cases hlt : j < n
    · have c1 : wr.cell? ⟨b1, o1 + j, none⟩ = some (.string (T j)) := (hall _).trans (H1.out j hlt)
      have c2 : wr.cell? ⟨b2, o2 + j, none⟩ = some (.string (T j)) := (hall _).trans (H2.out j hlt)
      have HA : Hid _ := hall
      clear hall
      go_wp2
      go_region
      all_goals
        go_wp2
        go_roundw
        case rel => exact ⟨j + 1, by omega, by go_num, fun a => HA.out a, hb.drew⟩
        case measure => simp [intOf]; omega
    · clear hall
      go_wp2
      go_ret
      exact ⟨rfl, hb⟩
theorem sameTexts_any (a1 a2 : Option Addr) (c1 c2 n : Nat) (T : Nat → ByteArray) (w : World) (h1 : TextsIn w a1 n T) (h2 : TextsIn w a2 n T) (hn : n ≤ 1000000) :
    Calls Tryd.prog 36 #[.slice a1 n c1, .slice a2 n c2] w fun e w' => e = .returned (.bool true) ∧ Below w.heap.size w w' := by
  rcases h1 with rfl | ⟨b1, o1, rfl, h1⟩
  · exact sameTexts_none a1 a2 c1 c2 w
  rcases h2 with rfl | ⟨b2, o2, rfl, h2⟩
  · exact sameTexts_none _ a2 c1 c2 w
  exact sameTexts_some b1 o1 c1 b2 o2 c2 n T w h1 h2 hn

/-- A result that lies in memory: behind a call that made memory, and the two stores. -/
theorem two_below {w w1 : World} {o : Obj} {u v : Value} (hb : Below (w.alloc o).heap.size (w.alloc o) w1) : Below w.heap.size w ((w1.setCell ⟨w.heap.size, 0, none⟩ u).setCell ⟨w.heap.size, 1, none⟩ v) :=
  ((((Below.refl _ _).alloc (Nat.le_refl _) _).trans (hb.mono (by simp))).setCell (Nat.le_refl _) _).setCell (Nat.le_refl _) _

theorem pathError_none (a : Option Addr) (c : Nat) (w : World) : Calls Tryd.prog 38 #[.slice a 0 c] w fun e w' => e = .returned (.agg #[.int .i64 0, .int .i64 (-1)]) ∧ Below w.heap.size w w' := by
  go_enter Tryd.func38, Tryd.ntmps38
  go_wp2
  refine wp_loop_rounds 1 ?_
  rw [rounds_succ]
  go_wp2_with fail
  refine (fine_any _).mono ?_
  rintro e w1 ⟨rfl, hb1⟩
  have k1 : w1.cell? ⟨w.heap.size, 0, none⟩ = some (.int .i64 0) := (hb1.cell (p := ⟨w.heap.size, 0, none⟩) (by simp)).trans (by simp)
  have k2 : w1.cell? ⟨w.heap.size, 1, none⟩ = some (.int .i64 0) := (hb1.cell (p := ⟨w.heap.size, 1, none⟩) (by simp)).trans (by simp)
  have k3 : ∀ o, w1.frozen? ⟨w.heap.size, o, none⟩ = false := fun o => (hb1.frozen (p := ⟨w.heap.size, o, none⟩) (by simp)).trans (by simp)
  go_wp2
  exact bodyPost_ret (v := .agg #[.int .i64 0, .int .i64 (-1)]) (by simp [results, Tryd.results38, go_sem, k1, k2]) rfl ⟨rfl, two_below hb1⟩

set_option maxHeartbeats 1000000 in
theorem pathError_some (ab ao c n : Nat) (T : Nat → ByteArray) (w : World) (hc : ∀ i, i < n → w.cell? ⟨ab, ao + i, none⟩ = some (.string (T i))) (hn : n ≤ 1000000) :
    Calls Tryd.prog 38 #[.slice (some ⟨ab, ao, none⟩) n c] w fun e w' => ∃ code place : Int, PathIs n T code place ∧ e = .returned (.agg #[.int .i64 code, .int .i64 place]) ∧ Below w.heap.size w w' := by
  have HC : Hid _ := hc
  clear hc
  go_enter Tryd.func38, Tryd.ntmps38
  go_wp2
  go_loop [3] (fun i => ∃ j : Nat, j ≤ n ∧ i = .int .i64 j ∧ ∀ k, k < j → OkN (T k)) (fun i => n - (intOf i).toNat)
  case atStart => exact ⟨0, Nat.zero_le _, rfl, fun k h => absurd h (Nat.not_lt_zero _)⟩
  case round =>
    obtain ⟨j, hj, rfl, hall⟩ := hrel
    have HA : Hid _ := hall
    clear hall
    by_cases hlt : j < n
    · have c0 := HC.out j hlt
      have lt0 : ab < w.heap.size := lt_of_cell c0
      have c1 : (w.alloc (.cells #[.int .i64 0, .int .i64 0] 67)).cell? ⟨ab, ao + j, none⟩ = some (.string (T j)) := (World.cell?_alloc_lt _ _ ⟨ab, ao + j, none⟩ lt0).trans c0
      clear c0
      go_wp2_with fail
      refine (nameError_any (T j) _).mono ?_
      rintro e w1 ⟨⟨hok, rfl⟩ | ⟨hno, rfl⟩, rfl⟩
      · have HN : Hid (∀ k, k < j + 1 → OkN (T k)) := fun k hk => by
          rcases Nat.lt_or_ge k j with h1 | h1
          · exact HA.out k h1
          · obtain rfl : k = j := by omega
            exact hok
        clear hok
        go_wp2
        go_round
        case rel => exact ⟨j + 1, by omega, by go_num, HN.out⟩
        case measure => simp [intOf]; omega
      · have HP : Hid (PathIs n T 4 (j : Int)) := Or.inl ⟨j, hlt, hno, HA.out, rfl, rfl⟩
        clear hno HA
        go_wp2
        exact bodyPost_ret (v := .agg #[.int .i64 4, .int .i64 j]) (by simp [results, Tryd.results38, go_sem]) rfl ⟨_, _, HP.out, rfl, (Below.refl _ _).alloc (Nat.le_refl _) _⟩
    · have HK : Hid (∀ k, k < n → OkN (T k)) := fun k hk => HA.out k (by omega)
      clear HA
      by_cases h12 : 12 < n
      · have HP : Hid (PathIs n T 2 (-1)) := Or.inr (Or.inl ⟨HK.out, h12, rfl, rfl⟩)
        go_wp2_with fail
        refine (bare_any _ _).mono ?_
        rintro e w1 ⟨rfl, hb1⟩
        have k1 : w1.cell? ⟨w.heap.size, 0, none⟩ = some (.int .i64 0) := (hb1.cell (p := ⟨w.heap.size, 0, none⟩) (by simp)).trans (by simp)
        have k2 : w1.cell? ⟨w.heap.size, 1, none⟩ = some (.int .i64 0) := (hb1.cell (p := ⟨w.heap.size, 1, none⟩) (by simp)).trans (by simp)
        have k3 : ∀ o, w1.frozen? ⟨w.heap.size, o, none⟩ = false := fun o => (hb1.frozen (p := ⟨w.heap.size, o, none⟩) (by simp)).trans (by simp)
        go_wp2
        exact bodyPost_ret (v := .agg #[.int .i64 2, .int .i64 (-1)]) (by simp [results, Tryd.results38, go_sem, k1, k2]) rfl ⟨_, _, HP.out, rfl, two_below hb1⟩
      · have HP : Hid (PathIs n T 0 (-1)) := Or.inr (Or.inr ⟨HK.out, by omega, rfl, rfl⟩)
        go_wp2_with fail
        refine (fine_any _).mono ?_
        rintro e w1 ⟨rfl, hb1⟩
        have k1 : w1.cell? ⟨w.heap.size, 0, none⟩ = some (.int .i64 0) := (hb1.cell (p := ⟨w.heap.size, 0, none⟩) (by simp)).trans (by simp)
        have k2 : w1.cell? ⟨w.heap.size, 1, none⟩ = some (.int .i64 0) := (hb1.cell (p := ⟨w.heap.size, 1, none⟩) (by simp)).trans (by simp)
        have k3 : ∀ o, w1.frozen? ⟨w.heap.size, o, none⟩ = false := fun o => (hb1.frozen (p := ⟨w.heap.size, o, none⟩) (by simp)).trans (by simp)
        go_wp2
        exact bodyPost_ret (v := .agg #[.int .i64 0, .int .i64 (-1)]) (by simp [results, Tryd.results38, go_sem, k1, k2]) rfl ⟨_, _, HP.out, rfl, two_below hb1⟩

theorem pathError_any (a : Option Addr) (c n : Nat) (T : Nat → ByteArray) (w : World) (h : TextsIn w a n T) (hn : n ≤ 1000000) :
    Calls Tryd.prog 38 #[.slice a n c] w fun e w' => ∃ code place : Int, PathIs n T code place ∧ e = .returned (.agg #[.int .i64 code, .int .i64 place]) ∧ Below w.heap.size w w' := by
  rcases h with rfl | ⟨ab, ao, rfl, h⟩
  · exact (pathError_none a c w).mono fun e w' h => ⟨0, -1, Or.inr (Or.inr ⟨fun k hk => absurd hk (Nat.not_lt_zero _), by omega, rfl, rfl⟩), h⟩
  · exact pathError_some ab ao c n T w h hn
end Go.Proofs.YtnhpgpjopogbiaaDoor
