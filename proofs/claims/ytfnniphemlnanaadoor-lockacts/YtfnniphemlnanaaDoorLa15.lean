/- LockActs: the law's lockOf, sameLocks. -/
import Derived.Test.YtfnniphemlnanaaDoorLa14
import Derived.Test.YtfnniphemlnanaaDoorLk18
namespace Go.Proofs.YtfnniphemlnanaaDoor
open Go Go.RowKit Go.Deep

theorem lockOf_any (w : World) (x : Lk) : Calls Tryd.prog 11 #[.agg #[.int .i64 x.N, .int .i64 x.G, .int .i64 x.O, .int .i64 x.A, .int .i64 x.S, .bool x.W]] w fun e w' => e = .returned (.agg #[.int .i64 x.N, .int .i64 x.G, .int .i64 x.O, .int .i64 x.A, .int .i64 x.S, .bool x.W]) ∧ Only [] w w' := by
  have HO : Hid (Only [] w ((w.alloc (.cells #[.int .i64 x.N, .int .i64 x.G, .int .i64 x.O, .int .i64 x.A, .int .i64 x.S, .bool x.W] 39)).alloc (.cells #[.int .i64 x.N, .int .i64 x.G, .int .i64 x.O, .int .i64 x.A, .int .i64 x.S, .bool x.W] 44))) := ((Only.refl [] w).alloc _).alloc _
  have hI := (RkBox.new (w.alloc (.cells #[.int .i64 x.N, .int .i64 x.G, .int .i64 x.O, .int .i64 x.A, .int .i64 x.S, .bool x.W] 39)) x).cells
  rw [World.size_alloc] at hI
  have HI : Hid (LkIn ((w.alloc (.cells #[.int .i64 x.N, .int .i64 x.G, .int .i64 x.O, .int .i64 x.A, .int .i64 x.S, .bool x.W] 39)).alloc (.cells #[.int .i64 x.N, .int .i64 x.G, .int .i64 x.O, .int .i64 x.A, .int .i64 x.S, .bool x.W] 44)) (w.heap.size + 1) x) := hI
  clear hI
  go_enter Tryd.func11, Tryd.ntmps11
  go_wp2
  generalize (w.alloc (.cells #[.int .i64 x.N, .int .i64 x.G, .int .i64 x.O, .int .i64 x.A, .int .i64 x.S, .bool x.W] 39)).alloc (.cells #[.int .i64 x.N, .int .i64 x.G, .int .i64 x.O, .int .i64 x.A, .int .i64 x.S, .bool x.W] 44) = wf at HO HI ⊢
  obtain ⟨k0, k1, k2, k3, k4, k5⟩ := HI.out
  exact bodyPost_ret (v := .agg #[.int .i64 x.N, .int .i64 x.G, .int .i64 x.O, .int .i64 x.A, .int .i64 x.S, .bool x.W]) (by simp [results, Tryd.results11, go_sem, k0, k1, k2, k3, k4, k5]) rfl ⟨rfl, HO.out⟩
def LkIn2 (w : World) (g j : Nat) (x : Lk) : Prop := w.cell? ⟨g, j * 6, none⟩ = some (.int .i64 x.N) ∧ w.cell? ⟨g, j * 6 + 1, none⟩ = some (.int .i64 x.G) ∧ w.cell? ⟨g, j * 6 + 2, none⟩ = some (.int .i64 x.O) ∧ w.cell? ⟨g, j * 6 + 3, none⟩ = some (.int .i64 x.A) ∧ w.cell? ⟨g, j * 6 + 4, none⟩ = some (.int .i64 x.S) ∧ w.cell? ⟨g, j * 6 + 5, none⟩ = some (.bool x.W)
set_option maxRecDepth 100000 in
set_option maxHeartbeats 4000000 in
theorem sameL_any (w : World) (b1 b2 : Nat) (v1 v2 : Value) (l : List Lk) (h1 : Lks w b1 v1 l) (h2 : Rks w b2 v2 l) (hl : l.length ≤ 60) :
    Calls Tryd.prog 18 #[v1, v2] w fun e w' => e = .returned (.bool true) ∧ Only [] w w' := by
  obtain ⟨a1, c1, rfl, k1, _⟩ := row_form h1
  obtain ⟨a2, c2, rfl, k2, _⟩ := row_form h2
  obtain ⟨n, hn⟩ : ∃ n, l.length = n := ⟨_, rfl⟩
  have HN : Hid (l.length = n) := hn
  rw [hn] at hl h1 h2 ⊢
  have H1 : Hid (Lks w b1 (.slice a1 n c1) l) := h1
  have H2 : Hid (Rks w b2 (.slice a2 n c2) l) := h2
  have HA1 : Hid (l ≠ [] → ∃ g, a1 = some ⟨g, 0, none⟩) := k1
  have HA2 : Hid (l ≠ [] → ∃ g, a2 = some ⟨g, 0, none⟩) := k2
  clear h1 h2 k1 k2 hn
  go_enter Tryd.func18, Tryd.ntmps18
  go_wp2
  go_loopw [5] (fun i wr => ∃ j : Nat, i = .int .i64 j ∧ j ≤ n ∧ Only [] w wr) (fun i _ => n - (intOf i).toNat)
  case atStart => exact ⟨0, rfl, Nat.zero_le _, Only.refl _ _⟩
  case round =>
    obtain ⟨j, rfl, hj, ho⟩ := hrel
    have HO : Hid (Only [] w wr) := ho
    clear ho
    by_cases hlt : j < n
    · obtain ⟨x, hx⟩ : ∃ x, l[j]? = some x := ⟨_, List.getElem?_eq_getElem (by rw [HN.out]; exact hlt)⟩
      obtain ⟨g, rfl⟩ := HA1.out (fun e => by rw [e] at hx; cases hx)
      obtain ⟨g2, rfl⟩ := HA2.out (fun e => by rw [e] at hx; cases hx)
      have HX : Hid (l[j]? = some x) := hx
      have HS3 : Hid (∀ W, Only [] w W → LkIn2 W g j x ∧ LkIn2 W g2 j x) := fun W ho => ⟨lk_cells (H1.out.only ho (fun _ _ => by simp)) HN.out HX.out, rk_cells (H2.out.only ho (fun _ _ => by simp)) HN.out HX.out⟩
      have hji : (j : Int) < n := by omega
      have HO4 : Hid (Only [] w wr.drew) := HO.out.drew
      clear hx
      obtain ⟨⟨x0, x1, x2, x3, x4, x5⟩, ⟨y0, y1, y2, y3, y4, y5⟩⟩ := HS3.out wr HO.out
      go_wp2
      go_region_with (go_at_call 11; refine (lockOf_any _ x).mono ?_; rintro e w4 ⟨rfl, ho4⟩; have HW4 : Hid (Only [] w w4) := only_nil HO4.out ho4; clear x0 x1 x2 x3 x4 x5 y0 y1 y2 y3 y4 y5; obtain ⟨⟨x0, x1, x2, x3, x4, x5⟩, ⟨y0, y1, y2, y3, y4, y5⟩⟩ := HS3.out w4 HW4.out; clear ho4)
      all_goals
        clear x0 x1 x2 x3 x4 x5 y0 y1 y2 y3 y4 y5
        go_wp2
        go_roundw
        case rel => exact ⟨j + 1, by go_num, by omega, HW4.out⟩
        case measure => simp [intOf]; omega
    · obtain rfl : j = n := by omega
      go_wp2
      go_ret
      exact ⟨rfl, HO.out⟩
end Go.Proofs.YtfnniphemlnanaaDoor
