/- Shares: the law's own small functions: opens, sameOpens, coded. -/
import Derived.Test.YtagpahgjbglmaaaDoorSr6
namespace Go.Proofs.YtagpahgjbglmaaaDoor
open Go Go.RowKit Go.Deep

/-! ### coded -/
def Told (A : Nat → Addr) (c : Nat) (r : Value) : Prop := (c = 0 ∧ r = .nilIface) ∨ ∃ k, k < 15 ∧ c = k + 1 ∧ r = sErr A k
theorem coded2_any (A : Nat → Addr) (c : Nat) (r : Value) (w : World) (h : Errs w A) (ht : Told A c r) :
    Calls Tryd.prog 18 #[r, .int .i64 (c : Int)] w fun e w' => e = .returned (.bool true) ∧ Below w.heap.size w w' := by
  have H : Hid (Errs w A) := h
  clear h
  rcases ht with ⟨rfl, rfl⟩ | ⟨k, hk, rfl, rfl⟩
  · show Calls Tryd.prog 18 #[.nilIface, .int .i64 0] w _
    go_enter Tryd.func18, Tryd.ntmps18
    go_wp2_with (go_at_call 40; refine (code_nil _).mono ?_; rintro e w2 ⟨rfl, rfl⟩)
    go_ret
    exact ⟨rfl, Below.refl _ _⟩
  · have e : ((k + 1 : Nat) : Int) = (k : Int) + 1 := by omega
    rw [e]
    unfold sErr
    go_enter Tryd.func18, Tryd.ntmps18
    go_wp2_with (go_at_call 40; refine (code_err A k hk _ H.out).mono ?_; rintro e w2 ⟨rfl, hb⟩)
    go_ret
    exact ⟨rfl, hb⟩
/-! ### opens -/
set_option maxRecDepth 100000 in
set_option maxHeartbeats 4000000 in
theorem opens_any (w : World) (base n cap : Nat) (ad : Option Addr) (l : List Opn) (h : Opns w base (.slice ad n cap) l) (hn : l.length = n) (hl : n ≤ 40) (had : l ≠ [] → ∃ g, ad = some ⟨g, 0, none⟩) :
    Calls Tryd.prog 20 #[.slice ad n cap] w fun e w' => ∃ v', e = .returned v' ∧ Rns w' w.heap.size v' l ∧ Only [] w w' := by
  have H : Hid (Opns w base (.slice ad n cap) l) := h
  have HN : Hid (l.length = n) := hn
  have HA : Hid (l ≠ [] → ∃ g, ad = some ⟨g, 0, none⟩) := had
  clear h hn had
  go_enter Tryd.func20, Tryd.ntmps20
  go_wp2
  go_loopw [3, 4] (fun o i wr => ∃ j : Nat, i = .int .i64 j ∧ j ≤ n ∧ Rns wr w.heap.size o (l.take j) ∧ Only [] w wr) (fun _ i _ => n - (intOf i).toNat)
  case atStart => exact ⟨0, rfl, Nat.zero_le _, Rns.nil _ _, Only.refl _ _⟩
  case round =>
    obtain ⟨j, rfl, hj, hown, ho⟩ := hrel
    have HOWN : Hid (Rns wr w.heap.size u3 (l.take j)) := hown
    have HO : Hid (Only [] w wr) := ho
    clear hown ho
    by_cases hlt : j < n
    · obtain ⟨x, hx⟩ : ∃ x, l[j]? = some x := ⟨_, List.getElem?_eq_getElem (by rw [HN.out]; exact hlt)⟩
      obtain ⟨g, rfl⟩ := HA.out (fun e => by rw [e] at hx; cases hx)
      have HCE : Hid (∀ W, Only [] w W → W.cell? ⟨g, j * 5, none⟩ = some (.int .i64 x.N) ∧ W.cell? ⟨g, j * 5 + 1, none⟩ = some (.int .i64 x.G) ∧ W.cell? ⟨g, j * 5 + 2, none⟩ = some (.int .i64 x.O) ∧ W.cell? ⟨g, j * 5 + 3, none⟩ = some (.int .i64 x.A) ∧ W.cell? ⟨g, j * 5 + 4, none⟩ = some (.int .i64 x.D)) := fun W ho => opn_cellsM (H.out.only ho (fun _ _ => by simp)) HN.out hx
      have HS0 : Hid (wr.drew.cell? ⟨g, j * 5, none⟩ = some (.int .i64 x.N) ∧ wr.drew.cell? ⟨g, j * 5 + 1, none⟩ = some (.int .i64 x.G) ∧ wr.drew.cell? ⟨g, j * 5 + 2, none⟩ = some (.int .i64 x.O) ∧ wr.drew.cell? ⟨g, j * 5 + 3, none⟩ = some (.int .i64 x.A) ∧ wr.drew.cell? ⟨g, j * 5 + 4, none⟩ = some (.int .i64 x.D)) := HCE.out _ HO.out.drew
      have HSA : Hid ((wr.alloc (.cells #[.int .i64 x.N, .int .i64 x.G, .int .i64 x.O, .int .i64 x.A, .int .i64 x.D] 61)).drew.cell? ⟨g, j * 5, none⟩ = some (.int .i64 x.N) ∧ (wr.alloc (.cells #[.int .i64 x.N, .int .i64 x.G, .int .i64 x.O, .int .i64 x.A, .int .i64 x.D] 61)).drew.cell? ⟨g, j * 5 + 1, none⟩ = some (.int .i64 x.G) ∧ (wr.alloc (.cells #[.int .i64 x.N, .int .i64 x.G, .int .i64 x.O, .int .i64 x.A, .int .i64 x.D] 61)).drew.cell? ⟨g, j * 5 + 2, none⟩ = some (.int .i64 x.O) ∧ (wr.alloc (.cells #[.int .i64 x.N, .int .i64 x.G, .int .i64 x.O, .int .i64 x.A, .int .i64 x.D] 61)).drew.cell? ⟨g, j * 5 + 3, none⟩ = some (.int .i64 x.A) ∧ (wr.alloc (.cells #[.int .i64 x.N, .int .i64 x.G, .int .i64 x.O, .int .i64 x.A, .int .i64 x.D] 61)).drew.cell? ⟨g, j * 5 + 4, none⟩ = some (.int .i64 x.D)) := HCE.out _ (HO.out.alloc _).drew
      have hji : (j : Int) < n := by omega
      have htl : (l.take j).length = j := by rw [List.length_take, HN.out]; omega
      have HOW : Hid ((wr.alloc (.cells #[.int .i64 x.N, .int .i64 x.G, .int .i64 x.O, .int .i64 x.A, .int .i64 x.D] 61)).drew.ownsRow w.heap.size 61 5 u3 j (rowOf opC (l.take j))) := by have hh := HOWN.out.only (((Only.refl [] wr).alloc (.cells #[.int .i64 x.N, .int .i64 x.G, .int .i64 x.O, .int .i64 x.A, .int .i64 x.D] 61)).drew) (fun _ _ => by simp); unfold Rns at hh; rw [htl] at hh; exact hh
      have HFR : Hid (∀ k, u3.ownBlock = some k → w.heap.size ≤ k) := fun k hk => (World.ownsRow.lt HOWN.out k hk).1
      have HNW : Hid (∀ (p : Nat) (u : Value), (opC x)[p]? = some u → (wr.alloc (.cells #[.int .i64 x.N, .int .i64 x.G, .int .i64 x.O, .int .i64 x.A, .int .i64 x.D] 61)).drew.cell? ((⟨wr.heap.size, 0, none⟩ : Addr).add p) = some u) := World.news_of_block (w := (wr.alloc (.cells #[.int .i64 x.N, .int .i64 x.G, .int .i64 x.O, .int .i64 x.A, .int .i64 x.D] 61)).drew) (heap_alloc_last wr _)
      have HB2 : Hid (w.heap.size ≤ (wr.alloc (.cells #[.int .i64 x.N, .int .i64 x.G, .int .i64 x.O, .int .i64 x.A, .int .i64 x.D] 61)).drew.heap.size) := by
        have h1 := HO.out.size
        have e : (wr.alloc (.cells #[.int .i64 x.N, .int .i64 x.G, .int .i64 x.O, .int .i64 x.A, .int .i64 x.D] 61)).drew.heap.size = wr.heap.size + 1 := by simp
        show w.heap.size ≤ _
        omega
      have HNEXT : Hid (∀ gl cp w6, w6.ownsRow w.heap.size 61 5 (.slice (some ⟨gl, 0, none⟩) (j + 1) cp) (j + 1) (rowOf opC (l.take j) ++ opC x) → Rns w6 w.heap.size (.slice (some ⟨gl, 0, none⟩) (j + 1) cp) (l.take (j + 1))) := fun gl cp w6 hh => by
        unfold Rns
        rw [take_one hx, List.length_append, htl, ← rowOf_push]
        exact hh
      obtain ⟨i0, hi0, hz0, hz1, hz2⟩ := roInfo'
      clear hx htl
      go_wp2
      go_region_held3 (fun W => W.cell? ⟨g, j * 5, none⟩ = some (.int .i64 x.N) ∧ W.cell? ⟨g, j * 5 + 1, none⟩ = some (.int .i64 x.G) ∧ W.cell? ⟨g, j * 5 + 2, none⟩ = some (.int .i64 x.O) ∧ W.cell? ⟨g, j * 5 + 3, none⟩ = some (.int .i64 x.A) ∧ W.cell? ⟨g, j * 5 + 4, none⟩ = some (.int .i64 x.D)) (with_reducible first | exact HS0.out | exact HSA.out | exact HS6.out)
        ((refine step_append_lies _ (by rfl) (.tmp 11) (.tmp 33) 29 (by rfl) w.heap.size 61 i0 _ 5 40 rosUnd hi0 hz0 hz1 hz2 (by rfl) (by decide) u3 j (rowOf opC (l.take j)) (by rfl) HOW.out ⟨wr.heap.size, 0, none⟩ 1 1 (opC x) (by rfl) (by rfl) HNW.out (opC_one _) (by decide) (by unfold maxLen; omega) (by omega) HB2.out (wr.heap.size + 1) (by simp) ?_; intro gl cp w6 hown6 hgr6 hat6 hlt6; have HO6 : Hid (Only [] w w6) := (HO.out.alloc _).drew.grown hgr6 (fun k hk => Or.inr (HFR.out k hk)); have HS6 : Hid (w6.cell? ⟨g, j * 5, none⟩ = some (.int .i64 x.N) ∧ w6.cell? ⟨g, j * 5 + 1, none⟩ = some (.int .i64 x.G) ∧ w6.cell? ⟨g, j * 5 + 2, none⟩ = some (.int .i64 x.O) ∧ w6.cell? ⟨g, j * 5 + 3, none⟩ = some (.int .i64 x.A) ∧ w6.cell? ⟨g, j * 5 + 4, none⟩ = some (.int .i64 x.D)) := HCE.out w6 HO6.out; have HR6 : Hid (Rns w6 w.heap.size (.slice (some ⟨gl, 0, none⟩) (j + 1) cp) (l.take (j + 1))) := HNEXT.out gl cp w6 hown6; clear hown6 hgr6 hat6 hlt6))
      go_wp2
      go_roundw
      case rel => exact ⟨j + 1, by go_num, by omega, HR6.out, HO6.out⟩
      case measure => simp [intOf]; omega
    · obtain rfl : j = n := by omega
      have HE : Hid (Rns wr w.heap.size u3 l) := by have hh := HOWN.out; rw [show l.take j = l by rw [← HN.out, List.take_length]] at hh; exact hh
      go_wp2
      go_ret
      exact ⟨_, rfl, HE.out, HO.out⟩
/-! ### sameOpens -/
set_option maxRecDepth 100000 in
set_option maxHeartbeats 4000000 in
theorem same_any (w : World) (b1 b2 : Nat) (v1 v2 : Value) (l : List Opn) (h1 : Rns w b1 v1 l) (h2 : Rns w b2 v2 l) (hl : l.length ≤ 40) :
    Calls Tryd.prog 19 #[v1, v2] w fun e w' => e = .returned (.bool true) ∧ Only [] w w' := by
  obtain ⟨a1, c1, rfl, k1, _⟩ := h1.form
  obtain ⟨a2, c2, rfl, k2, _⟩ := h2.form
  obtain ⟨n, hn⟩ : ∃ n, l.length = n := ⟨_, rfl⟩
  have HN : Hid (l.length = n) := hn
  rw [hn] at hl h1 h2 ⊢
  have H1 : Hid (Rns w b1 (.slice a1 n c1) l) := h1
  have H2 : Hid (Rns w b2 (.slice a2 n c2) l) := h2
  have HA1 : Hid (l ≠ [] → ∃ g, a1 = some ⟨g, 0, none⟩) := k1
  have HA2 : Hid (l ≠ [] → ∃ g, a2 = some ⟨g, 0, none⟩) := k2
  clear h1 h2 k1 k2 hn
  go_enter Tryd.func19, Tryd.ntmps19
  go_wp2
  go_loopw [5] (fun i wr => ∃ j : Nat, i = .int .i64 j ∧ j ≤ n ∧ Only [] w wr) (fun i _ => n - (intOf i).toNat)
  case atStart => exact ⟨0, rfl, Nat.zero_le _, Only.refl _ _⟩
  case round =>
    obtain ⟨j, rfl, hj, ho⟩ := hrel
    have HO : Hid (Only [] w wr) := ho
    by_cases hlt : j < n
    · obtain ⟨x, hx⟩ : ∃ x, l[j]? = some x := ⟨_, List.getElem?_eq_getElem (by rw [HN.out]; exact hlt)⟩
      obtain ⟨g, rfl⟩ := HA1.out (fun e => by rw [e] at hx; cases hx)
      obtain ⟨g2, rfl⟩ := HA2.out (fun e => by rw [e] at hx; cases hx)
      obtain ⟨x0, x1, x2, x3, x4⟩ := rn_cells (H1.out.only ho (fun _ _ => by simp)) HN.out hx
      obtain ⟨y0, y1, y2, y3, y4⟩ := rn_cells (H2.out.only ho (fun _ _ => by simp)) HN.out hx
      have hji : (j : Int) < n := by omega
      clear hx ho
      go_wp2
      go_big_quiet (fail)
      go_wp2
      go_roundw
      case rel => exact ⟨j + 1, by go_num, by omega, HO.out.drewsN _⟩
      case measure => simp [intOf]; omega
    · obtain rfl : j = n := by omega
      go_wp2
      go_ret
      exact ⟨rfl, HO.out⟩
end Go.Proofs.YtagpahgjbglmaaaDoor
