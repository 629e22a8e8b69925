/- Nodes: which places are free: isFree, slices.IndexFunc over it, Count. -/
import Derived.Test.YtnbanflnepbgnaaDoorH2
import Derived.BigQuiet
import Derived.Deep.QuietTactic
namespace Go.Proofs.YtnbanflnepbgnaaDoor
open Go Go.RowKit Go.Deep Go.Maps

theorem isFree_any (w : World) (z : Int) (a : Option Addr) : Calls Tryd.prog 38 #[.agg #[.int .i64 z, .pointer a]] w fun e w' => e = .returned (.bool a.isNone) ∧ Only [] w w' := by
  cases a with
  | none =>
    go_enter Tryd.func38, Tryd.ntmps38
    go_wp2
    go_ret
    exact ⟨rfl, (Only.refl _ _).alloc _⟩
  | some a =>
    go_enter Tryd.func38, Tryd.ntmps38
    go_wp2
    go_ret
    exact ⟨rfl, (Only.refl _ _).alloc _⟩
theorem ptr_none (nd : Nat → Option Nod) (i : Nat) : ((nd i).map (fun n => (⟨n.b, 0, none⟩ : Addr))).isNone = (nd i).isNone := by cases nd i <;> rfl
/-- The least number that is free. -/
def leastFree (most : Nat) (nd : Nat → Option Nod) (r : Int) : Prop :=
  (r = -1 ∧ ∀ j : Nat, j < most → (nd j).isSome = true) ∨ ∃ i : Nat, r = (i : Int) ∧ i < most ∧ nd i = none ∧ ∀ j : Nat, j < i → (nd j).isSome = true
theorem Row.open (p : Row) : ∃ ad, p.v = .slice ad p.N p.cap ∧ ∀ b, p.a = some b → ad = some ⟨b, 0, none⟩ := ⟨_, rfl, fun b hb => by rw [hb]; rfl⟩
set_option maxHeartbeats 1000000 in
theorem indexFree (w : World) (t : Nat) (p : Row) (most : Nat) (g : Nat → Nat) (nd : Nat → Option Nod) (h : TabAt w t p most g nd) (hm : p.N ≤ 1000) :
    Calls Tryd.prog 48 #[p.v, .func (.func 38) #[] #[]] w fun e w' => (∃ r, e = .returned (.int .i64 r) ∧ leastFree p.N nd r) ∧ Only [] w w' := by
  have H : Hid (TabAt w t p most g nd) := h
  clear h
  obtain ⟨ad, hv, had⟩ := p.open
  rw [hv]
  clear hv
  have HAD : Hid (∀ b, p.a = some b → ad = some ⟨b, 0, none⟩) := had
  clear had
  obtain ⟨N, hN⟩ : ∃ N, p.N = N := ⟨_, rfl⟩
  have HN : Hid (p.N = N) := hN
  rw [hN] at hm ⊢
  clear hN
  generalize p.cap = cap
  go_enter Tryd.func48, Tryd.ntmps48
  go_wp2
  go_loopw [5, 8] (fun _ i wr => ∃ j : Nat, i = .int .i64 j ∧ j ≤ N ∧ (∀ q, q < j → (nd q).isSome = true) ∧ Only [] w wr) (fun _ i _ => N - (intOf i).toNat)
  case atStart => exact ⟨0, rfl, Nat.zero_le _, fun q hq => by omega, Only.refl _ _⟩
  case round =>
    obtain ⟨j, rfl, hj, hall, ho⟩ := hrel
    have HA : Hid (∀ q, q < j → (nd q).isSome = true) := hall
    clear hall
    by_cases hlt : j < N
    · have hT := H.out.kept ho (fun _ _ => by simp)
      obtain ⟨b, hb, c0, c1, _, _⟩ := hT.place_at (by rw [HN.out]; exact hlt)
      obtain rfl := HAD.out b hb
      have hcall := isFree_any wr (g j) ((nd j).map (fun n => (⟨n.b, 0, none⟩ : Addr)))
      rw [ptr_none] at hcall
      clear hT hb
      cases hn : (nd j).isNone with
      | true =>
        rw [hn] at hcall
        go_wp2_with (go_at_call 38; go_must (refine hcall.mono ?_); rintro e w2 ⟨rfl, ho2⟩)
        go_ret
        exact ⟨⟨j, rfl, Or.inr ⟨j, rfl, hlt, by simpa using hn, HA.out⟩⟩, ho.trans ho2 (fun _ hk => by cases hk)⟩
      | false =>
        rw [hn] at hcall
        go_wp2_with (go_at_call 38; go_must (refine hcall.mono ?_); rintro e w2 ⟨rfl, ho2⟩)
        go_roundw
        case rel => exact ⟨j + 1, by go_num, by omega, fun q hq => by
                      rcases Nat.lt_or_ge q j with h1 | h1
                      · exact HA.out q h1
                      · obtain rfl : q = j := by omega
                        cases hh : nd q with
                        | none => rw [hh] at hn; cases hn
                        | some n => rfl, ho.trans ho2 (fun _ hk => by cases hk)⟩
        case measure => simp [intOf]; omega
    · obtain rfl : j = N := by omega
      go_wp2
      go_ret
      exact ⟨⟨-1, rfl, Or.inl ⟨rfl, HA.out⟩⟩, ho⟩
/-- How many are there among the first j. -/
def countTo (nd : Nat → Option Nod) (j : Nat) : Nat := ((List.range j).filter (fun i => (nd i).isSome)).length
theorem countTo_succ (nd : Nat → Option Nod) (j : Nat) : countTo nd (j + 1) = countTo nd j + if (nd j).isSome then 1 else 0 := by
  unfold countTo
  rw [List.range_succ, List.filter_append, List.length_append]
  cases h : nd j <;> simp [h]
theorem countTo_le (nd : Nat → Option Nod) (j : Nat) : countTo nd j ≤ j := by
  have := List.length_filter_le (fun i => (nd i).isSome) (List.range j)
  rw [List.length_range] at this
  exact this
set_option maxHeartbeats 1000000 in
theorem tcount (w : World) (t : Nat) (p : Row) (most : Nat) (g : Nat → Nat) (nd : Nat → Option Nod) (h : TabAt w t p most g nd) (hm : p.N ≤ 1000) :
    Calls Tryd.prog 25 #[.pointer (some ⟨t, 0, none⟩)] w fun e w' => e = .returned (.int .i64 (countTo nd p.N : Nat)) ∧ Only [] w w' := by
  have H : Hid (TabAt w t p most g nd) := h
  have ct := h.tab
  clear h
  obtain ⟨ad, hv, had⟩ := p.open
  rw [hv] at ct
  clear hv
  have HAD : Hid (∀ b, p.a = some b → ad = some ⟨b, 0, none⟩) := had
  clear had
  obtain ⟨N, hN⟩ : ∃ N, p.N = N := ⟨_, rfl⟩
  have HN : Hid (p.N = N) := hN
  rw [hN] at hm ct ⊢
  clear hN
  generalize p.cap = cap at ct
  go_enter Tryd.func25, Tryd.ntmps25
  go_wp2
  clear ct
  go_loopw [3, 5, 11] (fun c _ i wr => ∃ j : Nat, i = .int .i64 j ∧ j ≤ N ∧ c = .int .i64 (countTo nd j : Nat) ∧ Only [] w wr) (fun _ _ i _ => N - (intOf i).toNat)
  case atStart => exact ⟨0, rfl, Nat.zero_le _, rfl, Only.refl _ _⟩
  case round =>
    obtain ⟨j, rfl, hj, rfl, ho⟩ := hrel
    have hle := countTo_le nd j
    by_cases hlt : j < N
    · have hT := H.out.kept ho (fun _ _ => by simp)
      obtain ⟨b, hb, c0, c1, _, _⟩ := hT.place_at (by rw [HN.out]; exact hlt)
      obtain rfl := HAD.out b hb
      clear hb
      have hs := countTo_succ nd j
      have HC : Hid (countTo nd (j + 1) = countTo nd j + if (nd j).isSome then 1 else 0) := hs
      clear hT hs
      generalize hK : countTo nd j = K at hle HC ⊢
      generalize hpa : (nd j).map (fun n => (⟨n.b, 0, none⟩ : Addr)) = pa at c1
      have hcall := isFree_any (wr.alloc (.cells #[.int .i64 (g j : Nat), .pointer pa] 84)) (g j) pa
      have HN : Hid (pa.isNone = !(nd j).isSome) := by subst hpa; cases nd j <;> rfl
      clear hpa hK
      cases hn : pa.isNone with
      | true =>
        rw [hn] at hcall
        go_wp2_with (go_at_call 38; go_must (refine hcall.mono ?_); rintro e w2 ⟨rfl, ho2⟩)
        go_roundw
        case rel =>
          have h1 := HN.out
          rw [hn] at h1
          have h2 := HC.out
          rw [show (nd j).isSome = false by simpa using h1.symm] at h2
          exact ⟨j + 1, by go_num, by omega, by rw [h2]; simp, (ho.alloc _).trans ho2 (fun _ hk => by cases hk)⟩
        case measure => simp [intOf]; omega
      | false =>
        rw [hn] at hcall
        go_wp2_with (go_at_call 38; go_must (refine hcall.mono ?_); rintro e w2 ⟨rfl, ho2⟩)
        go_roundw
        case rel =>
          have h1 := HN.out
          rw [hn] at h1
          have h2 := HC.out
          rw [show (nd j).isSome = true by simpa using h1.symm] at h2
          exact ⟨j + 1, by go_num, by omega, by rw [h2]; simp, (ho.alloc _).trans ho2 (fun _ hk => by cases hk)⟩
        case measure => simp [intOf]; omega
    · obtain rfl : j = N := by omega
      go_wp2
      go_ret
      exact ⟨rfl, ho⟩
end Go.Proofs.YtnbanflnepbgnaaDoor
