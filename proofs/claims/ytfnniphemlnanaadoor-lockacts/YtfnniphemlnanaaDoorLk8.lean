/- Locks: slices.IndexFunc over the tests of package lock. -/
import Derived.Test.YtfnniphemlnanaaDoorLk7
namespace Go.Proofs.YtfnniphemlnanaaDoor
open Go Go.RowKit Go.Deep

/-- The first that a test takes. -/
def firstI (p : Lk → Bool) (l : List Lk) (r : Int) : Prop := (r = -1 ∧ ∀ x ∈ l, p x = false) ∨ ∃ i : Nat, r = (i : Int) ∧ ∃ x, l[i]? = some x ∧ p x = true ∧ ∀ j y, j < i → l[j]? = some y → p y = false
set_option maxHeartbeats 1000000 in
theorem index_against (w : World) (base : Nat) (b1 : Value) (p : Lk → Bool) (v : Value) (l : List Lk) (h : Lks w base v l) (hl : l.length ≤ 1000) (hok : ∀ x ∈ l, x.Ok) (L : List Nat) (ht : TestOf w L 43 #[b1] p) :
    Calls Tryd.prog 28 #[v, .func (.func 43) #[] #[b1]] w fun e w' => ∃ r, e = .returned (.int .i64 r) ∧ firstI p l r ∧ Only [] w w' := by
  have H : Hid (Lks w base v l) := h
  have HT : Hid (TestOf w L 43 #[b1] p) := ht
  have HK : Hid (∀ x ∈ l, x.Ok) := hok
  obtain ⟨ad, n, cap, rfl, had⟩ : ∃ ad n cap, v = .slice ad n cap ∧ (l ≠ [] → ∃ g, ad = some ⟨g, 0, none⟩) ∧ n = l.length := by
    rcases row_open h with ⟨rfl, rfl⟩ | ⟨g, cap, cur, rfl, _⟩
    · exact ⟨none, 0, 0, rfl, fun h => absurd rfl h, rfl⟩
    · exact ⟨_, _, cap, rfl, fun _ => ⟨g, rfl⟩, rfl⟩
  obtain ⟨had, rfl⟩ := had
  have HA : Hid (l ≠ [] → ∃ g, ad = some ⟨g, 0, none⟩) := had
  clear h ht had hok
  obtain ⟨n, hn⟩ : ∃ n, l.length = n := ⟨_, rfl⟩
  have HN : Hid (l.length = n) := hn
  rw [hn] at hl
  have H' : Hid (Lks w base (.slice ad n cap) l) := show Lks w base (.slice ad n cap) l from by rw [← hn]; exact H.out
  rw [hn]
  clear hn H
  go_enter Tryd.func28, Tryd.ntmps28
  go_wp2
  go_loopw [5, 8] (fun _ i wr => ∃ j : Nat, i = .int .i64 j ∧ j ≤ n ∧ (∀ q y, q < j → l[q]? = some y → p y = false) ∧ Only [] w wr) (fun _ i _ => n - (intOf i).toNat)
  case atStart => exact ⟨0, rfl, Nat.zero_le _, fun q y hq => by omega, Only.refl _ _⟩
  case round =>
    obtain ⟨j, rfl, hj, hall, ho⟩ := hrel
    have HJ : Hid (∀ q y, q < j → l[q]? = some y → p y = false) := hall
    clear hall
    by_cases hlt : j < n
    · obtain ⟨x, hx⟩ : ∃ x, l[j]? = some x := ⟨_, List.getElem?_eq_getElem (by rw [HN.out]; exact hlt)⟩
      obtain ⟨g, rfl⟩ := HA.out (fun e => by rw [e] at hx; cases hx)
      have hO : Lks wr base (.slice (some ⟨g, 0, none⟩) l.length cap) l := by have := H'.out.only ho (fun _ _ => by simp); rw [← HN.out] at this; exact this
      obtain ⟨c0, c1, c2, c3, c4, c5⟩ := lk_cells hO rfl hx
      have hcall := HT.out wr x (ho.mono (fun _ hk => by cases hk)) (HK.out x (List.mem_of_getElem? hx))
      rw [show (#[lkV x] : Array Value) ++ #[b1] = #[.agg #[.int .i64 x.N, .int .i64 x.G, .int .i64 x.O, .int .i64 x.A, .int .i64 x.S, .bool x.W], b1] from rfl] at hcall
      have HX : Hid (l[j]? = some x) := hx
      clear hO hx
      cases hp : p x with
      | true =>
        rw [hp] at hcall
        go_wp2_with (go_at_call 43; refine hcall.mono ?_; rintro e w2 ⟨rfl, ho2⟩; have HO2 : Hid (Only [] wr w2) := ho2; clear hcall c0 c1 c2 c3 c4 c5 ho2)
        go_ret
        exact ⟨(j : Int), rfl, Or.inr ⟨j, rfl, x, HX.out, hp, HJ.out⟩, ho.trans HO2.out (fun _ hk => by cases hk)⟩
      | false =>
        rw [hp] at hcall
        go_wp2_with (go_at_call 43; refine hcall.mono ?_; rintro e w2 ⟨rfl, ho2⟩; have HO2 : Hid (Only [] wr w2) := ho2; clear hcall c0 c1 c2 c3 c4 c5 ho2)
        go_roundw
        case rel => exact ⟨j + 1, by go_num, by omega, fun q y hq hy => by
                      rcases Nat.lt_or_ge q j with h1 | h1
                      · exact HJ.out q y h1 hy
                      · obtain rfl : q = j := by omega
                        rw [HX.out] at hy
                        cases hy
                        exact hp, ho.trans HO2.out (fun _ hk => by cases hk)⟩
        case measure => simp [intOf]; omega
    · obtain rfl : j = n := by omega
      go_wp2
      go_ret
      refine ⟨-1, rfl, Or.inl ⟨rfl, fun x hx => ?_⟩, ho⟩
      obtain ⟨q, hq⟩ := List.mem_iff_getElem?.1 hx
      exact HJ.out q x (by have := (List.getElem?_eq_some_iff.1 hq).1; rw [HN.out] at this; exact this) hq
set_option maxHeartbeats 1000000 in
theorem index_by (w : World) (base : Nat) (b1 b2 : Value) (p : Lk → Bool) (v : Value) (l : List Lk) (h : Lks w base v l) (hl : l.length ≤ 1000) (hok : ∀ x ∈ l, x.Ok) (L : List Nat) (ht : TestOf w L 46 #[b1, b2] p) :
    Calls Tryd.prog 28 #[v, .func (.func 46) #[] #[b1, b2]] w fun e w' => ∃ r, e = .returned (.int .i64 r) ∧ firstI p l r ∧ Only [] w w' := by
  have H : Hid (Lks w base v l) := h
  have HT : Hid (TestOf w L 46 #[b1, b2] p) := ht
  have HK : Hid (∀ x ∈ l, x.Ok) := hok
  obtain ⟨ad, n, cap, rfl, had⟩ : ∃ ad n cap, v = .slice ad n cap ∧ (l ≠ [] → ∃ g, ad = some ⟨g, 0, none⟩) ∧ n = l.length := by
    rcases row_open h with ⟨rfl, rfl⟩ | ⟨g, cap, cur, rfl, _⟩
    · exact ⟨none, 0, 0, rfl, fun h => absurd rfl h, rfl⟩
    · exact ⟨_, _, cap, rfl, fun _ => ⟨g, rfl⟩, rfl⟩
  obtain ⟨had, rfl⟩ := had
  have HA : Hid (l ≠ [] → ∃ g, ad = some ⟨g, 0, none⟩) := had
  clear h ht had hok
  obtain ⟨n, hn⟩ : ∃ n, l.length = n := ⟨_, rfl⟩
  have HN : Hid (l.length = n) := hn
  rw [hn] at hl
  have H' : Hid (Lks w base (.slice ad n cap) l) := show Lks w base (.slice ad n cap) l from by rw [← hn]; exact H.out
  rw [hn]
  clear hn H
  go_enter Tryd.func28, Tryd.ntmps28
  go_wp2
  go_loopw [5, 8] (fun _ i wr => ∃ j : Nat, i = .int .i64 j ∧ j ≤ n ∧ (∀ q y, q < j → l[q]? = some y → p y = false) ∧ Only [] w wr) (fun _ i _ => n - (intOf i).toNat)
  case atStart => exact ⟨0, rfl, Nat.zero_le _, fun q y hq => by omega, Only.refl _ _⟩
  case round =>
    obtain ⟨j, rfl, hj, hall, ho⟩ := hrel
    have HJ : Hid (∀ q y, q < j → l[q]? = some y → p y = false) := hall
    clear hall
    by_cases hlt : j < n
    · obtain ⟨x, hx⟩ : ∃ x, l[j]? = some x := ⟨_, List.getElem?_eq_getElem (by rw [HN.out]; exact hlt)⟩
      obtain ⟨g, rfl⟩ := HA.out (fun e => by rw [e] at hx; cases hx)
      have hO : Lks wr base (.slice (some ⟨g, 0, none⟩) l.length cap) l := by have := H'.out.only ho (fun _ _ => by simp); rw [← HN.out] at this; exact this
      obtain ⟨c0, c1, c2, c3, c4, c5⟩ := lk_cells hO rfl hx
      have hcall := HT.out wr x (ho.mono (fun _ hk => by cases hk)) (HK.out x (List.mem_of_getElem? hx))
      rw [show (#[lkV x] : Array Value) ++ #[b1, b2] = #[.agg #[.int .i64 x.N, .int .i64 x.G, .int .i64 x.O, .int .i64 x.A, .int .i64 x.S, .bool x.W], b1, b2] from rfl] at hcall
      have HX : Hid (l[j]? = some x) := hx
      clear hO hx
      cases hp : p x with
      | true =>
        rw [hp] at hcall
        go_wp2_with (go_at_call 46; refine hcall.mono ?_; rintro e w2 ⟨rfl, ho2⟩; have HO2 : Hid (Only [] wr w2) := ho2; clear hcall c0 c1 c2 c3 c4 c5 ho2)
        go_ret
        exact ⟨(j : Int), rfl, Or.inr ⟨j, rfl, x, HX.out, hp, HJ.out⟩, ho.trans HO2.out (fun _ hk => by cases hk)⟩
      | false =>
        rw [hp] at hcall
        go_wp2_with (go_at_call 46; refine hcall.mono ?_; rintro e w2 ⟨rfl, ho2⟩; have HO2 : Hid (Only [] wr w2) := ho2; clear hcall c0 c1 c2 c3 c4 c5 ho2)
        go_roundw
        case rel => exact ⟨j + 1, by go_num, by omega, fun q y hq hy => by
                      rcases Nat.lt_or_ge q j with h1 | h1
                      · exact HJ.out q y h1 hy
                      · obtain rfl : q = j := by omega
                        rw [HX.out] at hy
                        cases hy
                        exact hp, ho.trans HO2.out (fun _ hk => by cases hk)⟩
        case measure => simp [intOf]; omega
    · obtain rfl : j = n := by omega
      go_wp2
      go_ret
      refine ⟨-1, rfl, Or.inl ⟨rfl, fun x hx => ?_⟩, ho⟩
      obtain ⟨q, hq⟩ := List.mem_iff_getElem?.1 hx
      exact HJ.out q x (by have := (List.getElem?_eq_some_iff.1 hq).1; rw [HN.out] at this; exact this) hq
set_option maxHeartbeats 1000000 in
theorem index_continuing (w : World) (base : Nat) (b1 b2 : Value) (p : Lk → Bool) (v : Value) (l : List Lk) (h : Lks w base v l) (hl : l.length ≤ 1000) (hok : ∀ x ∈ l, x.Ok) (L : List Nat) (ht : TestOf w L 55 #[b1, b2] p) :
    Calls Tryd.prog 28 #[v, .func (.func 55) #[] #[b1, b2]] w fun e w' => ∃ r, e = .returned (.int .i64 r) ∧ firstI p l r ∧ Only [] w w' := by
  have H : Hid (Lks w base v l) := h
  have HT : Hid (TestOf w L 55 #[b1, b2] p) := ht
  have HK : Hid (∀ x ∈ l, x.Ok) := hok
  obtain ⟨ad, n, cap, rfl, had⟩ : ∃ ad n cap, v = .slice ad n cap ∧ (l ≠ [] → ∃ g, ad = some ⟨g, 0, none⟩) ∧ n = l.length := by
    rcases row_open h with ⟨rfl, rfl⟩ | ⟨g, cap, cur, rfl, _⟩
    · exact ⟨none, 0, 0, rfl, fun h => absurd rfl h, rfl⟩
    · exact ⟨_, _, cap, rfl, fun _ => ⟨g, rfl⟩, rfl⟩
  obtain ⟨had, rfl⟩ := had
  have HA : Hid (l ≠ [] → ∃ g, ad = some ⟨g, 0, none⟩) := had
  clear h ht had hok
  obtain ⟨n, hn⟩ : ∃ n, l.length = n := ⟨_, rfl⟩
  have HN : Hid (l.length = n) := hn
  rw [hn] at hl
  have H' : Hid (Lks w base (.slice ad n cap) l) := show Lks w base (.slice ad n cap) l from by rw [← hn]; exact H.out
  rw [hn]
  clear hn H
  go_enter Tryd.func28, Tryd.ntmps28
  go_wp2
  go_loopw [5, 8] (fun _ i wr => ∃ j : Nat, i = .int .i64 j ∧ j ≤ n ∧ (∀ q y, q < j → l[q]? = some y → p y = false) ∧ Only [] w wr) (fun _ i _ => n - (intOf i).toNat)
  case atStart => exact ⟨0, rfl, Nat.zero_le _, fun q y hq => by omega, Only.refl _ _⟩
  case round =>
    obtain ⟨j, rfl, hj, hall, ho⟩ := hrel
    have HJ : Hid (∀ q y, q < j → l[q]? = some y → p y = false) := hall
    clear hall
    by_cases hlt : j < n
    · obtain ⟨x, hx⟩ : ∃ x, l[j]? = some x := ⟨_, List.getElem?_eq_getElem (by rw [HN.out]; exact hlt)⟩
      obtain ⟨g, rfl⟩ := HA.out (fun e => by rw [e] at hx; cases hx)
      have hO : Lks wr base (.slice (some ⟨g, 0, none⟩) l.length cap) l := by have := H'.out.only ho (fun _ _ => by simp); rw [← HN.out] at this; exact this
      obtain ⟨c0, c1, c2, c3, c4, c5⟩ := lk_cells hO rfl hx
      have hcall := HT.out wr x (ho.mono (fun _ hk => by cases hk)) (HK.out x (List.mem_of_getElem? hx))
      rw [show (#[lkV x] : Array Value) ++ #[b1, b2] = #[.agg #[.int .i64 x.N, .int .i64 x.G, .int .i64 x.O, .int .i64 x.A, .int .i64 x.S, .bool x.W], b1, b2] from rfl] at hcall
      have HX : Hid (l[j]? = some x) := hx
      clear hO hx
      cases hp : p x with
      | true =>
        rw [hp] at hcall
        go_wp2_with (go_at_call 55; refine hcall.mono ?_; rintro e w2 ⟨rfl, ho2⟩; have HO2 : Hid (Only [] wr w2) := ho2; clear hcall c0 c1 c2 c3 c4 c5 ho2)
        go_ret
        exact ⟨(j : Int), rfl, Or.inr ⟨j, rfl, x, HX.out, hp, HJ.out⟩, ho.trans HO2.out (fun _ hk => by cases hk)⟩
      | false =>
        rw [hp] at hcall
        go_wp2_with (go_at_call 55; refine hcall.mono ?_; rintro e w2 ⟨rfl, ho2⟩; have HO2 : Hid (Only [] wr w2) := ho2; clear hcall c0 c1 c2 c3 c4 c5 ho2)
        go_roundw
        case rel => exact ⟨j + 1, by go_num, by omega, fun q y hq hy => by
                      rcases Nat.lt_or_ge q j with h1 | h1
                      · exact HJ.out q y h1 hy
                      · obtain rfl : q = j := by omega
                        rw [HX.out] at hy
                        cases hy
                        exact hp, ho.trans HO2.out (fun _ hk => by cases hk)⟩
        case measure => simp [intOf]; omega
    · obtain rfl : j = n := by omega
      go_wp2
      go_ret
      refine ⟨-1, rfl, Or.inl ⟨rfl, fun x hx => ?_⟩, ho⟩
      obtain ⟨q, hq⟩ := List.mem_iff_getElem?.1 hx
      exact HJ.out q x (by have := (List.getElem?_eq_some_iff.1 hq).1; rw [HN.out] at this; exact this) hq
end Go.Proofs.YtfnniphemlnanaaDoor
