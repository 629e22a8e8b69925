/- Messages: slices.IndexFunc over a test (isTo). -/
import Derived.Test.YtkfelijpajdcoaaDoorNe1
namespace Go.Proofs.YtkfelijpajdcoaaDoor
open Go Go.RowKit Go.Deep

set_option maxHeartbeats 1000000 in
theorem index_to (w : World) (base : Nat) (b1 : Value) (p : Msg → Bool) (v : Value) (l : List Msg) (h : Msgs w base v l) (hl : l.length ≤ 1000) (ht : TestOf w 33 #[b1] p) :
    Calls Tryd.prog 24 #[v, .func (.func 33) #[] #[b1]] w fun e w' => ∃ r, e = .returned (.int .i64 r) ∧ firstI p l r ∧ Only [] w w' := by
  have H : Hid (Msgs w base v l) := h
  have HT : Hid (TestOf w 33 #[b1] p) := ht
  obtain ⟨ad, n, cap, rfl, had⟩ : ∃ ad n cap, v = .slice ad n cap ∧ (l ≠ [] → ∃ g, ad = some ⟨g, 0, none⟩) ∧ n = l.length := by
    rcases RowM.open h with ⟨rfl, rfl⟩ | ⟨g, cap, cur, rfl, _⟩
    · exact ⟨none, 0, 0, rfl, fun h => absurd rfl h, rfl⟩
    · exact ⟨_, _, cap, rfl, fun _ => ⟨g, rfl⟩, rfl⟩
  obtain ⟨had, rfl⟩ := had
  have HA : Hid (l ≠ [] → ∃ g, ad = some ⟨g, 0, none⟩) := had
  clear h ht had
  obtain ⟨n, hn⟩ : ∃ n, l.length = n := ⟨_, rfl⟩
  have HN : Hid (l.length = n) := hn
  rw [hn] at hl
  have H' : Hid (Msgs w base (.slice ad n cap) l) := show Msgs w base (.slice ad n cap) l from by rw [← hn]; exact H.out
  rw [hn]
  clear hn H
  go_enter Tryd.func24, Tryd.ntmps24
  go_wp2
  go_loopw [5, 8] (fun _ i wr => ∃ j : Nat, i = .int .i64 j ∧ j ≤ n ∧ (∀ q y, q < j → l[q]? = some y → p y = false) ∧ Only [] w wr) (fun _ i _ => n - (intOf i).toNat)
  case atStart => exact ⟨0, rfl, Nat.zero_le _, fun q y hq => by omega, Only.refl _ _⟩
  case round =>
    obtain ⟨j, rfl, hj, hall, ho⟩ := hrel
    have HJ : Hid (∀ q y, q < j → l[q]? = some y → p y = false) := hall
    clear hall
    by_cases hlt : j < n
    · obtain ⟨x, hx⟩ : ∃ x, l[j]? = some x := ⟨_, List.getElem?_eq_getElem (by rw [HN.out]; exact hlt)⟩
      obtain ⟨g, rfl⟩ := HA.out (fun e => by rw [e] at hx; cases hx)
      have hO : Msgs wr base (.slice (some ⟨g, 0, none⟩) l.length cap) l := by have := RowM.only H'.out ho (fun _ _ => by simp); rw [← HN.out] at this; exact this
      obtain ⟨c0, c1, c2, cf⟩ := RowM.cells hO hx
      clear cf
      have hcall := HT.out wr x ho
      rw [show (#[msV x] : Array Value) ++ #[b1] = #[.agg #[.string x.F, .string x.T, .string x.X], b1] from rfl] at hcall
      have HX : Hid (l[j]? = some x) := hx
      clear hO hx
      cases hp : p x with
      | true =>
        rw [hp] at hcall
        go_wp2_with (go_at_call 33; refine hcall.mono ?_; rintro e w2 ⟨rfl, ho2⟩; have HO2 : Hid (Only [] wr w2) := ho2; clear hcall c0 c1 c2 ho2)
        go_ret
        exact ⟨(j : Int), rfl, Or.inr ⟨j, rfl, x, HX.out, hp, HJ.out⟩, ho.trans HO2.out (fun _ hk => by cases hk)⟩
      | false =>
        rw [hp] at hcall
        go_wp2_with (go_at_call 33; refine hcall.mono ?_; rintro e w2 ⟨rfl, ho2⟩; have HO2 : Hid (Only [] wr w2) := ho2; clear hcall c0 c1 c2 ho2)
        go_roundw
        case rel => exact ⟨j + 1, by go_num, by omega, fun q y hq hy => by
                      rcases Nat.lt_or_ge q j with h1 | h1
                      · exact HJ.out q y h1 hy
                      · obtain rfl : q = j := by omega
                        rw [HX.out] at hy
                        cases hy
                        exact hp, ho.trans HO2.out (fun _ hk => by cases hk)⟩
        case measure => simp [intOf]; omega
    · obtain rfl : j = n := by omega
      go_wp2
      go_ret
      refine ⟨-1, rfl, Or.inl ⟨rfl, fun x hx => ?_⟩, ho⟩
      obtain ⟨q, hq⟩ := List.mem_iff_getElem?.1 hx
      exact HJ.out q x (by have := (List.getElem?_eq_some_iff.1 hq).1; rw [HN.out] at this; exact this) hq
end Go.Proofs.YtkfelijpajdcoaaDoor
