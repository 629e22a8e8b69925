/- CutItem by its contract. -/
import Derived.Test.YtigcbdcgfloggaaDoorB2
namespace Go.Proofs.YtigcbdcgfloggaaDoor
open Go Go.RowKit Go.Deep

/-- How CutItem ends. -/
def CutEnds (s : ByteArray) (m : Int) (w : World) (e : Ending) (w' : World) : Prop :=
  ((ItemOk s m ∧ e = .returned (.tuple #[.string (s.extract 4 (4 + numAt s 4)), .string (cutAt s (4 + numAt s 4 + fillN (numAt s 4))), .bool true])) ∨
   (¬ ItemOk s m ∧ e = .returned (.tuple #[.string (bs []), .string s, .bool false]))) ∧ Below w.heap.size w w'

theorem cutItem_short (s : ByteArray) (m : Int) (w : World) (h : s.size < 4) : Calls Tryd.prog 26 #[.string s, .int .i64 m] w (CutEnds s m w) := by
  have hno : ¬ ItemOk s m := fun k => by have := k.1; omega
  have HN : Hid _ := hno
  clear hno
  go_enter Tryd.func26, Tryd.ntmps26
  go_wp2_with (go_at_call 25; refine (cut4_short s _ h).mono ?_; rintro e w1 ⟨rfl, rfl⟩)
  go_ret3
  exact ⟨Or.inr ⟨HN.out, rfl⟩, Below.refl _ _⟩

theorem cutItem_many (s : ByteArray) (m : Int) (w : World) (h : 4 ≤ s.size) (hs : s.size ≤ 5000) (hm : m < (numAt s 4 : Int)) : Calls Tryd.prog 26 #[.string s, .int .i64 m] w (CutEnds s m w) := by
  have hno : ¬ ItemOk s m := fun k => by have := k.2.1; omega
  have HN : Hid _ := hno
  clear hno
  have hl : numAt s 4 < 4294967296 := numAt_lt s 4
  go_enter Tryd.func26, Tryd.ntmps26
  go_wp2_with (go_at_call 25; refine (cut4_ok s _ h hs).mono ?_; rintro e w1 ⟨rfl, hb1⟩)
  go_ret3
  exact ⟨Or.inr ⟨HN.out, rfl⟩, hb1⟩

theorem cutItem_few (s : ByteArray) (m : Int) (w : World) (h : 4 ≤ s.size) (hs : s.size ≤ 5000) (hm : (numAt s 4 : Int) ≤ m) (hf : s.size < 4 + numAt s 4) : Calls Tryd.prog 26 #[.string s, .int .i64 m] w (CutEnds s m w) := by
  have hno : ¬ ItemOk s m := fun k => by have := k.2.2.1; omega
  have HN : Hid _ := hno
  clear hno
  have hl : numAt s 4 < 4294967296 := numAt_lt s 4
  have hc := cutAt_size s 4
  have hcl : (cutAt s 4).size < numAt s 4 := by omega
  have hd1 : decide (m < (numAt s 4 : Int)) = false := decide_eq_false (by omega)
  have hd2 : decide (((cutAt s 4).size : Int) < (numAt s 4 : Int)) = true := decide_eq_true (by omega)
  clear hc
  go_enter Tryd.func26, Tryd.ntmps26
  go_wp2_with (go_at_call 25; refine (cut4_ok s _ h hs).mono ?_; rintro e w1 ⟨rfl, hb1⟩)
  go_ret3
  exact ⟨Or.inr ⟨HN.out, rfl⟩, hb1⟩

theorem fill_step (c j : Nat) (h : j < fillN c) : 0 < (c + j) % 4 := by unfold fillN at h; omega
theorem fill_end (c : Nat) : (c + fillN c) % 4 = 0 := by unfold fillN; omega

/-- Behind the number: the bytes and their filling. -/
def FillOk (R : ByteArray) (c : Nat) : Prop := c + fillN c ≤ R.size ∧ ∀ x, (hx : c + x < R.size) → x < fillN c → R[c + x] = 0

set_option maxHeartbeats 1000000 in
theorem cutItem_core (s R : ByteArray) (c : Nat) (m : Int) (w : World) (hcut : ∀ w, Calls Tryd.prog 25 #[.string s, .int .i64 4] w fun e w' => e = .returned (.tuple #[.int .i64 c, .string R]) ∧ Below w.heap.size w w') (hc : c ≤ R.size) (hR : R.size ≤ 5000) (hm : (c : Int) ≤ m) :
    Calls Tryd.prog 26 #[.string s, .int .i64 m] w fun e w' =>
      ((FillOk R c ∧ e = .returned (.tuple #[.string (R.extract 0 c), .string (R.extract (c + fillN c) R.size), .bool true])) ∨
       (¬ FillOk R c ∧ e = .returned (.tuple #[.string (bs []), .string s, .bool false]))) ∧ Below w.heap.size w w' := by
  have HC : Hid _ := hcut
  clear hcut
  have hfl := fillN_lt c
  have hd1 : decide (m < (c : Int)) = false := decide_eq_false (by omega)
  have hd2 : decide (R.size < c) = false := decide_eq_false (by omega)
  have hd0 : decide ((c : Int) < 0) = false := decide_eq_false (by omega)
  go_enter Tryd.func26, Tryd.ntmps26
  go_wp2_with (go_at_call 25; refine Calls.mono (HC.out _) ?_; rintro e w1 ⟨rfl, hb1⟩)
  go_loop [9] (fun i => ∃ j : Nat, j ≤ fillN c ∧ c + j ≤ R.size ∧ i = .int .i64 ((c + j : Nat) : Int) ∧ ∀ x, (hx : c + x < R.size) → x < j → R[c + x] = 0) (fun i => c + 4 - (intOf i).toNat)
  case atStart => exact ⟨0, Nat.zero_le _, by omega, by simp, fun x _ h => absurd h (Nat.not_lt_zero _)⟩
  case round =>
    obtain ⟨j, hj, hjs, rfl, hall⟩ := hrel
    have HA : Hid _ := hall
    clear hall
    by_cases hlt : j < fillN c
    · have hst := fill_step _ _ hlt
      by_cases hin : c + j < R.size
      · have hge : decide ((R.size : Int) ≤ (c : Int) + (j : Int)) = false := decide_eq_false (by omega)
        go_wp2
        · have hz : ((R[c + j].toNat : Int) != 0) = true := by assumption
          have hno : ¬ FillOk R c := fun k => by
            have := k.2 j hin hlt
            rw [this] at hz
            simp at hz
          go_ret3
          exact ⟨Or.inr ⟨hno, rfl⟩, hb1⟩
        · have hz : R[c + j] = 0 := zero_of (by assumption)
          have HZ : Hid _ := hz
          clear hz
          have hnext : ∀ x, (hx : c + x < R.size) → x < j + 1 → R[c + x] = 0 := fun x hx hxj => by
            rcases Nat.lt_or_ge x j with h1 | h1
            · exact HA.out x hx h1
            · obtain rfl : x = j := by omega
              exact HZ.out
          go_round
          case rel => exact ⟨j + 1, by omega, by omega, by go_num, hnext⟩
          case measure => simp [intOf]; omega
      · have hno : ¬ FillOk R c := fun k => by have := k.1; omega
        have HN : Hid _ := hno
        clear hno
        go_wp2
        go_ret3
        exact ⟨Or.inr ⟨HN.out, rfl⟩, hb1⟩
    · obtain rfl : j = fillN c := by omega
      have hen := fill_end c
      have hok : FillOk R c := ⟨hjs, fun x hx hxf => HA.out x hx hxf⟩
      have HO : Hid _ := hok
      clear hok HA
      go_wp2
      go_region
      all_goals
        go_wp2
        go_ret3
        exact ⟨Or.inl ⟨HO.out, rfl⟩, hb1.drew⟩

theorem cutItem_ends (s : ByteArray) (m : Int) (w : World) (hs : s.size ≤ 5000) : Calls Tryd.prog 26 #[.string s, .int .i64 m] w (CutEnds s m w) := by
  by_cases h4 : 4 ≤ s.size
  · by_cases hm : (numAt s 4 : Int) ≤ m
    · by_cases hf : 4 + numAt s 4 ≤ s.size
      · have hc := cutAt_size s 4
        refine (cutItem_core s (cutAt s 4) (numAt s 4) m w (fun w => cut4_ok s w h4 hs) (by omega) (by omega) hm).mono ?_
        rintro e w' ⟨h, hb⟩
        refine ⟨?_, hb⟩
        have hiff : FillOk (cutAt s 4) (numAt s 4) ↔ ItemOk s m := by
          constructor
          · intro k
            have hsz : 4 + numAt s 4 + fillN (numAt s 4) ≤ s.size := by have := k.1; omega
            exact ⟨h4, hm, hsz, (fill_iff s _ _ hsz).2 k.2⟩
          · intro k
            exact ⟨by have := k.2.2.1; omega, (fill_iff s _ _ k.2.2.1).1 k.2.2.2⟩
        rcases h with ⟨k, rfl⟩ | ⟨k, rfl⟩
        · refine Or.inl ⟨hiff.1 k, ?_⟩
          rw [item_bytes, item_rest, show 4 + (numAt s 4 + fillN (numAt s 4)) = 4 + numAt s 4 + fillN (numAt s 4) by omega]
        · exact Or.inr ⟨fun i => k (hiff.2 i), rfl⟩
      · exact cutItem_few s m w h4 hs hm (by omega)
    · exact cutItem_many s m w h4 hs (by omega)
  · exact cutItem_short s m w (by omega)
end Go.Proofs.YtigcbdcgfloggaaDoor
