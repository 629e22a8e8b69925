/- TurnGoes: the walk. -/
import Derived.Test.YtpecfccadhfdhaaDoorTu10
import Derived.Deep.Cut
namespace Go.Proofs.YtpecfccadhfdhaaDoor
open Go Go.RowKit Go.Deep Go.Maps

/-- Ahead of a turn by that number. -/
def Ahead (L : List Trn) (o : Int) (q : Nat) : Prop := L = [] ∨ ∃ p s, L = [⟨o, p, s⟩] ∧ p ≤ 4294967295 ∧ q = nextT p
theorem next_ne (p : Nat) : nextT p ≠ p := by
  unfold nextT
  split <;> omega
theorem next_le {p : Nat} (h : p ≤ 4294967295) : nextT p ≤ 4294967295 := by
  unfold nextT
  split <;> omega
theorem Ahead.beg {L : List Trn} {o : Int} {q : Nat} (h : Ahead L o q) (hq : q ≤ 4294967295) : begT L o (q : Int) = (0, false, ⟨#[]⟩) := by
  have hn : ¬ ((q : Int) < 0 ∨ 4294967295 < (q : Int)) := by omega
  unfold begT
  rw [if_neg hn]
  rcases h with rfl | ⟨p, s, rfl, hp, rfl⟩
  · rfl
  · have hf : findT [⟨o, p, s⟩] o = some ⟨o, p, s⟩ := by rw [findT_cons]; simp
    rw [hf]
    simp only
    have := next_ne p
    rw [if_neg (by omega)]
    simp
theorem Ahead.end {L : List Trn} {o : Int} {q : Nat} (h : Ahead L o q) (hq : q ≤ 4294967295) (r : ByteArray) : endT L o (q : Int) r = (0, [⟨o, q, r⟩]) := by
  rw [endT_ok r (by rw [h.beg hq]) (by rw [h.beg hq])]
  congr 1
  have : ((q : Int)).toNat = q := by omega
  rw [this]
  rcases h with rfl | ⟨p, s, rfl, hp, rfl⟩
  · rfl
  · unfold putT
    have hf : findT [⟨o, p, s⟩] o = some ⟨o, p, s⟩ := by rw [findT_cons]; simp
    simp [hf]
theorem beg_again1 (o : Int) {q : Nat} (r : ByteArray) (hq : q ≤ 4294967295) : begT [⟨o, q, r⟩] o (q : Int) = (0, true, r) := by
  have hn : ¬ ((q : Int) < 0 ∨ 4294967295 < (q : Int)) := by omega
  unfold begT
  rw [if_neg hn]
  have hf : findT [⟨o, q, r⟩] o = some ⟨o, q, r⟩ := by rw [findT_cons]; simp
  rw [hf]
  simp
/-- Within a turn: told for the first time, or again. -/
def Within (L : List Trn) (o : Int) (q i k did : Nat) : Prop := (k = 0 ∧ did = i ∧ Ahead L o q) ∨ (1 ≤ k ∧ k ≤ 2 ∧ did = i + 1 ∧ L = [⟨o, q, bs (decT i)⟩])
set_option maxRecDepth 100000 in
set_option maxHeartbeats 8000000 in
theorem goes_walk (o sq n : Int) (A : Nat → Addr) (w : World) (ho : I64 o) (hE : Err4 w A) (hn0 : 0 ≤ n) (hn : n ≤ 200) (hs0 : 0 ≤ sq) (hs : sq < 4294967296) : Calls Tryd.prog 4 #[.int .i64 o, .int .i64 sq, .int .i64 n] w fun e w' => e = .returned (.bool true) ∧ Below w.heap.size w w' := by
  have HE : Hid (Err4 w A) := hE
  have HI : Hid (I64 o) := ho
  have hh := turned_any A w hE
  obtain ⟨N, rfl⟩ : ∃ N : Nat, n = (N : Int) := ⟨n.toNat, by omega⟩
  obtain ⟨q0, rfl⟩ : ∃ q0 : Nat, sq = (q0 : Int) := ⟨sq.toNat, by omega⟩
  have g1 : decide ((N : Int) < 0) = false := decide_eq_false (by omega)
  have g2 : decide (200 < (N : Int)) = false := decide_eq_false (by omega)
  have g3 : decide ((q0 : Int) < 0) = false := decide_eq_false (by omega)
  have g4 : decide (4294967296 ≤ (q0 : Int)) = false := decide_eq_false (by omega)
  have hN : N ≤ 200 := by omega
  have hq0 : q0 ≤ 4294967295 := by omega
  clear hE ho hn0 hn hs0 hs
  go_enter Tryd.func4, Tryd.ntmps4
  go_wp2_with (first
    | (go_at_call 5; refine hh.mono ?_; rintro e w1 ⟨rfl, hb1⟩; have HG0 : Hid (TuW w (w1.alloc (.cells #[.map none] 27)) w1.heap.size []) := TuW.fresh hb1; clear hh hb1)
    | go_in)
  generalize w1.alloc (.cells #[.map none] 27) = w0 at HG0 ⊢
  generalize w1.heap.size = t at HG0 ⊢
  clear g1 g2 g3 g4
  go_loopw [1, 9, 10] (fun qv dv iv wr => ∃ (q i : Nat) (L : List Trn), qv = .int .i64 (q : Nat) ∧ dv = .int .i64 (i : Nat) ∧ iv = .int .i64 (i : Nat) ∧ i ≤ N ∧ q ≤ 4294967295 ∧ TuW w wr t L ∧ Ahead L o q) (fun _ _ iv _ => N - (intOf iv).toNat)
  case atStart => exact ⟨q0, 0, [], rfl, rfl, rfl, Nat.zero_le _, hq0, HG0.out, Or.inl rfl⟩
  case round =>
    obtain ⟨q, i, L, rfl, rfl, rfl, hi, hq, hT, hA⟩ := hrel
    clear HG0
    by_cases hlt : i < N
    · have hj2 : (i : Int) < N := by omega
      have HT : Hid (TuW w wr t L) := hT
      have HA : Hid (Ahead L o q) := hA
      clear hT hA
      go_wp2
      go_loopw [9, 11] (fun dv kv wq => ∃ (k did : Nat) (L2 : List Trn), dv = .int .i64 (did : Nat) ∧ kv = .int .i64 (k : Nat) ∧ k ≤ 2 ∧ TuW w wq t L2 ∧ Within L2 o q i k did) (fun _ kv _ => 2 - (intOf kv).toNat)
      case atStart => exact ⟨0, i, L, rfl, rfl, by omega, HT.out, Or.inl ⟨rfl, rfl, HA.out⟩⟩
      case round =>
        obtain ⟨k, did, L2, rfl, rfl, hk, hT2, hW⟩ := hrel
        rcases hW with ⟨rfl, rfl, hA2⟩ | ⟨hk1, hk2, rfl, rfl⟩
        · have hb := hT2.beg HE.out (q := (q : Int)) HI.out
          have e1 : begV A L2 o (q : Int) = .tuple #[.string ⟨#[]⟩, .bool false, .nilIface] := by unfold begV; rw [hA2.beg hq]; rfl
          rw [e1] at hb
          have HA2 : Hid (Ahead L2 o q) := hA2
          clear hT2 e1 hA2
          have HDE : Hid (∀ W, Calls Tryd.prog 14 #[.int .i64 did] W fun e w' => e = .returned (.string (bs (decT did))) ∧ Below W.heap.size W w') := fun W => decimalT did W (by omega)
          go_wp2_with (first
            | (go_at_call 6; refine hb.mono ?_; rintro e w3 ⟨rfl, h3, _⟩; have HT3 : Hid (TuW w w3 t L2) := h3; have hde := HDE.out w3; clear hb h3)
            | (go_at_call 14; refine hde.mono ?_; rintro e w4 ⟨rfl, hb4⟩; have HT4 : Hid (TuW w w4 t L2) := HT3.out.only (Only.of_below hb4 []); have hend := HT4.out.end HE.out (q := (q : Int)) (bs (decT did)) HI.out; rw [HA2.out.end hq] at hend; clear hde hb4)
            | (go_at_call 9; refine hend.mono ?_; rintro e w5 ⟨rfl, h5⟩; have HT5 : Hid (TuW w w5 t [⟨o, q, bs (decT did)⟩]) := h5; have he0 : errN A 0 = .nilIface := rfl; dsimp only; rw [he0]; clear hend h5 he0)
            | go_in)
          go_roundw
          case rel => exact ⟨1, did + 1, _, by go_num, by go_num, by omega, HT5.out, Or.inr ⟨Nat.le_refl _, by omega, rfl, rfl⟩⟩
          case measure => simp [intOf]
        · by_cases hk3 : k = 1
          · subst hk3
            have hb := hT2.beg HE.out (q := (q : Int)) HI.out
            have e1 : begV A [⟨o, q, bs (decT i)⟩] o (q : Int) = .tuple #[.string (bs (decT i)), .bool true, .nilIface] := by unfold begV; rw [beg_again1 o _ hq]; rfl
            rw [e1] at hb
            have HDE : Hid (∀ W, Calls Tryd.prog 14 #[.int .i64 i] W fun e w' => e = .returned (.string (bs (decT i))) ∧ Below W.heap.size W w') := fun W => decimalT i W (by omega)
            clear hT2 e1
            go_wp2_with (first
              | (go_at_call 6; refine hb.mono ?_; rintro e w3 ⟨rfl, h3, _⟩; have HT3 : Hid (TuW w w3 t [⟨o, q, bs (decT i)⟩]) := h3; have hde := HDE.out w3; clear hb h3)
              | (go_at_call 14; refine hde.mono ?_; rintro e w4 ⟨rfl, hb4⟩; have HT4 : Hid (TuW w w4 t [⟨o, q, bs (decT i)⟩]) := HT3.out.only (Only.of_below hb4 []); clear hde hb4)
              | go_in)
            go_roundw
            case rel => exact ⟨2, i + 1, _, by go_num, by go_num, by omega, HT4.out, Or.inr ⟨by omega, by omega, rfl, rfl⟩⟩
            case measure => simp [intOf]
          · obtain rfl : k = 2 := by omega
            have HT3 : Hid (TuW w wr t [⟨o, q, bs (decT i)⟩]) := hT2
            clear hT2
            by_cases hm : q = 4294967295
            · subst hm
              go_wp2
              go_roundw
              case rel => exact ⟨0, i + 1, _, by go_num, by go_num, by go_num, by omega, by omega, HT3.out, Or.inr ⟨_, _, rfl, by omega, rfl⟩⟩
              case measure => simp [intOf]; omega
            · have b1 : ((q : Int) + 1 == 4294967296) = false := beq_eq_false_iff_ne.2 (by omega)
              go_wp2
              go_roundw
              case rel => exact ⟨q + 1, i + 1, _, by go_num, by go_num, by go_num, by omega, by omega, HT3.out, Or.inr ⟨_, _, rfl, by omega, by unfold nextT; rw [if_neg hm]⟩⟩
              case measure => simp [intOf]; omega
    · obtain rfl : i = N := by omega
      have hj2 : decide ((i : Int) < i) = false := decide_eq_false (by omega)
      have HB : Hid (Below w.heap.size w wr) := hT.below
      clear hT hA
      go_wp2
      go_ret
      exact ⟨by simp, HB.out⟩
set_option maxRecDepth 100000 in
set_option maxHeartbeats 2000000 in
theorem goes_none (o sq n : Int) (A : Nat → Addr) (w : World) (hE : Err4 w A) (hb : n < 0 ∨ 200 < n ∨ sq < 0 ∨ 4294967296 ≤ sq) : Calls Tryd.prog 4 #[.int .i64 o, .int .i64 sq, .int .i64 n] w fun e w' => e = .returned (.bool true) ∧ Below w.heap.size w w' := by
  have hh := turned_any A w hE
  clear hE
  by_cases h1 : n < 0
  · have g1 : decide (n < 0) = true := decide_eq_true h1
    clear hb
    go_enter Tryd.func4, Tryd.ntmps4
    go_wp2_with (go_at_call 5; refine hh.mono ?_; rintro e w1 ⟨rfl, hb1⟩; have HB : Hid (Below w.heap.size w w1) := hb1; clear hh hb1)
    go_ret
    exact ⟨rfl, HB.out⟩
  have g1 : decide (n < 0) = false := decide_eq_false h1
  by_cases h2 : 200 < n
  · have g2 : decide (200 < n) = true := decide_eq_true h2
    clear hb
    go_enter Tryd.func4, Tryd.ntmps4
    go_wp2_with (go_at_call 5; refine hh.mono ?_; rintro e w1 ⟨rfl, hb1⟩; have HB : Hid (Below w.heap.size w w1) := hb1; clear hh hb1)
    go_ret
    exact ⟨rfl, HB.out⟩
  have g2 : decide (200 < n) = false := decide_eq_false h2
  by_cases h3 : sq < 0
  · have g3 : decide (sq < 0) = true := decide_eq_true h3
    clear hb
    go_enter Tryd.func4, Tryd.ntmps4
    go_wp2_with (go_at_call 5; refine hh.mono ?_; rintro e w1 ⟨rfl, hb1⟩; have HB : Hid (Below w.heap.size w w1) := hb1; clear hh hb1)
    go_ret
    exact ⟨rfl, HB.out⟩
  have g3 : decide (sq < 0) = false := decide_eq_false h3
  have g4 : decide (4294967296 ≤ sq) = true := decide_eq_true (by omega)
  clear hb
  go_enter Tryd.func4, Tryd.ntmps4
  go_wp2_with (go_at_call 5; refine hh.mono ?_; rintro e w1 ⟨rfl, hb1⟩; have HB : Hid (Below w.heap.size w w1) := hb1; clear hh hb1)
  go_ret
  exact ⟨rfl, HB.out⟩
theorem goes_all (o sq n : Int) (A : Nat → Addr) (w : World) (ho : I64 o) (hE : Err4 w A) : Calls Tryd.prog 4 #[.int .i64 o, .int .i64 sq, .int .i64 n] w fun e w' => e = .returned (.bool true) ∧ Below w.heap.size w w' := by
  by_cases hb : n < 0 ∨ 200 < n ∨ sq < 0 ∨ 4294967296 ≤ sq
  · exact goes_none o sq n A w hE hb
  · exact goes_walk o sq n A w ho hE (by omega) (by omega) (by omega) (by omega)
end Go.Proofs.YtpecfccadhfdhaaDoor
