/- Package names: Match by its contract: the walk. -/
import Derived.Test.YtnhpgpjopogbiabDoorS6
import Derived.Deep.QuietTactic
import Derived.BigQuiet
namespace Go.Proofs.YtnhpgpjopogbiabDoor
open Go Go.RowKit Go.Deep

theorem below_drawn {B : Nat} {a w : World} (h : Below B a w) (n : Nat) : Below B a (w.drewN n) := ⟨h.os, h.tape, h.output, h.size, h.block⟩
theorem stands_quiet (x y : Nat) (w : World) : Calls Tryd.prog 11 #[.int .u8 x, .int .u8 y] w fun e w' => e = .returned (.bool (fits x y)) ∧ ∃ n, w' = w.drewN n :=
  (stands_any x y w).mono fun _ _ ⟨he, hw⟩ => ⟨he, 0, hw.symm⟩
/-- The four counters of Match, ahead of a round. -/
def Round (P S : ByteArray) (w : World) (vp va vs ve : Value) (wr : World) : Prop :=
  ∃ (p a e : Nat) (st : Int), vp = .int .i64 p ∧ va = .int .i64 a ∧ vs = .int .i64 st ∧ ve = .int .i64 e ∧ -1 ≤ st ∧ st < (p : Int) ∧ Tries P S p a st e ∧ Below w.heap.size w wr
def left (P S : ByteArray) (a st e : Value) : Nat := (P.size + 1 - (intOf st + 1).toNat) * 1000000 + (S.size - (intOf e).toNat) * 1000 + (S.size - (intOf a).toNat)

set_option maxHeartbeats 2000000 in
theorem match_any (P S : ByteArray) (w : World) (hP : P.size ≤ 200) (hS : S.size ≤ 200) :
    Calls Tryd.prog 6 #[.string P, .string S] w fun e w' => e = .returned (.bool (pm P S P.size S.size)) ∧ Below w.heap.size w w' := by
  go_enter Tryd.func6, Tryd.ntmps6
  go_wp2
  go_loopw [5, 6, 7, 8] (fun vp va vs ve wr => Round P S w vp va vs ve wr) (fun _ va vs ve _ => left P S va vs ve)
  case atStart => exact ⟨0, 0, 0, -1, rfl, rfl, rfl, rfl, by decide, by decide, tries_start P S, Below.refl _ _⟩
  case round =>
    obtain ⟨p, a, e, st, rfl, rfl, rfl, rfl, hst, hsp, hT, hb⟩ := hrel
    have hp := hT.1
    have ha := hT.2.1
    have hea := hT.2.2.1
    have HT : Hid (Tries P S p a st e) := hT
    have HB : Hid _ := hb
    clear hT hb
    by_cases hlt : a < S.size
    · by_cases hpl : p < P.size
      · have HX : Hid (P[p].toNat = byteAt P p) := byteAt_get P p hpl
        have HY : Hid (S[a].toNat = byteAt S a) := byteAt_get S a hlt
        by_cases h42 : byteAt P p = 42
        · have e42 : ((P[p].toNat : Int) == 42) = true := by rw [beq_iff_eq]; have := HX.out; omega
          have HN : Hid (Tries P S (p + 1) a (p : Int) a) := tries_star HT.out hpl h42
          clear h42
          go_wp2
          go_roundw
          case rel => exact ⟨p + 1, a, a, p, by go_num, rfl, rfl, rfl, by omega, by omega, HN.out, HB.out⟩
          case measure => simp [intOf, left]; omega
        · have e42 : ((P[p].toNat : Int) == 42) = false := by rw [beq_eq_false_iff_ne]; have := HX.out; omega
          have hs := fun W => stands_quiet P[p].toNat S[a].toNat W
          by_cases hk : byteAt P p = 63 ∨ byteAt S a = byteAt P p
          · have HN : Hid (Tries P S (p + 1) (a + 1) st e) := tries_sign HT.out hpl hlt h42 hk
            have hf : fits P[p].toNat S[a].toNat = true := by rw [HX.out, HY.out]; exact fits_yes hk
            rw [hf] at hs
            clear h42 hk hf
            go_wp2
            go_quiet ((go_at_call 11; refine Calls.quiet_of (hs _)))
            have HB2 : Hid (Below w.heap.size w (wr.drewN nq)) := below_drawn HB.out nq
            go_wp2
            go_roundw
            case rel => exact ⟨p + 1, a + 1, e, st, by go_num, by go_num, rfl, rfl, hst, by omega, HN.out, HB2.out⟩
            case measure => simp [intOf, left]; omega
          · have HS : Hid (p < P.size → byteAt P p ≠ 42 ∧ ¬ (byteAt P p = 63 ∨ byteAt S a = byteAt P p)) := fun _ => ⟨h42, hk⟩
            have hf : fits P[p].toNat S[a].toNat = false := by rw [HX.out, HY.out]; exact fits_no hk
            rw [hf] at hs
            clear h42 hk hf
            by_cases hs0 : 0 ≤ st
            · obtain ⟨q, rfl⟩ : ∃ q : Nat, st = (q : Int) := ⟨st.toNat, by omega⟩
              have HN : Hid (Tries P S (q + 1) (e + 1) (q : Int) (e + 1) ∧ q + 1 ≤ P.size ∧ e + 1 ≤ S.size) := tries_again HT.out hlt HS.out
              have hq1 := HN.out.2.1
              have he1 := HN.out.2.2
              go_wp2
              go_quiet ((go_at_call 11; refine Calls.quiet_of (hs _)))
              have HB2 : Hid (Below w.heap.size w (wr.drewN nq)) := below_drawn HB.out nq
              go_wp2
              go_roundw
              case rel => exact ⟨q + 1, e + 1, e + 1, q, by go_num, by go_num, rfl, by go_num, by omega, by omega, HN.out.1, HB2.out⟩
              case measure => simp [intOf, left]; omega
            · have HV : Hid (pm P S P.size S.size = false) := tries_no HT.out (by omega) hlt HS.out
              go_wp2
              go_quiet ((go_at_call 11; refine Calls.quiet_of (hs _)))
              have HB2 : Hid (Below w.heap.size w (wr.drewN nq)) := below_drawn HB.out nq
              go_wp2
              go_ret
              exact ⟨by rw [HV.out]; rfl, HB2.out⟩
      · have HS : Hid (p < P.size → byteAt P p ≠ 42 ∧ ¬ (byteAt P p = 63 ∨ byteAt S a = byteAt P p)) := fun k => absurd k hpl
        by_cases hs0 : 0 ≤ st
        · obtain ⟨q, rfl⟩ : ∃ q : Nat, st = (q : Int) := ⟨st.toNat, by omega⟩
          have HN : Hid (Tries P S (q + 1) (e + 1) (q : Int) (e + 1) ∧ q + 1 ≤ P.size ∧ e + 1 ≤ S.size) := tries_again HT.out hlt HS.out
          have hq1 := HN.out.2.1
          have he1 := HN.out.2.2
          go_wp2
          go_quiet (fail)
          have HB2 : Hid (Below w.heap.size w (wr.drewN nq)) := below_drawn HB.out nq
          go_wp2
          go_roundw
          case rel => exact ⟨q + 1, e + 1, e + 1, q, by go_num, by go_num, rfl, by go_num, by omega, by omega, HN.out.1, HB2.out⟩
          case measure => simp [intOf, left]; omega
        · have HV : Hid (pm P S P.size S.size = false) := tries_no HT.out (by omega) hlt HS.out
          go_wp2
          go_quiet (fail)
          have HB2 : Hid (Below w.heap.size w (wr.drewN nq)) := below_drawn HB.out nq
          go_wp2
          go_ret
          exact ⟨by rw [HV.out]; rfl, HB2.out⟩
    · have hae : a = S.size := by omega
      by_cases hall : ∀ j, p ≤ j → j < P.size → byteAt P j = 42
      · have HV : Hid (pm P S P.size S.size = true) := tries_all HT.out hae hall
        have htr := trim_stars P p wr (by omega) hall
        clear hall hae
        go_wp2_with (go_at_call 12; go_must (refine htr.mono ?_); rintro e w1 ⟨rfl, hb1⟩)
        go_ret
        exact ⟨by rw [HV.out]; rfl, HB.out.trans (hb1.mono HB.out.size)⟩
      · have HV : Hid (pm P S P.size S.size = false) := tries_left HT.out hae hall
        have htr := trim_more P p wr (by omega) hall
        clear hall hae
        go_wp2_with (go_at_call 12; go_must (refine htr.mono ?_); rintro e w1 ⟨t, ht, rfl, hb1⟩)
        go_ret
        exact ⟨by rw [HV.out]; rfl, HB.out.trans (hb1.mono HB.out.size)⟩
end Go.Proofs.YtnhpgpjopogbiabDoor
