/- What each statement on names asks first: 'named' is true, by its contract. -/
import Derived.Test.YtnhpgpjopogbiaaDoorS5
namespace Go.Proofs.YtnhpgpjopogbiaaDoor
open Go Go.RowKit Go.Deep

theorem okN_a : OkN ⟨#[97]⟩ := ⟨by decide, by decide, by rw [Lib.toList_data]; rfl, by rw [Lib.toList_data]; rfl, by decide⟩
theorem okN_bc : OkN ⟨#[98, 46, 99]⟩ := ⟨by decide, by decide, by rw [Lib.toList_data]; rfl, by rw [Lib.toList_data]; rfl, by decide⟩
theorem okN_a1 : OkN ⟨#[97, 45, 49]⟩ := ⟨by decide, by decide, by rw [Lib.toList_data]; rfl, by rw [Lib.toList_data]; rfl, by decide⟩
theorem okN_no : ¬ OkN ⟨#[46, 46]⟩ := fun h => by
  have := h.2.2.2.1
  rw [Lib.toList_data] at this
  exact absurd this (by decide)
theorem words_two : wordsOf [47, 97, 47, 98, 46, 99] = [[97], [98, 46, 99]] := by decide

theorem two_split (A : Nat → Addr) (m : Int) (w : World) (hE : Errs w A) (hm : w.cell? ⟨16, 0, none⟩ = some (.int .i64 m)) :
    Calls Tryd.prog 33 #[.string ⟨#[47, 97, 47, 98, 46, 99]⟩] w fun e w' => ∃ g o, e = .returned (.tuple #[.slice (some ⟨g, o, none⟩) 2 2, .nilIface]) ∧ w'.cell? ⟨g, o + 1, none⟩ = some (.string ⟨#[98, 46, 99]⟩) ∧ Below w.heap.size w w' := by
  refine (split_any ⟨#[47, 97, 47, 98, 46, 99]⟩ A m w hE hm (by decide)).mono ?_
  rintro e w' (⟨h, _⟩ | ⟨_, h, _⟩ | ⟨_, _, code, place, v, hP, hV, hB, hR⟩)
  · rw [Lib.toList_data] at h
    exact absurd h (by decide)
  · exact absurd (h (by decide)) (by decide)
  · rw [show (⟨#[47, 97, 47, 98, 46, 99]⟩ : ByteArray).data.toList = [47, 97, 47, 98, 46, 99] from rfl, words_two] at hP hR
    have h0 : code = 0 := by
      rcases hP with ⟨i, hi, hno, _⟩ | ⟨_, h12, _⟩ | ⟨_, _, h0, _⟩
      · exfalso
        match i, hi with
        | 0, _ => exact hno okN_a
        | 1, _ => exact hno okN_bc
      · exact absurd h12 (by decide)
      · exact h0
    rcases hR with ⟨_, a, he, hT⟩ | ⟨hn, _⟩
    · rcases hT with hT | ⟨g, o, rfl, hc⟩
      · cases hT
      · exact ⟨g, o, he, hc 1 (by decide), hB⟩
    · exact absurd h0 hn
theorem check_a1 (A : Nat → Addr) (w : World) (hE : Errs w A) : Calls Tryd.prog 31 #[.string ⟨#[97, 45, 49]⟩] w fun e w' => e = .returned .nilIface ∧ Below w.heap.size w w' :=
  (check_any ⟨#[97, 45, 49]⟩ A w hE).mono fun _ _ h => ⟨h.1.elim (fun k => k.2) (fun k => absurd okN_a1 k.1), h.2⟩
theorem check_no (A : Nat → Addr) (w : World) (hE : Errs w A) : Calls Tryd.prog 31 #[.string ⟨#[46, 46]⟩] w fun e w' => e = .returned (.iface 79 (.pointer (some (A 3)))) ∧ Below w.heap.size w w' :=
  (check_any ⟨#[46, 46]⟩ A w hE).mono fun _ _ h => ⟨h.1.elim (fun k => absurd k.1 okN_no) (fun k => k.2), h.2⟩

theorem named_any (A : Nat → Addr) (m : Int) (w : World) (hE : Errs w A) (hm : w.cell? ⟨16, 0, none⟩ = some (.int .i64 m)) :
    Calls Tryd.prog 30 #[] w fun e w' => e = .returned (.bool true) ∧ Below w.heap.size w w' := by
  have hs := two_split A m w hE hm
  have HE : Hid _ := hE
  clear hE hm
  go_enter Tryd.func30, Tryd.ntmps30
  go_wp2_with (go_at_call 33; go_must (refine hs.mono ?_); rintro e w1 ⟨g, o, rfl, hc, hb1⟩)
  have E1 := HE.out.below hb1 (Nat.le_refl _)
  have C1 := check_a1 A w1 E1
  refine C1.mono ?_
  rintro e w2 ⟨rfl, hb2⟩
  have E2 := E1.below hb2 (Nat.le_refl _)
  have C2 := check_no A w2 E2
  have HE2 : Hid (Errs w2 A) := E2
  have HB1 : Hid (Below w.heap.size w w1) := hb1
  have HB2 : Hid (Below w1.heap.size w1 w2) := hb2
  have HC : Hid (w1.cell? ⟨g, o + 1, none⟩ = some (.string ⟨#[98, 46, 99]⟩)) := hc
  clear E1 E2 C1 hb1 hb2 hs hc
  go_wp2_with (go_at_call 31; go_must (refine C2.mono ?_); rintro e w3 ⟨rfl, hb3⟩)
  have C3 := coded_err A 3 (by decide) w3 (HE2.out.below hb3 (Nat.le_refl _))
  have HB3 : Hid (Below w2.heap.size w2 w3) := hb3
  clear hb3 C2
  refine C3.mono ?_
  rintro e w4 ⟨rfl, hb4⟩
  have hb24 : Below w1.heap.size w1 w4 := HB2.out.trans ((HB3.out.trans (hb4.mono HB3.out.size)).mono HB2.out.size)
  have hc4 : w4.cell? ⟨g, o + 1, none⟩ = some (.string ⟨#[98, 46, 99]⟩) := (hb24.cell (p := ⟨g, o + 1, none⟩) (lt_of_cell HC.out)).trans HC.out
  have HB : Hid (Below w.heap.size w w4) := HB1.out.trans (hb24.mono HB1.out.size)
  clear hb4 hb24 HC
  go_wp2
  go_ret
  exact ⟨rfl, HB.out⟩
end Go.Proofs.YtnhpgpjopogbiaaDoor
