/- The document's answer: digits of a number below one thousand. -/
import Derived.Test.YtlmppddgeclddaaDoorCa8
namespace Go.Proofs.YtlmppddgeclddaaDoor
open Go Go.RowKit Go.Deep

theorem ref_byte (n : Nat) (w : World) (hn : n < 256) : Calls Tryd.prog 20 #[.int .i64 n] w fun e w' => e = .returned (.string (bs [UInt8.ofNat n])) ∧ Below w.heap.size w w' := by
  have hcv := run_convert_bytes_back (P := Tryd.prog) (w.alloc (.cells #[.int .u8 n] 5)) 81 9 5 ⟨w.heap.size, 0, none⟩ 1 [UInt8.ofNat n] Tryd.underlying81 Tryd.underlying5 Tryd.underlying9 (fun x hx => by
    obtain rfl : x = 0 := by simpa using hx
    have e0 : (⟨w.heap.size, 0, none⟩ : Addr).add 0 = ⟨w.heap.size, 0, none⟩ := by unfold Addr.add; split <;> simp_all
    rw [e0, World.cell?_alloc_new]
    have : (UInt8.ofNat n).toNat = n := by rw [UInt8.toNat_ofNat']; omega
    simp [this])
  have hcv' : (convert 81 9 (.slice (some ⟨w.heap.size, 0, none⟩) 1 1)).run Tryd.prog (w.alloc (.cells #[.int .u8 n] 5)) = .ok (.string (bs [UInt8.ofNat n])) (w.alloc (.cells #[.int .u8 n] 5)) := hcv
  clear hcv
  go_enter Tryd.func20, Tryd.ntmps20
  go_wp2
  go_ret
  exact ⟨rfl, (Below.refl _ _).alloc (Nat.le_refl _) _⟩
theorem ref_byte_int (x : Int) (n : Nat) (w : World) (hx : x = (n : Int)) (hn : n < 256) : Calls Tryd.prog 20 #[.int .i64 x] w fun e w' => e = .returned (.string (bs [UInt8.ofNat n])) ∧ Below w.heap.size w w' := by
  subst hx; exact ref_byte n w hn
def dgt (q : Nat) : UInt8 := UInt8.ofNat (48 + q)
theorem dgt_toNat {q : Nat} (h : q < 10) : (dgt q).toNat = 48 + q := by
  unfold dgt
  rw [UInt8.toNat_ofNat']
  omega
theorem byte_dgt (x : Int) (q : Nat) (w : World) (hx : x = 48 + (q : Int)) (hn : q < 10) : Calls Tryd.prog 20 #[.int .i64 x] w fun e w' => e = .returned (.string (bs [dgt q])) ∧ Below w.heap.size w w' := ref_byte_int x (48 + q) w (by omega) (by omega)
set_option maxRecDepth 100000 in
theorem below_one (x : Int) (q : Nat) (w : World) (hx : x = -(q : Int)) (hq : q < 10) : Calls Tryd.prog 16 #[.int .i64 x] w fun e w' => e = .returned (.string (bs [dgt q])) ∧ Below w.heap.size w w' := by
  have hd : decide (-10 < x) = true := decide_eq_true (by omega)
  have hb := byte_dgt (48 - x) q w (by omega) hq
  have hw : wrap64 (48 - x) = 48 - x := by unfold wrap64; omega
  clear hx
  go_enter Tryd.func16, Tryd.ntmps16
  go_wp2_with (go_at_call 20; go_must (refine hb.mono ?_); rintro e w1 ⟨rfl, hb1⟩)
  go_ret
  exact ⟨rfl, hb1⟩
set_option maxRecDepth 100000 in
theorem below_two (x : Int) (q : Nat) (w : World) (hx : x = -(q : Int)) (hq : 10 ≤ q) (hq2 : q < 100) : Calls Tryd.prog 16 #[.int .i64 x] w fun e w' => e = .returned (.string (bs [dgt (q / 10), dgt (q % 10)])) ∧ Below w.heap.size w w' := by
  have hd : decide (-10 < x) = false := decide_eq_false (by omega)
  have h1 := fun w => below_one (x.tdiv 10) (q / 10) w (by subst hx; rw [Int.neg_tdiv, Int.tdiv_eq_ediv_of_nonneg (by omega)]; omega) (by omega)
  have h2 := fun w => byte_dgt (48 - x.tmod 10) (q % 10) w (by subst hx; rw [Int.neg_tmod, Int.tmod_eq_emod_of_nonneg (by omega)]; omega) (by omega)
  have hs : bs [dgt (q / 10)] ++ bs [dgt (q % 10)] = bs [dgt (q / 10), dgt (q % 10)] := by rw [bs_append]; rfl
  rw [← hs]
  have b1 : -100 < x := by omega
  have b2 : x ≤ -10 := by omega
  have hw : wrap64 (48 - x.tmod 10) = 48 - x.tmod 10 := by
    have : x.tmod 10 = -((q : Int) % 10) := by subst hx; rw [Int.neg_tmod, Int.tmod_eq_emod_of_nonneg (by omega)]
    unfold wrap64
    omega
  clear hx hs
  go_enter Tryd.func16, Tryd.ntmps16
  go_wp2_with (first
    | (go_at_call 16; go_must (refine (h1 _).mono ?_); rintro e w1 ⟨rfl, hb1⟩)
    | (go_at_call 20; go_must (refine (h2 _).mono ?_); rintro e w2 ⟨rfl, hb2⟩)
    | go_in)
  go_ret
  exact ⟨rfl, hb1.trans (hb2.mono hb1.size)⟩
set_option maxRecDepth 100000 in
theorem below_three (x : Int) (q : Nat) (w : World) (hx : x = -(q : Int)) (hq : 100 ≤ q) (hq2 : q < 1000) : Calls Tryd.prog 16 #[.int .i64 x] w fun e w' => e = .returned (.string (bs [dgt (q / 10 / 10), dgt (q / 10 % 10), dgt (q % 10)])) ∧ Below w.heap.size w w' := by
  have hd : decide (-10 < x) = false := decide_eq_false (by omega)
  have h1 := fun w => below_two (x.tdiv 10) (q / 10) w (by subst hx; rw [Int.neg_tdiv, Int.tdiv_eq_ediv_of_nonneg (by omega)]; omega) (by omega) (by omega)
  have h2 := fun w => byte_dgt (48 - x.tmod 10) (q % 10) w (by subst hx; rw [Int.neg_tmod, Int.tmod_eq_emod_of_nonneg (by omega)]; omega) (by omega)
  have hs : bs [dgt (q / 10 / 10), dgt (q / 10 % 10)] ++ bs [dgt (q % 10)] = bs [dgt (q / 10 / 10), dgt (q / 10 % 10), dgt (q % 10)] := by rw [bs_append]; rfl
  rw [← hs]
  have b1 : -1000 < x := by omega
  have b2 : x ≤ -100 := by omega
  have hw : wrap64 (48 - x.tmod 10) = 48 - x.tmod 10 := by
    have : x.tmod 10 = -((q : Int) % 10) := by subst hx; rw [Int.neg_tmod, Int.tmod_eq_emod_of_nonneg (by omega)]
    unfold wrap64
    omega
  clear hx hs
  go_enter Tryd.func16, Tryd.ntmps16
  go_wp2_with (first
    | (go_at_call 16; go_must (refine (h1 _).mono ?_); rintro e w1 ⟨rfl, hb1⟩)
    | (go_at_call 20; go_must (refine (h2 _).mono ?_); rintro e w2 ⟨rfl, hb2⟩)
    | go_in)
  go_ret
  exact ⟨rfl, hb1.trans (hb2.mono hb1.size)⟩
/-- The digits of a number below one thousand. -/
def decT (q : Nat) : List UInt8 := if q < 10 then [dgt q] else if q < 100 then [dgt (q / 10), dgt (q % 10)] else [dgt (q / 10 / 10), dgt (q / 10 % 10), dgt (q % 10)]
theorem belowT (q : Nat) (w : World) (hq : q < 1000) : Calls Tryd.prog 16 #[.int .i64 (-(q : Int))] w fun e w' => e = .returned (.string (bs (decT q))) ∧ Below w.heap.size w w' := by
  unfold decT
  by_cases h : q < 10
  · rw [if_pos h]
    exact below_one _ q w rfl h
  · rw [if_neg h]
    by_cases h2 : q < 100
    · rw [if_pos h2]
      exact below_two _ q w rfl (by omega) h2
    · rw [if_neg h2]
      exact below_three _ q w rfl (by omega) hq
set_option maxRecDepth 100000 in
theorem decimalT (q : Nat) (w : World) (hq : q < 1000) : Calls Tryd.prog 13 #[.int .i64 q] w fun e w' => e = .returned (.string (bs (decT q))) ∧ Below w.heap.size w w' := by
  have hb := belowT q w hq
  go_enter Tryd.func13, Tryd.ntmps13
  go_wp2_with (go_at_call 16; go_must (refine hb.mono ?_); rintro e w1 ⟨rfl, hb1⟩)
  go_ret
  exact ⟨rfl, hb1⟩
end Go.Proofs.YtlmppddgeclddaaDoor
