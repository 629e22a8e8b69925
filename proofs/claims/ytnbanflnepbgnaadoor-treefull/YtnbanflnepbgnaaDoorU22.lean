/- The document's answer: digits of a number below one hundred. -/
import Derived.Test.YtnbanflnepbgnaaDoorU20
namespace Go.Proofs.YtnbanflnepbgnaaDoor
open Go Go.RowKit Go.Deep

theorem ref_byte (n : Nat) (w : World) (hn : n < 256) : Calls Tryd.prog 33 #[.int .i64 n] w fun e w' => e = .returned (.string (bs [UInt8.ofNat n])) ∧ Below w.heap.size w w' := by
  have hcv := run_convert_bytes_back (P := Tryd.prog) (w.alloc (.cells #[.int .u8 n] 5)) 89 9 5 ⟨w.heap.size, 0, none⟩ 1 [UInt8.ofNat n] Tryd.underlying89 Tryd.underlying5 Tryd.underlying9 (fun x hx => by
    obtain rfl : x = 0 := by simpa using hx
    have e0 : (⟨w.heap.size, 0, none⟩ : Addr).add 0 = ⟨w.heap.size, 0, none⟩ := by unfold Addr.add; split <;> simp_all
    rw [e0, World.cell?_alloc_new]
    have : (UInt8.ofNat n).toNat = n := by rw [UInt8.toNat_ofNat']; omega
    simp [this])
  have hcv' : (convert 89 9 (.slice (some ⟨w.heap.size, 0, none⟩) 1 1)).run Tryd.prog (w.alloc (.cells #[.int .u8 n] 5)) = .ok (.string (bs [UInt8.ofNat n])) (w.alloc (.cells #[.int .u8 n] 5)) := hcv
  clear hcv
  go_enter Tryd.func33, Tryd.ntmps33
  go_wp2
  go_ret
  exact ⟨rfl, (Below.refl _ _).alloc (Nat.le_refl _) _⟩
theorem ref_byte_int (x : Int) (n : Nat) (w : World) (hx : x = (n : Int)) (hn : n < 256) : Calls Tryd.prog 33 #[.int .i64 x] w fun e w' => e = .returned (.string (bs [UInt8.ofNat n])) ∧ Below w.heap.size w w' := by
  subst hx; exact ref_byte n w hn
def dgt (q : Nat) : UInt8 := UInt8.ofNat (48 + q)
theorem dgt_toNat {q : Nat} (h : q < 10) : (dgt q).toNat = 48 + q := by
  unfold dgt
  rw [UInt8.toNat_ofNat']
  omega
/-- The digits of a number below one hundred. -/
def decL (q : Nat) : List UInt8 := if q < 10 then [dgt q] else [dgt (q / 10), dgt (q % 10)]
theorem byte_dgt (x : Int) (q : Nat) (w : World) (hx : x = 48 + (q : Int)) (hn : q < 10) : Calls Tryd.prog 33 #[.int .i64 x] w fun e w' => e = .returned (.string (bs [dgt q])) ∧ Below w.heap.size w w' := ref_byte_int x (48 + q) w (by omega) (by omega)
set_option maxRecDepth 100000 in
theorem below_one (x : Int) (q : Nat) (w : World) (hx : x = -(q : Int)) (hq : q < 10) : Calls Tryd.prog 22 #[.int .i64 x] w fun e w' => e = .returned (.string (bs [dgt q])) ∧ Below w.heap.size w w' := by
  have hd : decide (-10 < x) = true := decide_eq_true (by omega)
  have hb := byte_dgt (48 - x) q w (by omega) hq
  have hw : wrap64 (48 - x) = 48 - x := by unfold wrap64; omega
  clear hx
  go_enter Tryd.func22, Tryd.ntmps22
  go_wp2_with (go_at_call 33; go_must (refine hb.mono ?_); rintro e w1 ⟨rfl, hb1⟩)
  go_ret
  exact ⟨rfl, hb1⟩
set_option maxRecDepth 100000 in
theorem below_two (x : Int) (q : Nat) (w : World) (hx : x = -(q : Int)) (hq : 10 ≤ q) (hq2 : q < 100) : Calls Tryd.prog 22 #[.int .i64 x] w fun e w' => e = .returned (.string (bs [dgt (q / 10), dgt (q % 10)])) ∧ Below w.heap.size w w' := by
  have hd : decide (-10 < x) = false := decide_eq_false (by omega)
  have h1 := fun w => below_one (x.tdiv 10) (q / 10) w (by subst hx; rw [Int.neg_tdiv, Int.tdiv_eq_ediv_of_nonneg (by omega)]; omega) (by omega)
  have h2 := fun w => byte_dgt (48 - x.tmod 10) (q % 10) w (by subst hx; rw [Int.neg_tmod, Int.tmod_eq_emod_of_nonneg (by omega)]; omega) (by omega)
  have hs : bs [dgt (q / 10)] ++ bs [dgt (q % 10)] = bs [dgt (q / 10), dgt (q % 10)] := by rw [bs_append]; rfl
  rw [← hs]
  have b1 : -100 < x := by omega
  have b2 : x ≤ -10 := by omega
  have hw : wrap64 (48 - x.tmod 10) = 48 - x.tmod 10 := by
    have : x.tmod 10 = -((q : Int) % 10) := by subst hx; rw [Int.neg_tmod, Int.tmod_eq_emod_of_nonneg (by omega)]
    unfold wrap64
    omega
  clear hx hs
  go_enter Tryd.func22, Tryd.ntmps22
  go_wp2_with (first
    | (go_at_call 22; go_must (refine (h1 _).mono ?_); rintro e w1 ⟨rfl, hb1⟩)
    | (go_at_call 33; go_must (refine (h2 _).mono ?_); rintro e w2 ⟨rfl, hb2⟩)
    | go_in)
  go_ret
  exact ⟨rfl, hb1.trans (hb2.mono hb1.size)⟩
set_option maxRecDepth 100000 in
theorem decimal_any (q : Nat) (w : World) (hq : q < 100) : Calls Tryd.prog 8 #[.int .i64 q] w fun e w' => e = .returned (.string (bs (decL q))) ∧ Below w.heap.size w w' := by
  unfold decL
  by_cases h : q < 10
  · rw [if_pos h]
    have hb := below_one (-(q : Int)) q w rfl h
    go_enter Tryd.func8, Tryd.ntmps8
    go_wp2_with (go_at_call 22; go_must (refine hb.mono ?_); rintro e w1 ⟨rfl, hb1⟩)
    go_ret
    exact ⟨rfl, hb1⟩
  · rw [if_neg h]
    have hb := below_two (-(q : Int)) q w rfl (by omega) hq
    go_enter Tryd.func8, Tryd.ntmps8
    go_wp2_with (go_at_call 22; go_must (refine hb.mono ?_); rintro e w1 ⟨rfl, hb1⟩)
    go_ret
    exact ⟨rfl, hb1⟩
/-- A letter, and digits. -/
def lettered (c : UInt8) (q : Nat) : ByteArray := bs (c :: decL q)
theorem lettered_inj {c : UInt8} {q r : Nat} (hq : q < 100) (hr : r < 100) (h : (lettered c q).data.toList = (lettered c r).data.toList) : q = r := by
  have e : ∀ q, (lettered c q).data.toList = c :: decL q := fun q => by simp [lettered, bs]
  rw [e, e] at h
  have h := (List.cons.inj h).2
  unfold decL at h
  split at h <;> split at h
  · have h := congrArg UInt8.toNat (List.cons.inj h).1
    rw [dgt_toNat (by omega), dgt_toNat (by omega)] at h
    omega
  · simp at h
  · simp at h
  · have h1 := congrArg UInt8.toNat (List.cons.inj h).1
    have h2 := congrArg UInt8.toNat (List.cons.inj (List.cons.inj h).2).1
    rw [dgt_toNat (by omega), dgt_toNat (by omega)] at h1 h2
    omega
theorem lettered_ok (c : UInt8) (q : Nat) (hc : okC c.toNat = true) (hq : q < 100) : OkN (lettered c q) ∧ (lettered c q).size ≤ 1000 := by
  have g : ∀ n, n < 10 → okC (dgt n).toNat = true := fun n hn => by
    rw [dgt_toNat hn]
    unfold okC
    exact decide_eq_true (by omega)
  have sz : (lettered c q).size = (c :: decL q).length := by simp [lettered, bs, ByteArray.size]
  have ln : 1 ≤ (decL q).length ∧ (decL q).length ≤ 2 := by unfold decL; split <;> simp
  have tl : (lettered c q).toList = c :: decL q := by rw [Lib.toList_data]; simp [lettered, bs]
  have mem : ∀ b ∈ c :: decL q, okC b.toNat = true := fun b hb => by
    rcases List.mem_cons.1 hb with rfl | hb
    · exact hc
    · unfold decL at hb
      split at hb
      · obtain rfl := List.mem_singleton.1 hb
        exact g _ (by omega)
      · rcases List.mem_cons.1 hb with rfl | hb
        · exact g _ (by omega)
        · obtain rfl := List.mem_singleton.1 hb
          exact g _ (by omega)
  have d48 : ∀ n, n < 10 → dgt n ≠ 46 := fun n hn e => by
    have h := congrArg UInt8.toNat e
    rw [dgt_toNat hn] at h
    have h46 : (46 : UInt8).toNat = 46 := rfl
    omega
  refine ⟨⟨by rw [sz]; simp, by rw [sz, List.length_cons]; omega, ?_, ?_, fun x hx => mem _ ?_⟩, by rw [sz, List.length_cons]; omega⟩
  · rw [tl]
    simp only [beq_eq_false_iff_ne, ne_eq]
    intro e
    have h1 := congrArg List.length e
    rw [List.length_cons] at h1
    have h2 : [(46 : UInt8)].length = 1 := rfl
    omega
  · rw [tl]
    simp only [beq_eq_false_iff_ne, ne_eq]
    intro e
    have h := (List.cons.inj e).2
    unfold decL at h
    split at h
    · exact d48 _ (by omega) (List.cons.inj h).1
    · simp at h
  · have h1 : (lettered c q)[x] ∈ (lettered c q).data := Array.getElem_mem (xs := (lettered c q).data) hx
    have h2 : (lettered c q).data = (c :: decL q).toArray := rfl
    rw [h2] at h1
    simpa using h1
end Go.Proofs.YtnbanflnepbgnaaDoor
