/- CacheLast: the walk. -/
import Derived.Test.YtlmppddgeclddaaDoorCa11
import Derived.Deep.Cut
import Derived.Deep.DeepCutAuto
namespace Go.Proofs.YtlmppddgeclddaaDoor
open Go Go.RowKit Go.Deep Go.Maps

def tX : ByteArray := ⟨#[116]⟩
def mkK (c : ByteArray) (j : Nat) : Kp := ⟨c, (j : Int), tX, bs (decT j)⟩
/-- What is kept behind i requests. -/
def lastK (c : ByteArray) (most i : Nat) : List Kp := ((List.range i).map (mkK c)).drop (i - most)
theorem lastK_len (c : ByteArray) (most i : Nat) : (lastK c most i).length = i - (i - most) := by
  unfold lastK
  rw [List.length_drop, List.length_map, List.length_range]
theorem lastK_zero (c : ByteArray) (most : Nat) : lastK c most 0 = [] := by simp [lastK]
theorem lastK_mem {c : ByteArray} {most i : Nat} {x : Kp} (h : x ∈ lastK c most i) : ∃ j, j < i ∧ x = mkK c j := by
  have := List.mem_of_mem_drop h
  obtain ⟨j, hj, rfl⟩ := List.mem_map.1 this
  exact ⟨j, List.mem_range.1 hj, rfl⟩
theorem lastK_new (c : ByteArray) (most i : Nat) : findK (lastK c most i) (c, (i : Int)) = none := findK_of_none fun x hx e => by
  obtain ⟨j, hj, rfl⟩ := lastK_mem hx
  unfold Kp.k mkK at e
  simp only [Prod.mk.injEq] at e
  omega
theorem lastK_step (c : ByteArray) {most : Nat} (h1 : 1 ≤ most) (i : Nat) : keepK most (lastK c most i) (mkK c i) = (0, lastK c most (i + 1)) := by
  unfold keepK
  rw [show (mkK c i).k = (c, (i : Int)) from rfl, lastK_new]
  simp only [Option.isSome_none, Bool.false_eq_true, if_false, Prod.mk.injEq, true_and]
  have e : ((List.range (i + 1)).map (mkK c)) = (List.range i).map (mkK c) ++ [mkK c i] := by rw [List.range_succ, List.map_append]; rfl
  unfold roomK
  rw [lastK_len]
  unfold lastK
  rw [e, List.drop_append_of_le_length (by rw [List.length_map, List.length_range]; omega)]
  congr 1
  by_cases h : i - (i - most) = most
  · rw [if_pos h, List.drop_drop]
    congr 1
    omega
  · rw [if_neg h]
    congr 1
    omega
theorem lastK_there {c : ByteArray} {most n j : Nat} (hj : j < n) (h : n - most ≤ j) : mkK c j ∈ lastK c most n := by
  unfold lastK
  rw [List.mem_iff_getElem?]
  refine ⟨j - (n - most), ?_⟩
  rw [List.getElem?_drop, List.getElem?_map, show n - most + (j - (n - most)) = j by omega, List.getElem?_range hj]
  rfl
theorem lastK_gone {c : ByteArray} {most n j : Nat} (h : j < n - most) : findK (lastK c most n) (c, (j : Int)) = none := findK_of_none fun x hx e => by
  unfold lastK at hx
  obtain ⟨k, hk⟩ := List.mem_iff_getElem?.1 hx
  rw [List.getElem?_drop, List.getElem?_map] at hk
  obtain ⟨q, hq, rfl⟩ := Option.map_eq_some_iff.1 hk
  obtain ⟨hlt, hq2⟩ := List.getElem?_eq_some_iff.1 hq
  rw [List.getElem_range] at hq2
  unfold Kp.k mkK at e
  simp only [Prod.mk.injEq] at e
  omega
theorem look_there {A : Nat → Addr} {c : ByteArray} {most n j : Nat} (hi : KInv most (lastK c most n)) (hj : j < n) (h : n - most ≤ j) : lookV A (lastK c most n) (c, (j : Int)) tX = .tuple #[.string (bs (decT j)), .bool true, .nilIface] := by
  have hf : findK (lastK c most n) (c, (j : Int)) = some (mkK c j) := findK_at hi.nod (lastK_there hj h)
  unfold lookV lookK
  rw [hf]
  simp [mkK, errN]
theorem look_gone {A : Nat → Addr} {c : ByteArray} {most n j : Nat} (h : j < n - most) : lookV A (lastK c most n) (c, (j : Int)) tX = .tuple #[.string ⟨#[]⟩, .bool false, .nilIface] := by
  unfold lookV lookK
  rw [lastK_gone h]
  simp [errN]
theorem okq_c {c : ByteArray} {j : Nat} (hc : c.size ≤ 100) (hj : j ≤ 100) : OkQ (c, (j : Int)) := by
  refine ⟨by show c.size ≤ maxLen; unfold maxLen; omega, ?_⟩
  show (Lit.int .i64 (j : Int)).wf = true
  simp [Lit.wf, IntKind.min, IntKind.max, IntKind.signed, IntKind.bits]
  omega
set_option maxRecDepth 100000 in
set_option maxHeartbeats 8000000 in
theorem klast_walk (most n : Nat) (c : ByteArray) (A : Nat → Addr) (w : World) (hE : Err4 w A) (h1 : 1 ≤ most) (h2 : most ≤ 20) (hn : n ≤ 100) (hc : c.size ≤ 100) : Calls Tryd.prog 4 #[.int .i64 (most : Nat), .int .i64 (n : Nat), .string c] w fun e w' => e = .returned (.bool true) ∧ Below w.heap.size w w' := by
  have HE : Hid (Err4 w A) := hE
  have hh := kept_any A w hE
  have HNEW : Hid (∀ W, Calls Tryd.prog 6 #[.int .i64 (most : Nat)] W fun e w' => NewR W w' most e) := fun W => new_ok W most h1 h2
  have HDEC : Hid (∀ (j : Nat) W, j < n → Calls Tryd.prog 13 #[.int .i64 (j : Nat)] W fun e w' => e = .returned (.string (bs (decT j))) ∧ Below W.heap.size W w') := fun j W hj => decimalT j W (by omega)
  have HKP : Hid (∀ (j t : Nat) W, j < n → CaW w W t most (lastK c most j) → Calls Tryd.prog 8 #[.pointer (some ⟨t, 0, none⟩), .string c, .int .i64 (j : Nat), .string ⟨#[116]⟩, .string (bs (decT j))] W fun e w' => e = .returned .nilIface ∧ CaW w w' t most (lastK c most (j + 1))) := fun j t W hj h => by
    have := h.keep HE.out (mkK c j) (okq_c hc (by omega))
    rw [lastK_step c h1] at this
    exact this
  have HLK : Hid (∀ (j t : Nat) W, j < n → CaW w W t most (lastK c most n) → Calls Tryd.prog 10 #[.pointer (some ⟨t, 0, none⟩), .string c, .int .i64 (j : Nat), .string ⟨#[116]⟩] W fun e w' => e = .returned (lookV A (lastK c most n) (c, (j : Int)) tX) ∧ CaW w w' t most (lastK c most n) ∧ Only [] W w') := fun j t W hj h => h.look HE.out (k := (c, (j : Int))) tX (okq_c hc (by omega))
  have g2 : decide ((most : Int) < 1) = false := decide_eq_false (by omega)
  have g3 : decide ((20 : Int) < most) = false := decide_eq_false (by omega)
  have g4 : decide ((n : Int) < 0) = false := decide_eq_false (by omega)
  have g5 : decide ((100 : Int) < n) = false := decide_eq_false (by omega)
  have g6 : decide ((100 : Int) < (c.size : Int)) = false := decide_eq_false (by omega)
  clear hE hc
  go_enter Tryd.func4, Tryd.ntmps4
  go_wp2_with (first
    | (go_at_call 5; refine hh.mono ?_; rintro e w1 ⟨rfl, hb1⟩; have HB1 : Hid (Below w.heap.size w w1) := hb1; clear hh hb1)
    | (go_at_call 6; refine (HNEW.out w1).mono ?_; rintro e w2 hN; obtain ⟨t, rfl, hc2⟩ := CaW.new HB1.out hN; have HG0 : Hid (CaW w w2 t most (lastK c most 0)) := (by show CaW w w2 t most (lastK c most 0); rw [lastK_zero]; exact hc2); clear hN hc2)
    | go_in)
  clear g2 g3 g4 g5 g6
  go_loopw [10] (fun i wr => ∃ j : Nat, i = .int .i64 (j : Nat) ∧ j ≤ n ∧ CaW w wr t most (lastK c most j)) (fun i _ => n - (intOf i).toNat)
  case atStart => exact ⟨0, rfl, Nat.zero_le _, HG0.out⟩
  case round =>
    obtain ⟨j, rfl, hj, hM⟩ := hrel
    clear HG0
    have HM : Hid (CaW w wr t most (lastK c most j)) := hM
    clear hM
    by_cases hlt : j < n
    · have hd := HDEC.out j wr hlt
      have HJ : Hid (j < n) := hlt
      go_wp2_with (first
        | (go_at_call 13; refine hd.mono ?_; rintro e w3 ⟨rfl, hb3⟩; have hkp := HKP.out j t w3 HJ.out (HM.out.only (Only.of_below hb3 [])); clear hd hb3)
        | (go_at_call 8; refine hkp.mono ?_; rintro e w4 ⟨rfl, h4⟩; have HM4 : Hid (CaW w w4 t most (lastK c most (j + 1))) := h4; clear hkp h4)
        | go_in)
      go_roundw
      case rel => exact ⟨j + 1, by go_num, by omega, HM4.out⟩
      case measure => simp [intOf]; omega
    · obtain rfl : n = j := by omega
      have hj2 : decide ((n : Int) < n) = false := decide_eq_false (by omega)
      go_wp2
      go_loopw [11] (fun i wq => ∃ j : Nat, i = .int .i64 (j : Nat) ∧ j ≤ n ∧ CaW w wq t most (lastK c most n)) (fun i _ => n - (intOf i).toNat)
      case atStart => exact ⟨0, rfl, Nat.zero_le _, HM.out⟩
      case round =>
        obtain ⟨j, rfl, hj, hM2⟩ := hrel
        clear HM hj2
        have HM : Hid (CaW w wr t most (lastK c most n)) := hM2
        have HI : Hid (KInv most (lastK c most n)) := hM2.inv
        clear hM2
        by_cases hlt : j < n
        · have hlk := HLK.out j t wr hlt HM.out
          have HDJ : Hid (∀ W, Calls Tryd.prog 13 #[.int .i64 (j : Nat)] W fun e w' => e = .returned (.string (bs (decT j))) ∧ Below W.heap.size W w') := fun W => HDEC.out j W hlt
          by_cases hin : n - most ≤ j
          · rw [look_there HI.out hlt hin] at hlk
            have d1 : decide ((n : Int) - (most : Int) ≤ (j : Int)) = true := decide_eq_true (by omega)
            have bb : ((bs (decT j)).toList == (bs (decT j)).toList) = true := by simp
            go_wp2_with (first
              | (go_at_call 10; refine hlk.mono ?_; rintro e w3 ⟨rfl, h3, _⟩; have HM3 : Hid (CaW w w3 t most (lastK c most n)) := h3; have hd := HDJ.out w3; clear hlk h3)
              | (go_at_call 13; refine hd.mono ?_; rintro e w4 ⟨rfl, hb4⟩; have HM4 : Hid (CaW w w4 t most (lastK c most n)) := HM3.out.only (Only.of_below hb4 []); clear hd hb4)
              | go_in)
            go_roundw
            case rel => exact ⟨j + 1, by go_num, by omega, HM4.out⟩
            case measure => simp [intOf]; omega
          · rw [look_gone (by omega)] at hlk
            have d1 : decide ((n : Int) - (most : Int) ≤ (j : Int)) = false := decide_eq_false (by omega)
            go_wp2_with (first
              | (go_at_call 10; refine hlk.mono ?_; rintro e w3 ⟨rfl, h3, _⟩; have HM3 : Hid (CaW w w3 t most (lastK c most n)) := h3; clear hlk h3)
              | go_in)
            go_roundw
            case rel => exact ⟨j + 1, by go_num, by omega, HM3.out⟩
            case measure => simp [intOf]; omega
        · obtain rfl : n = j := by omega
          have hj2 : decide ((n : Int) < n) = false := decide_eq_false (by omega)
          have HBE : Hid (Below w.heap.size w wr) := HM.out.below
          go_wp2
          go_ret
          exact ⟨rfl, HBE.out⟩
set_option maxRecDepth 100000 in
set_option maxHeartbeats 2000000 in
theorem klast_else (mo n : Int) (c : ByteArray) (A : Nat → Addr) (w : World) (hE : Err4 w A) (h : mo < 1 ∨ 20 < mo ∨ n < 0 ∨ 100 < n ∨ 100 < c.size) : Calls Tryd.prog 4 #[.int .i64 mo, .int .i64 n, .string c] w fun e w' => e = .returned (.bool true) ∧ Below w.heap.size w w' := by
  have hh := kept_any A w hE
  clear hE
  by_cases h1 : mo < 1
  · have g2 : decide (mo < 1) = true := decide_eq_true h1
    clear h
    go_enter Tryd.func4, Tryd.ntmps4
    go_wp2_with (go_at_call 5; refine hh.mono ?_; rintro e w1 ⟨rfl, hb1⟩; have HB : Hid (Below w.heap.size w w1) := hb1; clear hh hb1)
    go_ret
    exact ⟨rfl, HB.out⟩
  have g2 : decide (mo < 1) = false := decide_eq_false h1
  by_cases h2 : 20 < mo
  · have g3 : decide (20 < mo) = true := decide_eq_true h2
    clear h
    go_enter Tryd.func4, Tryd.ntmps4
    go_wp2_with (go_at_call 5; refine hh.mono ?_; rintro e w1 ⟨rfl, hb1⟩; have HB : Hid (Below w.heap.size w w1) := hb1; clear hh hb1)
    go_ret
    exact ⟨rfl, HB.out⟩
  have g3 : decide (20 < mo) = false := decide_eq_false h2
  by_cases h3 : n < 0
  · have g4 : decide (n < 0) = true := decide_eq_true h3
    clear h
    go_enter Tryd.func4, Tryd.ntmps4
    go_wp2_with (go_at_call 5; refine hh.mono ?_; rintro e w1 ⟨rfl, hb1⟩; have HB : Hid (Below w.heap.size w w1) := hb1; clear hh hb1)
    go_ret
    exact ⟨rfl, HB.out⟩
  have g4 : decide (n < 0) = false := decide_eq_false h3
  by_cases h4 : 100 < n
  · have g5 : decide (100 < n) = true := decide_eq_true h4
    clear h
    go_enter Tryd.func4, Tryd.ntmps4
    go_wp2_with (go_at_call 5; refine hh.mono ?_; rintro e w1 ⟨rfl, hb1⟩; have HB : Hid (Below w.heap.size w w1) := hb1; clear hh hb1)
    go_ret
    exact ⟨rfl, HB.out⟩
  have g5 : decide (100 < n) = false := decide_eq_false h4
  have g6 : decide ((100 : Int) < (c.size : Int)) = true := decide_eq_true (by omega)
  clear h
  go_enter Tryd.func4, Tryd.ntmps4
  go_wp2_with (go_at_call 5; refine hh.mono ?_; rintro e w1 ⟨rfl, hb1⟩; have HB : Hid (Below w.heap.size w w1) := hb1; clear hh hb1)
  go_ret
  exact ⟨rfl, HB.out⟩
theorem klast_all (mo n : Int) (c : ByteArray) (A : Nat → Addr) (w : World) (hE : Err4 w A) : Calls Tryd.prog 4 #[.int .i64 mo, .int .i64 n, .string c] w fun e w' => e = .returned (.bool true) ∧ Below w.heap.size w w' := by
  by_cases h : mo < 1 ∨ 20 < mo ∨ n < 0 ∨ 100 < n ∨ 100 < c.size
  · exact klast_else mo n c A w hE h
  · obtain ⟨a, rfl⟩ : ∃ a : Nat, mo = (a : Int) := ⟨mo.toNat, by omega⟩
    obtain ⟨b, rfl⟩ : ∃ b : Nat, n = (b : Int) := ⟨n.toNat, by omega⟩
    exact klast_walk a b c A w hE (by omega) (by omega) (by omega) (by omega)
end Go.Proofs.YtlmppddgeclddaaDoor
