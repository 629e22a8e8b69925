/- XdrWrites: the walk. -/
import Derived.Test.YtnhpgpjopogbiaaDoorB1
import Derived.Test.YtnhpgpjopogbiaaDoorE3
import Derived.Test.YtnhpgpjopogbiaaDoorT3
import Derived.Test.YtnhpgpjopogbiaaDoorT2
namespace Go.Proofs.YtnhpgpjopogbiaaDoor
open Go Go.RowKit Go.Deep

/-- The writer at block W1 holds t; of what was there when the call began nothing has turned. -/
structure InvW (w : World) (W1 : Nat) (wr : World) (t : ByteArray) : Prop where
  cell : wr.cell? ⟨W1, 0, none⟩ = some (.string t)
  free : wr.frozen? ⟨W1, 0, none⟩ = false
  below : Below w.heap.size w wr
  first : w.heap.size ≤ W1
  size : t.size ≤ 4000
theorem InvW.lt {w wr : World} {W1 : Nat} {t : ByteArray} (h : InvW w W1 wr t) : W1 < wr.heap.size := lt_of_cell h.cell
theorem InvW.grow {w wr w' : World} {W1 : Nat} {t : ByteArray} (h : InvW w W1 wr t) (hb : Below wr.heap.size wr w') : InvW w W1 w' t :=
  ⟨(hb.cell (p := ⟨W1, 0, none⟩) h.lt).trans h.cell, (hb.frozen (p := ⟨W1, 0, none⟩) h.lt).trans h.free, h.below.trans (hb.mono h.below.size), h.first, h.size⟩
theorem InvW.put {w wr w' : World} {W1 : Nat} {t t' : ByteArray} (h : InvW w W1 wr t) (hb : Below wr.heap.size (wr.setCell ⟨W1, 0, none⟩ (.string t')) w') (ht : t'.size ≤ 4000) : InvW w W1 w' t' :=
  ⟨put_cell hb h.cell, (put_frozen hb h.cell).trans h.free, h.below.trans (put_below hb h.first h.below.size), h.first, ht⟩
theorem InvW.boxed {w wr : World} {W1 : Nat} {t : ByteArray} (h : InvW w W1 wr t) (o : Obj) : InvW w W1 (wr.alloc o) t := h.grow ((Below.refl _ _).alloc (Nat.le_refl _) _)

/-- A cell of a new block behind a write into the writer. -/
theorem beside {wr w' : World} {W1 k : Nat} {o : Obj} {u v : Value} (hl : W1 < wr.heap.size) (hb : Below (wr.alloc o).heap.size ((wr.alloc o).setCell ⟨W1, 0, none⟩ u) w') (hc : (wr.alloc o).cell? ⟨wr.heap.size, k, none⟩ = some v) : w'.cell? ⟨wr.heap.size, k, none⟩ = some v :=
  (hb.cell (p := ⟨wr.heap.size, k, none⟩) (by simp)).trans ((World.cell?_setCell_other _ _ _ _ (fun h => by have := congrArg Addr.block h; simp at this; omega)).trans hc)

theorem big4_int (x : Int) (w : World) (hx : 0 ≤ x) (hn : x < 9223372036854775808) : Calls Tryd.prog 16 #[.int .i64 x, .int .i64 4] w fun e w' => e = .returned (.string (bs (be 4 x.toNat))) ∧ Below w.heap.size w w' := by
  have := big4 x.toNat w (by omega)
  rwa [Int.toNat_of_nonneg hx] at this
theorem big8_int (x : Int) (w : World) (hx : 0 ≤ x) (hn : x < 9223372036854775808) : Calls Tryd.prog 16 #[.int .i64 x, .int .i64 8] w fun e w' => e = .returned (.string (bs (be 8 x.toNat))) ∧ Below w.heap.size w w' := by
  have := big8 x.toNat w (by omega)
  rwa [Int.toNat_of_nonneg hx] at this
theorem coded_bound (A : Nat → Addr) (w : World) (h : Errs w A) : Calls Tryd.prog 11 #[.iface 79 (.pointer (some (A 1))), .int .i64 2] w fun e w' => e = .returned (.bool true) ∧ Below w.heap.size w w' := coded_err A 1 (by decide) w h
theorem coded_full (A : Nat → Addr) (w : World) (h : Errs w A) : Calls Tryd.prog 11 #[.iface 79 (.pointer (some (A 8))), .int .i64 9] w fun e w' => e = .returned (.bool true) ∧ Below w.heap.size w w' := coded_err A 8 (by decide) w h
theorem coded_text (A : Nat → Addr) (w : World) (h : Errs w A) : Calls Tryd.prog 11 #[.iface 79 (.pointer (some (A 0))), .int .i64 1] w fun e w' => e = .returned (.bool true) ∧ Below w.heap.size w w' := coded_err A 0 (by decide) w h

set_option maxRecDepth 100000 in
set_option maxHeartbeats 4000000 in
theorem writes_walk (ab ao len cap : Nat) (P : Nat → PutM) (A : Nat → Addr) (w : World) (hp : PutsAt w ab ao len P) (hlen : len ≤ 60) (hN : ∀ i, i < len → (P i).N < 9223372036854775808) (hE : Errs w A) :
    Calls Tryd.prog 4 #[.slice (some ⟨ab, ao, none⟩) len cap] w fun e w' => e = .returned (.bool true) ∧ Below w.heap.size w w' := by
  have HE : Hid _ := hE
  clear hE
  go_enter Tryd.func4, Tryd.ntmps4
  go_wp2_with (go_at_call 13; refine (four_any _).mono ?_; rintro e w1 ⟨rfl, hb1⟩)
  go_loopw [5, 6] (fun o i wr => ∃ (j : Nat) (t : ByteArray), j ≤ len ∧ i = .int .i64 j ∧ o = .string t ∧ InvW w w1.heap.size wr t) (fun _ i _ => len - (intOf i).toNat)
  case atStart => exact ⟨0, ⟨#[]⟩, Nat.zero_le _, rfl, rfl, by simp, by simp, hb1.alloc hb1.size _, hb1.size, by decide⟩
  case round =>
    obtain ⟨j, t, hj, rfl, rfl, I⟩ := hrel
    have hc := I.cell
    by_cases hlt : j < len
    · obtain ⟨h0, h1, h2⟩ := hp j hlt
      have g0 : wr.cell? ⟨ab, ao + j * 3, none⟩ = some (.string (P j).K) := (I.below.cell (p := ⟨ab, ao + j * 3, none⟩) (lt_of_cell h0)).trans h0
      have g1 : wr.cell? ⟨ab, ao + j * 3 + 1, none⟩ = some (.int .i64 (P j).N) := (I.below.cell (p := ⟨ab, ao + j * 3 + 1, none⟩) (lt_of_cell h1)).trans h1
      have g2 : wr.cell? ⟨ab, ao + j * 3 + 2, none⟩ = some (.string (P j).S) := (I.below.cell (p := ⟨ab, ao + j * 3 + 2, none⟩) (lt_of_cell h2)).trans h2
      have hNj := hN j hlt
      clear h0 h1 h2 hc
      have IA : Hid _ := I.boxed (.cells #[.string (P j).K, .int .i64 (P j).N, .string (P j).S] 42)
      have EA : Hid (Errs (wr.alloc (.cells #[.string (P j).K, .int .i64 (P j).N, .string (P j).S] 42)) A) := (HE.out.below I.below (Nat.le_refl _)).below ((Below.refl _ _).alloc (Nat.le_refl _) _) (Nat.le_refl _)
      go_wp2_with fail
      · go_ret
        exact ⟨rfl, IA.out.below⟩
      · refine (int_put w1.heap.size t (P j).N _ _ _ IA.out.cell IA.out.free IA.out.size (EA.out.cell 1 (by decide)) (EA.out.cell 8 (by decide))).mono ?_
        rintro e w2 (⟨y, hy, hr, rfl, hb⟩ | ⟨hy, rfl, rfl⟩ | ⟨y, hy, hr, rfl, rfl⟩)
        · have m1 := beside (k := 1) (v := .int .i64 (P j).N) I.lt hb (by simp)
          obtain ⟨n0, n1, rfl⟩ := encInt_some hy
          have I2 : Hid _ := IA.out.put hb (by rw [ByteArray.size_append]; omega)
          have hts := I.size
          clear hy I IA EA hb g0 g1 g2
          go_wp2_with (first
            | (go_at_call 15; refine (refIsInt_yes _ _ n0 n1).mono ?_; rintro e w3 ⟨rfl, rfl⟩)
            | (go_at_call 16; refine (big4_int _ _ n0 (by omega)).mono ?_; rintro e w4 ⟨rfl, hb4⟩)
            | (go_at_call 11; go_must (refine (coded_nil _).mono ?_); rintro e w5 ⟨rfl, rfl⟩))
          go_roundw
          case rel => exact ⟨j + 1, _, by omega, by go_num, rfl, I2.out.grow hb4⟩
          case measure => simp [intOf]; omega
        · have hno : (P j).N < 0 ∨ 4294967295 < (P j).N := by
            unfold encInt at hy
            by_cases hn : 0 ≤ (P j).N ∧ (P j).N ≤ 4294967295
            · rw [if_pos hn] at hy; cases hy
            · omega
          clear hy g0 g1 g2
          go_wp2_with (first
            | (go_at_call 15; refine (refIsInt_no _ _ hno).mono ?_; rintro e w3 ⟨rfl, rfl⟩)
            | (go_at_call 11; go_must (refine (coded_bound A _ EA.out).mono ?_); rintro e w5 ⟨rfl, hb5⟩))
          go_roundw
          case rel => exact ⟨j + 1, _, by omega, by go_num, rfl, IA.out.grow hb5⟩
          case measure => simp [intOf]; omega
        · obtain ⟨n0, n1, rfl⟩ := encInt_some hy
          have hts := I.size
          have hz : (bs (be 4 (P j).N.toNat)).size ≤ 4 := by rw [be_size]; exact Nat.le_refl _
          clear hy g0 g1 g2
          go_wp2_with (first
            | (go_at_call 15; refine (refIsInt_yes _ _ n0 n1).mono ?_; rintro e w3 ⟨rfl, rfl⟩)
            | (go_at_call 16; refine (big4_int _ _ n0 (by omega)).mono ?_; rintro e w4 ⟨rfl, hb4⟩; have E4 : Hid _ := EA.out.below hb4 (Nat.le_refl _))
            | (go_at_call 11; go_must (refine (coded_full A _ E4.out).mono ?_); rintro e w5 ⟨rfl, hb5⟩))
          go_roundw
          case rel => exact ⟨j + 1, _, by omega, by go_num, rfl, (IA.out.grow hb4).grow hb5⟩
          case measure => simp [intOf]; omega
      · refine (long_put w1.heap.size t (P j).N _ _ _ IA.out.cell IA.out.free IA.out.size hNj (EA.out.cell 1 (by decide)) (EA.out.cell 8 (by decide))).mono ?_
        rintro e w2 (⟨y, hy, hr, rfl, hb⟩ | ⟨hy, rfl, rfl⟩ | ⟨y, hy, hr, rfl, rfl⟩)
        · have m1 := beside (k := 1) (v := .int .i64 (P j).N) I.lt hb (by simp)
          obtain ⟨n0, rfl⟩ := encLong_some hy
          have I2 : Hid _ := IA.out.put hb (by rw [ByteArray.size_append]; omega)
          have hts := I.size
          clear hy I IA EA hb g0 g1 g2
          go_wp2_with (first
            | (go_at_call 16; refine (big8_int _ _ n0 (by omega)).mono ?_; rintro e w4 ⟨rfl, hb4⟩)
            | (go_at_call 11; go_must (refine (coded_nil _).mono ?_); rintro e w5 ⟨rfl, rfl⟩))
          go_roundw
          case rel => exact ⟨j + 1, _, by omega, by go_num, rfl, I2.out.grow hb4⟩
          case measure => simp [intOf]; omega
        · have hno : (P j).N < 0 := by
            unfold encLong at hy
            by_cases hn : 0 ≤ (P j).N
            · rw [if_pos hn] at hy; cases hy
            · omega
          clear hy g0 g1 g2
          go_wp2_with (go_at_call 11; go_must (refine (coded_bound A _ EA.out).mono ?_); rintro e w5 ⟨rfl, hb5⟩)
          go_roundw
          case rel => exact ⟨j + 1, _, by omega, by go_num, rfl, IA.out.grow hb5⟩
          case measure => simp [intOf]; omega
        · obtain ⟨n0, rfl⟩ := encLong_some hy
          have hts := I.size
          have hz : (bs (be 8 (P j).N.toNat)).size ≤ 8 := by rw [be_size]; exact Nat.le_refl _
          clear hy g0 g1 g2
          go_wp2_with (first
            | (go_at_call 16; refine (big8_int _ _ n0 (by omega)).mono ?_; rintro e w4 ⟨rfl, hb4⟩; have E4 : Hid _ := EA.out.below hb4 (Nat.le_refl _))
            | (go_at_call 11; go_must (refine (coded_full A _ E4.out).mono ?_); rintro e w5 ⟨rfl, hb5⟩))
          go_roundw
          case rel => exact ⟨j + 1, _, by omega, by go_num, rfl, (IA.out.grow hb4).grow hb5⟩
          case measure => simp [intOf]; omega
      · refine (bool_put w1.heap.size t (decide (0 < (P j).N)) (.nilIface) _ _ IA.out.cell IA.out.free IA.out.size (EA.out.cell 8 (by decide))).mono ?_
        rintro e w2 (⟨y, hy, hr, rfl, hb⟩ | ⟨hy, rfl, rfl⟩ | ⟨y, hy, hr, rfl, rfl⟩)
        · have m1 := beside (k := 1) (v := .int .i64 (P j).N) I.lt hb (by simp)
          obtain rfl := Option.some.inj hy
          have I2 : Hid _ := IA.out.put hb (by rw [ByteArray.size_append]; omega)
          have hts := I.size
          have hsz : 4 + t.size ≤ 4000 := by rw [encBool, be_size] at hr; exact hr
          have hz1 : (bs (be 4 1)).size = 4 := be_size 4 1
          have hz0 : (bs (be 4 0)).size = 4 := be_size 4 0
          clear hy I IA EA hb g0 g1 g2 hr
          by_cases hpos : 0 < (P j).N
          · rw [show decide (0 < (P j).N) = true from decide_eq_true hpos] at I2
            go_wp2_with (first
              | (go_at_call 16; refine (big4 1 _ (by decide)).mono ?_; rintro e w4 ⟨rfl, hb4⟩)
              | (go_at_call 11; go_must (refine (coded_nil _).mono ?_); rintro e w5 ⟨rfl, rfl⟩))
            go_roundw
            case rel => exact ⟨j + 1, _, by omega, by go_num, rfl, I2.out.grow hb4⟩
            case measure => simp [intOf]; omega
          · rw [show decide (0 < (P j).N) = false from decide_eq_false hpos] at I2
            go_wp2_with (first
              | (go_at_call 16; refine (big4 0 _ (by decide)).mono ?_; rintro e w4 ⟨rfl, hb4⟩)
              | (go_at_call 11; go_must (refine (coded_nil _).mono ?_); rintro e w5 ⟨rfl, rfl⟩))
            go_roundw
            case rel => exact ⟨j + 1, _, by omega, by go_num, rfl, I2.out.grow hb4⟩
            case measure => simp [intOf]; omega
        · cases hy
        · obtain rfl := Option.some.inj hy
          have hsz : 4000 < (bs (be 4 (decide (0 < (P j).N)).toNat)).size + t.size := hr
          rw [be_size] at hsz
          have hts := I.size
          clear hy hr g0 g1 g2
          have hz1 : (bs (be 4 1)).size = 4 := be_size 4 1
          have hz0 : (bs (be 4 0)).size = 4 := be_size 4 0
          by_cases hpos : 0 < (P j).N
          · go_wp2_with (first
              | (go_at_call 16; refine (big4 1 _ (by decide)).mono ?_; rintro e w4 ⟨rfl, hb4⟩; have E4 : Hid _ := EA.out.below hb4 (Nat.le_refl _))
              | (go_at_call 11; go_must (refine (coded_full A _ E4.out).mono ?_); rintro e w5 ⟨rfl, hb5⟩))
            go_roundw
            case rel => exact ⟨j + 1, _, by omega, by go_num, rfl, (IA.out.grow hb4).grow hb5⟩
            case measure => simp [intOf]; omega
          · go_wp2_with (first
              | (go_at_call 16; refine (big4 0 _ (by decide)).mono ?_; rintro e w4 ⟨rfl, hb4⟩; have E4 : Hid _ := EA.out.below hb4 (Nat.le_refl _))
              | (go_at_call 11; go_must (refine (coded_full A _ E4.out).mono ?_); rintro e w5 ⟨rfl, hb5⟩))
            go_roundw
            case rel => exact ⟨j + 1, _, by omega, by go_num, rfl, (IA.out.grow hb4).grow hb5⟩
            case measure => simp [intOf]; omega
      · refine (bytes_put w1.heap.size t (P j).S (.nilIface) _ _ IA.out.cell IA.out.free IA.out.size (by omega) (EA.out.cell 8 (by decide))).mono ?_
        rintro e w2 (⟨y, hy, hr, rfl, hb⟩ | ⟨hy, rfl, rfl⟩ | ⟨y, hy, hr, rfl, rfl⟩)
        · have m1 := beside (k := 2) (v := .string (P j).S) I.lt hb (by simp)
          obtain rfl := Option.some.inj hy
          have I2 : Hid _ := IA.out.put hb (by rw [ByteArray.size_append]; omega)
          have hts := I.size
          clear hy I IA EA hb g0 g1 g2
          go_wp2_with (first
            | (go_at_call 20; refine (item_any _ _ (by omega)).mono ?_; rintro e w4 ⟨rfl, hb4⟩)
            | (go_at_call 11; go_must (refine (coded_nil _).mono ?_); rintro e w5 ⟨rfl, rfl⟩))
          go_roundw
          case rel => exact ⟨j + 1, _, by omega, by go_num, rfl, I2.out.grow hb4⟩
          case measure => simp [intOf]; omega
        · cases hy
        · obtain rfl := Option.some.inj hy
          have hts := I.size
          have hz : (itemS (P j).S).size ≤ 5008 := by rw [itemS_size]; have := fillN_lt (P j).S.size; omega
          clear hy g0 g1 g2
          go_wp2_with (first
            | (go_at_call 20; refine (item_any _ _ (by omega)).mono ?_; rintro e w4 ⟨rfl, hb4⟩; have E4 : Hid _ := EA.out.below hb4 (Nat.le_refl _))
            | (go_at_call 11; go_must (refine (coded_full A _ E4.out).mono ?_); rintro e w5 ⟨rfl, hb5⟩))
          go_roundw
          case rel => exact ⟨j + 1, _, by omega, by go_num, rfl, (IA.out.grow hb4).grow hb5⟩
          case measure => simp [intOf]; omega
    · have hcT := I.cell
      have Hb : Hid _ := I.below
      clear I hc
      go_wp2_with (go_at_call 21; refine (text_any w1.heap.size t _ hcT).mono ?_; rintro e w2 ⟨rfl, rfl⟩)
      go_ret
      exact ⟨by simp, Hb.out⟩
end Go.Proofs.YtnhpgpjopogbiaaDoor
