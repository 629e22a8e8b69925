/- A log: a word of four bytes is written, read. -/
import Derived.Test.YtlcloahkeamdkaaDoorLg1
import Derived.Test.YtlcloahkeamdkaaDoorO1
import Derived.Laws.IdiomStrings
import Derived.Laws.Shifts
namespace Go.Proofs.YtlcloahkeamdkaaDoor
open Go Go.RowKit Go.Deep

theorem wd_cells (n : Nat) : #[Value.int .u8 ((n : Int) / 16777216 % 256), Value.int .u8 ((n : Int) / 65536 % 256), Value.int .u8 ((n : Int) / 256 % 256), Value.int .u8 ((n : Int) % 256)] = (Lib.byteCells (wd n)).toArray := by
  simp only [Lib.byteCells, wd, List.map_cons, List.map_nil, UInt8.toNat_ofNat', Nat.reducePow]
  simp
theorem word_text (w : World) (n : Nat) : (convert 101 9 (.slice (some ⟨w.heap.size, 0, none⟩) 4 4)).run Tryd.prog (w.alloc (.cells #[Value.int .u8 ((n : Int) / 16777216 % 256), Value.int .u8 ((n : Int) / 65536 % 256), Value.int .u8 ((n : Int) / 256 % 256), Value.int .u8 ((n : Int) % 256)] 122)) = .ok (.string (bs (wd n))) (w.alloc (.cells #[Value.int .u8 ((n : Int) / 16777216 % 256), Value.int .u8 ((n : Int) / 65536 % 256), Value.int .u8 ((n : Int) / 256 % 256), Value.int .u8 ((n : Int) % 256)] 122)) := by
  rw [wd_cells]
  exact run_convert_bytes_back (P := Tryd.prog) _ 101 9 5 ⟨w.heap.size, 0, none⟩ 4 (wd n) Tryd.underlying101 Tryd.underlying5 Tryd.underlying9 (fun x hx => by
    rw [Addr.add_mid, Lib.cell_of_heap (heap_alloc_last w _)]
    simp [Lib.byteCells, hx])
set_option maxHeartbeats 1000000 in
set_option maxRecDepth 100000 in
theorem word_ok (w : World) (n : Nat)  : Calls Tryd.prog 42 #[.int .i64 (n : Nat)] w fun e w' => e = .returned (.string (bs (wd n))) ∧ Only [] w w' := by
  have hcv := word_text w n
  go_enter Tryd.func42, Tryd.ntmps42
  go_wp2
  refine wp_loop_rounds 5 ?_
  rw [rounds_succ]
  go_wp2
  rw [rounds_succ]
  go_wp2
  rw [rounds_succ]
  go_wp2
  rw [rounds_succ]
  go_wp2
  rw [rounds_succ]
  go_wp2
  go_ret
  exact ⟨rfl, (Only.refl _ _).alloc _⟩
/-! ### a reader -/
/-- A reader in memory. -/
structure RdAt (w : World) (r : Nat) (st : Rst) : Prop where
  blk : w.heap[r]? = some (.cells #[.string (bs (leftR st)), .bool st.isNone] 120 (0, 0))
theorem RdAt.lt {w : World} {r : Nat} {st : Rst} (h : RdAt w r st) : r < w.heap.size := (Array.getElem?_eq_some_iff.1 h.blk).1
theorem RdAt.cells {w : World} {r : Nat} {st : Rst} (h : RdAt w r st) : w.cell? ⟨r, 0, none⟩ = some (.string (bs (leftR st))) ∧ w.cell? ⟨r, 1, none⟩ = some (.bool st.isNone) ∧ ∀ o, w.frozen? ⟨r, o, none⟩ = false :=
  ⟨cell_of_row _ _ 0 _ _ _ h.blk, cell_of_row _ _ 1 _ _ _ h.blk, fun _ => frozen_of_row _ _ _ _ _ h.blk⟩
theorem RdAt.only {w w' : World} {r : Nat} {st : Rst} (h : RdAt w r st) {L : List Nat} (ho : Only L w w') (hr : r ∉ L) : RdAt w' r st := ⟨(ho.block r h.lt hr).trans h.blk⟩
theorem bs_take (l : List UInt8) (k : Nat) : (bs l).extract 0 k = bs (l.take k) := by
  apply data_inj
  simp [bs, ByteArray.data_extract]
theorem bs_drop (l : List UInt8) (k n : Nat) (h : n = l.length) : (bs l).extract k n = bs (l.drop k) := by
  subst h
  apply data_inj
  simp [bs, ByteArray.data_extract, List.take_of_length_le]
set_option maxHeartbeats 1000000 in
set_option maxRecDepth 100000 in
theorem bytes_ok {w : World} {r : Nat} {st : Rst} (h : RdAt w r st) (k : Nat) (hk : k < 4611686018427387904) (hl : (leftR st).length < 4611686018427387904) :
    Calls Tryd.prog 69 #[.pointer (some ⟨r, 0, none⟩), .int .i64 (k : Nat)] w fun e w' => e = .returned (.string (bs (rB k st).1)) ∧ RdAt w' r (rB k st).2 ∧ Only [r] w w' := by
  have hlt := h.lt
  obtain ⟨c0, c1, fz⟩ := h.cells
  have f0 := fz 0
  have f1 := fz 1
  have HR : Hid (RdAt w r st) := h
  have hsz := bs_size (leftR st)
  clear h fz
  by_cases hb : (leftR st).length < k
  · have d0 : decide ((bs (leftR st)).size < k) = true := decide_eq_true (by omega)
    go_enter Tryd.func69, Tryd.ntmps69
    go_wp2
    go_ret
    have ho : Only [r] w ((w.setCell ⟨r, 0, none⟩ (.string ⟨#[]⟩)).setCell ⟨r, 1, none⟩ (.bool true)) := ((Only.refl [r] w).setCell (Or.inl (by simp)) _).setCell (Or.inl (by simp)) _
    have e1 : rB k st = ([], none) := by
      cases st with
      | none => rfl
      | some l => simp only [leftR, Option.getD_some] at hb; simp [rB, hb]
    rw [e1]
    refine ⟨rfl, ⟨?_⟩, ho⟩
    rw [heap_setCell_same _ r 1 _ _ _ (heap_setCell_same w r 0 _ _ _ HR.out.blk)]
    rfl
  · have d0 : decide ((bs (leftR st)).size < k) = false := decide_eq_false (by omega)
    go_enter Tryd.func69, Tryd.ntmps69
    go_wp2
    go_ret
    have e1 : bs (rB k st).1 = (bs (leftR st)).extract 0 k ∧ bs (leftR (rB k st).2) = (bs (leftR st)).extract k (leftR st).length ∧ (rB k st).2.isNone = st.isNone := by
      rw [bs_take, bs_drop _ _ _ rfl]
      cases st with
      | none => simp only [leftR, Option.getD_none, List.length_nil] at hb; simp [rB, leftR]
      | some l => simp only [leftR, Option.getD_some] at hb; simp [rB, hb, leftR]
    have ho : Only [r] w (w.setCell ⟨r, 0, none⟩ (.string ((bs (leftR st)).extract k (leftR st).length))) := (Only.refl [r] w).setCell (Or.inl (by simp)) _
    refine ⟨by rw [e1.1]; rfl, ⟨?_⟩, ho⟩
    rw [heap_setCell_same w r 0 _ _ _ HR.out.blk, e1.2.1, e1.2.2]
    rfl
theorem byte_at (s : ByteArray) (j : Nat) (h : j < s.size) : (s.data.toList.take (j + 1)) = s.data.toList.take j ++ [s[j]] := by
  rw [List.take_add_one]
  have : s.data.toList[j]? = some s[j] := by
    rw [Array.getElem?_toList]
    exact Array.getElem?_eq_getElem h
  rw [this]
  rfl
theorem or_i64_nat (a b : Nat) (ha : a < 4611686018427387904) (hb : b < 4611686018427387904) : bits .or .i64 (a : Int) (b : Int) = ((a ||| b : Nat) : Int) := by
  have hx : a ||| b < 2 ^ 62 := Nat.or_lt_two_pow (by omega) (by omega)
  have h1 : (BitVec.ofInt 64 (a : Int)).toNat = a := by
    rw [BitVec.ofInt_natCast, BitVec.toNat_ofNat]; exact Nat.mod_eq_of_lt (by omega)
  have h2 : (BitVec.ofInt 64 (b : Int)).toNat = b := by
    rw [BitVec.ofInt_natCast, BitVec.toNat_ofNat]; exact Nat.mod_eq_of_lt (by omega)
  show IntKind.i64.wrap ((BitVec.ofInt 64 (a : Int) ||| BitVec.ofInt 64 (b : Int)).toNat : Int) = _
  rw [BitVec.toNat_or, h1, h2, IntKind.wrap_i64]
  omega
theorem shl8_or (n : Nat) (b : UInt8) (h : n < 16777216) : bits .or .i64 ((n : Int) * 256) (wrap64 (b.toNat : Int)) = ((n * 256 + b.toNat : Nat) : Int) := by
  have hb := b.toNat_lt
  have e0 : wrap64 (b.toNat : Int) = (b.toNat : Int) := by unfold wrap64; omega
  have e1 : ((n : Int) * 256) = ((n * 256 : Nat) : Int) := by omega
  rw [e0, e1, or_i64_nat _ _ (by omega) (by omega)]
  have : n * 256 ||| b.toNat = n * 256 + b.toNat := by
    have := Nat.two_pow_add_eq_or_of_lt (i := 8) (by simpa using hb) n
    rw [Nat.mul_comm n 256]
    exact this.symm
  rw [this]
set_option maxHeartbeats 1000000 in
set_option maxRecDepth 100000 in
theorem rword_ok {w : World} {r : Nat} {st : Rst} (h : RdAt w r st) (hl : (leftR st).length < 4611686018427387904) :
    Calls Tryd.prog 60 #[.pointer (some ⟨r, 0, none⟩)] w fun e w' => e = .returned (.int .i64 ((rW st).1 : Nat)) ∧ RdAt w' r (rW st).2 ∧ Only [r] w w' := by
  have H := bytes_ok h 4 (by decide) hl
  have hlen := rB_len 4 st
  unfold rW
  generalize rB 4 st = q at H hlen ⊢
  obtain ⟨l, st'⟩ := q
  have e1 : l = (bs l).data.toList := (bs_data l).symm
  have hsz := bs_size l
  simp only at H hlen ⊢
  generalize bs l = s at H e1 hsz
  subst e1
  clear h
  have H1 : Hid (Calls Tryd.prog 69 #[.pointer (some ⟨r, 0, none⟩), .int .i64 (4 : Nat)] w fun e w' => e = .returned (.string s) ∧ RdAt w' r st' ∧ Only [r] w w') := H
  clear H
  rw [← hsz] at hlen
  clear hsz
  go_enter Tryd.func60, Tryd.ntmps60
  go_wp2_with (go_at_call 69; refine H1.out.mono ?_; rintro e w1 ⟨rfl, h1, h2⟩)
  go_loopw [3, 5, 10] (fun v _ i wr => ∃ j : Nat, j ≤ s.size ∧ i = .int .i64 j ∧ v = .int .i64 (unwd (s.data.toList.take j) : Nat) ∧ wr = w1) (fun _ _ i _ => s.size - (intOf i).toNat)
  case atStart => exact ⟨0, Nat.zero_le _, rfl, rfl, rfl⟩
  case round =>
    obtain ⟨j, hj, rfl, rfl, rfl⟩ := hrel
    by_cases hlt : j < s.size
    · have hu : unwd (s.data.toList.take j) < 16777216 := unwd_lt3 (by rw [List.length_take]; omega)
      generalize hU : unwd (s.data.toList.take j) = U at hu
      have hn : unwd (s.data.toList.take (j + 1)) = U * 256 + s[j].toNat := by rw [byte_at s j hlt, unwd, List.foldl_append, ← unwd, hU]; rfl
      have ho := shl8_or U s[j] hu
      go_wp2
      exact ⟨⟨j + 1, by omega, rfl, by rw [hn]; rfl, trivial⟩, by simp only [intOf]; omega⟩
    · go_wp2
      go_ret
      obtain rfl : j = s.size := by omega
      refine ⟨?_, h1, h2⟩
      have hz : s.data.toList.take s.size = s.data.toList := List.take_of_length_le (Nat.le_of_eq rfl)
      rw [hz]
      rfl
end Go.Proofs.YtlcloahkeamdkaaDoor
