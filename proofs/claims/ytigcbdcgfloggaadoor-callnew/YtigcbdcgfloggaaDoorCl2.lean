/- Calls: the document's answer for a request on the wire: RequestText, RequestOf by their contracts; coded, asks. -/
import Derived.Test.YtigcbdcgfloggaaDoorCl3
import Derived.Test.YtigcbdcgfloggaaDoorB3
namespace Go.Proofs.YtigcbdcgfloggaaDoor
open Go Go.RowKit Go.Deep

theorem nil_add (s : ByteArray) : (⟨#[]⟩ : ByteArray) ++ s = s := by
  apply data_inj
  simp [ByteArray.data_append]
theorem reqS_eq (n : Nat) (s : ByteArray) : bs (be 8 n) ++ itemS s = reqS n s := by
  unfold reqS
  rw [nil_add]
theorem reqText_neg (id : Int) (s : ByteArray) (w : World) (h : id < 0) :
    Calls Tryd.prog 7 #[.int .i64 id, .string s] w fun e w' => e = .returned (.tuple #[.string ⟨#[]⟩, .int .i64 2]) ∧ Below w.heap.size w w' := by
  have hd : decide (id < 0) = true := decide_eq_true h
  go_enter Tryd.func7, Tryd.ntmps7
  go_wp2_with fail
  go_ret2
  exact ⟨rfl, Below.refl _ _⟩
set_option maxRecDepth 100000 in
theorem reqText_full (n : Nat) (s : ByteArray) (w : World) (hn : n < 9223372036854775808) (hs : s.size ≤ 5000) (h : 4000 < (reqS n s).size) :
    Calls Tryd.prog 7 #[.int .i64 n, .string s] w fun e w' => e = .returned (.tuple #[.string ⟨#[]⟩, .int .i64 9]) ∧ Below w.heap.size w w' := by
  have hd : decide ((n : Int) < 0) = false := decide_eq_false (by omega)
  rw [← reqS_eq] at h
  rw [ByteArray.size_append] at h
  have hd2 : decide ((4000 : Int) < ((bs (be 8 n)).size : Int) + ((itemS s).size : Int)) = true := decide_eq_true (by omega)
  have hz8 : (bs (be 8 n)).size ≤ 8 := by rw [bs_size, be_length]; exact Nat.le_refl _
  have hzi : (itemS s).size ≤ 5010 := by rw [itemS_size]; have := fillN_lt s.size; omega
  go_enter Tryd.func7, Tryd.ntmps7
  go_wp2_with (first
    | (go_at_call 18; go_must (refine (big8 n _ hn).mono ?_); rintro e w1 ⟨rfl, hb1⟩)
    | (go_at_call 19; go_must (refine (item_any s _ hs).mono ?_); rintro e w2 ⟨rfl, hb2⟩))
  go_ret2
  exact ⟨rfl, hb1.trans (hb2.mono hb1.size)⟩
set_option maxRecDepth 100000 in
theorem reqText_ok (n : Nat) (s : ByteArray) (w : World) (hn : n < 9223372036854775808) (hs : s.size ≤ 5000) (h : (reqS n s).size ≤ 4000) :
    Calls Tryd.prog 7 #[.int .i64 n, .string s] w fun e w' => e = .returned (.tuple #[.string (reqS n s), .int .i64 0]) ∧ Below w.heap.size w w' := by
  have hd : decide ((n : Int) < 0) = false := decide_eq_false (by omega)
  rw [← reqS_eq] at h ⊢
  rw [ByteArray.size_append] at h
  have hd2 : decide ((4000 : Int) < ((bs (be 8 n)).size : Int) + ((itemS s).size : Int)) = false := decide_eq_false (by omega)
  have hz8 : (bs (be 8 n)).size ≤ 8 := by rw [bs_size, be_length]; exact Nat.le_refl _
  have hzi : (itemS s).size ≤ 5010 := by rw [itemS_size]; have := fillN_lt s.size; omega
  go_enter Tryd.func7, Tryd.ntmps7
  go_wp2_with (first
    | (go_at_call 18; go_must (refine (big8 n _ hn).mono ?_); rintro e w1 ⟨rfl, hb1⟩)
    | (go_at_call 19; go_must (refine (item_any s _ hs).mono ?_); rintro e w2 ⟨rfl, hb2⟩))
  go_ret2
  exact ⟨rfl, hb1.trans (hb2.mono hb1.size)⟩
def ReqR (s : ByteArray) (r : Value) : Prop :=
  (ReqOk s ∧ r = .tuple #[.int .i64 (numAt s 8 : Nat), .string (reqX s), .bool true]) ∨ (¬ ReqOk s ∧ r = .tuple #[.int .i64 0, .string ⟨#[]⟩, .bool false])
theorem toList_nil {t : ByteArray} (h : t.size = 0) : (t.toList == []) = true := by
  rw [Lib.toList_data, List.eq_nil_of_length_eq_zero (l := t.data.toList) (by rw [data_length]; exact h)]
  rfl
theorem toList_some {t : ByteArray} (h : 0 < t.size) : (t.toList == []) = false := by
  rw [Lib.toList_data, beq_eq_false_iff_ne]
  intro e
  have : t.data.toList.length = 0 := by rw [e]; rfl
  rw [data_length] at this
  omega
theorem reqOf_short (s : ByteArray) (w : World) (hs : s.size ≤ 5000) (h : s.size < 8 ∨ 8 ≤ s.size ∧ 9223372036854775807 < numAt s 8) :
    Calls Tryd.prog 10 #[.string s] w fun e w' => e = .returned (.tuple #[.int .i64 0, .string ⟨#[]⟩, .bool false]) ∧ Below w.heap.size w w' := by
  have HL : Hid (Calls Tryd.prog 25 #[.string s, .int .i64 8] w fun e w' => e = .returned (.tuple #[.int .i64 (-1), .string s]) ∧ w = w') := by
    rcases h with h | ⟨h, h'⟩
    · exact cut8_short s w h
    · exact cut8_great s w h hs h'
  clear h hs
  go_enter Tryd.func10, Tryd.ntmps10
  go_wp2_with (go_at_call 25; go_must (refine HL.out.mono ?_); rintro e w1 ⟨rfl, rfl⟩)
  go_ret3
  exact ⟨rfl, Below.refl _ _⟩
theorem reqOf_tail (s : ByteArray) (w : World) (hs : s.size ≤ 5000) (h8 : 8 ≤ s.size) (hg : numAt s 8 ≤ 9223372036854775807) :
    Calls Tryd.prog 10 #[.string s] w fun e w' => (∃ r, e = .returned r ∧ ReqR s r) ∧ Below w.heap.size w w' := by
  have HL : Hid (Calls Tryd.prog 25 #[.string s, .int .i64 8] w fun e w' => e = .returned (.tuple #[.int .i64 (numAt s 8), .string (cutAt s 8)]) ∧ Below w.heap.size w w') := cut8_ok s w h8 hs hg
  have HC : Hid (∀ W, Calls Tryd.prog 26 #[.string (cutAt s 8), .int .i64 4000] W (CutEnds (cutAt s 8) 4000 W)) := fun W => cutItem_ends (cutAt s 8) 4000 W (by rw [cutAt_size]; omega)
  have hd : decide (((numAt s 8 : Nat) : Int) < 0) = false := decide_eq_false (by omega)
  have HO : Hid (8 ≤ s.size ∧ numAt s 8 ≤ 9223372036854775807) := ⟨h8, hg⟩
  clear hs h8 hg
  by_cases hi : ItemOk (cutAt s 8) 4000
  · have HC2 : Hid (∀ W, Calls Tryd.prog 26 #[.string (cutAt s 8), .int .i64 4000] W fun e w' => e = .returned (.tuple #[.string (reqX s), .string (reqR s), .bool true]) ∧ Below W.heap.size W w') := fun W => (HC.out W).mono fun e w' q => by
      rcases q with ⟨⟨_, q⟩ | ⟨q, _⟩, qb⟩
      · exact ⟨q, qb⟩
      · exact absurd hi q
    have HI : Hid (ItemOk (cutAt s 8) 4000) := hi
    clear HC hi
    rcases Nat.eq_zero_or_pos (reqR s).size with z | z
    · have hz := toList_nil z
      have HZ : Hid ((reqR s).size = 0) := z
      clear z
      go_enter Tryd.func10, Tryd.ntmps10
      go_wp2_with (first
        | (go_at_call 25; refine HL.out.mono ?_; rintro e w1 ⟨rfl, hb1⟩)
        | (go_at_call 26; go_must (refine (HC2.out _).mono ?_); rintro e w2 ⟨rfl, hb2⟩))
      go_ret3
      exact ⟨⟨_, rfl, Or.inl ⟨⟨HO.out.1, HO.out.2, HI.out, HZ.out⟩, rfl⟩⟩, hb1.trans (hb2.mono hb1.size)⟩
    · have hz := toList_some z
      have HZ : Hid (0 < (reqR s).size) := z
      clear z
      go_enter Tryd.func10, Tryd.ntmps10
      go_wp2_with (first
        | (go_at_call 25; refine HL.out.mono ?_; rintro e w1 ⟨rfl, hb1⟩)
        | (go_at_call 26; go_must (refine (HC2.out _).mono ?_); rintro e w2 ⟨rfl, hb2⟩))
      go_ret3
      exact ⟨⟨_, rfl, Or.inr ⟨fun q => by have := q.2.2.2; have := HZ.out; omega, rfl⟩⟩, hb1.trans (hb2.mono hb1.size)⟩
  · have HC2 : Hid (∀ W, Calls Tryd.prog 26 #[.string (cutAt s 8), .int .i64 4000] W fun e w' => e = .returned (.tuple #[.string (bs []), .string (cutAt s 8), .bool false]) ∧ Below W.heap.size W w') := fun W => (HC.out W).mono fun e w' q => by
      rcases q with ⟨⟨q, _⟩ | ⟨_, q⟩, qb⟩
      · exact absurd q hi
      · exact ⟨q, qb⟩
    have HI : Hid (¬ ItemOk (cutAt s 8) 4000) := hi
    clear HC hi
    go_enter Tryd.func10, Tryd.ntmps10
    go_wp2_with (first
      | (go_at_call 25; refine HL.out.mono ?_; rintro e w1 ⟨rfl, hb1⟩)
      | (go_at_call 26; go_must (refine (HC2.out _).mono ?_); rintro e w2 ⟨rfl, hb2⟩))
    go_ret3
    exact ⟨⟨_, rfl, Or.inr ⟨fun q => HI.out q.2.2.1, rfl⟩⟩, hb1.trans (hb2.mono hb1.size)⟩
theorem reqOf_any (s : ByteArray) (w : World) (hs : s.size ≤ 5000) :
    Calls Tryd.prog 10 #[.string s] w fun e w' => (∃ r, e = .returned r ∧ ReqR s r) ∧ Below w.heap.size w w' := by
  by_cases h8 : 8 ≤ s.size
  · by_cases hg : numAt s 8 ≤ 9223372036854775807
    · exact reqOf_tail s w hs h8 hg
    · exact (reqOf_short s w hs (Or.inr ⟨h8, by omega⟩)).mono fun e w' q => ⟨⟨_, q.1, Or.inr ⟨fun q => hg q.2.1, rfl⟩⟩, q.2⟩
  · exact (reqOf_short s w hs (Or.inl (by omega))).mono fun e w' q => ⟨⟨_, q.1, Or.inr ⟨fun q => h8 q.1, rfl⟩⟩, q.2⟩
/-! ### coded, asks -/
theorem coded3_nil (w : World) : Calls Tryd.prog 8 #[.nilIface, .int .i64 0] w fun e w' => e = .returned (.bool true) ∧ Below w.heap.size w w' := by
  go_enter Tryd.func8, Tryd.ntmps8
  go_wp2_with (go_at_call 20; refine (code_nil _).mono ?_; rintro e w2 ⟨rfl, rfl⟩)
  go_ret
  exact ⟨rfl, Below.refl _ _⟩
theorem coded3_err (A : Nat → Addr) (k : Nat) (hk : k < 15) (w : World) (h : Errs w A) : Calls Tryd.prog 8 #[erV A k, .int .i64 ((k : Int) + 1)] w fun e w' => e = .returned (.bool true) ∧ Below w.heap.size w w' := by
  have H : Hid (Errs w A) := h
  clear h
  go_enter Tryd.func8, Tryd.ntmps8
  go_wp2_with (go_at_call 20; refine (code_err A k hk _ H.out).mono ?_; rintro e w2 ⟨rfl, hb⟩)
  go_ret
  exact ⟨rfl, hb⟩
theorem asks_text : reqS 1 ⟨#[97, 98]⟩ = ⟨#[0, 0, 0, 0, 0, 0, 0, 1, 0, 0, 0, 2, 97, 98, 0, 0]⟩ := by
  apply data_inj
  rw [reqS_data, itemS_data]
  decide
theorem asks_any (A : Nat → Addr) (w : World) (hE : Errs w A) : Calls Tryd.prog 5 #[] w fun e w' => e = .returned (.bool true) ∧ Below w.heap.size w w' := by
  have H : Hid (Calls Tryd.prog 6 #[.agg #[.int .i64 1, .string ⟨#[97, 98]⟩]] w fun e w' => e = .returned (.tuple #[.string ⟨#[0, 0, 0, 0, 0, 0, 0, 1, 0, 0, 0, 2, 97, 98, 0, 0]⟩, .nilIface]) ∧ Below w.heap.size w w') := by
    rw [← asks_text]
    exact encode_ok A 1 ⟨#[97, 98]⟩ w hE (by decide) (by decide) (by rw [asks_text]; decide)
  clear hE
  go_enter Tryd.func5, Tryd.ntmps5
  go_wp2_with (go_at_call 6; go_must (refine H.out.mono ?_); rintro e w1 ⟨rfl, hb1⟩)
  go_ret
  exact ⟨rfl, hb1⟩
end Go.Proofs.YtigcbdcgfloggaaDoor
