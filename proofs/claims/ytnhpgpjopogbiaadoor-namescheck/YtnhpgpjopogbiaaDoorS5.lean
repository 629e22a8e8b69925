/- Package names: Split by its contract in the document's words. -/
import Derived.Test.YtnhpgpjopogbiaaDoorS4
namespace Go.Proofs.YtnhpgpjopogbiaaDoor
open Go Go.RowKit Go.Deep

theorem ahead_any (s : ByteArray) (b : Bool) (w : World) (h : Lib.hasPrefix s.data.toList [47] = b) : Calls Tryd.prog 52 #[.string s, .string ⟨#[47]⟩] w fun e w' => e = .returned (.bool b) ∧ w = w' :=
  (Tryd.strings_HasPrefix s ⟨#[47]⟩ w).mono fun e w' ⟨he, hw⟩ => ⟨by rw [he, ← h], hw.symm⟩
theorem behind_any (s : ByteArray) (b : Bool) (w : World) (hs : s.size ≤ 1000000) (h : Lib.hasSuffix s.data.toList [47] = b) : Calls Tryd.prog 53 #[.string s, .string ⟨#[47]⟩] w fun e w' => e = .returned (.bool b) ∧ w = w' :=
  (Tryd.strings_HasSuffix s ⟨#[47]⟩ w (by omega)).mono fun e w' ⟨he, hw⟩ => ⟨by rw [he, ← h], hw.symm⟩
theorem is_stroke (c : UInt8) : ((47 : UInt8) == c) = decide (c.toNat = 47) := by
  by_cases h : c.toNat = 47
  · have : c = 47 := UInt8.toNat_inj.1 (by simpa using h)
    subst this
    rfl
  · rw [decide_eq_false h, beq_eq_false_iff_ne]
    rintro rfl
    exact h rfl
theorem first_of (s : ByteArray) (h : 0 < s.size) : Lib.hasPrefix s.data.toList [47] = decide (s[0].toNat = 47) := by
  have hl : 0 < s.data.toList.length := h
  have e : s[0] = s.data.toList[0] := rfl
  obtain ⟨c, l, hc⟩ : ∃ c l, s.data.toList = c :: l := by
    cases hd : s.data.toList with
    | nil => rw [hd] at hl; exact absurd hl (Nat.lt_irrefl _)
    | cons c l => exact ⟨c, l, rfl⟩
  rw [e]
  simp only [hc, List.getElem_cons_zero, Lib.hasPrefix, List.isPrefixOf, Bool.and_true]
  exact is_stroke c
theorem last_of (s : ByteArray) (h : 0 < s.size) : Lib.hasSuffix s.data.toList [47] = decide (s[s.size - 1].toNat = 47) := by
  have hl : 0 < s.data.toList.length := h
  have e : s[s.size - 1] = s.data.toList[s.data.toList.length - 1]'(by omega) := rfl
  rw [← Lib.hasSuffix_of_drop, e, show ([47] : List UInt8).length = 1 from rfl, List.drop_eq_getElem_cons (i := s.data.toList.length - 1) (by omega), List.drop_of_length_le (by omega), decide_eq_true (show 1 ≤ s.data.toList.length from hl), Bool.true_and, ← is_stroke]
  generalize s.data.toList[s.data.toList.length - 1]'(by omega) = c
  by_cases h : c = 47
  · subst h
    rfl
  · rw [beq_eq_false_iff_ne.2 (Ne.symm h), beq_eq_false_iff_ne.2 (by simpa using h)]
theorem none_first (s : ByteArray) (h : ¬ 0 < s.size) : Lib.hasPrefix s.data.toList [47] = false := by
  have : s.data.toList = [] := List.eq_nil_of_length_eq_zero (Nat.le_zero.1 (Nat.not_lt.1 h))
  rw [this]
  rfl
theorem one_stroke (s : ByteArray) (h : s.size = 1) (h0 : s[0].toNat = 47) : (s.toList == [47]) = true := by
  obtain ⟨c, rfl⟩ := Lib.one_byte s h
  have : c = 47 := UInt8.toNat_inj.1 (show c.toNat = (47 : UInt8).toNat from h0)
  subst this
  rw [Lib.toList_data]
  rfl
theorem stroke_one (s : ByteArray) (h : (s.toList == [47]) = true) : s = ⟨#[47]⟩ := by
  have : s.toList = [47] := by simpa using h
  rw [Lib.toList_data] at this
  exact data_inj this

/-- What Split leaves. -/
def Cuts (s : ByteArray) (A : Nat → Addr) (w : World) (e : Ending) (w' : World) : Prop :=
  ((s.toList == [47]) = true ∧ e = .returned (.tuple #[.slice none 0 0, .nilIface]) ∧ Below w.heap.size w w') ∨
  ((s.toList == [47]) = false ∧ (∀ h : 0 < s.size, s[0].toNat ≠ 47 ∨ s[s.size - 1].toNat = 47) ∧ e = .returned (.tuple #[.slice none 0 0, .iface 79 (.pointer (some (A 0)))]) ∧ Below w.heap.size w w') ∨
  ((s.toList == [47]) = false ∧ (∃ h : 0 < s.size, s[0].toNat = 47 ∧ s[s.size - 1].toNat ≠ 47) ∧ ∃ (code place : Int) (v : Value), PathIs (wordsOf s.data.toList).length (fun i => bs ((wordsOf s.data.toList).getD i [])) code place ∧ ErrIs w' A code place v ∧ Below w.heap.size w w' ∧
    ((code = 0 ∧ ∃ a, e = .returned (.tuple #[.slice a (wordsOf s.data.toList).length (wordsOf s.data.toList).length, .nilIface]) ∧ TextsIn w' a (wordsOf s.data.toList).length (fun i => bs ((wordsOf s.data.toList).getD i []))) ∨ (code ≠ 0 ∧ e = .returned (.tuple #[.slice none 0 0, v]))))

theorem split_root (w : World) : Calls Tryd.prog 33 #[.string ⟨#[47]⟩] w fun e w' => e = .returned (.tuple #[.slice none 0 0, .nilIface]) ∧ Below w.heap.size w w' := by
  have hp := ahead_any ⟨#[47]⟩ true w rfl
  go_enter Tryd.func33, Tryd.ntmps33
  go_wp2_with (go_at_call 52; go_must (refine hp.mono ?_); rintro e w1 ⟨rfl, rfl⟩)
  go_ret2
  exact ⟨rfl, Below.refl _ _⟩

theorem split_bare (s : ByteArray) (A : Nat → Addr) (w : World) (hE : Errs w A) (h : Lib.hasPrefix s.data.toList [47] = false) : Calls Tryd.prog 33 #[.string s] w fun e w' => e = .returned (.tuple #[.slice none 0 0, .iface 79 (.pointer (some (A 0)))]) ∧ Below w.heap.size w w' := by
  have hp := ahead_any s false w h
  have hcell : w.cell? ⟨0, 0, none⟩ = some (.iface 79 (.pointer (some (A 0)))) := hE.cell 0 (by decide)
  clear h hE
  go_enter Tryd.func33, Tryd.ntmps33
  go_wp2_with (go_at_call 52; go_must (refine hp.mono ?_); rintro e w1 ⟨rfl, rfl⟩)
  go_region
  all_goals go_wp2
  all_goals go_ret2
  all_goals exact ⟨rfl, (Below.refl _ _).drew⟩
theorem split_behind (s : ByteArray) (A : Nat → Addr) (w : World) (hE : Errs w A) (hs : s.size ≤ 1000000) (h1 : 1 < s.size) (h : Lib.hasPrefix s.data.toList [47] = true) (h' : Lib.hasSuffix s.data.toList [47] = true) : Calls Tryd.prog 33 #[.string s] w fun e w' => e = .returned (.tuple #[.slice none 0 0, .iface 79 (.pointer (some (A 0)))]) ∧ Below w.heap.size w w' := by
  have hp := ahead_any s true w h
  have hq := behind_any s true w hs h'
  have hcell : w.cell? ⟨0, 0, none⟩ = some (.iface 79 (.pointer (some (A 0)))) := hE.cell 0 (by decide)
  clear h h' hE
  go_enter Tryd.func33, Tryd.ntmps33
  go_wp2_with (first
    | (go_at_call 52; go_must (refine hp.mono ?_); rintro e w1 ⟨rfl, rfl⟩)
    | (go_at_call 53; go_must (refine hq.mono ?_); rintro e w1 ⟨rfl, rfl⟩))
  go_region
  all_goals go_wp2
  all_goals go_ret2
  all_goals exact ⟨rfl, (Below.refl _ _).drew⟩

theorem split_good (s : ByteArray) (A : Nat → Addr) (m : Int) (w : World) (hE : Errs w A) (hm : w.cell? ⟨16, 0, none⟩ = some (.int .i64 m)) (hs : s.size ≤ 1000000) (h1 : 1 < s.size) (h : Lib.hasPrefix s.data.toList [47] = true) (h' : Lib.hasSuffix s.data.toList [47] = false) (hne : (s.toList == [47]) = false) :
    Calls Tryd.prog 33 #[.string s] w fun e w' => ∃ (code place : Int) (v : Value), PathIs (wordsOf s.data.toList).length (fun i => bs ((wordsOf s.data.toList).getD i [])) code place ∧ ErrIs w' A code place v ∧ Below w.heap.size w w' ∧
    ((code = 0 ∧ ∃ a, e = .returned (.tuple #[.slice a (wordsOf s.data.toList).length (wordsOf s.data.toList).length, .nilIface]) ∧ TextsIn w' a (wordsOf s.data.toList).length (fun i => bs ((wordsOf s.data.toList).getD i []))) ∨ (code ≠ 0 ∧ e = .returned (.tuple #[.slice none 0 0, v]))) := by
  have hp := ahead_any s true w h
  have hq := behind_any s false w hs h'
  have hk := strokes_any (s.extract 1 s.size) m w (by rw [ByteArray.size_extract]; omega) hm
  rw [Lib.extract_to_end, ← words_pieces] at hk
  have hlen : (wordsOf s.data.toList).length ≤ 1000000 := by
    rw [words_pieces]
    have := pieces_len (s.data.toList.drop 1)
    have e : s.data.toList.length = s.size := rfl
    rw [List.length_drop] at this
    omega
  generalize wordsOf s.data.toList = L at hk hlen ⊢
  have hT := pieces_texts L w 9
  have hB1 : Below w.heap.size w (w.alloc (.cells (cellsT L).toArray 9)) := (Below.refl _ _).alloc (Nat.le_refl _) _
  have HK := checkAll_any (some ⟨w.heap.size, 0, none⟩) L.length L.length (fun i => bs (L.getD i [])) A (w.alloc (.cells (cellsT L).toArray 9)) (hE.below hB1 (Nat.le_refl _)) hT hlen
  have HT : Hid (TextsIn (w.alloc (.cells (cellsT L).toArray 9)) (some ⟨w.heap.size, 0, none⟩) L.length (fun i => bs (L.getD i []))) := hT
  have HB : Hid _ := hB1
  clear h h' hE hT hB1 hm
  go_enter Tryd.func33, Tryd.ntmps33
  go_wp2_with (first
    | (go_at_call 52; go_must (refine hp.mono ?_); rintro e w1 ⟨rfl, rfl⟩)
    | (go_at_call 53; go_must (refine hq.mono ?_); rintro e w1 ⟨rfl, rfl⟩)
    | (go_at_call 54; go_must (refine hk.mono ?_); rintro e w1 ⟨rfl, rfl⟩))
  refine HK.mono ?_
  rintro e w2 ⟨code, place, v, hP, hEr, rfl, hb⟩
  have HP : Hid (PathIs L.length (fun i => bs (L.getD i [])) code place) := hP
  have HB2 : Hid (Below w.heap.size w w2) := HB.out.trans (hb.mono HB.out.size)
  have HT2 : Hid (TextsIn w2 (some ⟨w.heap.size, 0, none⟩) L.length (fun i => bs (L.getD i []))) := HT.out.below hb (Nat.le_refl _)
  have HEr : Hid (ErrIs w2 A code place v) := hEr
  clear hP hb HK HT HB
  rcases hEr with ⟨rfl, rfl⟩ | ⟨k, hk1, rfl, rfl, rfl⟩ | ⟨k, pb, hk1, rfl, rfl, -, -⟩
  · go_wp2
    go_ret2
    exact ⟨0, place, .nilIface, HP.out, HEr.out, HB2.out, Or.inl ⟨rfl, _, rfl, HT2.out⟩⟩
  · go_wp2
    go_ret2
    exact ⟨_, _, _, HP.out, HEr.out, HB2.out, Or.inr ⟨by omega, rfl⟩⟩
  · go_wp2
    go_ret2
    exact ⟨_, _, _, HP.out, HEr.out, HB2.out, Or.inr ⟨by omega, rfl⟩⟩

theorem split_any (s : ByteArray) (A : Nat → Addr) (m : Int) (w : World) (hE : Errs w A) (hm : w.cell? ⟨16, 0, none⟩ = some (.int .i64 m)) (hs : s.size ≤ 1000000) : Calls Tryd.prog 33 #[.string s] w (Cuts s A w) := by
  cases h : (s.toList == [47])
  · by_cases h0 : 0 < s.size
    · by_cases hf : s[0].toNat = 47
      · have h1 : 1 < s.size := by
          rcases Nat.lt_or_ge 1 s.size with h1 | h1
          · exact h1
          · exact absurd (one_stroke s (by omega) hf) (by rw [h]; decide)
        by_cases hl : s[s.size - 1].toNat = 47
        · exact (split_behind s A w hE hs h1 ((first_of s h0).trans (decide_eq_true hf)) ((last_of s h0).trans (decide_eq_true hl))).mono fun e w' k => Or.inr (Or.inl ⟨h, fun _ => Or.inr hl, k⟩)
        · exact (split_good s A m w hE hm hs h1 ((first_of s h0).trans (decide_eq_true hf)) ((last_of s h0).trans (decide_eq_false hl)) h).mono fun e w' k => Or.inr (Or.inr ⟨h, ⟨h0, hf, hl⟩, k⟩)
      · exact (split_bare s A w hE ((first_of s h0).trans (decide_eq_false hf))).mono fun e w' k => Or.inr (Or.inl ⟨h, fun _ => Or.inl hf, k⟩)
    · exact (split_bare s A w hE (none_first s h0)).mono fun e w' k => Or.inr (Or.inl ⟨h, fun h0' => absurd h0' h0, k⟩)
  · obtain rfl := stroke_one s h
    exact (split_root w).mono fun e w' k => Or.inl ⟨h, k⟩
end Go.Proofs.YtnhpgpjopogbiaaDoor
