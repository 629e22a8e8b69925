/- Data: plain: a text as blocks: what writing into blocks, cutting them, and reading them makes of the text. No program is named here. -/
import Derived.Test.YtmfcfkomdflhlaaDoorP4
import Derived.Test.YtmfcfkomdflhlaaDoorG1
namespace Go.Proofs.YtmfcfkomdflhlaaDoor
open Go Go.Maps

/-! ### bytes of a text -/
def byteS (S : ByteArray) (i : Nat) : UInt8 := S.data.toList.getD i 0
theorem size_list (S : ByteArray) : S.data.toList.length = S.size := rfl
theorem byteS_out {S : ByteArray} {i : Nat} (h : S.size ≤ i) : byteS S i = 0 := by
  unfold byteS
  rw [List.getD_eq_getElem?_getD, List.getElem?_eq_none (by rw [size_list]; exact h)]
  rfl
theorem byteS_append (A B : ByteArray) (i : Nat) : byteS (A ++ B) i = if i < A.size then byteS A i else byteS B (i - A.size) := by
  unfold byteS
  rw [ByteArray.data_append, Array.toList_append]
  simp only [List.getD_eq_getElem?_getD]
  by_cases h : i < A.size
  · rw [if_pos h, List.getElem?_append_left (by rw [size_list]; exact h)]
  · rw [if_neg h, List.getElem?_append_right (by rw [size_list]; omega), size_list]
theorem byteS_extract (A : ByteArray) (i j k : Nat) : byteS (A.extract i j) k = if k < j - i then byteS A (i + k) else 0 := by
  unfold byteS
  rw [ByteArray.data_extract, Array.toList_extract]
  simp only [List.getD_eq_getElem?_getD, List.extract_eq_take_drop, List.getElem?_take, List.getElem?_drop]
  split <;> rfl
theorem byteS_bs (l : List UInt8) (i : Nat) : byteS (bs l) i = l.getD i 0 := by
  unfold byteS
  rw [bs_data]
theorem byteS_zer (k i : Nat) : byteS (zer k) i = 0 := by
  unfold zer
  rw [byteS_bs]
  simp only [List.getD_eq_getElem?_getD, List.getElem?_replicate]
  split <;> rfl
theorem byteS_ext {A B : ByteArray} (hs : A.size = B.size) (h : ∀ i, i < A.size → byteS A i = byteS B i) : A = B := by
  rw [← bs_self A, ← bs_self B]
  congr 1
  apply List.ext_getElem
  · rw [size_list, size_list, hs]
  · intro i h1 h2
    have := h i (by rw [size_list] at h1; exact h1)
    unfold byteS at this
    rw [List.getD_eq_getElem?_getD, List.getD_eq_getElem?_getD, List.getElem?_eq_getElem h1, List.getElem?_eq_getElem h2] at this
    exact this
theorem padS_bytes (S : ByteArray) (a i : Nat) : byteS (padS S a) i = byteS S i := by
  unfold padS
  split
  · rw [byteS_append]
    split
    · rfl
    · rw [byteS_zer, byteS_out (by omega)]
  · rfl
theorem padS_max (S : ByteArray) (a : Nat) : (padS S a).size = max S.size a := by
  unfold padS
  split
  · rw [ByteArray.size_append, zer_size]; omega
  · omega
theorem tailS_size (P : ByteArray) (k : Nat) : (tailS P k).size = P.size - k := by
  unfold tailS
  split
  · rw [ByteArray.size_extract]; omega
  · show 0 = _
    omega
theorem tailS_bytes (P : ByteArray) (k i : Nat) : byteS (tailS P k) i = byteS P (k + i) := by
  unfold tailS
  split
  · rw [byteS_extract]
    split
    · rfl
    · rw [byteS_out (by omega)]
  · rw [byteS_out (S := P) (by omega)]
    rfl
theorem head_size (P : ByteArray) (a : Nat) (h : a ≤ P.size) : (P.extract 0 a).size = a := by rw [ByteArray.size_extract]; omega
theorem writeS_size (S : ByteArray) (a : Nat) (s : ByteArray) : (writeS S a s).size = max S.size (a + s.size) := by
  unfold writeS
  have h := padS_max S a
  rw [ByteArray.size_append, ByteArray.size_append, head_size _ _ (by omega), tailS_size, h]
  omega
theorem writeS_bytes (S : ByteArray) (a : Nat) (s : ByteArray) (i : Nat) : byteS (writeS S a s) i = if a ≤ i ∧ i < a + s.size then byteS s (i - a) else byteS S i := by
  unfold writeS
  have h := padS_max S a
  have h1 := head_size (padS S a) a (by omega)
  rw [byteS_append, byteS_append, ByteArray.size_append, h1]
  by_cases c1 : i < a
  · rw [if_pos (by omega), if_pos c1, if_neg (by omega), byteS_extract, if_pos (by omega), padS_bytes, Nat.zero_add]
  · by_cases c2 : i < a + s.size
    · rw [if_pos c2, if_neg c1, if_pos ⟨by omega, c2⟩]
    · rw [if_neg c2, if_neg (by omega), tailS_bytes, padS_bytes]
      congr 1
      omega

/-! ### blocks that are no holes -/
def isF (H : List Bool) (k : Nat) : Bool := H[k]? == some false
theorem isF_more (H : List Bool) (i j : Nat) : isF (moreH H i) j = isF H j := by
  unfold isF moreH
  by_cases h : j < H.length
  · rw [List.getElem?_append_left h]
  · rw [List.getElem?_append_right (by omega), List.getElem?_replicate, List.getElem?_eq_none (l := H) (by omega)]
    split <;> rfl
theorem isF_mark (H : List Bool) (k j : Nat) : isF (markH H k) j = (isF H j || decide (j = k)) := by
  have h := isF_more H (k + 1 - H.length) j
  have hl := moreH_len H (k + 1 - H.length)
  unfold markH
  generalize moreH H (k + 1 - H.length) = M at h hl
  rw [← h]
  unfold isF
  rw [List.getElem?_set]
  by_cases e : k = j
  · subst e
    rw [if_pos rfl, if_pos (by omega)]
    simp
  · rw [if_neg e]
    have : decide (j = k) = false := decide_eq_false (by omega)
    rw [this, Bool.or_false]
theorem isF_marks (H : List Bool) (k : Nat) : ∀ i j, isF (marksH H k i) j = (isF H j || decide (k ≤ j ∧ j < k + i))
  | 0, j => by
    have : decide (k ≤ j ∧ j < k + 0) = false := decide_eq_false (by omega)
    rw [this, Bool.or_false]
    rfl
  | i + 1, j => by
    rw [marksH, isF_mark, isF_marks H k i j, Bool.or_assoc]
    congr 1
    rw [← Bool.decide_or]
    exact decide_eq_decide.2 (by omega)
theorem isF_shrink (H : List Bool) (n k : Nat) : isF (shrinkTo H n H.length) k = (isF H k && !decide (n ≤ k * 64)) := by
  unfold isF shrinkTo
  rw [List.getElem?_mapIdx]
  by_cases h : k < H.length
  · rw [List.getElem?_eq_getElem h]
    simp only [Option.map_some, if_pos h]
    cases H[k] <;> cases decide (n ≤ k * 64) <;> rfl
  · rw [List.getElem?_eq_none (by omega)]
    rfl
theorem countF_any : ∀ (H : List Bool) (n : Nat), H.length ≤ n → (H.filter (!·)).length = ((List.range n).filter (isF H)).length
  | [], n, _ => by
    have : (List.range n).filter (isF []) = [] := List.filter_eq_nil_iff.2 (by intro a _; simp [isF])
    rw [this]
    rfl
  | b :: H, 0, h => by simp at h
  | b :: H, n + 1, h => by
    have ih := countF_any H n (by simpa using h)
    rw [List.range_succ_eq_map, ← List.countP_eq_length_filter, ← List.countP_eq_length_filter, List.countP_cons, List.countP_cons, List.countP_map, List.countP_eq_length_filter, List.countP_eq_length_filter, ih]
    congr 1
    cases b <;> rfl
theorem countF {H : List Bool} (h : H.length ≤ 64) : (H.filter (!·)).length = ((List.range 64).filter (isF H)).length := countF_any H 64 h

/-! ### a text in blocks -/
def byteF (f : Nat → Option (List UInt8)) (i : Nat) : UInt8 := ((f (i / 64)).getD zero64).getD (i % 64) 0
structure Same (f : Nat → Option (List UInt8)) (S : ByteArray) (H : List Bool) : Prop where
  le : S.size ≤ 4096
  bytes : ∀ i, i < 4096 → byteF f i = byteS S i
  lenH : H.length ≤ 64
  holes : ∀ k, k < 64 → (f k).isSome = isF H k
theorem byteF_upd (f : Nat → Option (List UInt8)) (K : Nat) (l : List UInt8) (i : Nat) : byteF (upd f K l) i = if i / 64 = K then l.getD (i % 64) 0 else byteF f i := by
  unfold byteF upd
  split <;> rfl
theorem zero64_get (i : Nat) : zero64.getD i 0 = 0 := by
  simp only [zero64, List.getD_eq_getElem?_getD, List.getElem?_replicate]
  split <;> rfl
theorem Same.start : Same (fun _ => none) ⟨#[]⟩ [] := ⟨Nat.zero_le _, fun i _ => by
  show zero64.getD (i % 64) 0 = _
  rw [zero64_get, byteS_out (Nat.zero_le _)], Nat.zero_le _, fun k _ => by simp [isF]⟩
theorem Same.count {f : Nat → Option (List UInt8)} {S : ByteArray} {H : List Bool} (h : Same f S H) : ((List.range 64).filter (fun k => (f k).isSome)).length = (H.filter (!·)).length := by
  rw [countF h.lenH]
  congr 1
  exact List.filter_congr fun k hk => h.holes k (List.mem_range.1 hk)
/-- So many bytes of s are written from a on. -/
structure Wrote (f0 : Nat → Option (List UInt8)) (a : Nat) (s : ByteArray) (d : Nat) (f : Nat → Option (List UInt8)) : Prop where
  bytes : ∀ i, i < 4096 → byteF f i = if a ≤ i ∧ i < a + d then byteS s (i - a) else byteF f0 i
  there : ∀ k, k < 64 → (f k).isSome = ((f0 k).isSome || decide (0 < d ∧ a / 64 ≤ k ∧ k * 64 < a + d))
theorem Wrote.start (f0 : Nat → Option (List UInt8)) (a : Nat) (s : ByteArray) : Wrote f0 a s 0 f0 :=
  ⟨fun i _ => by rw [if_neg (by omega)], fun k _ => by
    have : decide (0 < 0 ∧ a / 64 ≤ k ∧ k * 64 < a + 0) = false := decide_eq_false (by omega)
    rw [this, Bool.or_false]⟩
/-- A block, written over from o on. -/
def over (b : List UInt8) (o : Nat) (l : List UInt8) : List UInt8 := b.take o ++ l ++ b.drop (o + l.length)
theorem over_len {b l : List UInt8} {o : Nat} (h : o + l.length ≤ b.length) : (over b o l).length = b.length := by
  unfold over
  simp only [List.length_append, List.length_take, List.length_drop]
  omega
theorem over_get {b l : List UInt8} {o : Nat} (h : o + l.length ≤ b.length) (i : Nat) : (over b o l).getD i 0 = if o ≤ i ∧ i < o + l.length then l.getD (i - o) 0 else b.getD i 0 := by
  unfold over
  simp only [List.getD_eq_getElem?_getD]
  have ht : (b.take o).length = o := by rw [List.length_take]; omega
  by_cases c1 : i < o
  · rw [if_neg (by omega), List.append_assoc, List.getElem?_append_left (by omega), List.getElem?_take, if_pos c1]
  · by_cases c2 : i < o + l.length
    · rw [if_pos ⟨by omega, c2⟩, List.append_assoc, List.getElem?_append_right (by omega), ht, List.getElem?_append_left (by omega)]
    · rw [if_neg (by omega), List.getElem?_append_right (by rw [List.length_append, ht]; omega), List.length_append, ht, List.getElem?_drop]
      congr 2
      omega
/-- The bytes of a text from d on, so many. -/
def partS (s : ByteArray) (d n : Nat) : List UInt8 := (s.data.toList.drop d).take n
theorem partS_len {s : ByteArray} {d n : Nat} (h : d + n ≤ s.size) : (partS s d n).length = n := by
  unfold partS
  rw [List.length_take, List.length_drop, size_list]
  omega
theorem partS_get (s : ByteArray) (d n i : Nat) (h : i < n) : (partS s d n).getD i 0 = byteS s (d + i) := by
  unfold partS byteS
  simp only [List.getD_eq_getElem?_getD, List.getElem?_take, List.getElem?_drop]
  rw [if_pos h]
theorem Wrote.step {f0 f : Nat → Option (List UInt8)} {a d n : Nat} {s : ByteArray} (h : Wrote f0 a s d f) (hd : d < s.size) (hl : ((f ((a + d) / 64)).getD zero64).length = 64) (hn : n = min (64 - (a + d) % 64) (s.size - d)) :
    Wrote f0 a s (d + n) (upd f ((a + d) / 64) (over ((f ((a + d) / 64)).getD zero64) ((a + d) % 64) (partS s d n))) := by
  have hp : (partS s d n).length = n := partS_len (by omega)
  refine ⟨fun i hi => ?_, fun k hk => ?_⟩
  · rw [byteF_upd]
    by_cases c : i / 64 = (a + d) / 64
    · rw [if_pos c, over_get (by rw [hp, hl]; omega), hp]
      by_cases c1 : (a + d) % 64 ≤ i % 64 ∧ i % 64 < (a + d) % 64 + n
      · rw [if_pos c1, if_pos (by omega), partS_get _ _ _ _ (by omega)]
        congr 1
        omega
      · rw [if_neg c1]
        have e : ((f ((a + d) / 64)).getD zero64).getD (i % 64) 0 = byteF f i := by unfold byteF; rw [c]
        rw [e, h.bytes i hi]
        by_cases c2 : a ≤ i ∧ i < a + d
        · rw [if_pos c2, if_pos (by omega)]
        · rw [if_neg c2, if_neg (by omega)]
    · rw [if_neg c, h.bytes i hi]
      by_cases c2 : a ≤ i ∧ i < a + d
      · rw [if_pos c2, if_pos (by omega)]
      · rw [if_neg c2, if_neg (by omega)]
  · unfold upd
    by_cases c : k = (a + d) / 64
    · rw [if_pos c]
      have : decide (0 < d + n ∧ a / 64 ≤ k ∧ k * 64 < a + (d + n)) = true := decide_eq_true (by omega)
      rw [this, Bool.or_true]
      rfl
    · rw [if_neg c, h.there k hk]
      congr 1
      exact decide_eq_decide.2 (by omega)
theorem Wrote.same {f0 f : Nat → Option (List UInt8)} {a : Nat} {s S : ByteArray} {H : List Bool} (hS : Same f0 S H) (h : Wrote f0 a s s.size f) (h1 : 1 ≤ s.size) (hle : a + s.size ≤ 4096) :
    Same f (writeS S a s) (marksH H (a / 64) ((a + s.size - 1) / 64 + 1 - a / 64)) := by
  refine ⟨by rw [writeS_size]; have := hS.le; omega, fun i hi => ?_, ?_, fun k hk => ?_⟩
  · rw [writeS_bytes, h.bytes i hi]
    by_cases c : a ≤ i ∧ i < a + s.size
    · rw [if_pos c, if_pos c]
    · rw [if_neg c, if_neg c, hS.bytes i hi]
  · have := marksH_len H (a / 64) ((a + s.size - 1) / 64 + 1 - a / 64)
    have := hS.lenH
    omega
  · rw [isF_marks, h.there k hk, hS.holes k hk]
    congr 1
    exact decide_eq_decide.2 (by omega)
theorem Same.grow {f : Nat → Option (List UInt8)} {S : ByteArray} {H : List Bool} (h : Same f S H) {n : Nat} (hn : n ≤ 4096) (hle : S.size ≤ n) : Same f (S ++ zer (n - S.size)) H := by
  refine ⟨by rw [ByteArray.size_append, zer_size]; omega, fun i hi => ?_, h.lenH, h.holes⟩
  rw [byteS_append, h.bytes i hi]
  split
  · rfl
  · rw [byteS_zer, byteS_out (by omega)]
/-- The blocks behind a cut: those from n on are gone. -/
theorem cut_there (f : Nat → Option (List UInt8)) (n k : Nat) : (cutF f n k).isSome = ((f k).isSome && !decide (n ≤ k * 64)) := by
  unfold cutF
  by_cases c : n ≤ k * 64
  · rw [if_pos c, decide_eq_true c]; simp
  · rw [if_neg c, decide_eq_false c]; simp
/-- .. the one that the end goes through is cleared behind it. -/
def endF (f : Nat → Option (List UInt8)) (n : Nat) : Nat → Option (List UInt8) :=
  match cutF f n (n / 64) with
  | none => cutF f n
  | some b => upd (cutF f n) (n / 64) (over b (n % 64) (List.replicate (64 - n % 64) 0))
theorem Same.cut {f : Nat → Option (List UInt8)} {S : ByteArray} {H : List Bool} (h : Same f S H) {n : Nat} (hn : n < S.size) (hl : ∀ k b, f k = some b → b.length = 64) : Same (endF f n) (S.extract 0 n) (shrinkTo H n H.length) := by
  have hS := h.le
  have hz : ∀ i, i < 4096 → byteF (cutF f n) i = if n ≤ i / 64 * 64 then 0 else byteS S i := by
    intro i hi
    unfold byteF cutF
    by_cases c : n ≤ i / 64 * 64
    · rw [if_pos c, if_pos c]
      exact zero64_get _
    · rw [if_neg c, if_neg c]
      exact h.bytes i hi
  refine ⟨by rw [ByteArray.size_extract]; omega, fun i hi => ?_, by rw [shrinkTo_len]; exact h.lenH, fun k hk => ?_⟩
  · rw [byteS_extract]
    unfold endF
    cases e : cutF f n (n / 64) with
    | none =>
      rw [hz i hi]
      by_cases c : n ≤ i / 64 * 64
      · rw [if_pos c, if_neg (by omega)]
      · rw [if_neg c]
        by_cases c2 : i < n - 0
        · rw [if_pos c2, Nat.zero_add]
        · rw [if_neg c2]
          have hk : i / 64 = n / 64 := by omega
          have := hz i hi
          rw [if_neg c] at this
          rw [← this]
          unfold byteF
          rw [hk, e]
          exact zero64_get _
    | some b =>
      have hb : b.length = 64 := by
        unfold cutF at e
        split at e
        · cases e
        · exact hl _ _ e
      rw [byteF_upd]
      by_cases c : i / 64 = n / 64
      · rw [if_pos c, over_get (by rw [List.length_replicate]; omega), List.length_replicate]
        by_cases c2 : i % 64 < n % 64
        · rw [if_neg (by omega), if_pos (by omega), Nat.zero_add]
          have := hz i hi
          rw [if_neg (by omega)] at this
          rw [← this]
          unfold byteF
          rw [c, e]
          rfl
        · rw [if_pos (by omega), if_neg (by omega)]
          simp only [List.getD_eq_getElem?_getD, List.getElem?_replicate]
          split <;> rfl
      · rw [if_neg c, hz i hi]
        by_cases c2 : n ≤ i / 64 * 64
        · rw [if_pos c2, if_neg (by omega)]
        · rw [if_neg c2, if_pos (by omega), Nat.zero_add]
  · rw [isF_shrink, ← h.holes k hk, ← cut_there]
    unfold endF
    cases e : cutF f n (n / 64) with
    | none => rfl
    | some b =>
      show (upd (cutF f n) (n / 64) _ k).isSome = _
      unfold upd
      by_cases c : k = n / 64
      · rw [if_pos c, c, e]; rfl
      · rw [if_neg c]
/-- What is read. -/
theorem read_text {S : ByteArray} {l : List UInt8} {a : Nat} (hle : a + l.length ≤ S.size) (h : ∀ j, j < l.length → l.getD j 0 = byteS S (a + j)) : bs l = S.extract a (a + l.length) := by
  apply byteS_ext
  · rw [bs_size, ByteArray.size_extract]; omega
  · intro i hi
    rw [bs_size] at hi
    rw [byteS_bs, byteS_extract, if_pos (by omega), h i hi]
end Go.Proofs.YtmfcfkomdflhlaaDoor
