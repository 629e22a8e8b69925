/- Package names: Join by its contract in the document's words; and what Split gives back of what was joined. -/
import Derived.Test.YtnhpgpjopogbiaaDoorS5
import Derived.Test.YtnhpgpjopogbiaaDoorM3
import Derived.Lib.Join
namespace Go.Proofs.YtnhpgpjopogbiaaDoor
open Go Go.RowKit Go.Deep

/-! ### plain: a path's text -/
def textsOf (n : Nat) (T : Nat → ByteArray) : List (List UInt8) := (List.range n).map fun i => (T i).data.toList
theorem textsOf_len (n : Nat) (T : Nat → ByteArray) : (textsOf n T).length = n := by simp [textsOf]
theorem textsOf_succ (n : Nat) (T : Nat → ByteArray) : textsOf (n + 1) T = textsOf n T ++ [(T n).data.toList] := by simp [textsOf, List.range_succ]
theorem textsOf_at (n : Nat) (T : Nat → ByteArray) (i : Nat) (h : i < n) : bs ((textsOf n T).getD i []) = T i := by
  apply data_inj
  rw [bs_data]
  simp [textsOf, h]
/-- A stroke ahead of each text. -/
def pathT (L : List (List UInt8)) : List UInt8 := (L.map ([47] ++ ·)).flatten
theorem pathT_snoc (L : List (List UInt8)) (x : List UInt8) : pathT (L ++ [x]) = pathT L ++ 47 :: x := by simp [pathT]
theorem pathT_join (x : List UInt8) (r : List (List UInt8)) : pathT (x :: r) = 47 :: Lib.join (x :: r) [47] := by
  rw [Lib.join_cons]
  simp [pathT, Lib.joinTail]
theorem pathT_len (L : List (List UInt8)) (h : ∀ x ∈ L, x.length ≤ 200) : (pathT L).length ≤ 201 * L.length := by
  induction L with
  | nil => simp [pathT]
  | cons x r ih =>
    have h1 := h x (List.mem_cons_self ..)
    have h2 := ih fun y hy => h y (List.mem_cons_of_mem _ hy)
    rw [show pathT (x :: r) = 47 :: x ++ pathT r by simp [pathT]]
    simp only [List.length_append, List.length_cons]
    omega
theorem pieces_plain (x : List UInt8) (h : ∀ c ∈ x, c.toNat ≠ 47) : pieces x = [x] := by
  induction x with
  | nil => rfl
  | cons c x ih =>
    rw [pieces, if_neg (h c (List.mem_cons_self ..)), ih fun d hd => h d (List.mem_cons_of_mem _ hd)]
theorem pieces_more (x l : List UInt8) (h : ∀ c ∈ x, c.toNat ≠ 47) : pieces (x ++ 47 :: l) = x :: pieces l := by
  induction x with
  | nil => rw [List.nil_append, pieces, if_pos (by decide)]
  | cons c x ih =>
    rw [List.cons_append, pieces, if_neg (h c (List.mem_cons_self ..)), ih fun d hd => h d (List.mem_cons_of_mem _ hd)]
theorem pieces_join (x : List UInt8) (r : List (List UInt8)) (h : ∀ y ∈ x :: r, ∀ c ∈ y, c.toNat ≠ 47) : pieces (Lib.join (x :: r) [47]) = x :: r := by
  induction r generalizing x with
  | nil =>
    rw [Lib.join_one]
    exact pieces_plain x (h x (List.mem_cons_self ..))
  | cons y r ih =>
    have e : Lib.join (x :: y :: r) [47] = x ++ 47 :: Lib.join (y :: r) [47] := by
      rw [Lib.join_cons, Lib.join_cons]
      simp [Lib.joinTail]
    rw [e, pieces_more x _ (h x (List.mem_cons_self ..)), ih y fun z hz => h z (List.mem_cons_of_mem _ hz)]
theorem words_path (x : List UInt8) (r : List (List UInt8)) (h : ∀ y ∈ x :: r, ∀ c ∈ y, c.toNat ≠ 47) : wordsOf (pathT (x :: r)) = x :: r := by
  rw [words_pieces, pathT_join, List.drop_one, List.tail_cons]
  exact pieces_join x r h
theorem path_last (L : List (List UInt8)) (x : List UInt8) (c : UInt8) : (pathT (L ++ [x ++ [c]])) = (pathT L ++ 47 :: x) ++ [c] := by rw [pathT_snoc]; simp

theorem okN_bytes {s : ByteArray} (h : OkN s) : ∀ c ∈ s.data.toList, c.toNat ≠ 47 := fun c hc k => by
  obtain ⟨i, hi, rfl⟩ := List.mem_iff_getElem.1 hc
  have := h.2.2.2.2 i hi
  have e : s[i] = s.data.toList[i] := rfl
  rw [e, k] at this
  cases this
theorem okN_last {s : ByteArray} (h : OkN s) : ∃ x c, s.data.toList = x ++ [c] ∧ c.toNat ≠ 47 := by
  rcases List.eq_nil_or_concat s.data.toList with k | ⟨x, c, k⟩
  · have h1 := h.1
    have : s.data.toList.length = s.size := rfl
    rw [k] at this
    simp at this
    omega
  · exact ⟨x, c, by simpa using k, okN_bytes h c (by rw [k]; simp)⟩
end Go.Proofs.YtnhpgpjopogbiaaDoor
