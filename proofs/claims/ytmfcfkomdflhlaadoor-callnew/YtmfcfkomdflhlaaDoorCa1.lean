/- What was answered, plain: a list of requests, each with its text and reply, the one that was kept first ahead. No program is named here. -/
import Derived.Test.YtmfcfkomdflhlaaDoorU1
namespace Go.Proofs.YtmfcfkomdflhlaaDoor
open Go Go.RowKit Go.Maps

/-- A request that is known. -/
structure Kp where
  c : ByteArray
  n : Int
  t : ByteArray
  r : ByteArray
def Kp.k (x : Kp) : ByteArray × Int := (x.c, x.n)
def findK (L : List Kp) (k : ByteArray × Int) : Option Kp := L.find? (fun x => decide (x.k = k))
theorem findK_mem {L : List Kp} {k : ByteArray × Int} {x : Kp} (h : findK L k = some x) : x ∈ L ∧ x.k = k := ⟨List.mem_of_find?_eq_some h, by have := List.find?_some h; simpa using this⟩
theorem findK_none {L : List Kp} {k : ByteArray × Int} (h : findK L k = none) : ∀ x ∈ L, x.k ≠ k := fun x hx => by
  have := List.find?_eq_none.1 h x hx
  simpa using this
theorem findK_of_none {L : List Kp} {k : ByteArray × Int} (h : ∀ x ∈ L, x.k ≠ k) : findK L k = none := by
  unfold findK
  rw [List.find?_eq_none]
  intro x hx
  simpa using h x hx
theorem findK_cons (y : Kp) (L : List Kp) (k : ByteArray × Int) : findK (y :: L) k = if y.k = k then some y else findK L k := by
  unfold findK
  rw [List.find?_cons]
  by_cases h : y.k = k
  · simp [h]
  · simp [h]
theorem findK_app (L : List Kp) (x : Kp) (k : ByteArray × Int) : findK (L ++ [x]) k = match findK L k with | some y => some y | none => if x.k = k then some x else none := by
  induction L with
  | nil => rw [List.nil_append, findK_cons]; rfl
  | cons y L ih =>
    rw [List.cons_append, findK_cons, findK_cons, ih]
    by_cases h : y.k = k
    · simp [h]
    · simp [h]
/-- What stays of a list that has room for one more. -/
def roomK (most : Nat) (L : List Kp) : List Kp := if L.length = most then L.drop 1 else L
/-- A request is looked for: an error's number, known, its reply. -/
def lookK (L : List Kp) (k : ByteArray × Int) (t : ByteArray) : Nat × Bool × ByteArray :=
  match findK L k with
  | none => (0, false, ⟨#[]⟩)
  | some x => if x.t = t then (0, true, x.r) else (12, false, ⟨#[]⟩)
/-- A reply is kept: an error's number, what is known then. -/
def keepK (most : Nat) (L : List Kp) (x : Kp) : Nat × List Kp := if (findK L x.k).isSome then (6, L) else (0, roomK most L ++ [x])
/-- What can be a key. -/
def OkQ (k : ByteArray × Int) : Prop := k.1.size ≤ maxLen ∧ (Lit.int .i64 k.2).wf = true
structure KInv (most : Nat) (L : List Kp) : Prop where
  most1 : 1 ≤ most
  most2 : most ≤ 20
  len : L.length ≤ most
  nod : (L.map Kp.k).Nodup
  num : ∀ x ∈ L, OkQ x.k
theorem KInv.nil {most : Nat} (h1 : 1 ≤ most) (h2 : most ≤ 20) : KInv most [] := ⟨h1, h2, Nat.zero_le _, List.nodup_nil, fun x hx => by cases hx⟩
theorem findK_at {L : List Kp} {x : Kp} (hn : (L.map Kp.k).Nodup) (hx : x ∈ L) : findK L x.k = some x := by
  induction L with
  | nil => cases hx
  | cons y L ih =>
    rw [findK_cons]
    simp only [List.map_cons, List.nodup_cons] at hn
    by_cases h : y.k = x.k
    · rw [if_pos h]
      rcases List.mem_cons.1 hx with e | e
      · rw [e]
      · exact absurd (List.mem_map.2 ⟨x, e, h.symm⟩) hn.1
    · rw [if_neg h]
      rcases List.mem_cons.1 hx with e | e
      · exact absurd (by rw [e]) h
      · exact ih hn.2 e
theorem roomK_sub (most : Nat) (L : List Kp) : (roomK most L).Sublist L := by
  unfold roomK
  split
  · exact List.drop_sublist _ _
  · exact List.Sublist.refl _
theorem KInv.room {most : Nat} {L : List Kp} (h : KInv most L) : KInv most (roomK most L) ∧ (roomK most L).length < most := by
  have hs := roomK_sub most L
  refine ⟨⟨h.most1, h.most2, Nat.le_trans hs.length_le h.len, (hs.map Kp.k).nodup h.nod, fun x hx => h.num x (hs.subset hx)⟩, ?_⟩
  have h1 := h.most1
  have h2 := h.len
  unfold roomK
  split
  · rw [List.length_drop]; omega
  · omega
theorem KInv.snoc {most : Nat} {L : List Kp} (h : KInv most L) (hl : L.length < most) (x : Kp) (hf : findK L x.k = none) (hx : OkQ x.k) : KInv most (L ++ [x]) := by
  refine ⟨h.most1, h.most2, by rw [List.length_append, List.length_singleton]; omega, ?_, fun y hy => ?_⟩
  · rw [List.map_append, List.nodup_append]
    refine ⟨h.nod, by simp, fun a ha b hb => ?_⟩
    simp only [List.map_cons, List.map_nil, List.mem_singleton] at hb
    obtain ⟨y, hy, rfl⟩ := List.mem_map.1 ha
    rw [hb]
    exact findK_none hf y hy
  · rcases List.mem_append.1 hy with e | e
    · exact h.num y e
    · rw [List.mem_singleton.1 e]; exact hx
theorem findK_room_none {most : Nat} {L : List Kp} {k : ByteArray × Int} (h : findK L k = none) : findK (roomK most L) k = none := findK_of_none fun x hx => findK_none h x ((roomK_sub most L).subset hx)
theorem KInv.keep {most : Nat} {L : List Kp} (h : KInv most L) (x : Kp) (hx : OkQ x.k) : KInv most (keepK most L x).2 := by
  unfold keepK
  split
  · exact h
  · rename_i hf
    have hn : findK L x.k = none := by cases e : findK L x.k <;> simp_all
    exact h.room.1.snoc h.room.2 x (findK_room_none hn) hx
/-- What is first goes: what is found then. -/
theorem findK_drop_first {y : Kp} {L : List Kp} (hn : ((y :: L).map Kp.k).Nodup) : findK L y.k = none ∧ ∀ k, k ≠ y.k → findK L k = findK (y :: L) k := by
  simp only [List.map_cons, List.nodup_cons] at hn
  refine ⟨findK_of_none fun x hx e => hn.1 (List.mem_map.2 ⟨x, hx, e⟩), fun k hk => ?_⟩
  rw [findK_cons, if_neg (fun e => hk e.symm)]
/-- The document's way: one behind, and the first goes where there are too many. -/
theorem keep_doc {most : Nat} {L : List Kp} (h : KInv most L) (x : Kp) : roomK most L ++ [x] = if most < (L ++ [x]).length then (L ++ [x]).drop 1 else L ++ [x] := by
  have h1 := h.most1
  have h2 := h.len
  unfold roomK
  rw [List.length_append, List.length_singleton]
  by_cases e : L.length = most
  · rw [if_pos e, if_pos (by omega), List.drop_append_of_le_length (by omega)]
  · rw [if_neg e, if_neg (by omega)]
theorem keepK_le (most : Nat) (L : List Kp) (x : Kp) : (keepK most L x).1 ≤ 15 := by
  unfold keepK
  split <;> simp
theorem lookK_le (L : List Kp) (k : ByteArray × Int) (t : ByteArray) : (lookK L k t).1 ≤ 15 := by
  unfold lookK
  split
  · simp
  · split <;> simp
end Go.Proofs.YtmfcfkomdflhlaaDoor
