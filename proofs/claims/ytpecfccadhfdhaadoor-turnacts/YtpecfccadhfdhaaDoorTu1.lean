/- Turns, plain: a list of owners, each with its last number and reply. No program is named here. -/
import Derived.Test.YtpecfccadhfdhaaDoorU1
namespace Go.Proofs.YtpecfccadhfdhaaDoor
open Go Go.RowKit Go.Maps

/-- An owner's last turn. -/
structure Trn where
  o : Int
  q : Nat
  r : ByteArray
def findT (L : List Trn) (o : Int) : Option Trn := L.find? (fun x => decide (x.o = o))
def putT (L : List Trn) (x : Trn) : List Trn := if (findT L x.o).isSome then L.map (fun y => if y.o = x.o then x else y) else L ++ [x]
def dropT (L : List Trn) (o : Int) : List Trn := L.filter (fun y => !decide (y.o = o))
theorem findT_mem {L : List Trn} {o : Int} {x : Trn} (h : findT L o = some x) : x ∈ L ∧ x.o = o := ⟨List.mem_of_find?_eq_some h, by have := List.find?_some h; simpa using this⟩
theorem findT_none {L : List Trn} {o : Int} (h : findT L o = none) : ∀ x ∈ L, x.o ≠ o := fun x hx => by
  have := List.find?_eq_none.1 h x hx
  simpa using this
theorem findT_cons (y : Trn) (L : List Trn) (o : Int) : findT (y :: L) o = if y.o = o then some y else findT L o := by
  unfold findT
  rw [List.find?_cons]
  by_cases h : y.o = o
  · simp [h]
  · simp [h]
theorem findT_app (L : List Trn) (x : Trn) (o : Int) : findT (L ++ [x]) o = match findT L o with | some y => some y | none => if x.o = o then some x else none := by
  induction L with
  | nil => rw [List.nil_append, findT_cons]; rfl
  | cons y L ih =>
    rw [List.cons_append, findT_cons, findT_cons, ih]
    by_cases h : y.o = o
    · simp [h]
    · simp [h]
theorem findT_map (L : List Trn) (x : Trn) (o : Int) : findT (L.map (fun y => if y.o = x.o then x else y)) o = if o = x.o then (if (findT L o).isSome then some x else none) else findT L o := by
  induction L with
  | nil => simp [findT]
  | cons y L ih =>
    rw [List.map_cons, findT_cons, findT_cons, ih]
    by_cases h1 : y.o = x.o
    · rw [if_pos h1]
      by_cases h2 : o = x.o
      · subst h2
        simp [h1]
      · have h3 : ¬ x.o = o := fun e => h2 e.symm
        have h4 : ¬ y.o = o := fun e => h3 (h1 ▸ e)
        simp [h2, h3, h4]
    · rw [if_neg h1]
      by_cases h2 : o = x.o
      · have h3 : ¬ y.o = o := fun e => h1 (e.trans h2)
        simp [h2, h1]
      · simp [h2]
theorem findT_put_same (L : List Trn) (x : Trn) : findT (putT L x) x.o = some x := by
  unfold putT
  split
  · rename_i h
    rw [findT_map, if_pos rfl, if_pos h]
  · rename_i h
    rw [findT_app]
    cases hf : findT L x.o with
    | none => simp
    | some y => rw [hf] at h; exact (h rfl).elim
theorem findT_put_other (L : List Trn) (x : Trn) {o : Int} (h : o ≠ x.o) : findT (putT L x) o = findT L o := by
  unfold putT
  split
  · rw [findT_map, if_neg h]
  · rw [findT_app]
    have : ¬ x.o = o := fun e => h e.symm
    rw [if_neg this]
    cases findT L o <;> rfl
theorem findT_drop_same (L : List Trn) (o : Int) : findT (dropT L o) o = none := by
  unfold findT
  rw [List.find?_eq_none]
  intro x hx
  have := (List.mem_filter.1 hx).2
  simpa using this
theorem findT_drop_other (L : List Trn) {o j : Int} (h : j ≠ o) : findT (dropT L o) j = findT L j := by
  induction L with
  | nil => rfl
  | cons y L ih =>
    unfold dropT at ih ⊢
    rw [List.filter_cons]
    by_cases h1 : y.o = o
    · have h2 : ¬ y.o = j := fun e => h (e.symm.trans h1)
      rw [findT_cons, if_neg h2, ← ih]
      simp [h1]
    · rw [if_pos (by simpa using h1), findT_cons, findT_cons, ih]
theorem len_putT (L : List Trn) (x : Trn) : (putT L x).length = if (findT L x.o).isSome then L.length else L.length + 1 := by
  unfold putT
  split <;> simp
theorem memT_put {L : List Trn} {x y : Trn} (h : y ∈ putT L x) : y = x ∨ y ∈ L := by
  unfold putT at h
  split at h
  · obtain ⟨z, hz, e⟩ := List.mem_map.1 h
    split at e
    · exact Or.inl e.symm
    · exact Or.inr (e ▸ hz)
  · rcases List.mem_append.1 h with h | h
    · exact Or.inr h
    · exact Or.inl (List.mem_singleton.1 h)
theorem nodT_put {L : List Trn} (hn : (L.map (·.o)).Nodup) (x : Trn) : ((putT L x).map (·.o)).Nodup := by
  unfold putT
  split
  · have e : (L.map (fun y => if y.o = x.o then x else y)).map (·.o) = L.map (·.o) := by
      rw [List.map_map]
      apply List.map_congr_left
      intro y _
      show (if y.o = x.o then x else y).o = y.o
      split
      · rename_i h; exact h.symm
      · rfl
    rw [e]
    exact hn
  · rename_i h
    have hf : findT L x.o = none := by
      cases hf : findT L x.o with
      | none => rfl
      | some y => rw [hf] at h; exact (h rfl).elim
    rw [List.map_append, List.nodup_append]
    refine ⟨hn, by simp, ?_⟩
    intro a ha b hb e
    obtain ⟨y, hy, rfl⟩ := List.mem_map.1 ha
    simp at hb
    exact findT_none hf y hy (e.trans hb)
theorem nodT_drop {L : List Trn} (hn : (L.map (·.o)).Nodup) (o : Int) : ((dropT L o).map (·.o)).Nodup := hn.sublist (List.Sublist.map _ List.filter_sublist)
theorem memT_drop {L : List Trn} {o : Int} {y : Trn} (h : y ∈ dropT L o) : y ∈ L := (List.mem_filter.1 h).1
/-- An owner at a place of the list: another turn set there. -/
theorem setT_is {L : List Trn} (hn : (L.map (·.o)).Nodup) {k : Nat} {x y : Trn} (hk : L[k]? = some x) (e : x.o = y.o) : L.set k y = putT L y := by
  have hs : (findT L y.o).isSome = true := by
    cases hf : findT L y.o with
    | none => exact (findT_none hf x (List.mem_of_getElem? hk) e).elim
    | some z => rfl
  unfold putT
  rw [if_pos hs]
  clear hs
  induction L generalizing k with
  | nil => simp at hk
  | cons z L ih =>
    rw [List.map_cons, List.nodup_cons] at hn
    cases k with
    | zero =>
      simp at hk
      subst hk
      rw [List.set_cons_zero, List.map_cons, if_pos e]
      congr 1
      symm
      rw [List.map_congr_left (g := id)]
      · simp
      · intro a ha
        have : ¬ a.o = y.o := fun e2 => hn.1 (by rw [e, ← e2]; exact List.mem_map_of_mem ha)
        simp [this]
    | succ k =>
      simp at hk
      have hz : ¬ z.o = y.o := fun e2 => hn.1 (by rw [e2, ← e]; exact List.mem_map_of_mem (List.mem_of_getElem? hk))
      rw [List.set_cons_succ, List.map_cons, if_neg hz, ih hn.2 hk]
theorem cutT_is {L : List Trn} (hn : (L.map (·.o)).Nodup) {k : Nat} {x : Trn} (hk : L[k]? = some x) : L.take k ++ L.drop (k + 1) = dropT L x.o := by
  induction L generalizing k with
  | nil => simp at hk
  | cons z L ih =>
    rw [List.map_cons, List.nodup_cons] at hn
    unfold dropT
    rw [List.filter_cons]
    cases k with
    | zero =>
      simp at hk
      subst hk
      simp
      symm
      rw [List.filter_eq_self]
      intro a ha
      have : ¬ a.o = z.o := fun e2 => hn.1 (by rw [← e2]; exact List.mem_map_of_mem ha)
      simp [this]
    | succ k =>
      simp at hk
      have hz : ¬ z.o = x.o := fun e2 => hn.1 (by rw [e2]; exact List.mem_map_of_mem (List.mem_of_getElem? hk))
      rw [if_pos (by simpa using hz)]
      have := ih hn.2 hk
      unfold dropT at this
      rw [← this]
      rfl
theorem findT_at {L : List Trn} (hn : (L.map (·.o)).Nodup) {x : Trn} (hx : x ∈ L) : findT L x.o = some x := by
  induction L with
  | nil => cases hx
  | cons y L ih =>
    rw [List.map_cons, List.nodup_cons] at hn
    rw [findT_cons]
    rcases List.mem_cons.1 hx with rfl | h
    · simp
    · have : ¬ y.o = x.o := fun e => hn.1 (by rw [e]; exact List.mem_map_of_mem h)
      rw [if_neg this]
      exact ih hn.2 h
theorem len_dropT {L : List Trn} (hn : (L.map (·.o)).Nodup) {o : Int} {x : Trn} (h : findT L o = some x) : (dropT L o).length + 1 = L.length := by
  obtain ⟨hm, rfl⟩ := findT_mem h
  obtain ⟨k, hk⟩ := List.mem_iff_getElem?.1 hm
  rw [← cutT_is hn hk]
  have := (List.getElem?_eq_some_iff.1 hk).1
  simp
  omega
/-! ### what a table keeps to; what Begin, End, Drop tell and leave -/
structure TInv (L : List Trn) : Prop where
  nod : (L.map (·.o)).Nodup
  len : L.length ≤ 30
  seq : ∀ x ∈ L, x.q ≤ 4294967295
theorem TInv.nil : TInv [] := ⟨by simp, by simp, fun x hx => by cases hx⟩
def nextT (q : Nat) : Nat := if q = 4294967295 then 0 else q + 1
/-- What Begin tells: the error's number, again, the reply. -/
def begT (L : List Trn) (o q : Int) : Nat × Bool × ByteArray :=
  if q < 0 ∨ 4294967295 < q then (2, false, ⟨#[]⟩) else
  match findT L o with
  | none => if 30 ≤ L.length then (9, false, ⟨#[]⟩) else (0, false, ⟨#[]⟩)
  | some x => if q = (x.q : Int) then (0, true, x.r) else if q = (nextT x.q : Int) then (0, false, ⟨#[]⟩) else (12, false, ⟨#[]⟩)
def endT (L : List Trn) (o q : Int) (r : ByteArray) : Nat × List Trn :=
  match begT L o q with
  | (0, false, _) => (0, putT L ⟨o, q.toNat, r⟩)
  | (0, true, _) => (12, L)
  | (c, _, _) => (c, L)
def remT (L : List Trn) (o : Int) : Nat × List Trn := if (findT L o).isSome then (0, dropT L o) else (5, L)
theorem begT_code (L : List Trn) (o q : Int) : (begT L o q).1 = 0 ∨ (begT L o q).1 = 2 ∨ (begT L o q).1 = 9 ∨ (begT L o q).1 = 12 := by
  unfold begT
  split
  · simp
  · split
    · split <;> simp
    · split
      · simp
      · split <;> simp
theorem begT_ok {L : List Trn} {o q : Int} (h : (begT L o q).1 = 0) : 0 ≤ q ∧ q ≤ 4294967295 ∧ ((findT L o).isSome = true ∨ L.length < 30) := by
  unfold begT at h
  split at h
  · simp at h
  · rename_i hq
    refine ⟨by omega, by omega, ?_⟩
    cases hf : findT L o with
    | none =>
      rw [hf] at h
      simp only at h
      split at h
      · simp at h
      · right; omega
    | some x => left; rfl
theorem TInv.put {L : List Trn} (h : TInv L) {o q : Int} (r : ByteArray) (hb : (begT L o q).1 = 0) : TInv (putT L ⟨o, q.toNat, r⟩) := by
  obtain ⟨h1, h2, h3⟩ := begT_ok hb
  refine ⟨nodT_put h.nod _, ?_, fun x hx => ?_⟩
  · rw [len_putT]
    have := h.len
    split
    · exact this
    · rename_i hn
      rcases h3 with h3 | h3
      · exact (hn h3).elim
      · omega
  · rcases memT_put hx with rfl | hx
    · show q.toNat ≤ _
      omega
    · exact h.seq x hx
theorem TInv.drop {L : List Trn} (h : TInv L) (o : Int) : TInv (dropT L o) := ⟨nodT_drop h.nod o, Nat.le_trans (List.length_filter_le _ _) h.len, fun x hx => h.seq x (memT_drop hx)⟩
theorem TInv.end {L : List Trn} (h : TInv L) (o q : Int) (r : ByteArray) : TInv (endT L o q r).2 := by
  unfold endT
  split
  · rename_i e
    exact h.put r (by rw [e])
  · exact h
  · exact h
theorem TInv.rem {L : List Trn} (h : TInv L) (o : Int) : TInv (remT L o).2 := by
  unfold remT
  split
  · exact h.drop o
  · exact h
end Go.Proofs.YtpecfccadhfdhaaDoor
