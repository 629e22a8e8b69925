/- Shares: the program's table and the document's are one: plain facts. -/
import Derived.Test.YtagpahgjbglmaaaDoorSr8
namespace Go.Proofs.YtagpahgjbglmaaaDoor
open Go

def Apart' (l : List Opn) : Prop := ∀ x ∈ l, ∀ y ∈ l, sameO x y → x = y
theorem SortedO.apart {l : List Opn} (h : SortedO l) : Apart' l := fun x hx y hy hs => by
  obtain ⟨i, hi⟩ := List.mem_iff_getElem?.1 hx
  obtain ⟨j, hj⟩ := List.mem_iff_getElem?.1 hy
  rcases Nat.lt_trichotomy i j with h1 | h1 | h1
  · have := h.get h1 hi hj
    unfold ltO sameO at *
    omega
  · subst h1
    rw [hi] at hj
    cases hj
    rfl
  · have := h.get h1 hj hi
    unfold ltO sameO at *
    omega
theorem same_key {x y k : Opn} (h1 : sameO x k) (h2 : sameO y k) : sameO x y := ⟨h1.1.trans h2.1.symm, h1.2.1.trans h2.2.1.symm, h1.2.2.trans h2.2.2.symm⟩
theorem set_perm {l : List Opn} {i : Nat} {x z : Opn} (h : l[i]? = some x) : (x :: l.set i z).Perm (z :: l) := by
  induction l generalizing i with
  | nil => cases h
  | cons a l ih =>
    cases i with
    | zero => cases h; exact List.Perm.swap _ _ _
    | succ i => exact (List.Perm.swap _ _ _).trans (((ih h).cons a).trans (List.Perm.swap _ _ _))
theorem cut_perm {l : List Opn} {i : Nat} {x : Opn} (h : l[i]? = some x) : (x :: (l.take i ++ l.drop (i + 1))).Perm l := by
  obtain ⟨hi, e⟩ := List.getElem?_eq_some_iff.1 h
  have e2 : l.take i ++ x :: l.drop (i + 1) = l := by rw [← e, List.getElem_cons_drop, List.take_append_drop]
  exact (List.perm_middle.symm).trans (by rw [e2])
theorem any_perm {l m : List Opn} (h : l.Perm m) (p : Opn → Bool) : l.any p = m.any p := by
  rw [Bool.eq_iff_iff, List.any_eq_true, List.any_eq_true]
  constructor
  · rintro ⟨x, hx, hp⟩; exact ⟨x, h.mem_iff.1 hx, hp⟩
  · rintro ⟨x, hx, hp⟩; exact ⟨x, h.mem_iff.2 hx, hp⟩
def HasK (l : List Opn) (k : Opn) : Prop := ∃ x ∈ l, sameO x k
theorem has_perm {l m : List Opn} (h : l.Perm m) (k : Opn) : HasK l k ↔ HasK m k :=
  ⟨fun ⟨x, hx, hp⟩ => ⟨x, h.mem_iff.1 hx, hp⟩, fun ⟨x, hx, hp⟩ => ⟨x, h.mem_iff.2 hx, hp⟩⟩
theorem has_not {l : List Opn} {k : Opn} (h : ∀ x ∈ l, ¬ sameO x k) : ¬ HasK l k := fun ⟨x, hx, hp⟩ => h x hx hp
theorem has_at {l : List Opn} {k x : Opn} {i : Nat} (h : l[i]? = some x) (hs : sameO x k) : HasK l k := ⟨x, List.mem_of_getElem? h, hs⟩
/-- One that is changed, in both. -/
theorem pair_set {l m : List Opn} {i j : Nat} {x y k : Opn} {f : Opn → Opn} (h : l.Perm m) (ha : Apart' l) (hx : l[i]? = some x) (hy : m[j]? = some y) (h1 : sameO x k) (h2 : sameO y k) : x = y ∧ (l.set i (f x)).Perm (m.set j (f y)) := by
  have e : x = y := ha x (List.mem_of_getElem? hx) y (h.mem_iff.2 (List.mem_of_getElem? hy)) (same_key h1 h2)
  subst e
  exact ⟨rfl, (((set_perm hx).trans (h.cons _)).trans (set_perm hy).symm).cons_inv⟩
theorem pair_cut {l m : List Opn} {i j : Nat} {x y k : Opn} (h : l.Perm m) (ha : Apart' l) (hx : l[i]? = some x) (hy : m[j]? = some y) (h1 : sameO x k) (h2 : sameO y k) : (l.take i ++ l.drop (i + 1)).Perm (m.take j ++ m.drop (j + 1)) := by
  have e : x = y := ha x (List.mem_of_getElem? hx) y (h.mem_iff.2 (List.mem_of_getElem? hy)) (same_key h1 h2)
  subst e
  exact (((cut_perm hx).trans h).trans (cut_perm hy).symm).cons_inv
theorem told0 {A : Nat → Addr} {r : Value} (h : r = .nilIface) : Told A 0 r := Or.inl ⟨rfl, h⟩
theorem toldk {A : Nat → Addr} {r : Value} (k : Nat) (hk : k < 15) (h : r = sErr A k) : Told A (k + 1) r := Or.inr ⟨k, hk, rfl, h⟩
theorem pair_open {A : Nat → Addr} {l m l' m' : List Opn} {N G O a d : Int} {c c2 : Nat} {r : Value} (h : l.Perm m) (hs : SortedO l) (h1 : OpenR A l N G O a d c r l') (h2 : ROpenR m N G O a d c2 m') : c = c2 ∧ l'.Perm m' ∧ Told A c r := by
  have hany := any_perm h (agB N G O a d)
  have hhas := has_perm h (keyO N G O)
  have hlen := h.length_eq
  rcases h1 with ⟨b1, rfl, rfl, rfl⟩ | ⟨b1, n1, rfl, rfl, rfl⟩ | ⟨i, x, b1, n1, hx, hk, rfl, rfl, rfl⟩ | ⟨b1, n1, k1, l1, rfl, rfl, rfl⟩ | ⟨i, b1, n1, k1, l1, _, rfl, rfl, rfl⟩
  · rcases h2 with ⟨b2, rfl, rfl⟩ | ⟨b2, _⟩ | ⟨_, _, b2, _⟩ | ⟨b2, _⟩ | ⟨b2, _⟩
    · exact ⟨rfl, h, toldk 1 (by decide) rfl⟩
    all_goals (rw [b1] at b2; cases b2)
  · rw [hany] at n1
    rcases h2 with ⟨b2, _⟩ | ⟨b2, n2, rfl, rfl⟩ | ⟨_, _, _, n2, _⟩ | ⟨_, n2, _⟩ | ⟨_, n2, _⟩
    · rw [b1] at b2; cases b2
    · exact ⟨rfl, h, toldk 10 (by decide) rfl⟩
    all_goals (rw [n1] at n2; cases n2)
  · rw [hany] at n1
    rcases h2 with ⟨b2, _⟩ | ⟨_, n2, _⟩ | ⟨j, y, _, _, hy, hk2, rfl, rfl⟩ | ⟨_, _, k2, _⟩ | ⟨_, _, k2, _⟩
    · rw [b1] at b2; cases b2
    · rw [n1] at n2; cases n2
    · exact ⟨rfl, (pair_set (f := fun x => { x with A := sumB x.A a, D := sumB x.D d }) h hs.apart hx hy hk hk2).2, told0 rfl⟩
    all_goals exact absurd (hhas.1 (has_at hx hk)) (has_not k2)
  · rw [hany] at n1
    rcases h2 with ⟨b2, _⟩ | ⟨_, n2, _⟩ | ⟨j, y, _, _, hy, hk2, _⟩ | ⟨_, _, _, l2, rfl, rfl⟩ | ⟨_, _, _, l2, _⟩
    · rw [b1] at b2; cases b2
    · rw [n1] at n2; cases n2
    · exact absurd (hhas.2 (has_at hy hk2)) (has_not k1)
    · exact ⟨rfl, h, toldk 8 (by decide) rfl⟩
    · omega
  · rw [hany] at n1
    rcases h2 with ⟨b2, _⟩ | ⟨_, n2, _⟩ | ⟨j, y, _, _, hy, hk2, _⟩ | ⟨_, _, _, l2, _⟩ | ⟨_, _, _, l2, rfl, rfl⟩
    · rw [b1] at b2; cases b2
    · rw [n1] at n2; cases n2
    · exact absurd (hhas.2 (has_at hy hk2)) (has_not k1)
    · omega
    · refine ⟨rfl, ?_, told0 rfl⟩
      unfold insAt
      refine List.perm_middle.trans ?_
      rw [List.take_append_drop]
      exact (h.cons _).trans (List.perm_append_singleton _ _).symm
theorem pair_down {A : Nat → Addr} {l m l' m' : List Opn} {N G O a d : Int} {c c2 : Nat} {r r2 : Value} (h : l.Perm m) (hs : SortedO l) (h1 : DownR A l N G O a d c r l') (h2 : DownR A m N G O a d c2 r2 m') : c = c2 ∧ l'.Perm m' ∧ Told A c r := by
  have hhas := has_perm h (keyO N G O)
  rcases h1 with ⟨k1, rfl, rfl, rfl⟩ | ⟨i, x, hx, hk, b1, rfl, rfl, rfl⟩ | ⟨i, x, hx, hk, b1, w1, rfl, rfl, rfl⟩ | ⟨i, x, hx, hk, b1, w1, rfl, rfl, rfl⟩
  · rcases h2 with ⟨_, rfl, rfl, rfl⟩ | ⟨j, y, hy, hk2, _⟩ | ⟨j, y, hy, hk2, _⟩ | ⟨j, y, hy, hk2, _⟩
    · exact ⟨rfl, h, toldk 4 (by decide) rfl⟩
    all_goals exact absurd (hhas.2 (has_at hy hk2)) (has_not k1)
  · rcases h2 with ⟨k2, _⟩ | ⟨j, y, hy, hk2, _, rfl, rfl, rfl⟩ | ⟨j, y, hy, hk2, b2, _⟩ | ⟨j, y, hy, hk2, b2, _⟩
    · exact absurd (hhas.1 (has_at hx hk)) (has_not k2)
    · exact ⟨rfl, h, toldk 1 (by decide) rfl⟩
    all_goals (rw [b1] at b2; cases b2)
  · rcases h2 with ⟨k2, _⟩ | ⟨j, y, hy, hk2, b2, _⟩ | ⟨j, y, hy, hk2, b2, w2, rfl, rfl, rfl⟩ | ⟨j, y, hy, hk2, b2, w2, _⟩
    · exact absurd (hhas.1 (has_at hx hk)) (has_not k2)
    · rw [b1] at b2; cases b2
    · exact ⟨rfl, h, toldk 2 (by decide) rfl⟩
    · obtain ⟨rfl, _⟩ := pair_set (f := id) h hs.apart hx hy hk hk2
      rw [w1] at w2; cases w2
  · rcases h2 with ⟨k2, _⟩ | ⟨j, y, hy, hk2, b2, _⟩ | ⟨j, y, hy, hk2, b2, w2, _⟩ | ⟨j, y, hy, hk2, b2, w2, rfl, rfl, rfl⟩
    · exact absurd (hhas.1 (has_at hx hk)) (has_not k2)
    · rw [b1] at b2; cases b2
    · obtain ⟨rfl, _⟩ := pair_set (f := id) h hs.apart hx hy hk hk2
      rw [w1] at w2; cases w2
    · exact ⟨rfl, (pair_set (f := fun x => { x with A := a, D := d }) h hs.apart hx hy hk hk2).2, told0 rfl⟩
theorem pair_close {A : Nat → Addr} {l m l' m' : List Opn} {N G O : Int} {c c2 : Nat} {r r2 : Value} (h : l.Perm m) (hs : SortedO l) (h1 : CloseR A l N G O c r l') (h2 : CloseR A m N G O c2 r2 m') : c = c2 ∧ l'.Perm m' ∧ Told A c r := by
  have hhas := has_perm h (keyO N G O)
  rcases h1 with ⟨k1, rfl, rfl, rfl⟩ | ⟨i, x, hx, hk, rfl, rfl, rfl⟩
  · rcases h2 with ⟨_, rfl, rfl, rfl⟩ | ⟨j, y, hy, hk2, _⟩
    · exact ⟨rfl, h, toldk 4 (by decide) rfl⟩
    · exact absurd (hhas.2 (has_at hy hk2)) (has_not k1)
  · rcases h2 with ⟨k2, _⟩ | ⟨j, y, hy, hk2, rfl, rfl, rfl⟩
    · exact absurd (hhas.1 (has_at hx hk)) (has_not k2)
    · exact ⟨rfl, pair_cut h hs.apart hx hy hk hk2, told0 rfl⟩
theorem pair_may {A : Nat → Addr} {l m : List Opn} {N G O a : Int} {c c2 : Nat} {r r2 : Value} (h : l.Perm m) (hs : SortedO l) (h1 : MayR A l N G O a c r) (h2 : MayR A m N G O a c2 r2) : c = c2 ∧ Told A c r := by
  have hhas := has_perm h (keyO N G O)
  rcases h1 with ⟨b1, rfl, rfl⟩ | ⟨b1, k1, rfl, rfl⟩ | ⟨i, x, b1, hx, hk, w1, rfl, rfl⟩ | ⟨i, x, b1, hx, hk, w1, rfl, rfl⟩
  · rcases h2 with ⟨_, rfl, rfl⟩ | ⟨b2, _⟩ | ⟨_, _, b2, _⟩ | ⟨_, _, b2, _⟩
    · exact ⟨rfl, toldk 1 (by decide) rfl⟩
    all_goals (rw [b1] at b2; cases b2)
  · rcases h2 with ⟨b2, _⟩ | ⟨_, _, rfl, rfl⟩ | ⟨j, y, _, hy, hk2, _, rfl, rfl⟩ | ⟨j, y, _, hy, hk2, _⟩
    · rw [b1] at b2; cases b2
    · exact ⟨rfl, toldk 4 (by decide) rfl⟩
    · exact ⟨rfl, toldk 4 (by decide) rfl⟩
    · exact absurd (hhas.2 (has_at hy hk2)) (has_not k1)
  · rcases h2 with ⟨b2, _⟩ | ⟨_, _, rfl, rfl⟩ | ⟨j, y, _, hy, hk2, _, rfl, rfl⟩ | ⟨j, y, _, hy, hk2, w2, _⟩
    · rw [b1] at b2; cases b2
    · exact ⟨rfl, toldk 4 (by decide) rfl⟩
    · exact ⟨rfl, toldk 4 (by decide) rfl⟩
    · obtain ⟨rfl, _⟩ := pair_set (f := id) h hs.apart hx hy hk hk2
      rw [w1] at w2; cases w2
  · rcases h2 with ⟨b2, _⟩ | ⟨_, k2, _⟩ | ⟨j, y, _, hy, hk2, w2, _⟩ | ⟨j, y, _, hy, hk2, w2, rfl, rfl⟩
    · rw [b1] at b2; cases b2
    · exact absurd (hhas.1 (has_at hx hk)) (has_not k2)
    · obtain ⟨rfl, _⟩ := pair_set (f := id) h hs.apart hx hy hk hk2
      rw [w1] at w2; cases w2
    · exact ⟨rfl, told0 rfl⟩
theorem pair_any {A : Nat → Addr} {l m : List Opn} {N G a : Int} {c c2 : Nat} {r r2 : Value} (h : l.Perm m) (h1 : AnyR A l N G a c r) (h2 : AnyR A m N G a c2 r2) : c = c2 ∧ Told A c r := by
  have hany := any_perm h (denyB N G a)
  rcases h1 with ⟨b1, rfl, rfl⟩ | ⟨b1, n1, rfl, rfl⟩ | ⟨b1, n1, rfl, rfl⟩ <;> rcases h2 with ⟨b2, rfl, rfl⟩ | ⟨b2, n2, rfl, rfl⟩ | ⟨b2, n2, rfl, rfl⟩
  · exact ⟨rfl, toldk 1 (by decide) rfl⟩
  · rw [b1] at b2; cases b2
  · rw [b1] at b2; cases b2
  · rw [b1] at b2; cases b2
  · exact ⟨rfl, toldk 10 (by decide) rfl⟩
  · rw [hany, n2] at n1; cases n1
  · rw [b1] at b2; cases b2
  · rw [hany, n2] at n1; cases n1
  · exact ⟨rfl, told0 rfl⟩
theorem pair_kept {l m : List Opn} (h : l.Perm m) (O : Int) : (keptO O l).Perm (keptO O m) := h.filter _
/-- Two that are in order and hold the same are one. -/
theorem sorted_one {l s : List Opn} (h : l.Perm s) (hl : SortedO l) (hs : SortedO s) : s = l :=
  (List.Perm.eq_of_pairwise (le := ltO) (fun a _ _ _ h1 h2 => absurd (ltO_trans h1 h2) (ltO_irrefl a)) hl hs h).symm
end Go.Proofs.YtagpahgjbglmaaaDoor
