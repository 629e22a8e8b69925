/- Shares: what stays so behind each act: plain facts on lists of opens. -/
import Derived.Test.YtagpahgjbglmaaaDoorSh20
namespace Go.Proofs.YtagpahgjbglmaaaDoor
open Go

/-- No two owners' opens of a node are against each other. -/
def SoundO (l : List Opn) : Prop := ∀ x ∈ l, ∀ y ∈ l, x.N = y.N → x.G = y.G → x.O ≠ y.O → meetB x.A y.D = false
theorem meet_with : ∀ a ∈ [0, 1, 2, (3 : Int)], ∀ p ∈ [0, 1, 2, (3 : Int)], ∀ q ∈ [0, 1, 2, (3 : Int)], withB a p = true → meetB p q = false → meetB a q = false := by decide +kernel
theorem meet_comm : ∀ a ∈ [0, 1, 2, (3 : Int)], ∀ p ∈ [0, 1, 2, (3 : Int)], meetB a p = meetB p a := by decide +kernel
theorem meet_sum : ∀ a ∈ [0, 1, 2, (3 : Int)], ∀ p ∈ [0, 1, 2, (3 : Int)], ∀ q ∈ [0, 1, 2, (3 : Int)], meetB (sumB p a) q = (meetB p q || meetB a q) := by decide +kernel
theorem sum_range : ∀ a ∈ [0, 1, 2, (3 : Int)], ∀ p ∈ [0, 1, 2, (3 : Int)], 0 ≤ sumB p a ∧ sumB p a ≤ 3 ∧ (1 ≤ p → 1 ≤ sumB p a) := by decide +kernel
theorem OkO.memA {x : Opn} (h : OkO x) : x.A ∈ [0, 1, 2, (3 : Int)] := mem4 (by have := h.1; omega) h.2.1
theorem OkO.memD {x : Opn} (h : OkO x) : x.D ∈ [0, 1, 2, (3 : Int)] := mem4 h.2.2.1 h.2.2.2
theorem ltO_key {x y x' y' : Opn} (h : ltO x y) (hx : sameO x' x) (hy : sameO y' y) : ltO x' y' := by
  unfold ltO sameO at *
  omega
theorem SortedO.set {l : List Opn} {i : Nat} {x y : Opn} (h : SortedO l) (hx : l[i]? = some x) (hk : sameO y x) : SortedO (l.set i y) := by
  unfold SortedO at *
  rw [List.pairwise_iff_getElem] at *
  intro a b ha hb hab
  rw [List.length_set] at ha hb
  have key : ∀ c (hc : c < l.length), ∃ z, (l.set i y)[c]'(by rw [List.length_set]; exact hc) = z ∧ sameO z l[c] := fun c hc => by
    by_cases e : i = c
    · subst e
      refine ⟨y, by simp, ?_⟩
      obtain ⟨h1, h2⟩ := List.getElem?_eq_some_iff.1 hx
      rw [h2]
      exact hk
    · exact ⟨l[c], by simp [e], rfl, rfl, rfl⟩
  obtain ⟨z, e1, h1⟩ := key a ha
  obtain ⟨u, e2, h2⟩ := key b hb
  rw [e1, e2]
  exact ltO_key (h a b ha hb hab) h1 h2
theorem GoodO.set {l : List Opn} {i : Nat} {x y : Opn} (h : GoodO l) (hx : l[i]? = some x) (hk : sameO y x) (hy : OkO y) : GoodO (l.set i y) :=
  ⟨h.sorted.set hx hk, fun z hz => by
    rcases List.mem_or_eq_of_mem_set hz with h1 | rfl
    · exact h.ok z h1
    · exact hy, by rw [List.length_set]; exact h.most⟩
theorem SpotO.none {l : List Opn} {t : Opn} {i : Nat} (h : SpotO l t i false) (hso : SortedO l) (x : Opn) (hx : x ∈ l) : ¬ sameO x t := fun hs => by
  obtain ⟨q, hq⟩ := List.mem_iff_getElem?.1 hx
  rcases Nat.lt_trichotomy q i with h1 | h1 | h1
  · have := h.low q x h1 hq
    unfold ltO sameO at *
    omega
  · subst h1
    have := h.found.2 ⟨x, hq, hs⟩
    cases this
  · have h2 : i < l.length := by have := (List.getElem?_eq_some_iff.1 hq).1; omega
    have h3 := h.high i _ (Nat.le_refl _) (List.getElem?_eq_getElem h2)
    exact h3 (ltO_key (hso.get h1 (List.getElem?_eq_getElem h2) hq) ⟨rfl, rfl, rfl⟩ ⟨hs.1.symm, hs.2.1.symm, hs.2.2.symm⟩)
theorem SortedO.ins {l : List Opn} {i : Nat} {t y : Opn} (h : SortedO l) (hsp : SpotO l t i false) (hk : sameO y t) : SortedO (insAt l i y) := by
  have hlow : ∀ x ∈ l.take i, ltO x y := fun x hx => by
    obtain ⟨q, hq⟩ := List.mem_iff_getElem?.1 hx
    rw [List.getElem?_take] at hq
    split at hq
    · rename_i hqi
      exact ltO_key (hsp.low q x hqi hq) ⟨rfl, rfl, rfl⟩ hk
    · cases hq
  have hhigh : ∀ x ∈ l.drop i, ltO y x := fun x hx => by
    obtain ⟨q, hq⟩ := List.mem_iff_getElem?.1 hx
    rw [List.getElem?_drop] at hq
    have h1 := hsp.high (i + q) x (by omega) hq
    have h2 : ¬ sameO x t := fun hs => by
      by_cases e : q = 0
      · subst e
        have := hsp.found.2 ⟨x, hq, hs⟩
        cases this
      · have h4 : i < l.length := by have := (List.getElem?_eq_some_iff.1 hq).1; omega
        have h5 := h.get (show i < i + q by omega) (List.getElem?_eq_getElem h4) hq
        have h6 := hsp.high i _ (Nat.le_refl _) (List.getElem?_eq_getElem h4)
        exact h6 (ltO_key h5 ⟨rfl, rfl, rfl⟩ ⟨hs.1.symm, hs.2.1.symm, hs.2.2.symm⟩)
    unfold ltO sameO at *
    omega
  unfold SortedO insAt at *
  rw [List.pairwise_append]
  refine ⟨h.sublist (List.take_sublist _ _), ?_, ?_⟩
  · rw [List.pairwise_cons]
    exact ⟨hhigh, h.sublist (List.drop_sublist _ _)⟩
  · intro x hx z hz
    rcases List.mem_cons.1 hz with rfl | hz
    · exact hlow x hx
    · exact ltO_trans (hlow x hx) (hhigh z hz)
theorem mem_insAt {l : List Opn} {i : Nat} {y x : Opn} : x ∈ insAt l i y ↔ x = y ∨ x ∈ l := by
  unfold insAt
  rw [List.mem_append, List.mem_cons]
  constructor
  · rintro (h | h | h)
    · exact Or.inr (List.mem_of_mem_take h)
    · exact Or.inl h
    · exact Or.inr (List.mem_of_mem_drop h)
  · rintro (h | h)
    · exact Or.inr (Or.inl h)
    · rw [← List.take_append_drop i l, List.mem_append] at h
      rcases h with h | h
      · exact Or.inl h
      · exact Or.inr (Or.inr h)
theorem GoodO.ins {l : List Opn} {i : Nat} {t y : Opn} (h : GoodO l) (hsp : SpotO l t i false) (hk : sameO y t) (hy : OkO y) (hl : l.length < 40) : GoodO (insAt l i y) :=
  ⟨h.sorted.ins hsp hk, fun x hx => by
    rcases mem_insAt.1 hx with rfl | h1
    · exact hy
    · exact h.ok x h1, by rw [insAt_len hsp.le]; omega⟩
theorem GoodO.sub {l l' : List Opn} (h : GoodO l) (hs : l'.Sublist l) : GoodO l' :=
  ⟨h.sorted.sublist hs, fun x hx => h.ok x (hs.subset hx), Nat.le_trans hs.length_le h.most⟩
theorem erase_sub (l : List Opn) (i : Nat) : (l.take i ++ l.drop (i + 1)).Sublist l := by
  rw [← List.eraseIdx_eq_take_drop_succ]
  exact List.eraseIdx_sublist _ _
theorem kept_sub (o : Int) (l : List Opn) : (keptO o l).Sublist l := List.filter_sublist
theorem SoundO.sub {l l' : List Opn} (h : SoundO l) (hs : l'.Sublist l) : SoundO l' := fun x hx y hy => h x (hs.subset hx) y (hs.subset hy)
theorem SoundO.more {l l' : List Opn} {y : Opn} (h : SoundO l) (hm : ∀ x ∈ l', x = y ∨ x ∈ l) (h1 : ∀ z ∈ l, z.N = y.N → z.G = y.G → z.O ≠ y.O → meetB y.A z.D = false ∧ meetB z.A y.D = false) : SoundO l' := fun x hx z hz a b c => by
  rcases hm x hx with rfl | hx
  · rcases hm z hz with rfl | hz
    · exact absurd rfl c
    · exact (h1 z hz a.symm b.symm (fun e => c e.symm)).1
  · rcases hm z hz with rfl | hz
    · exact (h1 x hx a b c).2
    · exact h x hx z hz a b c
theorem SoundO.set {l : List Opn} {i : Nat} {y : Opn} (h : SoundO l) (h1 : ∀ z ∈ l, z.N = y.N → z.G = y.G → z.O ≠ y.O → meetB y.A z.D = false ∧ meetB z.A y.D = false) : SoundO (l.set i y) :=
  h.more (fun _ hx => (List.mem_or_eq_of_mem_set hx).symm) h1
theorem SoundO.ins {l : List Opn} {i : Nat} {y : Opn} (h : SoundO l) (h1 : ∀ z ∈ l, z.N = y.N → z.G = y.G → z.O ≠ y.O → meetB y.A z.D = false ∧ meetB z.A y.D = false) : SoundO (insAt l i y) :=
  h.more (fun _ hx => mem_insAt.1 hx) h1
theorem not_against {l : List Opn} {N G O a d : Int} (h : l.any (agB N G O a d) = false) {z : Opn} (hz : z ∈ l) (h1 : z.N = N) (h2 : z.G = G) (h3 : z.O ≠ O) : meetB z.D a = false ∧ meetB z.A d = false := by
  rw [List.any_eq_false] at h
  have := h z hz
  simp [agB, byB, denyB, haveB, h1, h2, h3] at this
  exact this
end Go.Proofs.YtagpahgjbglmaaaDoor
