/- Nodes: rows of structs as lists of cells; what the law keeps of a table, and how it stands to the table: plain. -/
import Derived.ProofKit
namespace Go.Proofs.YtmfcfkomdflhlaaDoor
open Go

/-! ### a row of structs -/
def rowOf {α : Type} (c : α → List Value) : List α → List Value
  | [] => []
  | a :: l => c a ++ rowOf c l
section
variable {α : Type} {c : α → List Value} {n : Nat}
theorem rowOf_len (hc : ∀ a, (c a).length = n) (l : List α) : (rowOf c l).length = l.length * n := by
  induction l with
  | nil => simp [rowOf]
  | cons a l ih => simp [rowOf, hc, ih, Nat.add_mul]; omega
theorem rowOf_get (hc : ∀ a, (c a).length = n) (l : List α) (i j : Nat) (a : α) (hj : j < n) (hi : l[i]? = some a) : (rowOf c l)[i * n + j]? = (c a)[j]? := by
  induction l generalizing i with
  | nil => cases hi
  | cons b l ih =>
    cases i with
    | zero =>
      simp at hi
      subst hi
      simp only [rowOf, Nat.zero_mul, Nat.zero_add]
      rw [List.getElem?_append_left (by rw [hc]; exact hj)]
    | succ i =>
      simp at hi
      simp only [rowOf]
      rw [List.getElem?_append_right (by rw [hc, Nat.add_mul]; omega), hc, show (i + 1) * n + j - n = i * n + j by rw [Nat.add_mul]; omega]
      exact ih i hi
theorem rowOf_append (l l' : List α) : rowOf c (l ++ l') = rowOf c l ++ rowOf c l' := by
  induction l with
  | nil => rfl
  | cons a l ih => simp [rowOf, ih]
theorem rowOf_set (hc : ∀ a, (c a).length = n) (l : List α) (i j : Nat) (a a' : α) (v : Value) (hj : j < n) (hi : l[i]? = some a) (ha : c a' = (c a).set j v) : (rowOf c l).set (i * n + j) v = rowOf c (l.set i a') := by
  induction l generalizing i with
  | nil => cases hi
  | cons b l ih =>
    cases i with
    | zero =>
      simp at hi
      subst hi
      simp only [rowOf, List.set_cons_zero, Nat.zero_mul, Nat.zero_add, ha]
      rw [List.set_append_left _ _ (by rw [hc]; exact hj)]
    | succ i =>
      simp at hi
      simp only [rowOf, List.set_cons_succ]
      rw [List.set_append_right _ _ (by rw [hc, Nat.add_mul]; omega), hc, show (i + 1) * n + j - n = i * n + j by rw [Nat.add_mul]; omega, ih i hi]
theorem rowOf_take (hc : ∀ a, (c a).length = n) (l : List α) (k : Nat) : rowOf c (l.take k) = (rowOf c l).take (k * n) := by
  induction l generalizing k with
  | nil => simp [rowOf]
  | cons a l ih =>
    cases k with
    | zero => simp [rowOf]
    | succ k =>
      simp only [List.take_succ_cons, rowOf, ih]
      rw [List.take_append, hc, List.take_of_length_le (l := c a) (by rw [hc, Nat.add_mul]; omega), show (k + 1) * n - n = k * n by rw [Nat.add_mul]; omega]
theorem rowOf_drop (hc : ∀ a, (c a).length = n) (l : List α) (k : Nat) : rowOf c (l.drop k) = (rowOf c l).drop (k * n) := by
  induction l generalizing k with
  | nil => simp [rowOf]
  | cons a l ih =>
    cases k with
    | zero => simp [rowOf]
    | succ k =>
      simp only [List.drop_succ_cons, rowOf, ih]
      rw [List.drop_append, hc, List.drop_eq_nil_of_le (as := c a) (by rw [hc, Nat.add_mul]; omega), show (k + 1) * n - n = k * n by rw [Nat.add_mul]; omega]
      rfl
theorem rowOf_one {p : Value → Prop} (h : ∀ a, ∀ v ∈ c a, p v) (l : List α) : ∀ v ∈ rowOf c l, p v := by
  induction l with
  | nil => intro v hv; cases hv
  | cons a l ih =>
    intro v hv
    rcases List.mem_append.1 hv with hv | hv
    · exact h a v hv
    · exact ih v hv
end

/-! ### what the law keeps -/
structure Spot where
  N : Int
  G : Int
  K : Int
  Z : Int
  L : Int
  C : Int
  UN : Int
  UG : Int
  F : Int
def Spot.cells (s : Spot) : List Value := [.int .i64 s.N, .int .i64 s.G, .int .i64 s.K, .int .i64 s.Z, .int .i64 s.L, .int .i64 s.C, .int .i64 s.UN, .int .i64 s.UG, .int .i64 s.F]
theorem Spot.cells_len (s : Spot) : s.cells.length = 9 := rfl
theorem Spot.cells_one (s : Spot) : ∀ v ∈ s.cells, v.oneCell' = true := by
  intro v hv
  simp [Spot.cells] at hv
  rcases hv with rfl | rfl | rfl | rfl | rfl | rfl | rfl | rfl | rfl <;> rfl
/-- A node of the program's: where it lies, what is told of it, what it holds. -/
structure Nod where
  b : Nat
  K : Int
  Z : Int
  L : Int
  C : Int
  UN : Int
  UG : Int
  S : ByteArray
  H : List Bool
  m : Option Nat
def setN {α : Type} (f : Nat → α) (i : Nat) (v : α) : Nat → α := fun j => if j = i then v else f j
theorem setN_same {α : Type} (f : Nat → α) (i : Nat) (v : α) : setN f i v i = v := if_pos rfl
theorem setN_other {α : Type} (f : Nat → α) {i j : Nat} (v : α) (h : j ≠ i) : setN f i v j = f j := if_neg h
/-- A spot stands for a node. -/
structure Fits (s : Spot) (n : Nod) (c : Nat) : Prop where
  kind : s.K = 1 ∨ s.K = 2
  K : n.K = s.K
  L : n.L = s.L
  C : n.C = s.C
  UN : n.UN = s.UN
  UG : n.UG = s.UG
  dir : s.K = 2 → n.Z = s.Z
  file : s.K = 1 → s.F = (n.S.size : Int)
  F0 : 0 ≤ s.F
  F1 : s.F ≤ 2 * c
  C0 : 0 ≤ s.C
  C1 : s.C ≤ c
theorem Fits.mono {s : Spot} {n : Nod} {c c' : Nat} (h : Fits s n c) (hc : c ≤ c') : Fits s n c' := ⟨h.kind, h.K, h.L, h.C, h.UN, h.UG, h.dir, h.file, h.F0, by have := h.F1; omega, h.C0, by have := h.C1; omega⟩
/-- The table beside what the law keeps of it, behind c acts. -/
structure Agree (most : Nat) (g t : Nat → Nat) (nd : Nat → Option Nod) (l : List Spot) (c : Nat) : Prop where
  each : ∀ s, s ∈ l → ∃ i n, i < most ∧ s.N = (i : Int) ∧ s.G = (g i : Int) ∧ nd i = some n ∧ Fits s n c
  all : ∀ i n, i < most → nd i = some n → ∃ s, s ∈ l ∧ s.N = (i : Int)
  once : (l.map (·.N)).Nodup
  times : ∀ i, i < most → t i = g i + if (nd i).isSome then 1 else 0
  small : ∀ i, i < most → t i ≤ c
  len : l.length ≤ c
theorem Agree.start (most : Nat) : Agree most (fun _ => 0) (fun _ => 0) (fun _ => none) [] 0 :=
  ⟨(fun _ h => by cases h), (fun i n hi h => by cases h), List.nodup_nil, fun _ _ => rfl, fun _ _ => Nat.le_refl _, Nat.le_refl _⟩
theorem Agree.mono {most : Nat} {g t : Nat → Nat} {nd : Nat → Option Nod} {l : List Spot} {c c' : Nat} (h : Agree most g t nd l c) (hc : c ≤ c') : Agree most g t nd l c' :=
  ⟨fun s hs => by
    obtain ⟨i, n, h1, h2, h3, h4, h5⟩ := h.each s hs
    exact ⟨i, n, h1, h2, h3, h4, h5.mono hc⟩, h.all, h.once, h.times, fun i hi => Nat.le_trans (h.small i hi) hc, Nat.le_trans h.len hc⟩
/-- Two spots of one number are one. -/
theorem nodup_at {l : List Spot} (h : (l.map (·.N)).Nodup) {i j : Nat} {a b : Spot} (hi : l[i]? = some a) (hj : l[j]? = some b) (e : a.N = b.N) : i = j := by
  have hil : i < l.length := (List.getElem?_eq_some_iff.1 hi).1
  have hjl : j < l.length := (List.getElem?_eq_some_iff.1 hj).1
  have := List.getElem_inj (xs := l.map (·.N)) (i := i) (j := j) (h₀ := by simpa using hil) (h₁ := by simpa using hjl) h
  apply this.1
  have ha := (List.getElem?_eq_some_iff.1 hi).2
  have hb := (List.getElem?_eq_some_iff.1 hj).2
  simp [ha, hb, e]
section
variable {most : Nat} {g t : Nat → Nat} {nd : Nat → Option Nod} {l : List Spot} {c : Nat}
/-- How many are there. -/
theorem Agree.count (h : Agree most g t nd l c) : ((List.range most).filter (fun i => (nd i).isSome)).length = l.length := by
  have hp : (((List.range most).filter (fun i => (nd i).isSome)).map (fun i : Nat => (i : Int))).Perm (l.map (·.N)) := by
    rw [List.perm_ext_iff_of_nodup ?_ h.once]
    · intro z
      constructor
      · intro hz
        obtain ⟨i, hi, rfl⟩ := List.mem_map.1 hz
        obtain ⟨h1, h2⟩ := List.mem_filter.1 hi
        obtain ⟨n, hn⟩ := Option.isSome_iff_exists.1 h2
        obtain ⟨s, hs, e⟩ := h.all i n (List.mem_range.1 h1) hn
        exact List.mem_map.2 ⟨s, hs, e⟩
      · intro hz
        obtain ⟨s, hs, rfl⟩ := List.mem_map.1 hz
        obtain ⟨i, n, h1, h2, _, h4, _⟩ := h.each s hs
        exact List.mem_map.2 ⟨i, List.mem_filter.2 ⟨List.mem_range.2 h1, by rw [h4]; rfl⟩, h2.symm⟩
    · exact ((List.nodup_range).filter _).map _ (fun a b hab hne => hab (Int.ofNat.inj hne))
  simpa using hp.length_eq
theorem Agree.used (h : Agree most g t nd l c) {i : Nat} (hi : i < most) : (∃ s, s ∈ l ∧ s.N = (i : Int)) ↔ (nd i).isSome = true := by
  constructor
  · rintro ⟨s, hs, e⟩
    obtain ⟨j, n, _, h2, _, h4, _⟩ := h.each s hs
    have : i = j := by omega
    subst this
    rw [h4]; rfl
  · intro hs
    obtain ⟨n, hn⟩ := Option.isSome_iff_exists.1 hs
    exact h.all i n hi hn
/-- A handle that the law doesn't know stands for nothing. -/
theorem Agree.stale (h : Agree most g t nd l c) {N G : Int} (hn : ∀ s, s ∈ l → ¬ (s.N = N ∧ s.G = G)) : ∀ i n, i < most → N = (i : Int) → nd i = some n → G ≠ (g i : Int) := by
  intro i n hi e hnd hG
  obtain ⟨s, hs, e2⟩ := h.all i n hi hnd
  obtain ⟨j, n', _, h2, h3, h4, _⟩ := h.each s hs
  have : i = j := by omega
  subst this
  exact hn s hs ⟨e2.trans e.symm, h3.trans hG.symm⟩
/-- One that it knows. -/
theorem Agree.known (h : Agree most g t nd l c) {k : Nat} {s : Spot} (hk : l[k]? = some s) : ∃ i n, i < most ∧ s.N = (i : Int) ∧ s.G = (g i : Int) ∧ nd i = some n ∧ Fits s n c :=
  h.each s (List.mem_of_getElem? hk)
/-- A node is added. -/
theorem Agree.add (h : Agree most g t nd l c) {i : Nat} (hi : i < most) (hfree : nd i = none) {n : Nod} {K : Int} (hK : K = 1 ∨ K = 2) (hn : n.K = K ∧ n.Z = 0 ∧ n.L = 0 ∧ n.C = 0 ∧ n.UN = 0 ∧ n.UG = 0 ∧ n.S.size = 0) :
    Agree most g (setN t i (t i + 1)) (setN nd i (some n)) (l ++ [⟨i, t i, K, 0, 0, 0, 0, 0, 0⟩]) (c + 1) := by
  obtain ⟨n1, n2, n3, n4, n5, n6, n7⟩ := hn
  have ht : t i = g i := by rw [h.times i hi, hfree]; simp
  have hno : ∀ s, s ∈ l → s.N ≠ (i : Int) := fun s hs e => by
    have := (h.used hi).1 ⟨s, hs, e⟩
    rw [hfree] at this
    cases this
  refine ⟨fun s hs => ?_, fun j m hj hm => ?_, ?_, fun j hj => ?_, fun j hj => ?_, ?_⟩
  · rcases List.mem_append.1 hs with hs | hs
    · obtain ⟨j, m, h1, h2, h3, h4, h5⟩ := h.each s hs
      refine ⟨j, m, h1, h2, h3, ?_, h5.mono (Nat.le_succ _)⟩
      rw [setN_other _ _ (fun e => hno s hs (by rw [h2, e]))]
      exact h4
    · simp at hs
      subst hs
      refine ⟨i, n, hi, rfl, by simp [ht], setN_same _ _ _, hK, n1, n3, n4, n5, n6, fun _ => n2, fun _ => by simp [n7], Int.le_refl _, by show (0 : Int) ≤ _; omega, Int.le_refl _, by show (0 : Int) ≤ _; omega⟩
  · by_cases e : j = i
    · subst e
      exact ⟨_, List.mem_append.2 (Or.inr (List.mem_singleton.2 rfl)), rfl⟩
    · rw [setN_other _ _ e] at hm
      obtain ⟨s, hs, e2⟩ := h.all j m hj hm
      exact ⟨s, List.mem_append.2 (Or.inl hs), e2⟩
  · rw [List.map_append, List.nodup_append]
    refine ⟨h.once, by simp, fun a ha b hb => ?_⟩
    simp at hb
    subst hb
    obtain ⟨s, hs, rfl⟩ := List.mem_map.1 ha
    exact hno s hs
  · by_cases e : j = i
    · subst e
      rw [setN_same, setN_same]
      simp [ht]
    · rw [setN_other _ _ e, setN_other _ _ e]
      exact h.times j hj
  · by_cases e : j = i
    · subst e
      rw [setN_same]
      have := h.small j hj
      omega
    · rw [setN_other _ _ e]
      have := h.small j hj
      omega
  · simp
    exact h.len
/-- A node is changed. -/
theorem Agree.turn (h : Agree most g t nd l c) {k i : Nat} {s s' : Spot} {n n' : Nod} (hk : l[k]? = some s) (hN : s.N = (i : Int)) (hnd : nd i = some n) (hs : s'.N = s.N ∧ s'.G = s.G) (hf : Fits s' n' (c + 1)) :
    Agree most g t (setN nd i (some n')) (l.set k s') (c + 1) := by
  have hkl : k < l.length := (List.getElem?_eq_some_iff.1 hk).1
  obtain ⟨i', n0, hi, e1, e2, e3, _⟩ := h.known hk
  have : i' = i := by omega
  subst this
  have hmap : (l.set k s').map (·.N) = l.map (·.N) := by
    rw [List.map_set, hs.1]
    apply List.ext_getElem?
    intro j
    rw [List.getElem?_set]
    split
    · rename_i e
      subst e
      rw [if_pos (by simpa using hkl), List.getElem?_map, hk]
      rfl
    · rfl
  refine ⟨fun x hx => ?_, fun j m hj hm => ?_, by rw [hmap]; exact h.once, fun j hj => ?_, fun j hj => by have := h.small j hj; omega, by simp; have := h.len; omega⟩
  · obtain ⟨j, hj⟩ := List.mem_iff_getElem?.1 hx
    rw [List.getElem?_set] at hj
    split at hj
    · cases hj
      exact ⟨i', n', hi, by rw [hs.1, e1], by rw [hs.2, e2], setN_same _ _ _, hf⟩
    · rename_i hne
      obtain ⟨q, m, h1, h2, h3, h4, h5⟩ := h.known hj
      refine ⟨q, m, h1, h2, h3, ?_, h5.mono (Nat.le_succ _)⟩
      rw [setN_other _ _ (fun e => hne (nodup_at h.once hk hj (by rw [hN, h2, e])))]
      exact h4
  · have hlift : ∀ x, x ∈ l → x.N = (j : Int) → ∃ y, y ∈ l.set k s' ∧ y.N = (j : Int) := fun x hx e => by
      have : (j : Int) ∈ (l.set k s').map (·.N) := by rw [hmap, ← e]; exact List.mem_map.2 ⟨x, hx, rfl⟩
      obtain ⟨y, hy, e⟩ := List.mem_map.1 this
      exact ⟨y, hy, e⟩
    by_cases e : j = i'
    · subst e
      obtain ⟨x, hx, e⟩ := h.all j n hi hnd
      exact hlift x hx e
    · rw [setN_other _ _ e] at hm
      obtain ⟨x, hx, e⟩ := h.all j m hj hm
      exact hlift x hx e
  · by_cases e : j = i'
    · subst e
      rw [setN_same, h.times j hj, hnd]
      rfl
    · rw [setN_other _ _ e]
      exact h.times j hj
/-- A node goes. -/
theorem Agree.free (h : Agree most g t nd l c) {k i : Nat} {s : Spot} {n : Nod} (hk : l[k]? = some s) (hN : s.N = (i : Int)) (hnd : nd i = some n) :
    Agree most (setN g i (g i + 1)) t (setN nd i none) (l.take k ++ l.drop (k + 1)) (c + 1) := by
  have hkl : k < l.length := (List.getElem?_eq_some_iff.1 hk).1
  obtain ⟨i', n0, hi, e1, e2, e3, _⟩ := h.known hk
  have : i' = i := by omega
  subst this
  have hsplit : l = l.take k ++ s :: l.drop (k + 1) := by
    have h1 : l.drop k = s :: l.drop (k + 1) := by
      rw [List.drop_eq_getElem_cons hkl]
      congr 1
      exact (List.getElem?_eq_some_iff.1 hk).2
    rw [← h1, List.take_append_drop]
  have honce := h.once
  have hmem : ∀ x, x ∈ l.take k ++ l.drop (k + 1) → x ∈ l ∧ x.N ≠ (i' : Int) := by
    intro x hx
    rw [hsplit, List.map_append, List.map_cons, List.nodup_append, List.nodup_cons] at honce
    obtain ⟨_, ⟨hb, _⟩, hab⟩ := honce
    rcases List.mem_append.1 hx with hx | hx
    · refine ⟨List.mem_of_mem_take hx, fun e => ?_⟩
      exact hab x.N (List.mem_map.2 ⟨x, hx, rfl⟩) s.N (List.mem_cons_self ..) (by rw [e, hN])
    · refine ⟨List.mem_of_mem_drop hx, fun e => ?_⟩
      exact hb (List.mem_map.2 ⟨x, hx, by rw [e, hN]⟩)
  refine ⟨fun x hx => ?_, fun j m hj hm => ?_, ?_, fun j hj => ?_, fun j hj => by have := h.small j hj; omega, ?_⟩
  · obtain ⟨hx1, hx2⟩ := hmem x hx
    obtain ⟨j, m, h1, h2, h3, h4, h5⟩ := h.each x hx1
    have hne : j ≠ i' := fun e => hx2 (by rw [h2, e])
    exact ⟨j, m, h1, h2, by rw [setN_other _ _ hne]; exact h3, by rw [setN_other _ _ hne]; exact h4, h5.mono (Nat.le_succ _)⟩
  · by_cases e : j = i'
    · subst e
      rw [setN_same] at hm
      cases hm
    · rw [setN_other _ _ e] at hm
      obtain ⟨x, hx, ex⟩ := h.all j m hj hm
      refine ⟨x, ?_, ex⟩
      rw [hsplit] at hx
      rcases List.mem_append.1 hx with hx | hx
      · exact List.mem_append.2 (Or.inl hx)
      · rcases List.mem_cons.1 hx with rfl | hx
        · exact absurd (ex.symm.trans hN) (by omega)
        · exact List.mem_append.2 (Or.inr hx)
  · rw [hsplit, List.map_append, List.map_cons, List.nodup_append, List.nodup_cons] at honce
    rw [List.map_append, List.nodup_append]
    obtain ⟨h1, ⟨_, h2⟩, h3⟩ := honce
    exact ⟨h1, h2, fun a ha b hb => h3 a ha b (List.mem_cons_of_mem _ hb)⟩
  · by_cases e : j = i'
    · subst e
      rw [setN_same, setN_same, h.times j hj, hnd]
      simp
    · rw [setN_other _ _ e, setN_other _ _ e]
      exact h.times j hj
  · have := h.len
    simp
    omega
end
end Go.Proofs.YtmfcfkomdflhlaaDoor
