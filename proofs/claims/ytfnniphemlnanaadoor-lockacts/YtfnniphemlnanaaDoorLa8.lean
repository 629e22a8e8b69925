/- LockActs: plain: all runs of a painting, put in order. -/
import Derived.Test.YtfnniphemlnanaaDoorLa7
namespace Go.Proofs.YtfnniphemlnanaaDoor

theorem run_key {P : List Pt} {x : Lk} (h : IsRun P x) : ∃ p ∈ P, keyP x.N x.G x.O p = true := by
  refine Classical.byContradiction fun hn => ?_
  have h0 : atP P x.N x.G x.O x.A = 0 := atP_none _ _ _ _ _ (fun p hp => by
    cases hk : keyP x.N x.G x.O p with
    | false => rfl
    | true => exact absurd ⟨p, hp, hk⟩ hn)
  have h1 := h.2.inn x.A (Int.le_refl _) h.2.ae
  have := kindW_pos x.W
  omega
def ltAO (x y : Lk) : Prop := x.A < y.A ∨ x.A = y.A ∧ x.O < y.O
def DiffK (x y : Lk) : Prop := x.A ≠ y.A ∨ x.O ≠ y.O
/-- While the runs of a node's owners are gathered. -/
structure HereInv (P : List Pt) (N G : Int) (os : List Int) (j : Nat) (H : List Lk) : Prop where
  mem : ∀ x, x ∈ H ↔ (x.N = N ∧ x.G = G) ∧ x.O ∈ os.take j ∧ IsRun P x
  diff : H.Pairwise DiffK
  len : H.length ≤ j * 201
theorem HereInv.nil (P : List Pt) (N G : Int) (os : List Int) : HereInv P N G os 0 [] :=
  ⟨fun x => ⟨(fun h => by cases h), (fun h => by cases h.2.1)⟩, List.Pairwise.nil, Nat.le_refl _⟩
theorem HereInv.step {P : List Pt} (hP : ∀ p ∈ P, p.Ok) {N G o : Int} {os ps : List Int} {j : Nat} {H : List Lk} (h : HereInv P N G os j H) (hs : os.Pairwise (· < ·)) (ho : os[j]? = some o) (hp : IsPlaces P N G o ps) (hl : (runsP P N G o ps).length ≤ 201) : HereInv P N G os (j + 1) (H ++ runsP P N G o ps) := by
  obtain ⟨hj, hoj⟩ := List.getElem?_eq_some_iff.1 ho
  have htk : os.take (j + 1) = os.take j ++ [o] := by rw [← List.take_append_getElem hj, hoj]
  refine ⟨fun x => ?_, List.pairwise_append.2 ⟨h.diff, (runsP_sorted hP hp).imp (fun {a b} hab => Or.inl (by omega)), fun a ha b hb => ?_⟩, by rw [List.length_append, Nat.succ_mul]; have := h.len; omega⟩
  · rw [List.mem_append, h.mem, mem_runsP hP hp, htk, List.mem_append, List.mem_singleton]
    constructor
    · rintro (⟨a, b, c⟩ | ⟨⟨a, b, c⟩, d⟩)
      · exact ⟨a, Or.inl b, c⟩
      · exact ⟨⟨a, b⟩, Or.inr c, d⟩
    · rintro ⟨a, b | b, c⟩
      · exact Or.inl ⟨a, b, c⟩
      · exact Or.inr ⟨⟨a.1, a.2, b⟩, c⟩
  · have h1 := ((h.mem a).1 ha).2.1
    have h2 := ((mem_runsP hP hp b).1 hb).1.2.2
    obtain ⟨i, hi, e⟩ := List.mem_iff_getElem.1 h1
    rw [List.getElem_take] at e
    rw [List.length_take] at hi
    have := List.pairwise_iff_getElem.1 hs i j (by omega) hj (by omega)
    rw [e, hoj] at this
    exact Or.inr (by omega)
theorem HereInv.full {P : List Pt} {N G : Int} {os : List Int} {H : List Lk} (h : HereInv P N G os os.length H) (ho : IsOwners P N G os) (x : Lk) : x ∈ H ↔ (x.N = N ∧ x.G = G) ∧ IsRun P x := by
  rw [h.mem, List.take_length]
  constructor
  · rintro ⟨a, _, c⟩; exact ⟨a, c⟩
  · rintro ⟨a, c⟩
    obtain ⟨p, hp, hk⟩ := run_key c
    obtain ⟨k1, k2, k3⟩ := keyP_iff.1 hk
    exact ⟨a, (ho.2 _).2 ⟨p, hp, k1.trans a.1, k2.trans a.2, k3⟩, c⟩
/-- While the least one is taken out, again and again. -/
structure SelInv (H0 H o : List Lk) : Prop where
  perm : (o ++ H).Perm H0
  srt : o.Pairwise ltAO
  low : ∀ x ∈ o, ∀ y ∈ H, ltAO x y
  diff : H.Pairwise DiffK
theorem SelInv.start {H0 : List Lk} (h : H0.Pairwise DiffK) : SelInv H0 H0 [] := ⟨List.Perm.refl _, List.Pairwise.nil, fun _ hx => by (cases hx), h⟩
theorem SelInv.step {H0 H o : List Lk} {b : Nat} {x : Lk} (h : SelInv H0 H o) (hx : H[b]? = some x) (hm : ∀ (k : Nat) (y : Lk), H[k]? = some y → ¬ ltAO y x) : SelInv H0 (H.take b ++ H.drop (b + 1)) (o ++ [x]) := by
  obtain ⟨hb, hbx⟩ := List.getElem?_eq_some_iff.1 hx
  have hsp : H = H.take b ++ x :: H.drop (b + 1) := by
    have hd : H.drop b = x :: H.drop (b + 1) := by rw [List.drop_eq_getElem_cons hb, hbx]
    rw [← hd, List.take_append_drop]
  have hmem : ∀ y ∈ H.take b ++ H.drop (b + 1), y ∈ H := fun y hy => by
    rcases List.mem_append.1 hy with e | e
    · exact List.mem_of_mem_take e
    · exact List.mem_of_mem_drop e
  have hdf : ∀ y ∈ H.take b ++ H.drop (b + 1), DiffK x y := fun y hy => by
    have hd := h.diff
    rw [hsp] at hd
    obtain ⟨_, hd2, hd3⟩ := List.pairwise_append.1 hd
    rcases List.mem_append.1 hy with e | e
    · have := hd3 y e x List.mem_cons_self
      unfold DiffK at *
      omega
    · exact (List.pairwise_cons.1 hd2).1 y e
  refine ⟨?_, List.pairwise_append.2 ⟨h.srt, List.pairwise_singleton _ _, fun a ha c hc => ?_⟩, fun a ha y hy => ?_, ?_⟩
  · refine List.Perm.trans ?_ h.perm
    rw [List.append_assoc]
    refine List.Perm.append_left o ?_
    conv => rhs; rw [hsp]
    simpa using (List.perm_middle (a := x) (l₁ := H.take b) (l₂ := H.drop (b + 1))).symm
  · rw [List.mem_singleton.1 hc]
    exact h.low a ha x (List.mem_of_getElem? hx)
  · rcases List.mem_append.1 ha with e | e
    · exact h.low a e y (hmem y hy)
    · rw [List.mem_singleton.1 e]
      obtain ⟨k, hk⟩ := List.mem_iff_getElem?.1 (hmem y hy)
      have h1 := hm k y hk
      have h2 := hdf y hy
      unfold ltAO DiffK at *
      omega
  · refine h.diff.sublist ?_
    conv => rhs; rw [hsp]
    exact List.Sublist.append_left (List.sublist_cons_self _ _) _
/-- While node after node is put behind. -/
structure OutInv (P : List Pt) (hs : List (Int × Int)) (i : Nat) (D : List Lk) : Prop where
  mem : ∀ x, x ∈ D ↔ (x.N, x.G) ∈ hs.take i ∧ IsRun P x
  srt : D.Pairwise ltL
  len : D.length ≤ i * 20100
theorem OutInv.nil (P : List Pt) (hs : List (Int × Int)) : OutInv P hs 0 [] := ⟨fun x => ⟨(fun h => by cases h), (fun h => by cases h.1)⟩, List.Pairwise.nil, Nat.le_refl _⟩
theorem OutInv.step {P : List Pt} {hs : List (Int × Int)} {i : Nat} {D H0 o : List Lk} {N G : Int} (h : OutInv P hs i D) (hh : hs.Pairwise ltH) (hx : hs[i]? = some (N, G)) (h0 : ∀ x, x ∈ H0 ↔ (x.N = N ∧ x.G = G) ∧ IsRun P x) (hl : H0.length ≤ 20100) (hs' : SelInv H0 [] o) : OutInv P hs (i + 1) (D ++ o) := by
  obtain ⟨hi, hix⟩ := List.getElem?_eq_some_iff.1 hx
  have hp : o.Perm H0 := by have := hs'.perm; rwa [List.append_nil] at this
  have hO : ∀ x, x ∈ o ↔ (x.N = N ∧ x.G = G) ∧ IsRun P x := fun x => (hp.mem_iff).trans (h0 x)
  have htk : hs.take (i + 1) = hs.take i ++ [(N, G)] := by rw [← List.take_append_getElem hi, hix]
  refine ⟨fun x => ?_, List.pairwise_append.2 ⟨h.srt, hs'.srt.imp_of_mem (fun {a b} ha hb hab => ?_), fun a ha b hb => ?_⟩, by rw [List.length_append, hp.length_eq, Nat.succ_mul]; have := h.len; omega⟩
  · rw [List.mem_append, h.mem, hO, htk, List.mem_append, List.mem_singleton]
    constructor
    · rintro (⟨a, b⟩ | ⟨a, b⟩)
      · exact ⟨Or.inl a, b⟩
      · exact ⟨Or.inr (by rw [a.1, a.2]), b⟩
    · rintro ⟨a | a, b⟩
      · exact Or.inl ⟨a, b⟩
      · exact Or.inr ⟨Prod.mk.inj a, b⟩
  · have h1 := ((hO a).1 ha).1
    have h2 := ((hO b).1 hb).1
    unfold ltAO at hab
    unfold ltL
    omega
  · have h1 := ((h.mem a).1 ha).1
    have h2 := ((hO b).1 hb).1
    obtain ⟨k, hk, e⟩ := List.mem_iff_getElem.1 h1
    rw [List.getElem_take] at e
    rw [List.length_take] at hk
    have := List.pairwise_iff_getElem.1 hh k i (by omega) hi (by omega)
    rw [e, hix] at this
    unfold ltH at this
    simp only at this
    unfold ltL
    omega
/-- All runs, in order. -/
def ListOf (P : List Pt) (D : List Lk) : Prop := (∀ x, x ∈ D ↔ IsRun P x) ∧ D.Pairwise ltL
theorem OutInv.full {P : List Pt} {hs : List (Int × Int)} {D : List Lk} (h : OutInv P hs hs.length D) (hh : IsHandles P hs) : ListOf P D := by
  refine ⟨fun x => ?_, h.srt⟩
  rw [h.mem, List.take_length]
  refine ⟨fun hx => hx.2, fun hx => ⟨?_, hx⟩⟩
  obtain ⟨p, hp, hk⟩ := run_key hx
  obtain ⟨k1, k2, _⟩ := keyP_iff.1 hk
  exact (hh.2 _).2 ⟨p, hp, by rw [k1, k2]⟩
/-- What the program holds is what the document lists. -/
theorem ListOf.eq {P : List Pt} {D l : List Lk} (h : ListOf P D) (hi : LInv l) (hs : Same l P) (ho : l.Pairwise (fun x y => ¬ ltL y x)) : D = l :=
  sorted_ext h.2 (strict_of hi ho) (fun x => (h.1 x).trans (mem_iff_run hi hs x).symm)
theorem ListOf.len {P : List Pt} {D l : List Lk} (h : ListOf P D) (hi : LInv l) (hs : Same l P) : D.length = l.length := by
  have hnd : D.Nodup := h.2.imp (fun {a b} hab e => by rw [e] at hab; exact ltL_irrefl b hab)
  have hnl : l.Nodup := hi.apt.imp_of_mem (fun {a b} ha hb hab e => by
    subst e
    have x1 := (OkR.fwd (hi.ok a ha)).1
    change a.A < a.e at x1
    have := ((hab rfl rfl).1 rfl).1
    omega)
  exact ((List.perm_ext_iff_of_nodup hnd hnl).2 (fun x => (h.1 x).trans (mem_iff_run hi hs x).symm)).length_eq
end Go.Proofs.YtfnniphemlnanaaDoor
