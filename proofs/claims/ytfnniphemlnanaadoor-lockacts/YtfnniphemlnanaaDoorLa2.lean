/- LockActs: plain: runs found from place to place. No program is named here. -/
import Derived.Test.YtfnniphemlnanaaDoorLa1
namespace Go.Proofs.YtfnniphemlnanaaDoor

/-- From place to place: what is held up to here, and since where. -/
def runR (v : Int → Int) (what from0 : Int) : List Int → List (Int × Int × Int)
  | [] => if 0 < what then [(from0, farE, what)] else []
  | p :: ps => if v p = what then runR v what from0 ps else (if 0 < what then [(from0, p, what)] else []) ++ runR v (v p) p ps
/-- What is known while places are still to come. -/
structure RunInv (v : Int → Int) (what from0 : Int) (ps : List Int) : Prop where
  w0 : 0 ≤ what
  f0 : 0 ≤ from0
  f1 : from0 < farE
  cur : ∀ b, from0 ≤ b → (∀ p ∈ ps, b < p) → b < farE → v b = what
  lo : what = 0 ∨ from0 = 0 ∨ v (from0 - 1) ≠ what
  nxt : ∀ p ∈ ps, ∀ b, p ≤ b → (∀ q ∈ ps, q ≤ p ∨ b < q) → b < farE → v b = v p
  srt : ps.Pairwise (· < ·)
  pos : ∀ p ∈ ps, (from0 < p ∨ (from0 = 0 ∧ what = 0)) ∧ from0 ≤ p ∧ p < farE
  vn : ∀ p ∈ ps, 0 ≤ v p
theorem RunInv.stay {v : Int → Int} {what from0 p : Int} {ps : List Int} (h : RunInv v what from0 (p :: ps)) (hv : v p = what) : RunInv v what from0 ps := by
  obtain ⟨hp, hs⟩ := List.pairwise_cons.1 h.srt
  refine ⟨h.w0, h.f0, h.f1, fun b h1 h2 h3 => ?_, h.lo, fun q hq b h1 h2 h3 => ?_, hs, fun q hq => h.pos q (List.mem_cons_of_mem _ hq), fun q hq => h.vn q (List.mem_cons_of_mem _ hq)⟩
  · by_cases hb : b < p
    · exact h.cur b h1 (fun q hq => by rcases List.mem_cons.1 hq with e | e; rw [e]; exact hb; exact h2 q e) h3
    · rw [← hv]
      exact h.nxt p List.mem_cons_self b (by omega) (fun q hq => by rcases List.mem_cons.1 hq with e | e; exact Or.inl (by omega); exact Or.inr (h2 q e)) h3
  · exact h.nxt q (List.mem_cons_of_mem _ hq) b h1 (fun r hr => by rcases List.mem_cons.1 hr with e | e; exact Or.inl (by have := hp q hq; omega); exact h2 r e) h3
theorem RunInv.turn {v : Int → Int} {what from0 p : Int} {ps : List Int} (h : RunInv v what from0 (p :: ps)) (hv : v p ≠ what) : RunInv v (v p) p ps := by
  obtain ⟨hp, hs⟩ := List.pairwise_cons.1 h.srt
  have hpp := h.pos p List.mem_cons_self
  have := h.f0
  refine ⟨h.vn p List.mem_cons_self, by omega, hpp.2.2, fun b h1 h2 h3 => ?_, ?_, fun q hq b h1 h2 h3 => ?_, hs, fun q hq => ⟨Or.inl (hp q hq), by have := hp q hq; omega, (h.pos q (List.mem_cons_of_mem _ hq)).2.2⟩, fun q hq => h.vn q (List.mem_cons_of_mem _ hq)⟩
  · exact h.nxt p List.mem_cons_self b h1 (fun q hq => by rcases List.mem_cons.1 hq with e | e; exact Or.inl (by omega); exact Or.inr (h2 q e)) h3
  · rcases hpp.1 with hlt | ⟨h0, _⟩
    · refine Or.inr (Or.inr fun e => hv ?_)
      rw [← e]
      exact h.cur (p - 1) (by omega) (fun q hq => by rcases List.mem_cons.1 hq with e' | e'; omega; have := hp q e'; omega) (by omega)
    · by_cases hp0 : p = 0
      · exact Or.inr (Or.inl hp0)
      · refine Or.inr (Or.inr fun e => hv ?_)
        rw [← e]
        exact h.cur (p - 1) (by omega) (fun q hq => by rcases List.mem_cons.1 hq with e' | e'; omega; have := hp q e'; omega) (by omega)
  · exact h.nxt q (List.mem_cons_of_mem _ hq) b h1 (fun r hr => by rcases List.mem_cons.1 hr with e | e; exact Or.inl (by have := hp q hq; omega); exact h2 r e) h3
theorem runR_iff {v : Int → Int} (ps : List Int) : ∀ {what from0 : Int}, RunInv v what from0 ps → ∀ A e k, (A, e, k) ∈ runR v what from0 ps ↔ (1 ≤ k ∧ RunOf v A e k ∧ from0 ≤ A) := by
  induction ps with
  | nil =>
    intro what from0 h A e k
    unfold runR
    have := h.w0
    have hF := h.f1
    by_cases hw : 0 < what
    · rw [if_pos hw, List.mem_singleton]
      have hr : RunOf v from0 farE what := ⟨h.f0, hF, Int.le_refl _, fun b h1 h2 => h.cur b h1 (fun _ hq => by cases hq) h2, by rcases h.lo with e | e | e; omega; exact Or.inl e; exact Or.inr e, Or.inl rfl⟩
      constructor
      · intro he
        simp only [Prod.mk.injEq] at he
        obtain ⟨rfl, rfl, rfl⟩ := he
        exact ⟨by omega, hr, Int.le_refl _⟩
      · rintro ⟨hk, hx, hA⟩
        have hAf : A < farE := by have := hx.ae; have := hx.far; omega
        obtain ⟨a, b, c⟩ := hx.same hr (Int.le_refl _) hx.ae hA hAf
        rw [a, b, c]
    · rw [if_neg hw]
      constructor
      · intro he; cases he
      · rintro ⟨hk, hx, hA⟩
        have hAf : A < farE := by have := hx.ae; have := hx.far; omega
        have h1 := hx.inn A (Int.le_refl _) hx.ae
        rw [h.cur A hA (fun _ hq => by cases hq) hAf] at h1
        omega
  | cons p ps ih =>
    intro what from0 h A e k
    obtain ⟨hp, _⟩ := List.pairwise_cons.1 h.srt
    have hpp := h.pos p List.mem_cons_self
    have hw0 := h.w0
    have hf0 := h.f0
    unfold runR
    by_cases hv : v p = what
    · rw [if_pos hv]
      exact ih (h.stay hv) A e k
    · rw [if_neg hv, List.mem_append, ih (h.turn hv) A e k]
      have hlow : ∀ b, from0 ≤ b → b < p → v b = what := fun b h1 h2 => h.cur b h1 (fun q hq => by rcases List.mem_cons.1 hq with e' | e'; omega; have := hp q e'; omega) (by omega)
      by_cases hw : 0 < what
      · have hlt : from0 < p := by rcases hpp.1 with e' | e'; exact e'; omega
        have hr : RunOf v from0 p what := ⟨h.f0, hlt, by omega, hlow, by rcases h.lo with e' | e' | e'; omega; exact Or.inl e'; exact Or.inr e', Or.inr hv⟩
        rw [if_pos hw, List.mem_singleton]
        constructor
        · rintro (he | ⟨hk, hx, hA⟩)
          · simp only [Prod.mk.injEq] at he
            obtain ⟨rfl, rfl, rfl⟩ := he
            exact ⟨by omega, hr, Int.le_refl _⟩
          · exact ⟨hk, hx, by omega⟩
        · rintro ⟨hk, hx, hA⟩
          by_cases hAp : A < p
          · obtain ⟨a, b, c⟩ := hx.same hr (Int.le_refl _) hx.ae hA hAp
            exact Or.inl (by rw [a, b, c])
          · exact Or.inr ⟨hk, hx, by omega⟩
      · rw [if_neg hw]
        constructor
        · rintro (he | ⟨hk, hx, hA⟩)
          · cases he
          · exact ⟨hk, hx, by omega⟩
        · rintro ⟨hk, hx, hA⟩
          by_cases hAp : A < p
          · have h1 := hx.inn A (Int.le_refl _) hx.ae
            rw [hlow A hA hAp] at h1
            omega
          · exact Or.inr ⟨hk, hx, by omega⟩
theorem runR_sorted {v : Int → Int} (ps : List Int) : ∀ {what from0 : Int}, RunInv v what from0 ps → (runR v what from0 ps).Pairwise (fun a b => a.1 < b.1) := by
  induction ps with
  | nil =>
    intro what from0 h
    unfold runR
    split <;> simp
  | cons p ps ih =>
    intro what from0 h
    have hpp := h.pos p List.mem_cons_self
    unfold runR
    by_cases hv : v p = what
    · rw [if_pos hv]
      exact ih (h.stay hv)
    · rw [if_neg hv]
      refine List.pairwise_append.2 ⟨by split <;> simp, ih (h.turn hv), fun a ha b hb => ?_⟩
      by_cases hw : 0 < what
      · rw [if_pos hw, List.mem_singleton] at ha
        obtain ⟨A, e, k⟩ := b
        have := ((runR_iff ps (h.turn hv) A e k).1 hb).2.2
        rw [ha]
        show from0 < A
        rcases hpp.1 with e' | e'
        · omega
        · omega
      · rw [if_neg hw] at ha
        cases ha
/-- Where nothing begins or ends, nothing turns. -/
theorem at_const {P : List Pt} (hP : ∀ p ∈ P, p.Ok) {N G O b c : Int} (hbc : b ≤ c) (hno : ∀ p ∈ P, keyP N G O p = true → ¬ (b < p.F ∧ p.F ≤ c) ∧ ¬ (b < p.T ∧ p.T ≤ c)) (h0 : 0 ≤ b) : atP P N G O b = atP P N G O c := by
  have aux : ∀ (m : List Pt) (a : Int), (∀ p ∈ m, p.Ok) → (∀ p ∈ m, keyP N G O p = true → ¬ (b < p.F ∧ p.F ≤ c) ∧ ¬ (b < p.T ∧ p.T ≤ c)) → m.foldl (fun a p => if keyP N G O p && covB p b then p.K else a) a = m.foldl (fun a p => if keyP N G O p && covB p c then p.K else a) a := by
    intro m
    induction m with
    | nil => intro a _ _; rfl
    | cons p m ih =>
      intro a hm hn
      rw [List.foldl_cons, List.foldl_cons]
      have hst : (if keyP N G O p && covB p b then p.K else a) = (if keyP N G O p && covB p c then p.K else a) := by
        cases hk : keyP N G O p with
        | false => rfl
        | true =>
          have hx := hn p List.mem_cons_self hk
          have hcb : covB p b = covB p c := by
            rw [Bool.eq_iff_iff, covB_iff, covB_iff]
            have ho := (hm p List.mem_cons_self).t
            omega
          rw [hcb]
      rw [hst]
      exact ih _ (fun q hq => hm q (List.mem_cons_of_mem _ hq)) (fun q hq => hn q (List.mem_cons_of_mem _ hq))
  exact aux P 0 hP hno
/-- Places where something of an owner's begins or ends. -/
def IsPlaces (P : List Pt) (N G O : Int) (ps : List Int) : Prop := ps.Pairwise (· < ·) ∧ ∀ q, q ∈ ps ↔ ∃ p ∈ P, keyP N G O p = true ∧ (q = p.F ∨ (q = p.T ∧ 0 ≤ p.T))
theorem places_inv {P : List Pt} (hP : ∀ p ∈ P, p.Ok) {N G O : Int} {ps : List Int} (h : IsPlaces P N G O ps) : RunInv (atP P N G O) 0 0 ps := by
  have hF : farE = 9223372036854775807 := rfl
  have hbound : ∀ q ∈ ps, 0 ≤ q ∧ q ≤ 2199023255552 := fun q hq => by
    obtain ⟨p, hp, _, hc⟩ := (h.2 q).1 hq
    have ho := hP p hp
    have := ho.f0; have := ho.f1; have := ho.t
    omega
  have hnew : ∀ b c, 0 ≤ b → b ≤ c → (∀ q ∈ ps, q ≤ b ∨ c < q) → atP P N G O b = atP P N G O c := fun b c h0 hbc hq => at_const hP hbc (fun p hp hk => by
    have ho := hP p hp
    have hf := hq p.F ((h.2 _).2 ⟨p, hp, hk, Or.inl rfl⟩)
    refine ⟨by omega, fun ht => ?_⟩
    have := hq p.T ((h.2 _).2 ⟨p, hp, hk, Or.inr ⟨rfl, by omega⟩⟩)
    omega) h0
  refine ⟨Int.le_refl _, Int.le_refl _, by omega, fun b h1 h2 h3 => ?_, Or.inl rfl, fun p hp b h1 h2 h3 => ?_, h.1, fun p hp => ⟨Or.inr ⟨rfl, rfl⟩, (hbound p hp).1, by have := (hbound p hp).2; omega⟩, fun p _ => by have := atP_range hP N G O p; omega⟩
  · have aux : ∀ (m : List Pt), (∀ p ∈ m, keyP N G O p = true → b < p.F) → m.foldl (fun a p => if keyP N G O p && covB p b then p.K else a) 0 = 0 := by
      intro m
      induction m with
      | nil => intro _; rfl
      | cons p m ih =>
        intro hm
        rw [List.foldl_cons]
        have hst : (if keyP N G O p && covB p b then p.K else 0) = 0 := by
          cases hk : keyP N G O p with
          | false => rfl
          | true =>
            have := hm p List.mem_cons_self hk
            have hc : covB p b = false := by
              cases hc : covB p b with
              | false => rfl
              | true => have := (covB_iff.1 hc).1; omega
            rw [hc]; rfl
        rw [hst]
        exact ih (fun q hq => hm q (List.mem_cons_of_mem _ hq))
    exact aux P (fun p hp hk => h2 p.F ((h.2 _).2 ⟨p, hp, hk, Or.inl rfl⟩))
  · exact (hnew p b (hbound p hp).1 h1 h2).symm
/-- An owner's runs at a node. -/
def runsP (P : List Pt) (N G O : Int) (ps : List Int) : List Lk := (runR (atP P N G O) 0 0 ps).map (fun r => ⟨N, G, O, r.1, sizR r.1 r.2.1, r.2.2 == 2⟩)
theorem runR_bound {v : Int → Int} (ps : List Int) : ∀ {what from0 : Int}, 0 ≤ from0 → from0 ≤ 2199023255552 → (∀ p ∈ ps, 0 ≤ p ∧ p ≤ 2199023255552) → ∀ r ∈ runR v what from0 ps, 0 ≤ r.1 ∧ r.1 ≤ 2199023255552 ∧ (r.2.1 = farE ∨ r.2.1 ≤ 2199023255552) := by
  induction ps with
  | nil =>
    intro what from0 h0 h1 _ r hr
    unfold runR at hr
    split at hr
    · rw [List.mem_singleton] at hr
      subst hr
      exact ⟨h0, h1, Or.inl rfl⟩
    · cases hr
  | cons p ps ih =>
    intro what from0 h0 h1 hp r hr
    have hq := hp p List.mem_cons_self
    unfold runR at hr
    split at hr
    · exact ih h0 h1 (fun q hq => hp q (List.mem_cons_of_mem _ hq)) r hr
    · rcases List.mem_append.1 hr with hr | hr
      · split at hr
        · rw [List.mem_singleton] at hr
          subst hr
          exact ⟨h0, h1, Or.inr hq.2⟩
        · cases hr
      · exact ih hq.1 hq.2 (fun q hq => hp q (List.mem_cons_of_mem _ hq)) r hr
theorem mem_runsP {P : List Pt} (hP : ∀ p ∈ P, p.Ok) {N G O : Int} {ps : List Int} (h : IsPlaces P N G O ps) (x : Lk) : x ∈ runsP P N G O ps ↔ (x.N = N ∧ x.G = G ∧ x.O = O) ∧ IsRun P x := by
  have hb : ∀ q ∈ ps, 0 ≤ q ∧ q ≤ 2199023255552 := fun q hq => by
    obtain ⟨p, hp, _, hc⟩ := (h.2 q).1 hq
    have ho := hP p hp
    have := ho.f0; have := ho.f1; have := ho.t
    omega
  have hi := places_inv hP h
  unfold runsP
  rw [List.mem_map]
  constructor
  · rintro ⟨⟨A, e, k⟩, hr, rfl⟩
    obtain ⟨hk, hx, _⟩ := (runR_iff ps hi A e k).1 hr
    have hbd := runR_bound ps (Int.le_refl _) (by decide) hb _ hr
    simp only at hbd
    have hk2 : k = 1 ∨ k = 2 := by
      have := hx.inn A (Int.le_refl _) hx.ae
      have hh := atP_range hP N G O A
      rw [this] at hh
      omega
    have hkw : kindW (k == 2) = k := by rcases hk2 with e' | e' <;> subst e' <;> rfl
    have hok : OkR A (sizR A e) := ok_siz hbd.1 hbd.2.1 hx.ae hbd.2.2
    refine ⟨⟨rfl, rfl, rfl⟩, hok, ?_⟩
    show RunOf (atP P N G O) A (endR A (sizR A e)) (kindW (k == 2))
    rw [end_siz hx.ae, hkw]
    exact hx
  · rintro ⟨⟨rfl, rfl, rfl⟩, ho, hx⟩
    refine ⟨(x.A, x.e, kindW x.W), (runR_iff ps hi _ _ _).2 ⟨kindW_pos _, hx, ho.a0⟩, ?_⟩
    have hs : sizR x.A x.e = x.S := siz_end ho
    have hw : (kindW x.W == 2) = x.W := by cases x.W <;> rfl
    cases x
    simp only at hs hw ⊢
    rw [hs, hw]
theorem runsP_sorted {P : List Pt} (hP : ∀ p ∈ P, p.Ok) {N G O : Int} {ps : List Int} (h : IsPlaces P N G O ps) : (runsP P N G O ps).Pairwise (fun x y => x.A < y.A) := by
  unfold runsP
  rw [List.pairwise_map]
  exact runR_sorted ps (places_inv hP h)
end Go.Proofs.YtfnniphemlnanaaDoor
