/- LockActs: plain: what was painted, one over the other, and the runs that it makes. No program is named here. -/
import Derived.Test.YtfnniphemlnanaaDoorLk1
namespace Go.Proofs.YtfnniphemlnanaaDoor

/-- A stroke: of a node, by an owner, from a byte on up to another one (-1: no end), of a kind (0 nothing, 1 read, 2 write). -/
structure Pt where
  N : Int
  G : Int
  O : Int
  F : Int
  T : Int
  K : Int
structure Pt.Ok (p : Pt) : Prop where
  f0 : 0 ≤ p.F
  f1 : p.F ≤ 1099511627776
  t : p.T = -1 ∨ (p.F < p.T ∧ p.T ≤ 2199023255552)
  k : p.K = 0 ∨ p.K = 1 ∨ p.K = 2
def covB (p : Pt) (b : Int) : Bool := decide (p.F ≤ b) && (decide (p.T < 0) || decide (b < p.T))
def keyP (N G O : Int) (p : Pt) : Bool := decide (p.N = N) && decide (p.G = G) && decide (p.O = O)
theorem keyP_iff {N G O : Int} {p : Pt} : keyP N G O p = true ↔ p.N = N ∧ p.G = G ∧ p.O = O := by
  unfold keyP; simp only [Bool.and_eq_true, decide_eq_true_eq]; exact ⟨fun h => ⟨h.1.1, h.1.2, h.2⟩, fun h => ⟨⟨h.1, h.2.1⟩, h.2.2⟩⟩
theorem covB_iff {p : Pt} {b : Int} : covB p b = true ↔ p.F ≤ b ∧ (p.T < 0 ∨ b < p.T) := by
  unfold covB; simp only [Bool.and_eq_true, Bool.or_eq_true, decide_eq_true_eq]
/-- What an owner has at a byte. -/
def atP (l : List Pt) (N G O b : Int) : Int := l.foldl (fun a p => if keyP N G O p && covB p b then p.K else a) 0
theorem atP_snoc (l : List Pt) (p : Pt) (N G O b : Int) : atP (l ++ [p]) N G O b = if keyP N G O p && covB p b then p.K else atP l N G O b := by
  unfold atP; rw [List.foldl_append]; rfl
theorem atP_range {l : List Pt} (h : ∀ p ∈ l, p.Ok) (N G O b : Int) : atP l N G O b = 0 ∨ atP l N G O b = 1 ∨ atP l N G O b = 2 := by
  have aux : ∀ (m : List Pt) (a : Int), (∀ p ∈ m, p.Ok) → (a = 0 ∨ a = 1 ∨ a = 2) → (m.foldl (fun a p => if keyP N G O p && covB p b then p.K else a) a = 0 ∨ m.foldl (fun a p => if keyP N G O p && covB p b then p.K else a) a = 1 ∨ m.foldl (fun a p => if keyP N G O p && covB p b then p.K else a) a = 2) := by
    intro m
    induction m with
    | nil => intro a _ ha; exact ha
    | cons p m ih =>
      intro a hm ha
      rw [List.foldl_cons]
      refine ih _ (fun q hq => hm q (List.mem_cons_of_mem _ hq)) ?_
      split
      · exact (hm p List.mem_cons_self).k
      · exact ha
  exact aux l 0 h (Or.inl rfl)
theorem atP_filter (l : List Pt) (q : Pt → Bool) (N G O b : Int) (h : ∀ p ∈ l, keyP N G O p = true → q p = true) : atP (l.filter q) N G O b = atP l N G O b := by
  unfold atP
  generalize (0 : Int) = a
  induction l generalizing a with
  | nil => rfl
  | cons p l ih =>
    rw [List.filter_cons]
    cases hq : q p with
    | true => exact ih (fun p' hp' => h p' (List.mem_cons_of_mem _ hp')) _
    | false =>
      have hk : keyP N G O p = false := by
        cases hk : keyP N G O p with
        | false => rfl
        | true => rw [h p List.mem_cons_self hk] at hq; cases hq
      rw [List.foldl_cons, hk]
      exact ih (fun p' hp' => h p' (List.mem_cons_of_mem _ hp')) _
theorem atP_none (l : List Pt) (N G O b : Int) (h : ∀ p ∈ l, keyP N G O p = false) : atP l N G O b = 0 := by
  unfold atP
  induction l with
  | nil => rfl
  | cons p l ih =>
    rw [List.foldl_cons, h p List.mem_cons_self]
    exact ih (fun q hq => h q (List.mem_cons_of_mem _ hq))

/-! ### runs of a painting -/
def kindW (W : Bool) : Int := if W then 2 else 1
theorem kindW_inj {a b : Bool} (h : kindW a = kindW b) : a = b := by cases a <;> cases b <;> simp_all [kindW]
theorem kindW_pos (W : Bool) : 1 ≤ kindW W := by cases W <;> decide
/-- As long as can be, of one kind. -/
structure RunOf (v : Int → Int) (A e k : Int) : Prop where
  a0 : 0 ≤ A
  ae : A < e
  far : e ≤ farE
  inn : ∀ b, A ≤ b → b < e → v b = k
  lo : A = 0 ∨ v (A - 1) ≠ k
  hi : e = farE ∨ v e ≠ k
theorem RunOf.same {v : Int → Int} {A e k A' e' k' b : Int} (h : RunOf v A e k) (h' : RunOf v A' e' k') (h1 : A ≤ b) (h2 : b < e) (h3 : A' ≤ b) (h4 : b < e') : A = A' ∧ e = e' ∧ k = k' := by
  have hk : k = k' := (h.inn b h1 h2).symm.trans (h'.inn b h3 h4)
  subst hk
  have hA : A = A' := by
    rcases Int.lt_trichotomy A A' with hlt | heq | hlt
    · rcases h'.lo with h0 | h0
      · have := h.a0; omega
      · exact absurd (h.inn (A' - 1) (by omega) (by omega)) h0
    · exact heq
    · rcases h.lo with h0 | h0
      · have := h'.a0; omega
      · exact absurd (h'.inn (A - 1) (by omega) (by omega)) h0
  have he : e = e' := by
    rcases Int.lt_trichotomy e e' with hlt | heq | hlt
    · rcases h.hi with h0 | h0
      · have := h'.far; omega
      · exact absurd (h'.inn e (by omega) hlt) h0
    · exact heq
    · rcases h'.hi with h0 | h0
      · have := h.far; omega
      · exact absurd (h.inn e' (by omega) hlt) h0
  exact ⟨hA, he, rfl⟩
def Has (l : List Lk) (N G O b k : Int) : Prop := ∃ x ∈ l, (x.N = N ∧ x.G = G ∧ x.O = O) ∧ x.A ≤ b ∧ b < x.e ∧ kindW x.W = k
/-- Runs and strokes say the same of every byte. -/
def Same (l : List Lk) (P : List Pt) : Prop := ∀ N G O b k, 0 ≤ b → b < farE → 1 ≤ k → (Has l N G O b k ↔ atP P N G O b = k)
def IsRun (P : List Pt) (x : Lk) : Prop := x.Ok ∧ RunOf (atP P x.N x.G x.O) x.A x.e (kindW x.W)
theorem Same.perm {l m : List Lk} {P : List Pt} (h : Same l P) (hp : m.Perm l) : Same m P := fun N G O b k h0 h1 h2 => by
  rw [← h N G O b k h0 h1 h2]
  unfold Has
  constructor
  · rintro ⟨x, hx, r⟩; exact ⟨x, hp.mem_iff.1 hx, r⟩
  · rintro ⟨x, hx, r⟩; exact ⟨x, hp.mem_iff.2 hx, r⟩
theorem LInv.apt_of {l : List Lk} (h : LInv l) {x y : Lk} (hx : x ∈ l) (hy : y ∈ l) (hne : x ≠ y) : Apt x y := by
  obtain ⟨i, hi, rfl⟩ := List.mem_iff_getElem.1 hx
  obtain ⟨k, hk, rfl⟩ := List.mem_iff_getElem.1 hy
  rcases Nat.lt_trichotomy i k with hlt | hlt | hlt
  · exact List.pairwise_iff_getElem.1 h.apt i k hi hk hlt
  · subst hlt; exact absurd rfl hne
  · exact (List.pairwise_iff_getElem.1 h.apt k i hk hi hlt).symm
theorem run_of_mem {l : List Lk} {P : List Pt} (h : LInv l) (hs : Same l P) {x : Lk} (hx : x ∈ l) : IsRun P x := by
  have ho := h.ok x hx
  have x1 := OkR.fwd ho
  change x.A < x.e ∧ (x.e = farE ∨ x.e ≤ _) ∧ x.e ≤ farE at x1
  have hF : farE = 9223372036854775807 := rfl
  refine ⟨ho, ho.a0, x1.1, x1.2.2, fun b h1 h2 => ?_, ?_, ?_⟩
  · have := ho.a0
    exact (hs x.N x.G x.O b _ (by omega) (by omega) (kindW_pos _)).1 ⟨x, hx, ⟨rfl, rfl, rfl⟩, h1, h2, rfl⟩
  · by_cases hA : x.A = 0
    · exact Or.inl hA
    · refine Or.inr fun hv => ?_
      have := ho.a0
      obtain ⟨y, hy, ⟨e1, e2, e3⟩, y1, y2, y3⟩ := (hs x.N x.G x.O (x.A - 1) _ (by omega) (by omega) (kindW_pos _)).2 hv
      have hne : y ≠ x := fun e => by rw [e] at y1; omega
      have ha := ((h.apt_of hy hx hne) e1 e2).1 e3
      have := (ha.2 (kindW_inj y3)).1
      omega
  · by_cases he : x.e = farE
    · exact Or.inl he
    · refine Or.inr fun hv => ?_
      have := ho.a0
      obtain ⟨y, hy, ⟨e1, e2, e3⟩, y1, y2, y3⟩ := (hs x.N x.G x.O x.e _ (by omega) (by omega) (kindW_pos _)).2 hv
      have hne : y ≠ x := fun e => by rw [e] at y2; omega
      have ha := ((h.apt_of hy hx hne) e1 e2).1 e3
      have := (ha.2 (kindW_inj y3)).2
      omega
theorem lk_ext {x y : Lk} (hx : x.Ok) (hy : y.Ok) (h1 : x.N = y.N) (h2 : x.G = y.G) (h3 : x.O = y.O) (h4 : x.A = y.A) (h5 : x.e = y.e) (h6 : x.W = y.W) : x = y := by
  have a := siz_end hx
  have b := siz_end hy
  have hS : x.S = y.S := by
    rw [← a, ← b]
    change sizR x.A x.e = sizR y.A y.e
    rw [h4, h5]
  cases x; cases y
  simp_all
/-- The runs are those of the painting, and no others. -/
theorem mem_iff_run {l : List Lk} {P : List Pt} (h : LInv l) (hs : Same l P) (x : Lk) : x ∈ l ↔ IsRun P x := by
  refine ⟨run_of_mem h hs, fun ⟨ho, hr⟩ => ?_⟩
  have x1 := OkR.fwd ho
  change x.A < x.e ∧ (x.e = farE ∨ x.e ≤ _) ∧ x.e ≤ farE at x1
  obtain ⟨y, hy, ⟨e1, e2, e3⟩, y1, y2, y3⟩ := (hs x.N x.G x.O x.A _ ho.a0 (by omega) (kindW_pos x.W)).2 (hr.inn x.A (Int.le_refl _) hr.ae)
  obtain ⟨hyo, hyr⟩ := run_of_mem h hs hy
  rw [e1, e2, e3] at hyr
  obtain ⟨a, b, c⟩ := hr.same hyr (Int.le_refl _) hr.ae y1 y2
  rw [lk_ext ho hyo e1.symm e2.symm e3.symm a b (kindW_inj c)]
  exact hy
/-- In the order in which they are told. -/
def ltL (x y : Lk) : Prop := x.N < y.N ∨ x.N = y.N ∧ (x.G < y.G ∨ x.G = y.G ∧ (x.A < y.A ∨ x.A = y.A ∧ x.O < y.O))
theorem ltL_irrefl (x : Lk) : ¬ ltL x x := by unfold ltL; omega
theorem ltL_asymm {x y : Lk} (h : ltL x y) : ¬ ltL y x := by unfold ltL at *; omega
theorem sorted_ext : ∀ {l m : List Lk}, l.Pairwise ltL → m.Pairwise ltL → (∀ x, x ∈ l ↔ x ∈ m) → l = m
  | [], [], _, _, _ => rfl
  | [], y :: m, _, _, h => absurd ((h y).2 List.mem_cons_self) (by simp)
  | x :: l, [], _, _, h => absurd ((h x).1 List.mem_cons_self) (by simp)
  | x :: l, y :: m, hl, hm, h => by
    obtain ⟨hx, hl'⟩ := List.pairwise_cons.1 hl
    obtain ⟨hy, hm'⟩ := List.pairwise_cons.1 hm
    have hxy : x = y := by
      rcases List.mem_cons.1 ((h x).1 List.mem_cons_self) with e | e
      · exact e
      · rcases List.mem_cons.1 ((h y).2 List.mem_cons_self) with e' | e'
        · exact e'.symm
        · exact absurd (hx y e') (ltL_asymm (hy x e))
    subst hxy
    congr 1
    refine sorted_ext hl' hm' fun z => ⟨fun hz => ?_, fun hz => ?_⟩
    · rcases List.mem_cons.1 ((h z).1 (List.mem_cons_of_mem _ hz)) with e | e
      · rw [e] at hz; exact absurd (hx x hz) (ltL_irrefl x)
      · exact e
    · rcases List.mem_cons.1 ((h z).2 (List.mem_cons_of_mem _ hz)) with e | e
      · rw [e] at hz; exact absurd (hy x hz) (ltL_irrefl x)
      · exact e
theorem strict_of {l : List Lk} (h : LInv l) (hs : l.Pairwise (fun x y => ¬ ltL y x)) : l.Pairwise ltL := by
  refine (hs.and h.apt).imp_of_mem fun {x y} hx hy hxy => ?_
  obtain ⟨h1, h2⟩ := hxy
  have x1 := (OkR.fwd (h.ok x hx)).1
  have y1 := (OkR.fwd (h.ok y hy)).1
  change x.A < x.e at x1
  change y.A < y.e at y1
  by_cases hk : x.N = y.N ∧ x.G = y.G ∧ x.A = y.A ∧ x.O = y.O
  · have := ((h2 hk.1 hk.2.1).1 hk.2.2.2).1
    omega
  · unfold ltL at *
    omega

/-! ### what the acts make of both -/
def strokeOf (v : Lk) : Pt := ⟨v.N, v.G, v.O, v.A, if v.S = 0 then -1 else v.A + v.S, kindW v.W⟩
theorem stroke_cov {A S b : Int} (h : OkR A S) (N G O K : Int) (hb : b < farE) : covB ⟨N, G, O, A, if S = 0 then -1 else A + S, K⟩ b = true ↔ A ≤ b ∧ b < endR A S := by
  rw [covB_iff]
  have := h.a0; have := h.s0
  unfold endR
  by_cases h0 : S = 0
  · rw [if_pos h0, if_pos h0]
    constructor
    · intro hh; exact ⟨hh.1, hb⟩
    · intro hh; exact ⟨hh.1, Or.inl (show (-1 : Int) < 0 by decide)⟩
  · rw [if_neg h0, if_neg h0]
    constructor
    · intro hh; refine ⟨hh.1, ?_⟩; rcases hh.2 with h2 | h2
      · simp only at h2; omega
      · exact h2
    · intro hh; exact ⟨hh.1, Or.inr hh.2⟩
theorem cut_cover {N G O A S b : Int} (hr : OkR A S) {x : Lk} (hx : x.Ok) (h1 : x.A ≤ b) (h2 : b < x.e) (hb : ownB N G O x = false ∨ b < A ∨ endR A S ≤ b) : ∃ z ∈ cutL N G O A S x, (z.N = x.N ∧ z.G = x.G ∧ z.O = x.O) ∧ z.W = x.W ∧ z.A ≤ b ∧ b < z.e := by
  unfold cutL
  cases ho : ownB N G O x with
  | false => exact ⟨x, List.mem_singleton.2 rfl, ⟨rfl, rfl, rfl⟩, rfl, h1, h2⟩
  | true =>
    rw [if_pos rfl]
    obtain ⟨r1, r2, r3⟩ := hr.fwd
    obtain ⟨x1, x2, x3⟩ := OkR.fwd hx
    change x.A < x.e at x1
    rcases hb with hb | hb | hb
    · rw [ho] at hb; cases hb
    · have hm : x.A < min x.e A := by omega
      refine ⟨x.with x.A (min x.e A), ?_, ⟨rfl, rfl, rfl⟩, rfl, h1, by rw [Lk.with_e x hm]; omega⟩
      unfold outL
      rw [if_pos (by omega)]
      exact List.mem_append_left _ (List.mem_singleton.2 rfl)
    · have hm : max (endR A S) x.A < x.e := by omega
      refine ⟨x.with (max (endR A S) x.A) x.e, ?_, ⟨rfl, rfl, rfl⟩, rfl, by rw [Lk.with_A]; omega, by rw [Lk.with_e x hm]; omega⟩
      unfold outL
      rw [if_pos (show endR A S < x.e by omega)]
      exact List.mem_append_right _ (List.mem_singleton.2 rfl)
/-- Behind a cut: what was there beside it. -/
theorem has_without {l : List Lk} (h : LInv l) {N G O A S : Int} (hr : OkR A S) (N' G' O' b k : Int) : Has (withoutL N G O A S l) N' G' O' b k ↔ Has l N' G' O' b k ∧ ¬ (N' = N ∧ G' = G ∧ O' = O ∧ A ≤ b ∧ b < endR A S) := by
  constructor
  · rintro ⟨z, hz, ⟨e1, e2, e3⟩, z1, z2, z3⟩
    obtain ⟨x, hx, hzx⟩ := List.mem_flatMap.1 hz
    have hp := cut_part hr (h.ok x hx) hzx
    have q := hp.1
    have := q.lo; have := q.hi
    refine ⟨⟨x, hx, ⟨q.n.symm.trans e1, q.g.symm.trans e2, q.o.symm.trans e3⟩, by omega, by omega, by rw [← q.w]; exact z3⟩, fun hh => ?_⟩
    have := hp.2 (ownB_iff.2 ⟨q.n.symm.trans (e1.trans hh.1), q.g.symm.trans (e2.trans hh.2.1), q.o.symm.trans (e3.trans hh.2.2.1)⟩)
    omega
  · rintro ⟨⟨x, hx, ⟨e1, e2, e3⟩, x1, x2, x3⟩, hno⟩
    have hb : ownB N G O x = false ∨ b < A ∨ endR A S ≤ b := by
      cases ho : ownB N G O x with
      | false => exact Or.inl rfl
      | true =>
        have := ownB_iff.1 ho
        by_cases h1 : b < A
        · exact Or.inr (Or.inl h1)
        · by_cases h2 : endR A S ≤ b
          · exact Or.inr (Or.inr h2)
          · exact absurd ⟨e1.symm.trans this.1, e2.symm.trans this.2.1, e3.symm.trans this.2.2, by omega, by omega⟩ hno
    obtain ⟨z, hz, ⟨f1, f2, f3⟩, fw, z1, z2⟩ := cut_cover hr (h.ok x hx) x1 x2 hb
    exact ⟨z, List.mem_flatMap.2 ⟨x, hx, hz⟩, ⟨f1.trans e1, f2.trans e2, f3.trans e3⟩, z1, z2, by rw [fw]; exact x3⟩
theorem joined_cover {v J : Lk} {m : List Lk} (hJ : Joined v J m) {b : Int} (h1 : J.A ≤ b) (h2 : b < J.e) : (v.A ≤ b ∧ b < v.e) ∨ ∃ x ∈ m, goesB v x = true ∧ x.A ≤ b ∧ b < x.e := by
  by_cases ha : v.A ≤ b
  · by_cases he : b < v.e
    · exact Or.inl ⟨ha, he⟩
    · rcases hJ.hiIs with e | ⟨x, hx, hg, e⟩
      · omega
      · have ht := (goes_iff.1 hg).2.2
        exact Or.inr ⟨x, hx, hg, by omega, by omega⟩
  · rcases hJ.loIs with e | ⟨x, hx, hg, e⟩
    · omega
    · have ht := (goes_iff.1 hg).2.2
      exact Or.inr ⟨x, hx, hg, by omega, by omega⟩
/-- With what is wanted: it, and what was there beside it. -/
theorem has_with {l : List Lk} (h : LInv l) {v : Lk} (hv : v.Ok) (N' G' O' b k : Int) : Has (withL v l) N' G' O' b k ↔ ((N' = v.N ∧ G' = v.G ∧ O' = v.O ∧ v.A ≤ b ∧ b < v.e) ∧ k = kindW v.W) ∨ (Has l N' G' O' b k ∧ ¬ (N' = v.N ∧ G' = v.G ∧ O' = v.O ∧ v.A ≤ b ∧ b < v.e)) := by
  have hw := fun N' G' O' b k => has_without h (N := v.N) (G := v.G) (O := v.O) hv N' G' O' b k
  have h0 := h.without (N := v.N) (G := v.G) (O := v.O) hv
  change ∀ N' G' O' b k, Has _ N' G' O' b k ↔ _ ∧ ¬ (N' = v.N ∧ G' = v.G ∧ O' = v.O ∧ v.A ≤ b ∧ b < v.e) at hw
  rw [← hw N' G' O' b k]
  have hn : ∀ k', Has (withoutL v.N v.G v.O v.A v.S l) N' G' O' b k' → ¬ (N' = v.N ∧ G' = v.G ∧ O' = v.O ∧ v.A ≤ b ∧ b < v.e) := fun k' hh => ((hw _ _ _ _ _).1 hh).2
  unfold withL
  generalize withoutL v.N v.G v.O v.A v.S l = m at h0 hn ⊢
  have hJ := joined_is v hv m h0.ok
  generalize joinL v v m = J at hJ ⊢
  constructor
  · rintro ⟨z, hz, ⟨e1, e2, e3⟩, z1, z2, z3⟩
    rcases List.mem_append.1 hz with hz | hz
    · exact Or.inr ⟨z, (List.mem_filter.1 hz).1, ⟨e1, e2, e3⟩, z1, z2, z3⟩
    · rw [List.mem_singleton.1 hz] at e1 e2 e3 z1 z2 z3
      rcases joined_cover hJ z1 z2 with hc | ⟨x, hx, hg, x1, x2⟩
      · exact Or.inl ⟨⟨e1.symm.trans hJ.n, e2.symm.trans hJ.g, e3.symm.trans hJ.o, hc⟩, by rw [← z3, hJ.w]⟩
      · obtain ⟨⟨g1, g2, g3⟩, g4, _⟩ := goes_iff.1 hg
        exact Or.inr ⟨x, hx, ⟨g1.trans (hJ.n.symm.trans e1), g2.trans (hJ.g.symm.trans e2), g3.trans (hJ.o.symm.trans e3)⟩, x1, x2, by rw [g4, ← hJ.w]; exact z3⟩
  · rintro (⟨⟨e1, e2, e3, b1, b2⟩, hk⟩ | ⟨x, hx, ⟨e1, e2, e3⟩, x1, x2, x3⟩)
    · have := hJ.lo; have := hJ.hi
      exact ⟨J, List.mem_append_right _ (List.mem_singleton.2 rfl), ⟨hJ.n.trans e1.symm, hJ.g.trans e2.symm, hJ.o.trans e3.symm⟩, by omega, by omega, by rw [hJ.w, hk]⟩
    · cases hg : goesB v x with
      | false => exact ⟨x, List.mem_append_left _ (List.mem_filter.2 ⟨hx, by rw [hg]; rfl⟩), ⟨e1, e2, e3⟩, x1, x2, x3⟩
      | true =>
        have ha := hJ.all x hx hg
        obtain ⟨⟨g1, g2, g3⟩, g4, _⟩ := goes_iff.1 hg
        exact ⟨J, List.mem_append_right _ (List.mem_singleton.2 rfl), ⟨hJ.n.trans (g1.symm.trans e1), hJ.g.trans (g2.symm.trans e2), hJ.o.trans (g3.symm.trans e3)⟩, by omega, by omega, by rw [hJ.w, ← g4]; exact x3⟩
theorem Same.lock {l : List Lk} {P : List Pt} (hi : LInv l) (h : Same l P) {v : Lk} (hv : v.Ok) : Same (withL v l) (P ++ [strokeOf v]) := fun N G O b k h0 h1 h2 => by
  rw [has_with hi hv, atP_snoc, h N G O b k h0 h1 h2]
  have hc : (keyP N G O (strokeOf v) && covB (strokeOf v) b) = true ↔ (N = v.N ∧ G = v.G ∧ O = v.O ∧ v.A ≤ b ∧ b < v.e) := by
    rw [Bool.and_eq_true, keyP_iff]
    unfold strokeOf
    rw [stroke_cov hv _ _ _ _ h1]
    constructor
    · rintro ⟨⟨a, b', c⟩, d⟩; exact ⟨a.symm, b'.symm, c.symm, d⟩
    · rintro ⟨a, b', c, d⟩; exact ⟨⟨a.symm, b'.symm, c.symm⟩, d⟩
  by_cases hin : N = v.N ∧ G = v.G ∧ O = v.O ∧ v.A ≤ b ∧ b < v.e
  · rw [if_pos (hc.2 hin)]
    constructor
    · rintro (⟨_, hk⟩ | ⟨_, hn⟩)
      · exact hk.symm
      · exact absurd hin hn
    · intro hk; exact Or.inl ⟨hin, hk.symm⟩
  · rw [if_neg (fun e => hin (hc.1 e))]
    constructor
    · rintro (⟨hh, _⟩ | ⟨hh, _⟩)
      · exact absurd hh hin
      · exact hh
    · intro hh; exact Or.inr ⟨hh, hin⟩
theorem Same.unlock {l : List Lk} {P : List Pt} (hi : LInv l) (h : Same l P) {N0 G0 O0 A S : Int} (hr : OkR A S) : Same (withoutL N0 G0 O0 A S l) (P ++ [⟨N0, G0, O0, A, if S = 0 then -1 else A + S, 0⟩]) := fun N G O b k h0 h1 h2 => by
  rw [has_without hi hr, atP_snoc, h N G O b k h0 h1 h2]
  have hc : (keyP N G O ⟨N0, G0, O0, A, if S = 0 then -1 else A + S, 0⟩ && covB ⟨N0, G0, O0, A, if S = 0 then -1 else A + S, 0⟩ b) = true ↔ (N = N0 ∧ G = G0 ∧ O = O0 ∧ A ≤ b ∧ b < endR A S) := by
    rw [Bool.and_eq_true, keyP_iff, stroke_cov hr _ _ _ _ h1]
    constructor
    · rintro ⟨⟨a, b', c⟩, d⟩; exact ⟨a.symm, b'.symm, c.symm, d⟩
    · rintro ⟨a, b', c, d⟩; exact ⟨⟨a.symm, b'.symm, c.symm⟩, d⟩
  by_cases hin : N = N0 ∧ G = G0 ∧ O = O0 ∧ A ≤ b ∧ b < endR A S
  · rw [if_pos (hc.2 hin)]
    constructor
    · rintro ⟨_, hn⟩; exact absurd hin hn
    · intro hk; simp only at hk; omega
  · rw [if_neg (fun e => hin (hc.1 e))]
    exact ⟨fun hh => hh.1, fun hh => ⟨hh, hin⟩⟩
theorem Same.drop {l : List Lk} {P : List Pt} (h : Same l P) (N0 G0 O0 : Int) : Same (l.filter (fun x => !ownB N0 G0 O0 x)) (P.filter (fun p => !keyP N0 G0 O0 p)) := fun N G O b k h0 h1 h2 => by
  by_cases hk : N = N0 ∧ G = G0 ∧ O = O0
  · obtain ⟨rfl, rfl, rfl⟩ := hk
    rw [atP_none _ _ _ _ _ (fun p hp => by have := (List.mem_filter.1 hp).2; simpa using this)]
    constructor
    · rintro ⟨x, hx, he, _⟩
      have := (List.mem_filter.1 hx).2
      rw [ownB_iff.2 he] at this
      cases this
    · intro e; omega
  · rw [atP_filter _ _ _ _ _ _ (fun p _ hp => by
      cases hq : keyP N0 G0 O0 p with
      | false => rfl
      | true =>
        have a := keyP_iff.1 hp
        have c := keyP_iff.1 hq
        exact absurd ⟨a.1.symm.trans c.1, a.2.1.symm.trans c.2.1, a.2.2.symm.trans c.2.2⟩ hk), ← h N G O b k h0 h1 h2]
    constructor
    · rintro ⟨x, hx, r⟩; exact ⟨x, (List.mem_filter.1 hx).1, r⟩
    · rintro ⟨x, hx, he, r⟩
      refine ⟨x, List.mem_filter.2 ⟨hx, ?_⟩, he, r⟩
      cases hq : ownB N0 G0 O0 x with
      | false => rfl
      | true =>
        have c := ownB_iff.1 hq
        exact absurd ⟨he.1.symm.trans c.1, he.2.1.symm.trans c.2.1, he.2.2.symm.trans c.2.2⟩ hk
end Go.Proofs.YtfnniphemlnanaaDoor
