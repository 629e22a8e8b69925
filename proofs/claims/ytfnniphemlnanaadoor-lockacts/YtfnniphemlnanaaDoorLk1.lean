/- Locks: plain: what the acts of package lock make of a list of runs, and what stays true of it. No program is named here. -/
import Derived.Test.YtfnniphemlnanaaDoorMath
namespace Go.Proofs.YtfnniphemlnanaaDoor

/-- A run: a node's number and generation, an owner, where it begins, how long it is (0: no end), whether it is for writing. -/
structure Lk where
  N : Int
  G : Int
  O : Int
  A : Int
  S : Int
  W : Bool
/-- Where a range without an end is taken to end. -/
def farE : Int := 9223372036854775807
def endR (A S : Int) : Int := if S = 0 then farE else A + S
def sizR (a e : Int) : Int := if e = farE then 0 else e - a
def Lk.e (x : Lk) : Int := endR x.A x.S
def Lk.with (x : Lk) (a e : Int) : Lk := ⟨x.N, x.G, x.O, a, sizR a e, x.W⟩
structure OkR (A S : Int) : Prop where
  a0 : 0 ≤ A
  a1 : A ≤ 2199023255552
  s0 : 0 ≤ S
  s1 : A + S ≤ 2199023255552
def Lk.Ok (x : Lk) : Prop := OkR x.A x.S
theorem OkR.fwd {A S : Int} (h : OkR A S) : A < endR A S ∧ (endR A S = farE ∨ endR A S ≤ 2199023255552) ∧ endR A S ≤ farE := by
  have := h.a0; have := h.a1; have := h.s0; have := h.s1
  unfold endR farE
  split <;> omega
/-- What 'between' makes has just that end. -/
theorem end_siz {a e : Int} (h : a < e) : endR a (sizR a e) = e := by
  unfold endR sizR
  by_cases h1 : e = farE
  · rw [if_pos h1, if_pos rfl, h1]
  · rw [if_neg h1, if_neg (by omega)]; omega
theorem ok_siz {a e : Int} (h0 : 0 ≤ a) (h1 : a ≤ 2199023255552) (h : a < e) (he : e = farE ∨ e ≤ 2199023255552) : OkR a (sizR a e) := by
  unfold sizR
  by_cases h2 : e = farE
  · rw [if_pos h2]; exact ⟨h0, h1, Int.le_refl _, by omega⟩
  · rw [if_neg h2]
    rcases he with he | he
    · exact absurd he h2
    · exact ⟨h0, h1, by omega, by omega⟩
theorem siz_end {A S : Int} (h : OkR A S) : sizR A (endR A S) = S := by
  have := h.a0; have := h.a1; have := h.s0; have := h.s1
  unfold sizR endR
  by_cases h1 : S = 0
  · rw [if_pos h1, if_pos rfl, h1]
  · rw [if_neg h1, if_neg (by unfold farE; omega)]; omega
theorem Lk.with_e (x : Lk) {a e : Int} (h : a < e) : (x.with a e).e = e := end_siz h
theorem Lk.with_A (x : Lk) (a e : Int) : (x.with a e).A = a := rfl
theorem Lk.with_self {x : Lk} (h : x.Ok) : x.with x.A x.e = x := by
  cases x
  show Lk.mk _ _ _ _ (sizR _ (endR _ _)) _ = _
  rw [siz_end h]

/-! ### what is cut out -/
def ownB (N G O : Int) (x : Lk) : Bool := decide (x.N = N) && decide (x.G = G) && decide (x.O = O)
theorem ownB_iff {N G O : Int} {x : Lk} : ownB N G O x = true ↔ x.N = N ∧ x.G = G ∧ x.O = O := by
  unfold ownB; simp only [Bool.and_eq_true, decide_eq_true_eq]; exact ⟨fun h => ⟨h.1.1, h.1.2, h.2⟩, fun h => ⟨⟨h.1, h.2.1⟩, h.2.2⟩⟩
/-- What of a run lies ahead of a range, and behind it. -/
def outL (A S : Int) (x : Lk) : List Lk :=
  (if x.A < A then [x.with x.A (min x.e A)] else []) ++ (if endR A S < x.e then [x.with (max (endR A S) x.A) x.e] else [])
def cutL (N G O A S : Int) (x : Lk) : List Lk := if ownB N G O x then outL A S x else [x]
def withoutL (N G O A S : Int) (l : List Lk) : List Lk := l.flatMap (cutL N G O A S)
/-- z is a part of x. -/
structure PartOf (z x : Lk) : Prop where
  n : z.N = x.N
  g : z.G = x.G
  o : z.O = x.O
  w : z.W = x.W
  lo : x.A ≤ z.A
  hi : z.e ≤ x.e
  ok : z.Ok
theorem out_part {A S : Int} (hr : OkR A S) {x z : Lk} (hx : x.Ok) (hz : z ∈ outL A S x) : PartOf z x ∧ (z.e ≤ A ∨ endR A S ≤ z.A) := by
  obtain ⟨r1, r2, r3⟩ := hr.fwd
  obtain ⟨x1, x2, x3⟩ := OkR.fwd hx
  change x.A < x.e at x1
  change x.e = farE ∨ x.e ≤ _ at x2
  change x.e ≤ farE at x3
  have ha0 := hr.a0; have ha1 := hr.a1; have hxa := hx.a0; have hxb := hx.a1
  have hF : farE = 9223372036854775807 := rfl
  unfold outL at hz
  rw [List.mem_append] at hz
  rcases hz with hz | hz
  · split at hz
    · rename_i h
      rw [List.mem_singleton] at hz
      subst hz
      have hm : x.A < min x.e A := by omega
      refine ⟨⟨rfl, rfl, rfl, rfl, Int.le_refl _, ?_, ok_siz hxa hxb hm (by omega)⟩, Or.inl ?_⟩
      · rw [Lk.with_e x hm]; omega
      · rw [Lk.with_e x hm]; omega
    · cases hz
  · split at hz
    · rename_i h
      rw [List.mem_singleton] at hz
      subst hz
      have hm : max (endR A S) x.A < x.e := by omega
      refine ⟨⟨rfl, rfl, rfl, rfl, ?_, ?_, ok_siz (a := max (endR A S) x.A) (e := x.e) (by omega) (by omega) hm x2⟩, Or.inr ?_⟩
      · rw [Lk.with_A]; omega
      · rw [Lk.with_e x hm]; omega
      · rw [Lk.with_A]; omega
    · cases hz
theorem cut_part {N G O A S : Int} (hr : OkR A S) {x z : Lk} (hx : x.Ok) (hz : z ∈ cutL N G O A S x) : PartOf z x ∧ (ownB N G O x = true → z.e ≤ A ∨ endR A S ≤ z.A) := by
  unfold cutL at hz
  split at hz
  · have h := out_part hr hx hz
    exact ⟨h.1, fun _ => h.2⟩
  · rename_i h
    rw [List.mem_singleton] at hz
    subst hz
    exact ⟨⟨rfl, rfl, rfl, rfl, Int.le_refl _, Int.le_refl _, hx⟩, fun e => absurd e h⟩
/-- What lies beside a range stays. -/
theorem out_beside {A S : Int} (hr : OkR A S) {x : Lk} (hx : x.Ok) (h : x.e ≤ A ∨ endR A S ≤ x.A) : outL A S x = [x] := by
  obtain ⟨r1, r2, r3⟩ := hr.fwd
  obtain ⟨x1, x2, x3⟩ := OkR.fwd hx
  change x.A < x.e at x1
  unfold outL
  rcases h with h | h
  · rw [if_pos (by omega), if_neg (by omega), show min x.e A = x.e by omega, Lk.with_self hx, List.append_nil]
  · rw [if_neg (by omega), if_pos (by omega), show max (endR A S) x.A = x.A by omega, Lk.with_self hx, List.nil_append]

/-! ### what is always so -/
/-- Two runs that may be held side by side. -/
def Apt (x y : Lk) : Prop := x.N = y.N → x.G = y.G → (x.O = y.O → (x.e ≤ y.A ∨ y.e ≤ x.A) ∧ (x.W = y.W → x.e ≠ y.A ∧ y.e ≠ x.A)) ∧ (x.O ≠ y.O → (x.W = true ∨ y.W = true) → (x.e ≤ y.A ∨ y.e ≤ x.A))
theorem Apt.symm {x y : Lk} (h : Apt x y) : Apt y x := fun hn hg => by
  obtain ⟨h1, h2⟩ := h hn.symm hg.symm
  exact ⟨fun ho => ⟨(h1 ho.symm).1.symm, fun hw => ⟨((h1 ho.symm).2 hw.symm).2, ((h1 ho.symm).2 hw.symm).1⟩⟩, fun ho hw => (h2 (fun e => ho e.symm) hw.symm).symm⟩
theorem Apt.part {x y z v : Lk} (h : Apt x y) (hz : PartOf z x) (hv : PartOf v y) : Apt z v := fun hn hg => by
  have z1 := (OkR.fwd hz.ok).1; have v1 := (OkR.fwd hv.ok).1
  change z.A < z.e at z1; change v.A < v.e at v1
  have := hz.lo; have := hz.hi; have := hv.lo; have := hv.hi
  rw [hz.n, hv.n] at hn
  rw [hz.g, hv.g] at hg
  obtain ⟨h1, h2⟩ := h hn hg
  rw [hz.o, hv.o, hz.w, hv.w]
  refine ⟨fun ho => ⟨?_, fun hw => ?_⟩, fun ho hw => ?_⟩
  · have := (h1 ho).1; omega
  · have := (h1 ho).1; have := (h1 ho).2 hw; constructor <;> omega
  · have := h2 ho hw; omega
structure LInv (l : List Lk) : Prop where
  ok : ∀ x ∈ l, x.Ok
  apt : l.Pairwise Apt
theorem LInv.nil : LInv [] := ⟨fun _ h => by (cases h), List.Pairwise.nil⟩
theorem LInv.perm {l m : List Lk} (h : LInv l) (hp : m.Perm l) : LInv m :=
  ⟨fun x hx => h.ok x (hp.mem_iff.1 hx), (hp.pairwise_iff (fun h => h.symm)).2 h.apt⟩
theorem LInv.filter {l : List Lk} (h : LInv l) (p : Lk → Bool) : LInv (l.filter p) :=
  ⟨fun x hx => h.ok x (List.mem_filter.1 hx).1, h.apt.sublist List.filter_sublist⟩
theorem LInv.without {l : List Lk} (h : LInv l) {N G O A S : Int} (hr : OkR A S) : LInv (withoutL N G O A S l) := by
  refine ⟨fun z hz => ?_, ?_⟩
  · obtain ⟨x, hx, hz⟩ := List.mem_flatMap.1 hz
    exact (cut_part hr (h.ok x hx) hz).1.ok
  · refine List.pairwise_flatMap.2 ⟨fun x hx => ?_, h.apt.imp_of_mem (fun hx hy hxy z hz v hv => hxy.part (cut_part hr (h.ok _ hx) hz).1 (cut_part hr (h.ok _ hy) hv).1)⟩
    unfold cutL
    split
    · unfold outL
      obtain ⟨r1, r2, r3⟩ := hr.fwd
      obtain ⟨x1, x2, x3⟩ := OkR.fwd (h.ok x hx)
      change x.A < x.e at x1
      split
      · split
        · rename_i h1 h2
          have m1 : x.A < min x.e A := by omega
          have m2 : max (endR A S) x.A < x.e := by omega
          refine List.pairwise_pair.2 (fun _ _ => ⟨fun _ => ⟨?_, fun _ => ?_⟩, fun ho => absurd rfl ho⟩)
          · rw [Lk.with_e x m1, Lk.with_e x m2, Lk.with_A, Lk.with_A]; omega
          · rw [Lk.with_e x m1, Lk.with_e x m2, Lk.with_A, Lk.with_A]; constructor <;> omega
        · simp
      · split <;> simp
    · exact List.pairwise_singleton _ _
/-- Behind a cut nothing of the range is the owner's. -/
theorem without_beside {l : List Lk} (h : LInv l) {N G O A S : Int} (hr : OkR A S) {z : Lk} (hz : z ∈ withoutL N G O A S l) (ho : ownB N G O z = true) : z.e ≤ A ∨ endR A S ≤ z.A := by
  obtain ⟨x, hx, hz⟩ := List.mem_flatMap.1 hz
  have hp := cut_part hr (h.ok x hx) hz
  refine hp.2 (ownB_iff.2 ?_)
  obtain ⟨h1, h2, h3⟩ := ownB_iff.1 ho
  exact ⟨hp.1.n.symm.trans h1, hp.1.g.symm.trans h2, hp.1.o.symm.trans h3⟩
/-- Others' runs stay as they were. -/
theorem without_others {l : List Lk} {N G O A S : Int} {z : Lk} (ho : ownB N G O z = false) (h : LInv l) (hr : OkR A S) : z ∈ withoutL N G O A S l ↔ z ∈ l := by
  constructor
  · intro hz
    obtain ⟨x, hx, hz⟩ := List.mem_flatMap.1 hz
    have hp := (cut_part hr (h.ok x hx) hz).1
    have hox : ownB N G O x = false := by
      rw [← ho]; unfold ownB; rw [hp.n, hp.g, hp.o]
    unfold cutL at hz
    rw [hox] at hz
    rw [List.mem_singleton.1 hz]; exact hx
  · intro hz
    exact List.mem_flatMap.2 ⟨z, hz, by unfold cutL; rw [ho]; exact List.mem_singleton.2 rfl⟩

/-! ### what is wanted beside what is there -/
def touchB (A S B T : Int) : Bool := decide (A ≤ endR B T) && decide (B ≤ endR A S)
def meetB (A S B T : Int) : Bool := decide (A < endR B T) && decide (B < endR A S)
def goesB (v x : Lk) : Bool := ownB v.N v.G v.O x && (x.W == v.W) && touchB x.A x.S v.A v.S
def agB (v x : Lk) : Bool := decide (x.N = v.N) && decide (x.G = v.G) && !decide (x.O = v.O) && (x.W || v.W) && meetB x.A x.S v.A v.S
def joinK (a x : Lk) : Lk := a.with (min a.A x.A) (max a.e x.e)
def joinL (v a : Lk) (l : List Lk) : Lk := l.foldl (fun a x => if goesB v x then joinK a x else a) a
def withL (v : Lk) (l : List Lk) : List Lk :=
  (withoutL v.N v.G v.O v.A v.S l).filter (fun x => !goesB v x) ++ [joinL v v (withoutL v.N v.G v.O v.A v.S l)]
theorem goes_iff {v x : Lk} : goesB v x = true ↔ (x.N = v.N ∧ x.G = v.G ∧ x.O = v.O) ∧ x.W = v.W ∧ x.A ≤ v.e ∧ v.A ≤ x.e := by
  unfold goesB touchB
  rw [Bool.and_eq_true, Bool.and_eq_true, Bool.and_eq_true, ownB_iff, beq_iff_eq, decide_eq_true_eq, decide_eq_true_eq]
  exact ⟨fun h => ⟨h.1.1, h.1.2, h.2.1, h.2.2⟩, fun h => ⟨⟨h.1, h.2.1⟩, h.2.2.1, h.2.2.2⟩⟩
theorem ag_iff {v x : Lk} : agB v x = true ↔ x.N = v.N ∧ x.G = v.G ∧ x.O ≠ v.O ∧ (x.W = true ∨ v.W = true) ∧ x.A < v.e ∧ v.A < x.e := by
  unfold agB meetB
  simp only [Bool.and_eq_true, Bool.or_eq_true, Bool.not_eq_true', decide_eq_true_eq, decide_eq_false_iff_not]
  exact ⟨fun h => ⟨h.1.1.1.1, h.1.1.1.2, h.1.1.2, h.1.2, h.2.1, h.2.2⟩, fun h => ⟨⟨⟨⟨h.1, h.2.1⟩, h.2.2.1⟩, h.2.2.2.1⟩, h.2.2.2.2.1, h.2.2.2.2.2⟩⟩
/-- The joined run: all that is joined, and no more. -/
structure Joined (v J : Lk) (l : List Lk) : Prop where
  n : J.N = v.N
  g : J.G = v.G
  o : J.O = v.O
  w : J.W = v.W
  ok : J.Ok
  lo : J.A ≤ v.A
  hi : v.e ≤ J.e
  all : ∀ x ∈ l, goesB v x = true → J.A ≤ x.A ∧ x.e ≤ J.e
  loIs : J.A = v.A ∨ ∃ x ∈ l, goesB v x = true ∧ J.A = x.A
  hiIs : J.e = v.e ∨ ∃ x ∈ l, goesB v x = true ∧ J.e = x.e
theorem joinL_snoc (v a : Lk) (l : List Lk) (x : Lk) : joinL v a (l ++ [x]) = if goesB v x then joinK (joinL v a l) x else joinL v a l := by
  unfold joinL; rw [List.foldl_append]; rfl
theorem joined_rev (v : Lk) (hv : v.Ok) (l : List Lk) : (∀ x ∈ l, x.Ok) → Joined v (joinL v v l.reverse) l.reverse := by
  induction l with
  | nil => exact fun _ => ⟨rfl, rfl, rfl, rfl, hv, Int.le_refl _, Int.le_refl _, fun _ h => by (cases h), Or.inl rfl, Or.inl rfl⟩
  | cons x l ih =>
    intro hok
    have ih := ih (fun y hy => hok y (List.mem_cons_of_mem _ hy))
    rw [List.reverse_cons, joinL_snoc]
    generalize joinL v v l.reverse = J at ih ⊢
    generalize l.reverse = m at ih ⊢
    have hx : x.Ok := hok x (List.mem_cons_self)
    have x1 := OkR.fwd hx; have j1 := OkR.fwd ih.ok
    change x.A < x.e ∧ (x.e = farE ∨ x.e ≤ _) ∧ x.e ≤ farE at x1
    change J.A < J.e ∧ (J.e = farE ∨ J.e ≤ _) ∧ J.e ≤ farE at j1
    have hlo := ih.lo; have hhi := ih.hi
    split
    · rename_i hgo
      have hm : min J.A x.A < max J.e x.e := by omega
      have he : (joinK J x).e = max J.e x.e := Lk.with_e J hm
      have hA : (joinK J x).A = min J.A x.A := rfl
      refine ⟨ih.n, ih.g, ih.o, ih.w, ok_siz (by have := hx.a0; have := ih.ok.a0; omega) (by have := hx.a1; have := ih.ok.a1; omega) hm (by omega), by rw [hA]; omega, by rw [he]; omega, fun y hy hg => ?_, ?_, ?_⟩
      · rw [hA, he]
        rcases List.mem_append.1 hy with hy | hy
        · have := ih.all y hy hg; omega
        · rw [List.mem_singleton.1 hy]; omega
      · rw [hA]
        by_cases h1 : J.A ≤ x.A
        · rw [show min J.A x.A = J.A by omega]
          rcases ih.loIs with h | ⟨y, hy, hg, h⟩
          · exact Or.inl h
          · exact Or.inr ⟨y, List.mem_append_left _ hy, hg, h⟩
        · exact Or.inr ⟨x, List.mem_append_right _ (List.mem_singleton.2 rfl), hgo, by omega⟩
      · rw [he]
        by_cases h1 : x.e ≤ J.e
        · rw [show max J.e x.e = J.e by omega]
          rcases ih.hiIs with h | ⟨y, hy, hg, h⟩
          · exact Or.inl h
          · exact Or.inr ⟨y, List.mem_append_left _ hy, hg, h⟩
        · exact Or.inr ⟨x, List.mem_append_right _ (List.mem_singleton.2 rfl), hgo, by omega⟩
    · rename_i hgo
      refine ⟨ih.n, ih.g, ih.o, ih.w, ih.ok, hlo, hhi, fun y hy hg => ?_, ?_, ?_⟩
      · rcases List.mem_append.1 hy with hy | hy
        · exact ih.all y hy hg
        · rw [List.mem_singleton.1 hy] at hg; exact absurd hg hgo
      · rcases ih.loIs with h | ⟨y, hy, hg, h⟩
        · exact Or.inl h
        · exact Or.inr ⟨y, List.mem_append_left _ hy, hg, h⟩
      · rcases ih.hiIs with h | ⟨y, hy, hg, h⟩
        · exact Or.inl h
        · exact Or.inr ⟨y, List.mem_append_left _ hy, hg, h⟩
theorem joined_is (v : Lk) (hv : v.Ok) (l : List Lk) (h : ∀ x ∈ l, x.Ok) : Joined v (joinL v v l) l := by
  have := joined_rev v hv l.reverse (fun x hx => h x (List.mem_reverse.1 hx))
  rwa [List.reverse_reverse] at this
/-- What is wanted goes with the rest: it is joined, and all stays as it must be. -/
theorem LInv.wanted {l : List Lk} (h : LInv l) {v : Lk} (hv : v.Ok) (hno : ∀ x ∈ l, agB v x = false) : LInv (withL v l) := by
  have hb := fun z hz ho => without_beside h (N := v.N) (G := v.G) (O := v.O) hv (z := z) hz ho
  have hoth : ∀ z ∈ withoutL v.N v.G v.O v.A v.S l, agB v z = false := fun z hz => by
    by_cases ho : ownB v.N v.G v.O z = true
    · cases hag : agB v z with
      | false => rfl
      | true => exact absurd (ownB_iff.1 ho).2.2 (ag_iff.1 hag).2.2.1
    · exact hno z ((without_others (Bool.eq_false_iff.2 ho) h hv).1 hz)
  have h0 := h.without (N := v.N) (G := v.G) (O := v.O) hv
  unfold withL
  generalize withoutL v.N v.G v.O v.A v.S l = m at hb hoth h0 ⊢
  have hJ := joined_is v hv m h0.ok
  generalize joinL v v m = J at hJ ⊢
  have j1 := (OkR.fwd hJ.ok).1
  change J.A < J.e at j1
  have v1 := (OkR.fwd hv).1
  change v.A < v.e at v1
  have hlo := hJ.lo; have hhi := hJ.hi
  have hsp : ∀ y ∈ m, goesB v y = false → ∀ x ∈ m, goesB v x = true → Apt x y := fun y hy hgy x hx hgx => by
    have hxy : x ≠ y := fun e => by rw [e, hgy] at hgx; cases hgx
    obtain ⟨i, hi, rfl⟩ := List.mem_iff_getElem.1 hx
    obtain ⟨k, hk, rfl⟩ := List.mem_iff_getElem.1 hy
    rcases Nat.lt_trichotomy i k with hlt | hlt | hlt
    · exact List.pairwise_iff_getElem.1 h0.apt i k hi hk hlt
    · subst hlt; exact absurd rfl hxy
    · exact (List.pairwise_iff_getElem.1 h0.apt k i hk hi hlt).symm
  refine ⟨fun z hz => ?_, List.pairwise_append.2 ⟨(h0.filter _).apt, List.pairwise_singleton _ _, fun y hy z hz => ?_⟩⟩
  · rcases List.mem_append.1 hz with hz | hz
    · exact (h0.filter _).ok z hz
    · rw [List.mem_singleton.1 hz]; exact hJ.ok
  · rw [List.mem_singleton.1 hz]
    obtain ⟨hym, hgy⟩ := List.mem_filter.1 hy
    rw [Bool.not_eq_true'] at hgy
    have y1 := (OkR.fwd (h0.ok y hym)).1
    change y.A < y.e at y1
    have hs := hsp y hym hgy
    intro hn hg
    rw [hJ.n] at hn
    rw [hJ.g] at hg
    rw [hJ.o, hJ.w]
    -- a run that is joined touches what is wanted; y lies beside it, so y lies beside the whole
    have key : (y.e ≤ v.A ∨ v.e ≤ y.A) → (∀ x ∈ m, goesB v x = true → (x.e ≤ y.A ∨ y.e ≤ x.A)) → (y.e ≤ J.A ∨ J.e ≤ y.A) := fun hd hx => by
      rcases hd with hd | hd
      · rcases hJ.loIs with e | ⟨x, hxm, hgx, e⟩
        · exact Or.inl (by omega)
        · have ht := (goes_iff.1 hgx).2.2
          have := hx x hxm hgx
          exact Or.inl (by omega)
      · rcases hJ.hiIs with e | ⟨x, hxm, hgx, e⟩
        · exact Or.inr (by omega)
        · have ht := (goes_iff.1 hgx).2.2
          have := hx x hxm hgx
          exact Or.inr (by omega)
    refine ⟨fun ho => ?_, fun ho hw => ?_⟩
    · have hd := hb y hym (ownB_iff.2 ⟨hn, hg, ho⟩)
      change y.e ≤ v.A ∨ v.e ≤ y.A at hd
      have hx : ∀ x ∈ m, goesB v x = true → (x.e ≤ y.A ∨ y.e ≤ x.A) ∧ (v.W = y.W → x.e ≠ y.A ∧ y.e ≠ x.A) := fun x hxm hgx => by
        obtain ⟨⟨a, b, c⟩, d, _⟩ := goes_iff.1 hgx
        have := ((hs x hxm hgx) (a.trans hn.symm) (b.trans hg.symm)).1 (c.trans ho.symm)
        rw [d] at this
        exact this
      have hk := key hd (fun x hxm hgx => (hx x hxm hgx).1)
      refine ⟨hk, fun hw => ?_⟩
      have hnt : ¬ (y.A ≤ v.e ∧ v.A ≤ y.e) := fun ht => by
        rw [goes_iff.2 ⟨⟨hn, hg, ho⟩, hw, ht.1, ht.2⟩] at hgy; cases hgy
      constructor
      · rcases hJ.loIs with e | ⟨x, hxm, hgx, e⟩
        · omega
        · have := (hx x hxm hgx).2 hw.symm; omega
      · rcases hJ.hiIs with e | ⟨x, hxm, hgx, e⟩
        · omega
        · have := (hx x hxm hgx).2 hw.symm; omega
    · have hd : y.e ≤ v.A ∨ v.e ≤ y.A := by
        have hq := hoth y hym
        by_cases h1 : y.e ≤ v.A
        · exact Or.inl h1
        · by_cases h2 : v.e ≤ y.A
          · exact Or.inr h2
          · rw [ag_iff.2 ⟨hn, hg, ho, hw, by omega, by omega⟩] at hq; cases hq
      refine key hd (fun x hxm hgx => ?_)
      obtain ⟨⟨a, b, c⟩, d, _⟩ := goes_iff.1 hgx
      exact ((hs x hxm hgx) (a.trans hn.symm) (b.trans hg.symm)).2 (fun e => ho (e.symm.trans c)) (by rw [d]; exact hw.symm)
end Go.Proofs.YtfnniphemlnanaaDoor
