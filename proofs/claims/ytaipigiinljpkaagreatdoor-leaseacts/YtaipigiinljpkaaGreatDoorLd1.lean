/- Clients, in the document's words: a list by numbers; how it goes beside the program's names. Plain facts. -/
import Derived.Test.YtaipigiinljpkaaGreatDoorLs1
namespace Go.Proofs.YtaipigiinljpkaaGreatDoor
open Go Go.RowKit Go.Maps

/-- A client of the document's: its number, when its lease began, its name, whether it is confirmed. -/
structure Rc where
  I : Nat
  S : Nat
  s : List UInt8
  c : Bool
def Row (now : Nat) (c : Cli) (x : Rc) : Prop := x.s = c.s ∧ ((x.c = true ∧ 0 < c.a ∧ x.I = c.a ∧ x.S + c.g = now) ∨ (x.c = false ∧ 0 < c.b ∧ x.I = c.b ∧ x.S = 0))
/-- Both hold the same. -/
structure PairC (last now : Nat) (l : List Cli) (L : List Rc) : Prop where
  inv : CInv last l
  srt : (L.map (·.I)).Pairwise (· < ·)
  same : ∀ x, x ∈ L ↔ ∃ c ∈ l, Row now c x
  young : ∀ c ∈ l, c.g ≤ now
theorem PairC.nil : PairC 0 0 [] [] := ⟨CInv.nil, List.Pairwise.nil, fun x => by simp, fun c hc => by cases hc⟩
section
variable {last now : Nat} {l : List Cli} {L : List Rc}
theorem PairC.ids (h : PairC last now l L) {x : Rc} (hx : x ∈ L) : 0 < x.I ∧ x.I ≤ last ∧ x.S ≤ now := by
  obtain ⟨c, hc, _, hr⟩ := (h.same x).1 hx
  have := h.inv.le c hc
  rcases hr with ⟨_, h1, h2, h3⟩ | ⟨_, h1, h2, h3⟩ <;> omega
theorem rising_inj {L : List Rc} (hs : (L.map (·.I)).Pairwise (· < ·)) {x y : Rc} (hx : x ∈ L) (hy : y ∈ L) (e : x.I = y.I) : x = y := by
  induction L with
  | nil => cases hx
  | cons z L ih =>
    rw [List.map_cons, List.pairwise_cons] at hs
    rcases List.mem_cons.1 hx with h1 | h1
    · rcases List.mem_cons.1 hy with h2 | h2
      · rw [h1, h2]
      · have := hs.1 y.I (List.mem_map_of_mem h2)
        subst h1
        omega
    · rcases List.mem_cons.1 hy with h2 | h2
      · have := hs.1 x.I (List.mem_map_of_mem h1)
        subst h2
        omega
      · exact ih hs.2 h1 h2
/-! ### names -/
def addN (acc : List (List UInt8)) (s : List UInt8) : List (List UInt8) := if s ∈ acc then acc else acc ++ [s]
def namesD (L : List Rc) : List (List UInt8) := L.foldl (fun acc x => addN acc x.s) []
theorem addN_mem {acc : List (List UInt8)} {s t : List UInt8} : t ∈ addN acc s ↔ t ∈ acc ∨ t = s := by
  unfold addN
  split
  · rename_i h
    exact ⟨Or.inl, fun h' => h'.elim id (fun e => e ▸ h)⟩
  · simp
theorem addN_nodup {acc : List (List UInt8)} (h : acc.Nodup) (s : List UInt8) : (addN acc s).Nodup := by
  unfold addN
  split
  · exact h
  · rename_i hn
    rw [List.nodup_append]
    exact ⟨h, by simp, fun a ha b hb e => hn (by rw [← List.mem_singleton.1 hb, ← e]; exact ha)⟩
theorem fold_names (L : List Rc) (acc : List (List UInt8)) (h : acc.Nodup) : (L.foldl (fun acc x => addN acc x.s) acc).Nodup ∧ ∀ t, t ∈ L.foldl (fun acc x => addN acc x.s) acc ↔ t ∈ acc ∨ ∃ x ∈ L, x.s = t := by
  induction L generalizing acc with
  | nil => exact ⟨h, fun t => by simp⟩
  | cons y L ih =>
    obtain ⟨h1, h2⟩ := ih (addN acc y.s) (addN_nodup h _)
    refine ⟨h1, fun t => ?_⟩
    rw [List.foldl_cons, h2, addN_mem]
    constructor
    · rintro ((h | h) | ⟨x, hx, e⟩)
      · exact Or.inl h
      · exact Or.inr ⟨y, List.mem_cons_self, h.symm⟩
      · exact Or.inr ⟨x, List.mem_cons_of_mem _ hx, e⟩
    · rintro (h | ⟨x, hx, e⟩)
      · exact Or.inl (Or.inl h)
      · rcases List.mem_cons.1 hx with rfl | hx
        · exact Or.inl (Or.inr e.symm)
        · exact Or.inr ⟨x, hx, e⟩
theorem namesD_take (L : List Rc) (i : Nat) {x : Rc} (h : L[i]? = some x) : namesD (L.take (i + 1)) = addN (namesD (L.take i)) x.s := by
  unfold namesD
  rw [List.take_add_one, h, List.foldl_append]
  rfl
theorem PairC.known (h : PairC last now l L) (s : List UInt8) : s ∈ namesD L ↔ findC l s ≠ none := by
  rw [show namesD L = L.foldl (fun acc x => addN acc x.s) [] from rfl, (fold_names L [] List.Pairwise.nil).2]
  constructor
  · rintro (h1 | ⟨x, hx, rfl⟩)
    · cases h1
    · obtain ⟨c, hc, e, _⟩ := (h.same x).1 hx
      exact fun hn => findC_none hn c hc e.symm
  · intro hn
    cases hf : findC l s with
    | none => exact (hn hf).elim
    | some c =>
      obtain ⟨hc, rfl⟩ := findC_mem hf
      rcases h.inv.some c hc with h1 | h1
      · have hg := h.young c hc
        exact Or.inr ⟨⟨c.a, now - c.g, c.s, true⟩, (h.same _).2 ⟨c, hc, rfl, Or.inl ⟨rfl, h1, rfl, by dsimp only; omega⟩⟩, rfl⟩
      · exact Or.inr ⟨⟨c.b, 0, c.s, false⟩, (h.same _).2 ⟨c, hc, rfl, Or.inr ⟨rfl, h1, rfl, rfl⟩⟩, rfl⟩
theorem PairC.count (h : PairC last now l L) : (namesD L).length = l.length := by
  have hn : (namesD L).Nodup := (fold_names L [] List.Pairwise.nil).1
  have hp : (namesD L).Perm (l.map (·.s)) := by
    rw [List.perm_ext_iff_of_nodup hn h.inv.nod]
    intro t
    rw [h.known t, List.mem_map]
    constructor
    · intro hf
      cases e : findC l t with
      | none => exact (hf e).elim
      | some c => exact ⟨c, (findC_mem e).1, (findC_mem e).2⟩
    · rintro ⟨c, hc, rfl⟩ hf
      exact findC_none hf c hc rfl
  rw [hp.length_eq, List.length_map]
/-! ### Register -/
def regD (last : Nat) (L : List Rc) (s : List UInt8) : List Rc := L.filter (fun x => !(x.s == s) || x.c) ++ [⟨last + 1, 0, s, false⟩]
theorem row_reg {s : List UInt8} (h : PairC last now l L) (x : Rc) : Row now (regC last l s) x ↔ (x.s = s ∧ x.c = true ∧ x ∈ L) ∨ x = ⟨last + 1, 0, s, false⟩ := by
  unfold regC
  split
  · rename_i c hf
    obtain ⟨hc, hs⟩ := findC_mem hf
    constructor
    · rintro ⟨e, ⟨h1, h2, h3, h4⟩ | ⟨h1, h2, h3, h4⟩⟩
      · exact Or.inl ⟨e, h1, (h.same x).2 ⟨c, hc, e.trans hs.symm, Or.inl ⟨h1, h2, h3, h4⟩⟩⟩
      · obtain ⟨I, S, t, b⟩ := x
        dsimp only at e h1 h3 h4
        subst e h1 h3 h4
        exact Or.inr rfl
    · rintro (⟨e, h1, h2⟩ | rfl)
      · obtain ⟨d, hd, e1, hr⟩ := (h.same x).1 h2
        obtain rfl : d = c := same_name h.inv.nod hd hc (by rw [← e1, e, hs])
        rcases hr with hr | hr
        · exact ⟨e, Or.inl hr⟩
        · rw [h1] at hr; cases hr.1
      · exact ⟨rfl, Or.inr ⟨rfl, Nat.succ_pos _, rfl, rfl⟩⟩
  · rename_i hf
    constructor
    · rintro ⟨e, ⟨h1, h2, h3, h4⟩ | ⟨h1, h2, h3, h4⟩⟩
      · exact (Nat.lt_irrefl 0 h2).elim
      · obtain ⟨I, S, t, b⟩ := x
        dsimp only at e h1 h3 h4
        subst e h1 h3 h4
        exact Or.inr rfl
    · rintro (⟨e, h1, h2⟩ | rfl)
      · obtain ⟨d, hd, e1, hr⟩ := (h.same x).1 h2
        exact (findC_none hf d hd (by rw [← e1, e])).elim
      · exact ⟨rfl, Or.inr ⟨rfl, Nat.succ_pos _, rfl, rfl⟩⟩
theorem PairC.reg (h : PairC last now l L) {s : List UInt8} (hr : findC l s ≠ none ∨ l.length < 12) : PairC (last + 1) now (putC l (regC last l s)) (regD last L s) := by
  refine ⟨h.inv.reg hr, ?_, fun x => ?_, fun c hc => ?_⟩
  · unfold regD
    rw [List.map_append, List.pairwise_append]
    refine ⟨h.srt.sublist (List.Sublist.map _ List.filter_sublist), by simp, fun a ha b hb => ?_⟩
    obtain ⟨x, hx, rfl⟩ := List.mem_map.1 ha
    have := h.ids (List.mem_filter.1 hx).1
    rw [List.map_singleton, List.mem_singleton] at hb
    subst hb
    dsimp only
    omega
  · unfold regD
    rw [List.mem_append, List.mem_filter, List.mem_singleton]
    constructor
    · rintro (⟨hx, hf⟩ | rfl)
      · by_cases e : x.s = s
        · have hc : x.c = true := by simpa [e] using hf
          exact ⟨_, mem_putC.2 (Or.inl rfl), (row_reg h x).2 (Or.inl ⟨e, hc, hx⟩)⟩
        · obtain ⟨c, hc, hr⟩ := (h.same x).1 hx
          exact ⟨c, mem_putC.2 (Or.inr ⟨hc, by rw [regC_s, ← hr.1]; exact e⟩), hr⟩
      · exact ⟨_, mem_putC.2 (Or.inl rfl), (row_reg h _).2 (Or.inr rfl)⟩
    · rintro ⟨c, hc, hr⟩
      rcases mem_putC.1 hc with rfl | ⟨hc, hne⟩
      · rcases (row_reg h x).1 hr with ⟨_, h1, h2⟩ | h1
        · exact Or.inl ⟨h2, by simp [h1]⟩
        · exact Or.inr h1
      · rw [regC_s] at hne
        exact Or.inl ⟨(h.same x).2 ⟨c, hc, hr⟩, by simp [hr.1, hne]⟩
  · rcases mem_putC.1 hc with rfl | ⟨hc, _⟩
    · unfold regC
      split
      · rename_i d hf
        exact h.young d (findC_mem hf).1
      · exact Nat.zero_le _
    · exact h.young c hc
/-! ### who has a number -/
theorem PairC.none_of (h : PairC last now l L) {id : Int} (hn : ∀ c ∈ l, hasB c id = false) : ∀ x ∈ L, (x.I : Int) ≠ id := fun x hx e => by
  obtain ⟨c, hc, _, hr⟩ := (h.same x).1 hx
  have h1 := hn c hc
  have h2 : hasB c id = true := hasB_iff.2 (by rcases hr with ⟨_, _, _, _⟩ | ⟨_, _, _, _⟩ <;> omega)
  rw [h1] at h2
  cases h2
theorem PairC.at_of (h : PairC last now l L) {c : Cli} (hc : c ∈ l) {id : Int} (hh : hasB c id = true) {x : Rc} (hx : x ∈ L) (e : (x.I : Int) = id) : x.s = c.s ∧ Row now c x := by
  obtain ⟨d, hd, hr⟩ := (h.same x).1 hx
  have h2 : hasB d id = true := hasB_iff.2 (by rcases hr.2 with ⟨_, _, _, _⟩ | ⟨_, _, _, _⟩ <;> omega)
  obtain rfl := h.inv.holder hd hc h2 hh
  exact ⟨hr.1, hr⟩
theorem PairC.there (h : PairC last now l L) {c : Cli} (hc : c ∈ l) {id : Int} (hh : hasB c id = true) : ∃ x ∈ L, (x.I : Int) = id := by
  obtain ⟨hp, h1⟩ := hasB_iff.1 hh
  have hg := h.young c hc
  rcases h1 with h1 | h1
  · exact ⟨⟨c.a, now - c.g, c.s, true⟩, (h.same _).2 ⟨c, hc, rfl, Or.inl ⟨rfl, by omega, rfl, by dsimp only; omega⟩⟩, h1⟩
  · exact ⟨⟨c.b, 0, c.s, false⟩, (h.same _).2 ⟨c, hc, rfl, Or.inr ⟨rfl, by omega, rfl, rfl⟩⟩, h1⟩
/-! ### Confirm -/
def confX (now : Nat) (id : Int) (s : List UInt8) (x : Rc) : Option Rc := if (x.I : Int) = id then some ⟨x.I, now, x.s, true⟩ else if x.s = s ∧ x.c = true then none else some x
def goneX (id : Int) (s : List UInt8) (g : Nat) (x : Rc) : Nat := if (x.I : Int) = id then g else if x.s = s ∧ x.c = true then x.I else g
def confD (now : Nat) (id : Int) (s : List UInt8) (L : List Rc) : List Rc := L.filterMap (confX now id s)
def goneD (id : Int) (s : List UInt8) (L : List Rc) : Nat := L.foldl (goneX id s) 0
theorem confX_I {id : Int} {s : List UInt8} {x y : Rc} (h : confX now id s x = some y) : y.I = x.I := by
  unfold confX at h
  split at h
  · cases h; rfl
  · split at h
    · cases h
    · cases h; rfl
theorem confD_sub (now : Nat) (id : Int) (s : List UInt8) (L : List Rc) : ((confD now id s L).map (·.I)).Sublist (L.map (·.I)) := by
  unfold confD
  induction L with
  | nil => exact List.Sublist.refl _
  | cons x L ih =>
    rw [List.filterMap_cons]
    split
    · exact ih.cons _
    · rename_i y hy
      rw [List.map_cons, List.map_cons, confX_I hy]
      exact ih.cons_cons _
theorem mem_confD {id : Int} {s : List UInt8} {y : Rc} : y ∈ confD now id s L ↔ (∃ x ∈ L, (x.I : Int) = id ∧ y = ⟨x.I, now, x.s, true⟩) ∨ (y ∈ L ∧ (y.I : Int) ≠ id ∧ ¬ (y.s = s ∧ y.c = true)) := by
  unfold confD
  rw [List.mem_filterMap]
  constructor
  · rintro ⟨x, hx, h⟩
    unfold confX at h
    split at h
    · rename_i e
      cases h
      exact Or.inl ⟨x, hx, e, rfl⟩
    · rename_i e
      split at h
      · cases h
      · rename_i e2
        cases h
        exact Or.inr ⟨hx, e, e2⟩
  · rintro (⟨x, hx, e, rfl⟩ | ⟨hx, e, e2⟩)
    · exact ⟨x, hx, by unfold confX; rw [if_pos e]⟩
    · exact ⟨y, hx, by unfold confX; rw [if_neg e, if_neg e2]⟩
theorem PairC.conf (h : PairC last now l L) {c : Cli} (hc : c ∈ l) {id : Int} (hh : hasB c id = true) : PairC last now (putC l (confC c id)) (confD now id c.s L) := by
  obtain ⟨hp, hid⟩ := hasB_iff.1 hh
  have hab := h.inv.ab c hc
  refine ⟨h.inv.conf hc hh, h.srt.sublist (confD_sub _ _ _ _), fun x => ?_, fun d hd => ?_⟩
  · rw [mem_confD]
    constructor
    · rintro (⟨y, hy, e, rfl⟩ | ⟨hx, e, e2⟩)
      · obtain ⟨hs, _⟩ := h.at_of hc hh hy e
        refine ⟨_, mem_putC.2 (Or.inl rfl), ?_⟩
        unfold confC
        split
        · exact ⟨hs, Or.inl ⟨rfl, by dsimp only; omega, by dsimp only; omega, rfl⟩⟩
        · exact ⟨hs, Or.inl ⟨rfl, by dsimp only; omega, by dsimp only; omega, rfl⟩⟩
      · obtain ⟨d, hd, hr⟩ := (h.same x).1 hx
        by_cases es : d.s = c.s
        · obtain rfl := same_name h.inv.nod hd hc es
          have hxc : x.c = false := by
            cases hx' : x.c
            · rfl
            · exact (e2 ⟨hr.1, hx'⟩).elim
          refine ⟨_, mem_putC.2 (Or.inl rfl), ?_⟩
          rcases hr.2 with ⟨h1, _⟩ | ⟨h1, h2, h3, h4⟩
          · rw [hxc] at h1; cases h1
          · unfold confC
            rw [if_neg (by omega)]
            exact ⟨hr.1, Or.inr ⟨h1, h2, h3, h4⟩⟩
        · exact ⟨d, mem_putC.2 (Or.inr ⟨hd, by rw [confC_s]; exact es⟩), hr⟩
    · rintro ⟨d, hd, hr⟩
      rcases mem_putC.1 hd with rfl | ⟨hd, hne⟩
      · have hs : x.s = c.s := hr.1.trans (confC_s c id)
        have hr2 := hr.2
        unfold confC at hr2
        split at hr2
        · rename_i e
          dsimp only at hr2
          rcases hr2 with ⟨h1, h2, h3, h4⟩ | ⟨h1, h2, h3, h4⟩
          · refine Or.inl ⟨⟨c.b, 0, c.s, false⟩, (h.same _).2 ⟨c, hc, rfl, Or.inr ⟨rfl, by omega, rfl, rfl⟩⟩, e, ?_⟩
            obtain ⟨I, S, t, b⟩ := x
            dsimp only at hs h1 h3 h4 ⊢
            subst hs h1 h3
            obtain rfl : S = now := by omega
            rfl
          · exact (Nat.lt_irrefl 0 h2).elim
        · rename_i e
          dsimp only at hr2
          rcases hr2 with ⟨h1, h2, h3, h4⟩ | ⟨h1, h2, h3, h4⟩
          · have hg := h.young c hc
            refine Or.inl ⟨⟨c.a, now - c.g, c.s, true⟩, (h.same _).2 ⟨c, hc, rfl, Or.inl ⟨rfl, h2, rfl, by dsimp only; omega⟩⟩, by dsimp only; omega, ?_⟩
            obtain ⟨I, S, t, b⟩ := x
            dsimp only at hs h1 h3 h4 ⊢
            subst hs h1 h3
            obtain rfl : S = now := by omega
            rfl
          · refine Or.inr ⟨(h.same x).2 ⟨c, hc, hs, Or.inr ⟨h1, h2, h3, h4⟩⟩, by omega, ?_⟩
            rintro ⟨_, h5⟩
            rw [h1] at h5
            cases h5
      · rw [confC_s] at hne
        have hx : x ∈ L := (h.same x).2 ⟨d, hd, hr⟩
        refine Or.inr ⟨hx, fun e => ?_, fun e => hne (by rw [← hr.1]; exact e.1)⟩
        exact hne (by rw [← hr.1]; exact (h.at_of hc hh hx e).1)
  · rcases mem_putC.1 hd with rfl | ⟨hd, _⟩
    · unfold confC
      split <;> exact Nat.zero_le _
    · exact h.young d hd
theorem gone_fold (id : Int) (s : List UInt8) (L : List Rc) (g : Nat) : (L.foldl (goneX id s) g = g ∧ ∀ x ∈ L, ¬ ((x.I : Int) ≠ id ∧ x.s = s ∧ x.c = true)) ∨ ∃ x ∈ L, (x.I : Int) ≠ id ∧ x.s = s ∧ x.c = true ∧ L.foldl (goneX id s) g = x.I := by
  induction L generalizing g with
  | nil => exact Or.inl ⟨rfl, fun x hx => by cases hx⟩
  | cons y L ih =>
    rw [List.foldl_cons]
    rcases ih (goneX id s g y) with ⟨h1, h2⟩ | ⟨x, hx, h1, h2, h3, h4⟩
    · rw [h1]
      by_cases hy : (y.I : Int) ≠ id ∧ y.s = s ∧ y.c = true
      · refine Or.inr ⟨y, List.mem_cons_self, hy.1, hy.2.1, hy.2.2, ?_⟩
        unfold goneX
        rw [if_neg hy.1, if_pos hy.2]
      · refine Or.inl ⟨?_, fun x hx => ?_⟩
        · unfold goneX
          split
          · rfl
          · rename_i e
            rw [if_neg (fun e2 => hy ⟨e, e2⟩)]
        · rcases List.mem_cons.1 hx with rfl | hx
          · exact hy
          · exact h2 x hx
    · exact Or.inr ⟨x, List.mem_cons_of_mem _ hx, h1, h2, h3, h4⟩
theorem PairC.gone (h : PairC last now l L) {c : Cli} (hc : c ∈ l) {id : Int} (hh : hasB c id = true) : goneD id c.s L = goneC c id := by
  obtain ⟨hp, hid⟩ := hasB_iff.1 hh
  have hab := h.inv.ab c hc
  unfold goneD goneC
  rcases gone_fold id c.s L 0 with ⟨h1, h2⟩ | ⟨x, hx, h1, h2, h3, h4⟩
  · rw [h1]
    split
    · rename_i e
      rcases Nat.eq_zero_or_pos c.a with e0 | e0
      · exact e0.symm
      · have hg := h.young c hc
        exact (h2 ⟨c.a, now - c.g, c.s, true⟩ ((h.same _).2 ⟨c, hc, rfl, Or.inl ⟨rfl, e0, rfl, by dsimp only; omega⟩⟩) ⟨by dsimp only; omega, rfl, rfl⟩).elim
    · rfl
  · rw [h4]
    obtain ⟨d, hd, hr⟩ := (h.same x).1 hx
    obtain rfl := same_name h.inv.nod hd hc (by rw [← hr.1]; exact h2)
    rcases hr.2 with ⟨_, h5, h6, _⟩ | ⟨h5, _⟩
    · rw [if_pos (by omega)]
      exact h6
    · rw [h3] at h5; cases h5
/-! ### Renew, Name -/
theorem PairC.live (h : PairC last now l L) {id : Int} {x : Rc} (hx : x ∈ L) (e : (x.I : Int) = id) (hc : x.c = true) : ∃ c ∈ l, (c.a : Int) = id ∧ hasB c id = true ∧ x.s = c.s ∧ x.S + c.g = now := by
  obtain ⟨c, hcl, hs, hr⟩ := (h.same x).1 hx
  rcases hr with ⟨_, h1, h2, h3⟩ | ⟨h1, _⟩
  · exact ⟨c, hcl, by omega, hasB_iff.2 ⟨by omega, Or.inl (by omega)⟩, hs, h3⟩
  · rw [hc] at h1; cases h1
theorem PairC.live_of (h : PairC last now l L) {c : Cli} (hc : c ∈ l) {id : Int} (hp : 0 < id) (e : (c.a : Int) = id) : ∃ x ∈ L, (x.I : Int) = id ∧ x.c = true ∧ x.s = c.s := by
  have hg := h.young c hc
  exact ⟨⟨c.a, now - c.g, c.s, true⟩, (h.same _).2 ⟨c, hc, rfl, Or.inl ⟨rfl, by omega, rfl, by dsimp only; omega⟩⟩, e, rfl, rfl⟩
theorem PairC.ren (h : PairC last now l L) {c : Cli} (hc : c ∈ l) {k : Nat} {x : Rc} (hk : L[k]? = some x) (hx : x.c = true) (hp : 0 < c.a) (e : x.I = c.a) : PairC last now (putC l (renC c)) (L.set k ⟨x.I, now, x.s, x.c⟩) := by
  obtain ⟨hlt, hget⟩ := List.getElem?_eq_some_iff.1 hk
  have hxm : x ∈ L := List.mem_of_getElem? hk
  have hs : x.s = c.s := (h.at_of hc (id := (c.a : Int)) (hasB_iff.2 ⟨by omega, Or.inl rfl⟩) hxm (by omega)).1
  have hmem : ∀ y, y ∈ L.set k ⟨x.I, now, x.s, x.c⟩ ↔ y = ⟨x.I, now, x.s, x.c⟩ ∨ (y ∈ L ∧ y.I ≠ x.I) := fun y => by
    constructor
    · intro hy
      obtain ⟨j, hj, hjy⟩ := List.getElem_of_mem hy
      by_cases ej : k = j
      · subst ej
        rw [List.getElem_set_self] at hjy
        exact Or.inl hjy.symm
      · rw [List.getElem_set_ne ej] at hjy
        rw [List.length_set] at hj
        refine Or.inr ⟨hjy ▸ List.getElem_mem hj, fun ei => ej ?_⟩
        have hp := List.pairwise_iff_getElem.1 h.srt
        rcases Nat.lt_trichotomy k j with h1 | h1 | h1
        · have := hp k j (by simpa using hlt) (by simpa using hj) h1
          rw [List.getElem_map, List.getElem_map, hget, hjy] at this
          omega
        · exact h1
        · have := hp j k (by simpa using hj) (by simpa using hlt) h1
          rw [List.getElem_map, List.getElem_map, hget, hjy] at this
          omega
    · rintro (rfl | ⟨hy, hne⟩)
      · exact List.mem_iff_getElem.2 ⟨k, by rw [List.length_set]; exact hlt, by rw [List.getElem_set_self]⟩
      · obtain ⟨j, hj, hjy⟩ := List.getElem_of_mem hy
        refine List.mem_iff_getElem.2 ⟨j, by rw [List.length_set]; exact hj, ?_⟩
        rw [List.getElem_set_ne (fun ej => hne (by subst ej; rw [← hjy, hget])), hjy]
  refine ⟨h.inv.ren hc, ?_, fun y => ?_, fun d hd => ?_⟩
  · rw [List.map_set]
    have : (L.map (·.I)).set k x.I = L.map (·.I) := by
      refine List.ext_getElem (by simp) fun j h1 h2 => ?_
      by_cases ej : k = j
      · subst ej
        rw [List.getElem_set_self, List.getElem_map, hget]
      · rw [List.getElem_set_ne ej]
    rw [this]
    exact h.srt
  · rw [hmem]
    constructor
    · rintro (rfl | ⟨hy, hne⟩)
      · exact ⟨_, mem_putC.2 (Or.inl rfl), hs, Or.inl ⟨hx, hp, e, rfl⟩⟩
      · obtain ⟨d, hd, hr⟩ := (h.same y).1 hy
        by_cases es : d.s = c.s
        · obtain rfl := same_name h.inv.nod hd hc es
          refine ⟨_, mem_putC.2 (Or.inl rfl), hr.1, ?_⟩
          rcases hr.2 with ⟨h1, h2, h3, h4⟩ | hr
          · exact (hne (h3.trans e.symm)).elim
          · exact Or.inr hr
        · exact ⟨d, mem_putC.2 (Or.inr ⟨hd, es⟩), hr⟩
    · rintro ⟨d, hd, hr⟩
      rcases mem_putC.1 hd with rfl | ⟨hd, hne⟩
      · rcases hr.2 with ⟨h1, h2, h3, h4⟩ | ⟨h1, h2, h3, h4⟩
        · left
          obtain ⟨I, S, t, b⟩ := y
          have hr1 := hr.1
          dsimp only [renC] at hr1 h1 h2 h3 h4 ⊢
          obtain rfl : S = now := by omega
          rw [h1, hx, h3, e, hr1, hs]
        · right
          exact ⟨(h.same y).2 ⟨c, hc, hr.1, Or.inr ⟨h1, h2, h3, h4⟩⟩, fun e2 => h.inv.ab c hc hp (by dsimp only [renC] at h3; omega)⟩
      · right
        refine ⟨(h.same y).2 ⟨d, hd, hr⟩, fun e2 => ?_⟩
        have o := h.inv.one d c hd hc hne
        rcases hr.2 with ⟨_, h2, h3, _⟩ | ⟨_, h2, h3, _⟩
        · exact (o.1 h2).1 (by omega)
        · exact (o.2 h2).1 (by omega)
  · rcases mem_putC.1 hd with rfl | ⟨hd, _⟩
    · exact Nat.zero_le _
    · exact h.young d hd
/-! ### Tick, List -/
def lateB (now : Nat) (x : Rc) : Bool := x.c && decide (60 ≤ (now : Int) - (x.S : Int))
theorem late_iff {now n : Nat} {x : Rc} {c : Cli} (hr : Row now c x) : lateB (now + n) x = true ↔ x.c = true ∧ overC n c = true := by
  unfold lateB overC oldC
  rw [Bool.and_eq_true, decide_eq_true_eq, decide_eq_true_eq]
  constructor
  · rintro ⟨h1, h2⟩
    rcases hr.2 with ⟨_, h4, h5, h6⟩ | ⟨h4, _⟩
    · exact ⟨h1, by rw [if_pos h4]; omega⟩
    · rw [h1] at h4; cases h4
  · rintro ⟨h1, h2⟩
    rcases hr.2 with ⟨_, h4, h5, h6⟩ | ⟨h4, _⟩
    · rw [if_pos h4] at h2
      exact ⟨h1, by omega⟩
    · rw [h1] at h4; cases h4
theorem PairC.tick (h : PairC last now l L) {n : Nat} {l' : List Cli} (hi : CInv last l') (hm : ∀ x, x ∈ l' ↔ ∃ d ∈ l, noneC (tickC n d) = false ∧ x = tickC n d) : PairC last (now + n) l' (L.filter (fun x => !lateB (now + n) x)) := by
  refine ⟨hi, h.srt.sublist (List.Sublist.map _ List.filter_sublist), fun x => ?_, fun c hc => ?_⟩
  · rw [List.mem_filter]
    constructor
    · rintro ⟨hx, hf⟩
      obtain ⟨c, hc, hr⟩ := (h.same x).1 hx
      have hl : ¬ (x.c = true ∧ overC n c = true) := fun e => by
        rw [(late_iff hr).2 e] at hf
        cases hf
      refine ⟨tickC n c, (hm _).2 ⟨c, hc, ?_, rfl⟩, hr.1.trans (tickC_s n c).symm, ?_⟩
      · cases hz : noneC (tickC n c) with
        | false => rfl
        | true =>
          obtain ⟨h1, h2⟩ := (tick_none h.inv hc).1 hz
          rcases hr.2 with ⟨h3, _⟩ | ⟨_, h3, _⟩
          · exact (hl ⟨h3, h1⟩).elim
          · omega
      · unfold tickC
        rcases hr.2 with ⟨h1, h2, h3, h4⟩ | ⟨h1, h2, h3, h4⟩
        · have ho : ¬ overC n c = true := fun e => hl ⟨h1, e⟩
          rw [if_neg ho]
          refine Or.inl ⟨h1, h2, h3, ?_⟩
          dsimp only
          unfold oldC
          rw [if_pos h2]
          omega
        · right
          split
          · exact ⟨h1, h2, h3, h4⟩
          · exact ⟨h1, h2, h3, h4⟩
    · rintro ⟨c', hc', hr⟩
      obtain ⟨c, hc, hz, rfl⟩ := (hm _).1 hc'
      have hs := hr.1.trans (tickC_s n c)
      have hr0 : Row now c x ∧ ¬ (x.c = true ∧ overC n c = true) := by
        have hr2 := hr.2
        unfold tickC at hr2
        split at hr2
        · dsimp only at hr2
          rcases hr2 with ⟨_, h2, _⟩ | ⟨h1, h2, h3, h4⟩
          · exact (Nat.lt_irrefl 0 h2).elim
          · exact ⟨⟨hs, Or.inr ⟨h1, h2, h3, h4⟩⟩, fun e => by rw [h1] at e; cases e.1⟩
        · rename_i ho
          dsimp only at hr2
          rcases hr2 with ⟨h1, h2, h3, h4⟩ | ⟨h1, h2, h3, h4⟩
          · unfold oldC at h4
            rw [if_pos h2] at h4
            exact ⟨⟨hs, Or.inl ⟨h1, h2, h3, by omega⟩⟩, fun e => ho e.2⟩
          · exact ⟨⟨hs, Or.inr ⟨h1, h2, h3, h4⟩⟩, fun e => ho e.2⟩
      refine ⟨(h.same x).2 ⟨c, hc, hr0.1⟩, ?_⟩
      cases hb : lateB (now + n) x with
      | false => rfl
      | true => exact (hr0.2 ((late_iff hr0.1).1 hb)).elim
  · obtain ⟨d, hd, _, rfl⟩ := (hm c).1 hc
    have := h.young d hd
    unfold tickC
    split
    · exact Nat.zero_le _
    · dsimp only
      unfold oldC
      split <;> omega
/-- Numbers that rise are known by who is among them. -/
theorem rising_ext {a b : List Int} (ha : a.Pairwise (· < ·)) (hb : b.Pairwise (· < ·)) (h : ∀ x, x ∈ a ↔ x ∈ b) : a = b := by
  induction a generalizing b with
  | nil =>
    cases b with
    | nil => rfl
    | cons y b => exact absurd ((h y).2 List.mem_cons_self) (by simp)
  | cons x a ih =>
    cases b with
    | nil => exact absurd ((h x).1 List.mem_cons_self) (by simp)
    | cons y b =>
      rw [List.pairwise_cons] at ha hb
      have e : x = y := by
        rcases List.mem_cons.1 ((h x).1 List.mem_cons_self) with h1 | h1
        · exact h1
        · rcases List.mem_cons.1 ((h y).2 List.mem_cons_self) with h2 | h2
          · exact h2.symm
          · have := hb.1 x h1
            have := ha.1 y h2
            omega
      subst e
      rw [ih ha.2 hb.2 (fun z => ⟨fun hz => by
        rcases List.mem_cons.1 ((h z).1 (List.mem_cons_of_mem _ hz)) with h1 | h1
        · subst h1; exact absurd (ha.1 z hz) (by omega)
        · exact h1, fun hz => by
        rcases List.mem_cons.1 ((h z).2 (List.mem_cons_of_mem _ hz)) with h1 | h1
        · subst h1; exact absurd (hb.1 z hz) (by omega)
        · exact h1⟩)]
def idsD (L : List Rc) : List Int := L.map (fun x => (x.I : Int))
theorem PairC.rising (h : PairC last now l L) (p : Rc → Bool) : (idsD (L.filter p)).Pairwise (· < ·) := by
  have h1 := h.srt
  rw [List.pairwise_map] at h1
  unfold idsD
  rw [List.pairwise_map]
  exact (h1.sublist List.filter_sublist).imp (fun hh => Int.ofNat_lt.2 hh)
theorem PairC.gone_list (h : PairC last now l L) {n : Nat} {gs : List Int} (hr : gs.Pairwise (· < ·)) (hm : ∀ x, x ∈ gs ↔ ∃ c ∈ l, overC n c = true ∧ x = (c.a : Int)) : gs = idsD (L.filter (lateB (now + n))) := by
  refine rising_ext hr (h.rising _) fun z => ?_
  rw [hm]
  unfold idsD
  rw [List.mem_map]
  constructor
  · rintro ⟨c, hc, ho, rfl⟩
    have hp := overC_pos h.inv hc ho
    have hg := h.young c hc
    have hrow : Row now c ⟨c.a, now - c.g, c.s, true⟩ := ⟨rfl, Or.inl ⟨rfl, hp, rfl, by dsimp only; omega⟩⟩
    exact ⟨_, List.mem_filter.2 ⟨(h.same _).2 ⟨c, hc, hrow⟩, (late_iff hrow).2 ⟨rfl, ho⟩⟩, rfl⟩
  · rintro ⟨x, hx, rfl⟩
    obtain ⟨hx, hl⟩ := List.mem_filter.1 hx
    obtain ⟨c, hc, hrow⟩ := (h.same x).1 hx
    obtain ⟨h1, h2⟩ := (late_iff hrow).1 hl
    rcases hrow.2 with ⟨_, _, h3, _⟩ | ⟨h3, _⟩
    · exact ⟨c, hc, h2, by rw [h3]⟩
    · rw [h1] at h3; cases h3
theorem PairC.list (h : PairC last now l L) {gs : List Int} (hr : gs.Pairwise (· < ·)) (hm : ∀ x, x ∈ gs ↔ ∃ c ∈ l, 0 < c.a ∧ x = (c.a : Int)) : gs = idsD (L.filter (·.c)) := by
  refine rising_ext hr (h.rising _) fun z => ?_
  rw [hm]
  unfold idsD
  rw [List.mem_map]
  constructor
  · rintro ⟨c, hc, hp, rfl⟩
    have hg := h.young c hc
    exact ⟨⟨c.a, now - c.g, c.s, true⟩, List.mem_filter.2 ⟨(h.same _).2 ⟨c, hc, rfl, Or.inl ⟨rfl, hp, rfl, by dsimp only; omega⟩⟩, rfl⟩, rfl⟩
  · rintro ⟨x, hx, rfl⟩
    obtain ⟨hx, hl⟩ := List.mem_filter.1 hx
    obtain ⟨c, hc, hrow⟩ := (h.same x).1 hx
    rcases hrow.2 with ⟨_, h2, h3, _⟩ | ⟨h3, _⟩
    · exact ⟨c, hc, h2, by rw [h3]⟩
    · rw [hl] at h3; cases h3
end
end Go.Proofs.YtaipigiinljpkaaGreatDoor
