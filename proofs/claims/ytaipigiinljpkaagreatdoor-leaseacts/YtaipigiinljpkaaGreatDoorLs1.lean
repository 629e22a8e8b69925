/- Clients by their names, as a map reads them: plain facts. No program is named here. -/
import Derived.Maps.Ext
import Derived.Maps.OwnSet
namespace Go.Proofs.YtaipigiinljpkaaGreatDoor
open Go Go.RowKit Go.Maps

/-- A client: its name, the number that is confirmed, the one that waits, the age of its lease (0: none). -/
structure Cli where
  s : List UInt8
  a : Nat
  b : Nat
  g : Nat
def cliV (c : Cli) : DataW Unit := .agg [.lit (.int .i64 c.a), .lit (.int .i64 c.b), .lit (.int .i64 c.g)]
def cliP (e : Cli) : Lit × DataW Unit := (.string e.s, cliV e)
def cliD (l : List Cli) : DataW Unit := .map (l.map cliP)
def findC (l : List Cli) (s : List UInt8) : Option Cli := l.find? (fun e => e.s == s)
def insC (x : Cli) : List Cli → List Cli
  | [] => [x]
  | y :: r => if bytesBefore x.s y.s then x :: y :: r else y :: insC x r
def dropC (l : List Cli) (s : List UInt8) : List Cli := l.filter (fun e => !(e.s == s))
theorem has_cliD (l : List Cli) (s : List UInt8) : has (cliD l) (.string s) = (findC l s).isSome := by
  show (l.map cliP).any _ = _
  induction l with
  | nil => rfl
  | cons x l ih =>
    rw [List.map_cons, List.any_cons, ih]
    unfold findC
    rw [List.find?_cons]
    show (x.s == s || _) = _
    cases x.s == s <;> rfl
theorem at_cliD (l : List Cli) (s : List UInt8) (z : DataW Unit) : (cliD l).atKey (.string s) z = match findC l s with | some e => cliV e | none => z := by
  have h : (l.map cliP).find? (fun p => p.1.sameKey (.string s)) = (findC l s).map cliP := by
    unfold findC
    rw [List.find?_map]
    rfl
  unfold cliD DataW.atKey
  simp only [h]
  cases findC l s <;> rfl
theorem insC_map (x : Cli) (l : List Cli) : DataW.insert (cliP x) (l.map cliP) = (insC x l).map cliP := by
  induction l with
  | nil => rfl
  | cons y l ih =>
    show (if bytesBefore x.s y.s then _ else _) = _
    unfold insC
    split
    · rfl
    · rw [List.map_cons, ih]
theorem dropC_map (l : List Cli) (s : List UInt8) : (l.map cliP).filter (fun p => !p.1.sameKey (.string s)) = (dropC l s).map cliP := by
  unfold dropC
  rw [List.filter_map]
  rfl
theorem put_cliD (l : List Cli) (x : Cli) : (cliD l).put (.string x.s) (cliV x) = cliD (insC x (dropC l x.s)) := by
  show DataW.map (DataW.insert (cliP x) ((l.map cliP).filter _)) = _
  rw [dropC_map, insC_map]
  rfl
theorem del_cliD (l : List Cli) (s : List UInt8) : (cliD l).del (.string s) = cliD (dropC l s) := by
  show DataW.map ((l.map cliP).filter _) = _
  rw [dropC_map]
  rfl
theorem size_cliD (l : List Cli) : Maps.size (cliD l) = l.length := by
  show (l.map cliP).length = _
  simp
theorem dropC_none {l : List Cli} {s : List UInt8} (h : findC l s = none) : dropC l s = l := by
  unfold dropC
  rw [List.filter_eq_self]
  intro e he
  have := List.find?_eq_none.1 h e he
  simpa using this
theorem length_insC (x : Cli) (l : List Cli) : (insC x l).length = l.length + 1 := by
  induction l with
  | nil => rfl
  | cons y l ih =>
    unfold insC
    split
    · rfl
    · simp [ih]
theorem mem_insC {x y : Cli} {l : List Cli} : y ∈ insC x l ↔ y = x ∨ y ∈ l := by
  induction l with
  | nil => simp [insC]
  | cons z l ih =>
    unfold insC
    split
    · simp
    · rw [List.mem_cons, ih, List.mem_cons]
      constructor
      · rintro (h | h | h)
        · exact Or.inr (Or.inl h)
        · exact Or.inl h
        · exact Or.inr (Or.inr h)
      · rintro (h | h | h)
        · exact Or.inr (Or.inl h)
        · exact Or.inl h
        · exact Or.inr (Or.inr h)
theorem findC_ins_same {l : List Cli} (x : Cli) (h : findC l x.s = none) : findC (insC x l) x.s = some x := by
  induction l with
  | nil => simp [insC, findC]
  | cons y l ih =>
    unfold findC at h
    rw [List.find?_cons] at h
    cases hy : y.s == x.s with
    | true => rw [hy] at h; cases h
    | false =>
      rw [hy] at h
      unfold insC
      split
      · simp [findC]
      · unfold findC
        rw [List.find?_cons, hy]
        exact ih h
theorem findC_ins_other (l : List Cli) (x : Cli) {s : List UInt8} (h : s ≠ x.s) : findC (insC x l) s = findC l s := by
  have hx : (x.s == s) = false := by simpa using fun e : x.s = s => h e.symm
  induction l with
  | nil => simp [insC, findC, hx]
  | cons y l ih =>
    unfold insC
    split
    · unfold findC
      rw [List.find?_cons, hx]
    · unfold findC
      rw [List.find?_cons, List.find?_cons]
      cases y.s == s
      · exact ih
      · rfl


theorem findC_mem {l : List Cli} {s : List UInt8} {c : Cli} (h : findC l s = some c) : c ∈ l ∧ c.s = s :=
  ⟨List.mem_of_find?_eq_some h, by have := List.find?_some h; simpa using this⟩
theorem findC_none {l : List Cli} {s : List UInt8} (h : findC l s = none) : ∀ c ∈ l, c.s ≠ s := fun c hc => by
  have := List.find?_eq_none.1 h c hc
  simpa using this
theorem same_name {l : List Cli} (hn : (l.map (·.s)).Nodup) {c d : Cli} (hc : c ∈ l) (hd : d ∈ l) (e : c.s = d.s) : c = d := by
  induction l with
  | nil => cases hc
  | cons x l ih =>
    rw [List.map_cons, List.nodup_cons] at hn
    rcases List.mem_cons.1 hc with h1 | h1
    · rcases List.mem_cons.1 hd with h2 | h2
      · rw [h1, h2]
      · exact (hn.1 (by rw [← h1, e]; exact List.mem_map_of_mem h2)).elim
    · rcases List.mem_cons.1 hd with h2 | h2
      · exact (hn.1 (by rw [← h2, ← e]; exact List.mem_map_of_mem h1)).elim
      · exact ih hn.2 h1 h2
theorem findC_of {l : List Cli} (hn : (l.map (·.s)).Nodup) {c : Cli} (hc : c ∈ l) : findC l c.s = some c := by
  cases h : findC l c.s with
  | none => exact (findC_none h c hc rfl).elim
  | some d =>
    obtain ⟨h1, h2⟩ := findC_mem h
    rw [same_name hn h1 hc h2]
theorem mem_dropC {l : List Cli} {s : List UInt8} {x : Cli} : x ∈ dropC l s ↔ x ∈ l ∧ x.s ≠ s := by
  unfold dropC
  rw [List.mem_filter]
  simp
/-- A client by its name, whatever was there. -/
def putC (l : List Cli) (c : Cli) : List Cli := insC c (dropC l c.s)
theorem mem_putC {l : List Cli} {c x : Cli} : x ∈ putC l c ↔ x = c ∨ (x ∈ l ∧ x.s ≠ c.s) := by
  unfold putC
  rw [mem_insC, mem_dropC]
theorem perm_insC (x : Cli) (l : List Cli) : (insC x l).Perm (x :: l) := by
  induction l with
  | nil => exact List.Perm.refl _
  | cons y l ih =>
    unfold insC
    split
    · exact List.Perm.refl _
    · exact (ih.cons y).trans (List.Perm.swap _ _ _)
theorem nodup_dropC {l : List Cli} (hn : (l.map (·.s)).Nodup) (s : List UInt8) : ((dropC l s).map (·.s)).Nodup := hn.sublist (List.Sublist.map _ List.filter_sublist)
theorem nodup_putC {l : List Cli} (hn : (l.map (·.s)).Nodup) (c : Cli) : ((putC l c).map (·.s)).Nodup := by
  unfold putC
  rw [((perm_insC c (dropC l c.s)).map (·.s)).nodup_iff, List.map_cons, List.nodup_cons]
  refine ⟨fun h => ?_, nodup_dropC hn _⟩
  obtain ⟨x, hx, e⟩ := List.mem_map.1 h
  exact (mem_dropC.1 hx).2 e
theorem len_dropC {l : List Cli} (hn : (l.map (·.s)).Nodup) {c : Cli} (hc : c ∈ l) : (dropC l c.s).length + 1 = l.length := by
  induction l with
  | nil => cases hc
  | cons x l ih =>
    rw [List.map_cons, List.nodup_cons] at hn
    unfold dropC
    rw [List.filter_cons]
    rcases List.mem_cons.1 hc with h1 | h1
    · subst h1
      have : l.filter (fun e => !(e.s == c.s)) = l := by
        rw [List.filter_eq_self]
        intro e he
        have : e.s ≠ c.s := fun e' => hn.1 (by rw [← e']; exact List.mem_map_of_mem he)
        simpa using this
      simp [this]
    · have hne : x.s ≠ c.s := fun e' => hn.1 (by rw [e']; exact List.mem_map_of_mem h1)
      have := ih hn.2 h1
      unfold dropC at this
      simp [hne]
      omega
theorem len_putC {l : List Cli} (hn : (l.map (·.s)).Nodup) {c d : Cli} (hd : d ∈ l) (e : d.s = c.s) : (putC l c).length = l.length := by
  unfold putC
  rw [length_insC, ← e]
  exact len_dropC hn hd
theorem len_putC_new {l : List Cli} {c : Cli} (h : findC l c.s = none) : (putC l c).length = l.length + 1 := by
  unfold putC
  rw [length_insC, dropC_none h]
theorem len_dropC_le (l : List Cli) (s : List UInt8) : (dropC l s).length ≤ l.length := List.length_filter_le _ _

/-! ### what a table of clients keeps to -/
structure CInv (last : Nat) (l : List Cli) : Prop where
  nod : (l.map (·.s)).Nodup
  some : ∀ c ∈ l, 0 < c.a ∨ 0 < c.b
  le : ∀ c ∈ l, c.a ≤ last ∧ c.b ≤ last
  ab : ∀ c ∈ l, 0 < c.a → c.a ≠ c.b
  age : ∀ c ∈ l, c.g < 60 ∧ (c.a = 0 → c.g = 0)
  one : ∀ c d, c ∈ l → d ∈ l → c.s ≠ d.s → (0 < c.a → c.a ≠ d.a ∧ c.a ≠ d.b) ∧ (0 < c.b → c.b ≠ d.a ∧ c.b ≠ d.b)
  len : l.length ≤ 12
theorem CInv.nil : CInv 0 [] := by
  refine ⟨List.Pairwise.nil, ?_, ?_, ?_, ?_, ?_, by decide⟩ <;> intros <;> simp_all
def hasB (c : Cli) (id : Int) : Bool := decide (0 < id) && (decide ((c.a : Int) = id) || decide ((c.b : Int) = id))
theorem hasB_iff {c : Cli} {id : Int} : hasB c id = true ↔ 0 < id ∧ ((c.a : Int) = id ∨ (c.b : Int) = id) := by
  unfold hasB
  simp
theorem CInv.holder {last : Nat} {l : List Cli} (h : CInv last l) {c d : Cli} {id : Int} (hc : c ∈ l) (hd : d ∈ l) (h1 : hasB c id = true) (h2 : hasB d id = true) : c = d := by
  rw [hasB_iff] at h1 h2
  by_cases e : c.s = d.s
  · exact same_name h.nod hc hd e
  · exfalso
    obtain ⟨o1, o2⟩ := h.one c d hc hd e
    rcases h1 with ⟨hp, h1 | h1⟩
    · have := o1 (by omega)
      rcases h2.2 with h2 | h2 <;> omega
    · have := o2 (by omega)
      rcases h2.2 with h2 | h2 <;> omega
/-- Another client in a client's place, with no number that was given to others. -/
theorem CInv.put {last last' : Nat} {l : List Cli} (h : CInv last l) {c : Cli} (hl : last ≤ last') (hs : 0 < c.a ∨ 0 < c.b) (hle : c.a ≤ last' ∧ c.b ≤ last') (hab : 0 < c.a → c.a ≠ c.b) (hg : c.g < 60 ∧ (c.a = 0 → c.g = 0))
    (ho : ∀ d ∈ l, d.s ≠ c.s → (0 < c.a → c.a ≠ d.a ∧ c.a ≠ d.b) ∧ (0 < c.b → c.b ≠ d.a ∧ c.b ≠ d.b)) (hn : (putC l c).length ≤ 12) : CInv last' (putC l c) := by
  refine ⟨nodup_putC h.nod c, fun x hx => ?_, fun x hx => ?_, fun x hx => ?_, fun x hx => ?_, fun x y hx hy hne => ?_, hn⟩
  · rcases mem_putC.1 hx with rfl | ⟨hx, _⟩
    · exact hs
    · exact h.some x hx
  · rcases mem_putC.1 hx with rfl | ⟨hx, _⟩
    · exact hle
    · have := h.le x hx; omega
  · rcases mem_putC.1 hx with rfl | ⟨hx, _⟩
    · exact hab
    · exact h.ab x hx
  · rcases mem_putC.1 hx with rfl | ⟨hx, _⟩
    · exact hg
    · exact h.age x hx
  · rcases mem_putC.1 hx with rfl | ⟨hx1, hx'⟩
    · rcases mem_putC.1 hy with rfl | ⟨hy, hy'⟩
      · exact (hne rfl).elim
      · exact ho y hy hy'
    · rcases mem_putC.1 hy with e | ⟨hy, hy'⟩
      · subst e
        obtain ⟨o1, o2⟩ := ho x hx1 hx'
        refine ⟨fun hp => ⟨fun e => ?_, fun e => ?_⟩, fun hp => ⟨fun e => ?_, fun e => ?_⟩⟩
        · exact (o1 (by omega)).1 e.symm
        · exact (o2 (by omega)).1 e.symm
        · exact (o1 (by omega)).2 e.symm
        · exact (o2 (by omega)).2 e.symm
      · exact h.one x y hx1 hy hne
theorem CInv.drop {last : Nat} {l : List Cli} (h : CInv last l) (s : List UInt8) : CInv last (dropC l s) :=
  ⟨nodup_dropC h.nod s, fun x hx => h.some x (mem_dropC.1 hx).1, fun x hx => h.le x (mem_dropC.1 hx).1, fun x hx => h.ab x (mem_dropC.1 hx).1, fun x hx => h.age x (mem_dropC.1 hx).1,
    fun x y hx hy => h.one x y (mem_dropC.1 hx).1 (mem_dropC.1 hy).1, Nat.le_trans (len_dropC_le l s) h.len⟩

/-! ### what each call makes of them -/
def regC (last : Nat) (l : List Cli) (s : List UInt8) : Cli := match findC l s with
  | some c => ⟨s, c.a, last + 1, c.g⟩
  | none => ⟨s, 0, last + 1, 0⟩
theorem regC_s (last : Nat) (l : List Cli) (s : List UInt8) : (regC last l s).s = s := by
  unfold regC
  split <;> rfl
theorem CInv.reg {last : Nat} {l : List Cli} (h : CInv last l) {s : List UInt8} (hr : findC l s ≠ none ∨ l.length < 12) : CInv (last + 1) (putC l (regC last l s)) := by
  have hlen : (putC l (regC last l s)).length ≤ 12 := by
    cases hf : findC l s with
    | none =>
      rw [len_putC_new (by rw [regC_s]; exact hf)]
      rcases hr with h1 | h1
      · exact (h1 hf).elim
      · omega
    | some d =>
      obtain ⟨h1, h2⟩ := findC_mem hf
      rw [len_putC h.nod h1 (by rw [regC_s]; exact h2)]
      exact h.len
  refine h.put (Nat.le_succ _) ?_ ?_ ?_ ?_ ?_ hlen
  · unfold regC; split <;> exact Or.inr (Nat.succ_pos _)
  · unfold regC
    split
    · rename_i c hf
      have := h.le c (findC_mem hf).1
      exact ⟨by dsimp only; omega, Nat.le_refl _⟩
    · exact ⟨Nat.zero_le _, Nat.le_refl _⟩
  · unfold regC
    split
    · rename_i c hf
      have := h.le c (findC_mem hf).1
      intro _
      dsimp only
      omega
    · intro h; exact (Nat.lt_irrefl 0 h).elim
  · unfold regC
    split
    · rename_i c hf
      exact h.age c (findC_mem hf).1
    · exact ⟨Nat.succ_pos _, fun _ => rfl⟩
  · intro d hd hne
    rw [regC_s] at hne
    have hdl := h.le d hd
    unfold regC
    split
    · rename_i c hf
      obtain ⟨h1, h2⟩ := findC_mem hf
      obtain ⟨o1, _⟩ := h.one c d h1 hd (by rw [h2]; exact fun e => hne e.symm)
      exact ⟨o1, fun _ => ⟨by dsimp only; omega, by dsimp only; omega⟩⟩
    · exact ⟨fun h => (Nat.lt_irrefl 0 h).elim, fun _ => ⟨by dsimp only; omega, by dsimp only; omega⟩⟩
/-- A number is confirmed. -/
def confC (c : Cli) (id : Int) : Cli := if (c.b : Int) = id then ⟨c.s, c.b, 0, 0⟩ else ⟨c.s, c.a, c.b, 0⟩
def goneC (c : Cli) (id : Int) : Nat := if (c.b : Int) = id then c.a else 0
theorem confC_s (c : Cli) (id : Int) : (confC c id).s = c.s := by
  unfold confC
  split <;> rfl
theorem CInv.conf {last : Nat} {l : List Cli} (h : CInv last l) {c : Cli} (hc : c ∈ l) {id : Int} (hh : hasB c id = true) : CInv last (putC l (confC c id)) := by
  obtain ⟨hp, hab⟩ := hasB_iff.1 hh
  have hle := h.le c hc
  refine h.put (Nat.le_refl _) ?_ ?_ ?_ ?_ ?_ (by rw [len_putC h.nod hc (confC_s c id).symm]; exact h.len)
  · unfold confC
    split
    · left; dsimp only; omega
    · exact h.some c hc
  · unfold confC
    split
    · exact ⟨hle.2, Nat.zero_le _⟩
    · exact hle
  · unfold confC
    split
    · intro h; dsimp only at h ⊢; omega
    · exact h.ab c hc
  · unfold confC
    split <;> exact ⟨Nat.succ_pos _, fun _ => rfl⟩
  · intro d hd hne
    rw [confC_s] at hne
    obtain ⟨o1, o2⟩ := h.one c d hc hd (fun e => hne e.symm)
    unfold confC
    split
    · exact ⟨o2, fun h => (Nat.lt_irrefl 0 h).elim⟩
    · exact ⟨o1, o2⟩
/-- A lease begins anew. -/
def renC (c : Cli) : Cli := ⟨c.s, c.a, c.b, 0⟩
theorem CInv.ren {last : Nat} {l : List Cli} (h : CInv last l) {c : Cli} (hc : c ∈ l) : CInv last (putC l (renC c)) :=
  h.put (Nat.le_refl _) (h.some c hc) (h.le c hc) (h.ab c hc) ⟨Nat.succ_pos _, fun _ => rfl⟩ (fun d hd hne => h.one c d hc hd (fun e => hne e.symm)) (by rw [len_putC h.nod hc (c := renC c) rfl]; exact h.len)
/-- Ticks go by. -/
def oldC (n : Nat) (c : Cli) : Nat := if 0 < c.a then c.g + n else c.g
def overC (n : Nat) (c : Cli) : Bool := decide (60 ≤ oldC n c)
def tickC (n : Nat) (c : Cli) : Cli := if overC n c then ⟨c.s, 0, c.b, 0⟩ else ⟨c.s, c.a, c.b, oldC n c⟩
def noneC (c : Cli) : Bool := decide (c.a = 0) && decide (c.b = 0) && decide (c.g = 0)
theorem tickC_s (n : Nat) (c : Cli) : (tickC n c).s = c.s := by
  unfold tickC
  split <;> rfl
/-- What there is by a name when its ticks have gone by. -/
def keepC (l : List Cli) (c : Cli) : List Cli := if noneC c then dropC l c.s else putC l c
theorem mem_keepC {l : List Cli} {c x : Cli} : x ∈ keepC l c ↔ (noneC c = false ∧ x = c) ∨ (x ∈ l ∧ x.s ≠ c.s) := by
  unfold keepC
  cases h : noneC c
  · simp only [Bool.false_eq_true, if_false, mem_putC, true_and]
  · simp only [if_true, mem_dropC, Bool.true_eq_false, false_and, false_or]
theorem overC_pos {last n : Nat} {l : List Cli} (h : CInv last l) {c : Cli} (hc : c ∈ l) (ho : overC n c = true) : 0 < c.a := by
  unfold overC oldC at ho
  have := (h.age c hc).1
  rcases Nat.eq_zero_or_pos c.a with e | e
  · rw [if_neg (by omega)] at ho
    have := of_decide_eq_true ho
    omega
  · exact e
theorem tick_none {last n : Nat} {l : List Cli} (h : CInv last l) {c : Cli} (hc : c ∈ l) : noneC (tickC n c) = true ↔ overC n c = true ∧ c.b = 0 := by
  unfold tickC
  cases ho : overC n c with
  | true => simp [noneC]
  | false =>
    simp only [Bool.false_eq_true, if_false, false_and, iff_false, noneC, Bool.and_eq_true, decide_eq_true_eq]
    rintro ⟨⟨h1, h2⟩, _⟩
    have := h.some c hc
    omega
theorem CInv.keep {last n : Nat} {l : List Cli} (h : CInv last l) {c : Cli} (hc : c ∈ l) : CInv last (keepC l (tickC n c)) := by
  unfold keepC
  cases hz : noneC (tickC n c) with
  | true => exact h.drop _
  | false =>
    simp only [Bool.false_eq_true, if_false]
    have hle := h.le c hc
    have hnz : ¬ (overC n c = true ∧ c.b = 0) := fun e => by rw [(tick_none h hc).2 e] at hz; cases hz
    have hm := h.some c hc
    have hg := h.age c hc
    have hab := h.ab c hc
    refine h.put (Nat.le_refl _) ?_ ?_ ?_ ?_ ?_ (by rw [len_putC h.nod hc (tickC_s n c).symm]; exact h.len)
    · unfold tickC
      split
      · rename_i ho
        right
        have : c.b ≠ 0 := fun e => hnz ⟨ho, e⟩
        dsimp only
        omega
      · exact hm
    · unfold tickC
      split
      · exact ⟨Nat.zero_le _, hle.2⟩
      · exact hle
    · unfold tickC
      split
      · intro h; exact (Nat.lt_irrefl 0 h).elim
      · exact hab
    · unfold tickC
      split
      · exact ⟨Nat.succ_pos _, fun _ => rfl⟩
      · rename_i ho
        have : ¬ 60 ≤ oldC n c := fun e => ho (decide_eq_true e)
        refine ⟨by dsimp only; omega, fun e => ?_⟩
        dsimp only at e ⊢
        unfold oldC
        rw [if_neg (by omega)]
        exact hg.2 e
    · intro d hd hne
      rw [tickC_s] at hne
      obtain ⟨o1, o2⟩ := h.one c d hc hd (fun e => hne e.symm)
      unfold tickC
      split
      · exact ⟨fun h => (Nat.lt_irrefl 0 h).elim, o2⟩
      · exact ⟨o1, o2⟩
end Go.Proofs.YtaipigiinljpkaaGreatDoor
