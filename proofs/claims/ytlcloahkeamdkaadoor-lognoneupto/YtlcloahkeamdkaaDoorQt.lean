/- A region that draws its order, whose first operations only read and are needed by all that stands behind them: these first, in the order of the text; then whatever is left. No program is named here. -/
import Derived.Test.YtlcloahkeamdkaaDoorQo
namespace Go.Proofs.YtlcloahkeamdkaaDoor
open Go Go.RowKit Go.Deep

section
variable {P : Program} {ops : Array Oper} {md : Region.Mode} {C : World → Prop} {Q' : Exit → Act → World → Prop} {k0 k : Nat}
/-- All of the first operations are done. -/
def FullT (k0 k : Nat) (listed : Array Bool) : Prop := ∀ i, k0 ≤ i → i < k → listed.getD i false = true
def wpAnyT (P : Program) (md : Region.Mode) (ops : Array Oper) (C : World → Prop) (Q' : Exit → Act → World → Prop) (k0 k : Nat) : Nat → Array Bool → Act → Prop
  | 0, listed, a => FullT k0 k listed ∧ ∀ w, C w → wpAny P md ops Q' 0 listed a w
  | fuel + 1, listed, a => (FullT k0 k listed ∧ ∀ w, C w → wpAny P md ops Q' (fuel + 1) listed a w) ∨
    (Region.ready md ops listed ≠ [] ∧ ∀ i ∈ Region.ready md ops listed, qOp P ops C i (wpAnyT P md ops C Q' k0 k fuel (listed.setIfInBounds i true)) a)
theorem wpAny_of_T : ∀ (fuel : Nat) (listed : Array Bool) (a : Act) (w : World), C w → wpAnyT P md ops C Q' k0 k fuel listed a → wpAny P md ops Q' fuel listed a w
  | 0, _, _, w, hw, h => h.2 w hw
  | fuel + 1, _, _, w, hw, h => by
    rcases h with h | ⟨h1, h2⟩
    · exact h.2 w hw
    · exact ⟨fun h0 => absurd h0 h1, fun i hi => wpOp_of_qOp hw (fun a' w' hw' => wpAny_of_T fuel _ a' w' hw') (h2 i hi)⟩
/-- Whatever is done had all done that it needs; of what stands behind nothing is done; what stands ahead is done. -/
structure InT (md : Region.Mode) (ops : Array Oper) (k0 k : Nat) (listed : Array Bool) : Prop where
  dcl : ∀ j oj, ops[j]? = some oj → listed.getD j false = true → ∀ e ∈ oj.after, Region.binds md e = true → listed.getD e.on false = true
  ntl : ∀ j, k ≤ j → listed.getD j false = false
  pre : ∀ j, j < k0 → listed.getD j false = true
  len : listed.size = ops.size
def chkT (md : Region.Mode) (ops : Array Oper) (k0 k : Nat) : Bool :=
  (List.range k).all fun i => decide (i < k0) || ((List.range k).any fun j => decide (i < j) && match ops[j]? with | some oj => oj.after.any (fun e => Region.binds md e && e.on == i) | none => false) ||
    ((List.range ops.size).all fun j => decide (j < k) || match ops[j]? with | some oj => oj.after.any (fun e => Region.binds md e && (e.on == i || decide (k ≤ e.on))) | none => true)
theorem full_of_tail {listed : Array Bool} (h : InT md ops k0 k listed) (hc : chkT md ops k0 k = true) {j : Nat} (hj : j ∈ Region.ready md ops listed) (hk : k ≤ j) : FullT k0 k listed := by
  obtain ⟨_, oj, hoj, hall⟩ := mem_ready.1 hj
  have hjs : j < ops.size := (Array.getElem?_eq_some_iff.1 hoj).1
  have step : ∀ m i, k0 ≤ i → i < k → k ≤ i + m → listed.getD i false = true := by
    intro m
    induction m with
    | zero => intro i _ h1 h2; omega
    | succ m ih =>
      intro i hi0 hik him
      have c := List.all_eq_true.1 hc i (List.mem_range.2 hik)
      simp only [Bool.or_eq_true, decide_eq_true_eq, List.any_eq_true, List.mem_range, Bool.and_eq_true, List.all_eq_true] at c
      rcases c with (c | ⟨q, hq, hiq, c⟩) | c
      · omega
      · cases hoq : ops[q]? with
        | none => rw [hoq] at c; cases c
        | some oq =>
          rw [hoq] at c
          obtain ⟨e, he, hb⟩ := Array.any_eq_true'.1 c
          simp only [Bool.and_eq_true, beq_iff_eq] at hb
          have := h.dcl q oq hoq (ih q (by omega) hq (by omega)) e he hb.1
          rw [hb.2] at this
          exact this
      · rcases c j hjs with c | c
        · omega
        · rw [hoj] at c
          obtain ⟨e, he, hb⟩ := Array.any_eq_true'.1 c
          simp only [Bool.and_eq_true, Bool.or_eq_true, beq_iff_eq, decide_eq_true_eq] at hb
          have h1 := hall e he hb.1
          rcases hb.2 with e1 | e1
          · rw [e1] at h1
            exact h1
          · rw [h.ntl e.on e1] at h1
            cases h1
  exact fun i hi0 hik => step (k - i) i hi0 hik (by omega)
theorem InT.set {listed : Array Bool} (h : InT md ops k0 k listed) {j : Nat} (hj : j ∈ Region.ready md ops listed) (hk : j < k) : InT md ops k0 k (listed.setIfInBounds j true) := by
  obtain ⟨_, oj, hoj, hall⟩ := mem_ready.1 hj
  refine ⟨fun q oq hq hl e he hb => ?_, fun q hq => ?_, fun q hq => getD_set_true (h.pre q hq), by rw [Array.size_setIfInBounds]; exact h.len⟩
  · by_cases e1 : j = q
    · subst e1
      obtain rfl : oq = oj := Option.some.inj (hq.symm.trans hoj)
      exact getD_set_true (hall e he hb)
    · rw [getD_set_ne false e1] at hl
      exact getD_set_true (h.dcl q oq hq hl e he hb)
  · rw [getD_set_ne false (by omega)]
    exact h.ntl q hq
theorem wpAnyT_first {i : Nat} {oi : Oper} {v : Value} (hi : ops[i]? = some oi) (hsel : ∀ (j : Nat) (o : Oper) cs b, ops[j]? = some o → o.op ≠ .select cs b) (hk0 : k0 ≤ i) (hik : i < k) (hc : chkT md ops k0 k = true) :
    ∀ (fuel : Nat) (listed : Array Bool) (a : Act), InT md ops k0 k listed →
      (∀ j oj, ops[j]? = some oj → j ≠ i → listed.getD j true = false → (∀ e ∈ oj.after, Region.binds md e = true → e.on ≠ i) → oi.apart ops oj = true) →
      i ∈ Region.ready md ops listed → YieldsIn P ops C oi v a →
      wpAnyT P md ops C Q' k0 k fuel (listed.setIfInBounds i true) (a.put oi.dst v) → wpAnyT P md ops C Q' k0 k (fuel + 1) listed a := by
  have hun : ∀ {listed : Array Bool}, i ∈ Region.ready md ops listed → listed.getD i false = false := fun {listed} hr => by
    have h0 := (mem_ready.1 hr).1
    rcases Nat.lt_or_ge i listed.size with h' | h'
    · simp [h'] at h0 ⊢; exact h0
    · simp [Array.getElem?_eq_none h'] at h0
  have low : ∀ {listed : Array Bool}, InT md ops k0 k listed → i ∈ Region.ready md ops listed → ∀ j ∈ Region.ready md ops listed, j < k := fun {listed} hI hr j hj => by
    rcases Nat.lt_or_ge j k with h | h
    · exact h
    · have := full_of_tail hI hc hj h i hk0 hik
      rw [hun hr] at this
      cases this
  have alone : ∀ {listed : Array Bool}, InT md ops k0 k listed → i ∈ Region.ready md ops listed → FullT k0 k (listed.setIfInBounds i true) → ∀ j ∈ Region.ready md ops listed, j = i := fun {listed} hI hr hF j hj => by
    refine Decidable.byContradiction fun hji => ?_
    have hjk := low hI hr j hj
    have h0 := (mem_ready.1 hj).1
    have h1 : listed.getD j false = true := by
      rcases Nat.lt_or_ge j k0 with h | h
      · exact hI.pre j h
      · have := hF j h hjk
        rwa [getD_set_ne false (Ne.symm hji)] at this
    rcases Nat.lt_or_ge j listed.size with h' | h'
    · simp [h'] at h0 h1; rw [h0] at h1; cases h1
    · simp [Array.getElem?_eq_none h'] at h1
  intro fuel
  induction fuel with
  | zero =>
    intro listed a hI _ hr hy H
    refine Or.inr ⟨fun h => (by rw [h] at hr; cases hr), fun j hj => ?_⟩
    obtain rfl := alone hI hr H.1 j hj
    exact hy.qOp hi H
  | succ fuel ih =>
    intro listed a hI hfree hr hy H
    refine Or.inr ⟨fun h => (by rw [h] at hr; cases hr), fun j hj => ?_⟩
    by_cases hji : j = i
    · subst hji; exact hy.qOp hi H
    · rcases H with H | ⟨_, H⟩
      · exact absurd (alone hI hr H.1 j hj) hji
      · have h1 := H j (ready_mono hj hji)
        obtain ⟨hjun, oj, hoj, hall⟩ := mem_ready.1 hj
        have hnot : ∀ e ∈ oj.after, Region.binds md e = true → e.on ≠ i := fun e he hb heq => by
          have h1 := hall e he hb
          rw [heq, hun hr] at h1
          cases h1
        have hap := hfree j oj hoj hji hjun hnot
        have h2 := qOp_put hoj hap (fun cs b => hsel i oi cs b hi) (fun cs b => hsel j oj cs b hoj) hy h1
        have hfree' : ∀ q oq, ops[q]? = some oq → q ≠ i → (listed.setIfInBounds j true).getD q true = false →
            (∀ e ∈ oq.after, Region.binds md e = true → e.on ≠ i) → oi.apart ops oq = true := fun q oq hq hqi hun hno => by
          refine hfree q oq hq hqi ?_ hno
          by_cases hjq : j = q
          · subst hjq; exact hjun
          · rw [getD_set_ne true hjq] at hun; exact hun
        refine qOp_mono (fun a' h3 => ih (listed.setIfInBounds j true) a' (hI.set hj (low hI hr j hj)) hfree' (ready_mono hr (Ne.symm hji)) h3.1 ?_) h2
        rw [Array.setIfInBounds_comm _ _ hji]
        exact h3.2
/-- The first so many are marked. -/
def markT : Nat → Nat → Array Bool → Array Bool
  | 0, _, listed => listed
  | n + 1, i, listed => markT n (i + 1) (listed.setIfInBounds i true)
def lexT (md : Region.Mode) (ops : Array Oper) : Nat → Nat → Array Bool → Bool
  | 0, _, _ => true
  | n + 1, i, listed => (Region.ready md ops listed).contains i && Region.free md ops listed i && lexT md ops n (i + 1) (listed.setIfInBounds i true)
theorem wpAnyT_lex (hs : Region.noSelect ops = true) (hc : chkT md ops k0 k = true) (rest : Nat) : ∀ (l : List Oper) (i : Nat) (listed : Array Bool) (a : Act), k0 ≤ i → i + l.length = k → InT md ops k0 k listed → (∀ j, k0 ≤ j → j < i → listed.getD j false = true) → (∀ j, j < l.length → l[j]? = ops[i + j]?) →
    lexT md ops l.length i listed = true → wpQuiet P ops C (fun a' => ∀ w, C w → wpAny P md ops Q' rest (markT l.length i listed) a' w) l a → wpAnyT P md ops C Q' k0 k (l.length + rest) listed a
  | [], i, listed, a, hi, hk, hI, hd, hl, hB, h => by
    have hF : FullT k0 k listed := fun j h1 h2 => hd j h1 (by simp at hk; omega)
    have h' : ∀ w, C w → wpAny P md ops Q' rest listed a w := h
    show wpAnyT P md ops C Q' k0 k (0 + rest) listed a
    rw [Nat.zero_add]
    cases rest with
    | zero => exact ⟨hF, h'⟩
    | succ r => exact Or.inl ⟨hF, h'⟩
  | o1 :: l, i, listed, a, hi, hk, hI, hd, hl, hB, h => by
    have h0 : ops[i]? = some o1 := by simpa using (hl 0 (by simp)).symm
    rw [List.length_cons, lexT, Bool.and_eq_true, Bool.and_eq_true] at hB
    obtain ⟨⟨hr, hf⟩, hB'⟩ := hB
    have hr' : i ∈ Region.ready md ops listed := by simpa using hr
    have hik : i < k := by simp at hk; omega
    have hst : qOp P ops C i (wpQuiet P ops C (fun a' => ∀ w, C w → wpAny P md ops Q' rest (markT l.length (i + 1) (listed.setIfInBounds i true)) a' w) l) a := by unfold qOp; simp only [h0]; exact h
    obtain ⟨v, hy, hK⟩ := yieldsIn_of_qOp h0 hst
    have hm : i < listed.size := by rw [hI.len]; exact (Array.getElem?_eq_some_iff.1 h0).1
    have := wpAnyT_first (Q' := Q') (k0 := k0) (k := k) h0 (Region.noSelect_spec hs) hi hik hc (l.length + rest) listed a hI (Region.free_spec h0 hf) hr' hy
      (wpAnyT_lex hs hc rest l (i + 1) _ _ (by omega) (by simp at hk; omega) (hI.set hr' hik) (fun j h1 h2 => by
        by_cases e : i = j
        · subst e; simp [hm]
        · exact getD_set_true (hd j h1 (by omega))) (fun j hj => by have := hl (j + 1) (by simp; omega); simpa [Nat.add_assoc, Nat.add_comm 1 j] using this) hB' hK)
    rw [List.length_cons, Nat.add_right_comm]
    exact this
/-- The first operations in the order of the text, in every world of the class; then whatever is left. -/
theorem wpAny_pre {listed : Array Bool} {a : Act} {w : World} (l : List Oper) (rest fuel : Nat) (hfu : fuel = l.length + rest) (hk : k0 + l.length = k) (hs : Region.noSelect ops = true) (hc : chkT md ops k0 k = true) (hI : InT md ops k0 k listed) (hl : ∀ j, j < l.length → l[j]? = ops[k0 + j]?) (hB : lexT md ops l.length k0 listed = true) (hC : C w)
    (h : wpQuiet P ops C (fun a' => ∀ w, C w → wpAny P md ops Q' rest (markT l.length k0 listed) a' w) l a) : wpAny P md ops Q' fuel listed a w := by
  subst hfu
  exact wpAny_of_T _ _ _ _ hC (wpAnyT_lex hs hc rest l k0 listed a (Nat.le_refl _) hk hI (fun j h1 h2 => by omega) hl hB h)
def inTB (md : Region.Mode) (ops : Array Oper) (k0 k : Nat) (listed : Array Bool) : Bool :=
  (listed.size == ops.size) && ((List.range ops.size).all fun j => match ops[j]? with | some oj => !(listed.getD j false) || oj.after.all (fun e => !(Region.binds md e) || listed.getD e.on false) | none => true) &&
    ((List.range ops.size).all fun j => decide (j < k) || !(listed.getD j false)) && ((List.range k0).all fun j => listed.getD j false)
theorem InT.of {listed : Array Bool} (h : inTB md ops k0 k listed = true) : InT md ops k0 k listed := by
  simp only [inTB, Bool.and_eq_true, List.all_eq_true, List.mem_range, beq_iff_eq, Bool.or_eq_true, decide_eq_true_eq, Bool.not_eq_true'] at h
  obtain ⟨⟨⟨h1, h2⟩, h3⟩, h4⟩ := h
  refine ⟨fun j oj hj hl e he hb => ?_, fun j hj => ?_, fun j hj => h4 j hj, h1⟩
  · have := h2 j (Array.getElem?_eq_some_iff.1 hj).1
    rw [hj] at this
    simp only [Bool.or_eq_true, Bool.not_eq_true'] at this
    rcases this with this | this
    · rw [hl] at this; cases this
    · have := Array.all_eq_true'.1 this e he
      simp only [Bool.or_eq_true, Bool.not_eq_true'] at this
      rcases this with this | this
      · rw [hb] at this; cases this
      · exact this
  · rcases Nat.lt_or_ge j ops.size with hjs | hjs
    · rcases h3 j hjs with h | h
      · omega
      · exact h
    · have : listed.size ≤ j := by omega
      simp [Array.getElem?_eq_none this]
theorem wpAny_pre2 {listed : Array Bool} {a : Act} {w0 w : World} (n rest fuel : Nat) (hfu : fuel = n + rest) (hn : k0 + n ≤ ops.size) (hs : Region.noSelect ops = true) (hc : chkT md ops k0 (k0 + n) = true) (hI : inTB md ops k0 (k0 + n) listed = true) (hB : lexT md ops n k0 listed = true) (hC : Only [] w0 w)
    (h : wpQuiet P ops (fun w' => ∃ p : OnlyBy w0, w' = p.w) (fun a' => ∀ w', (∃ p : OnlyBy w0, w' = p.w) → wpAny P md ops Q' rest (markT n k0 listed) a' w') ((ops.toList.drop k0).take n) a) : wpAny P md ops Q' fuel listed a w := by
  have hlen : ((ops.toList.drop k0).take n).length = n := by simp; omega
  refine wpAny_pre (C := fun w' => ∃ p : OnlyBy w0, w' = p.w) (k0 := k0) (k := k0 + n) ((ops.toList.drop k0).take n) rest fuel (by rw [hlen]; exact hfu) (by rw [hlen]) hs hc (InT.of hI) (fun j hj => ?_) (by rw [hlen]; exact hB) ⟨⟨w, hC⟩, rfl⟩ (by rw [hlen]; exact h)
  rw [hlen] at hj
  rw [List.getElem?_take_of_lt hj, List.getElem?_drop]
  simp
end
end Go.Proofs.YtlcloahkeamdkaaDoor
