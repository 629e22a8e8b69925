/- Shares: slices.Insert of one open. -/
import Derived.Test.YtagpahgjbglmaaaDoorSh1
import Derived.Shelf.Spec.SlicesInsert
import Derived.Lib.AppendZerosOnto
import Derived.Lib.Overlaps
namespace Go.Proofs.YtagpahgjbglmaaaDoor
open Go Go.RowKit Go.Deep

theorem only_drew_of {w w' : World} {L : List Nat} (h : Only L w w') : Only L w w'.drew := h.drew
/-- One put in. -/
def insAt (l : List Opn) (i : Nat) (o : Opn) : List Opn := l.take i ++ o :: l.drop i
theorem insAt_len {l : List Opn} {i : Nat} {o : Opn} (hi : i ≤ l.length) : (insAt l i o).length = l.length + 1 := by
  simp only [insAt, List.length_append, List.length_cons, List.length_take, List.length_drop]
  omega
/-- A block with one open. -/
def OneAt (w : World) (vb : Nat) (o : Opn) : Prop := w.heap[vb]? = some (.cells (opC o).toArray 52 (0, 0))
theorem OneAt.cells {w : World} {vb : Nat} {o : Opn} (h : OneAt w vb o) : ∀ j u, (opC o)[j]? = some u → w.cell? ((⟨vb, 0, none⟩ : Addr).add j) = some u := fun j u hu => by
  rw [add_none, cell_of_row _ _ _ _ _ _ h, Nat.zero_add]
  simpa using hu
theorem OneAt.only {w w' : World} {vb : Nat} {o : Opn} {L : List Nat} (h : OneAt w vb o) (ho : Only L w w') (hn : vb ∉ L) : OneAt w' vb o := (ho.block vb (Array.getElem?_eq_some_iff.1 h).1 hn).trans h
/-- What an insertion leaves. -/
def Inserted (w w' : World) (base : Nat) (v v' : Value) (l : List Opn) : Prop := Opns w' base v' l ∧ Only v.ownBlock.toList w w' ∧ (v'.ownBlock = v.ownBlock ∨ ∃ k, v'.ownBlock = some k ∧ w.heap.size ≤ k)
theorem opInfo' : ∃ i0, Tryd.prog.info? 52 = some i0 ∧ i0.zero = some (.agg #[.int .i64 0, .int .i64 0, .int .i64 0, .int .i64 0, .int .i64 0]) ∧ i0.size = 5 ∧ i0.bytes = 40 := by
  obtain ⟨i0, hi0, hz⟩ := Option.map_eq_some_iff.1 opInfo
  simp only [Prod.mk.injEq] at hz
  exact ⟨i0, hi0, hz⟩
set_option maxRecDepth 100000 in
set_option maxHeartbeats 2000000 in
theorem insert_end (w : World) (base vb : Nat) (v : Value) (l : List Opn) (o : Opn) (h : Opns w base v l) (hl : l.length ≤ 1000) (ho : OneAt w vb o) (hb : base ≤ w.heap.size) :
    Calls Tryd.prog 29 #[v, .int .i64 l.length, .slice (some ⟨vb, 0, none⟩) 1 1] w fun e w' => ∃ v', e = .returned v' ∧ Inserted w w' base v v' (insAt l l.length o) := by
  obtain ⟨i0, hi0, hz0, hz1, hz2⟩ := opInfo'
  have HO : Hid (OneAt w vb o) := ho
  have H : Hid (Opns w base v l) := h
  have hop := h.open
  clear h ho
  have fin : ∀ g cp w', w'.ownsRow base 52 5 (.slice (some ⟨g, 0, none⟩) (l.length + 1) cp) (l.length + 1) (rowOf opC l ++ opC o) → w.grownBy w' v.ownBlock → (v.ownBlock = some g ∨ g = w.heap.size) → Inserted w w' base v (.slice (some ⟨g, 0, none⟩) (l.length + 1) cp) (insAt l l.length o) := fun g cp w' h1 h2 h3 => by
    have e : insAt l l.length o = l ++ [o] := by simp [insAt]
    refine ⟨?_, (Only.refl _ w).grown h2 (fun k hk => Or.inl (by rw [hk]; simp)), ?_⟩
    · unfold Opns
      rw [e, rowOf_append]
      simpa [rowOf] using h1
    · rcases h3 with h3 | h3
      · exact Or.inl h3.symm
      · exact Or.inr ⟨g, rfl, by omega⟩
  have HF : Hid (∀ g cp w', w'.ownsRow base 52 5 (.slice (some ⟨g, 0, none⟩) (l.length + 1) cp) (l.length + 1) (rowOf opC l ++ opC o) → w.grownBy w' v.ownBlock → (v.ownBlock = some g ∨ g = w.heap.size) → Inserted w w' base v (.slice (some ⟨g, 0, none⟩) (l.length + 1) cp) (insAt l l.length o)) := fin
  clear fin
  rcases hop with ⟨rfl, rfl⟩ | ⟨g, cap, cur, rfl, _, _, _, hnc, hcm, _, _⟩
  · go_enter Tryd.func29, Tryd.ntmps29
    go_wp2_with (at_builtin; refine wpList_append_lies _ rfl (.tmp 23) (.tmp 24) 25 rfl base 52 i0 _ 5 40 opsUnd hi0 hz0 hz1 hz2 rfl (by decide) _ 0 [] rfl H.out ⟨vb, 0, none⟩ 1 1 (opC o) rfl rfl HO.out.cells (opC_one o) (by decide) (by unfold maxLen; omega) (by omega) hb _ rfl ?_; intro gl cp w6 hown6 hgr6 hat6 hlt6; have HX : Hid (Inserted w w6 base (.slice none 0 0) (.slice (some ⟨gl, 0, none⟩) 1 cp) (insAt [] 0 o)) := HF.out gl cp w6 hown6 hgr6 hat6; clear hown6 hgr6 hat6 hlt6)
    go_ret
    exact ⟨_, rfl, HX.out⟩
  · unfold maxLen at hcm
    have hcap : (cap : Int) ≤ 9223372036854775807 := by omega
    obtain ⟨n, hn⟩ : ∃ n, l.length = n := ⟨_, rfl⟩
    rw [hn] at H HF hl hnc ⊢
    have HL : Hid (l.length = n) := hn
    clear hn
    go_enter Tryd.func29, Tryd.ntmps29
    go_wp2_with (at_builtin; refine wpList_append_lies _ rfl (.tmp 23) (.tmp 24) 25 rfl base 52 i0 _ 5 40 opsUnd hi0 hz0 hz1 hz2 rfl (by decide) _ n (rowOf opC l) rfl (by have := H.out; unfold Opns at this; rw [HL.out] at this; exact this) ⟨vb, 0, none⟩ 1 1 (opC o) rfl rfl HO.out.cells (opC_one o) (by decide) (by unfold maxLen; omega) (by omega) hb _ rfl ?_; intro gl cp w6 hown6 hgr6 hat6 hlt6; have HX : Hid (Inserted w w6 base (.slice (some ⟨g, 0, none⟩) n cap) (.slice (some ⟨gl, 0, none⟩) (n + 1) cp) (insAt l n o)) := HF.out gl cp w6 hown6 hgr6 hat6; clear hown6 hgr6 hat6 hlt6)
    all_goals go_ret
    all_goals exact ⟨.slice (some ⟨gl, 0, none⟩) (n + 1) cp, rfl, HX.out⟩
end Go.Proofs.YtagpahgjbglmaaaDoor
