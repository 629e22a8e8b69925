/- A net: the program's Take, Drop, Twice, For, List. -/
import Derived.Test.YtkfelijpajdcoaaDoorNe9
namespace Go.Proofs.YtkfelijpajdcoaaDoor
open Go Go.RowKit Go.Deep

theorem only_nil {a b c : World} (h : Only [] a b) (k : Only [] b c) : Only [] a c := h.trans k (fun _ hk => by cases hk)
def inN (l : List Msg) (i : Int) : Prop := 0 ≤ i ∧ i < l.length
set_option maxHeartbeats 2000000 in
theorem take_none (A : Nat → Addr) (w : World) (base t : Nat) (v : Value) (l : List Msg) (i : Int) (hE : Errs w A) (h : PNet w base t v l) (hi : ¬ inN l i) : Calls Tryd.prog 9 #[.pointer (some ⟨t, 0, none⟩), .int .i64 i] w fun e w' => e = .returned (.tuple #[.agg #[.string ⟨#[]⟩, .string ⟨#[]⟩, .string ⟨#[]⟩], sErr A 4]) ∧ Only [] w w' := by
  have o1 : Only [] w ((w.alloc (.cells #[.string ⟨#[]⟩, .string ⟨#[]⟩, .string ⟨#[]⟩] 40)).alloc (.cells #[.string ⟨#[]⟩, .string ⟨#[]⟩, .string ⟨#[]⟩] 40)) := ((Only.refl [] w).alloc _).alloc _
  have HO : Hid (Only [] w ((w.alloc (.cells #[.string ⟨#[]⟩, .string ⟨#[]⟩, .string ⟨#[]⟩] 40)).alloc (.cells #[.string ⟨#[]⟩, .string ⟨#[]⟩, .string ⟨#[]⟩] 40))) := o1
  have HB : Hid (∀ w2, Only [] ((w.alloc (.cells #[.string ⟨#[]⟩, .string ⟨#[]⟩, .string ⟨#[]⟩] 40)).alloc (.cells #[.string ⟨#[]⟩, .string ⟨#[]⟩, .string ⟨#[]⟩] 40)) w2 → MBox 40 w2 w.heap.size ⟨⟨#[]⟩, ⟨#[]⟩, ⟨#[]⟩⟩ ∧ MBox 40 w2 (w.heap.size + 1) ⟨⟨#[]⟩, ⟨#[]⟩, ⟨#[]⟩⟩) := fun w2 ho => by
    have h1 := heap_alloc_last w (.cells #[.string ⟨#[]⟩, .string ⟨#[]⟩, .string ⟨#[]⟩] 40)
    have h2 := heap_alloc_last (w.alloc (.cells #[.string ⟨#[]⟩, .string ⟨#[]⟩, .string ⟨#[]⟩] 40)) (.cells #[.string ⟨#[]⟩, .string ⟨#[]⟩, .string ⟨#[]⟩] 40)
    rw [World.size_alloc] at h2
    exact ⟨MBox.kept (MBox.kept (x := ⟨⟨#[]⟩, ⟨#[]⟩, ⟨#[]⟩⟩) h1 ((Only.refl [] _).alloc _) (by simp)) ho (by simp), MBox.kept (x := ⟨⟨#[]⟩, ⟨#[]⟩, ⟨#[]⟩⟩) h2 ho (by simp)⟩
  have hr := fun f => replace_none A _ base t v f l i (hE.below (o1.to_below (Nat.le_refl _) (fun k hk => by cases hk)) (Nat.le_refl _)) (h.only o1 (by simp) (fun _ _ => by simp)) (by unfold inN at hi; omega)
  unfold sErr at hr ⊢
  clear h hE hi o1
  go_enter Tryd.func9, Tryd.ntmps9
  go_wp2_with (go_at_call 21; refine (hr _).mono ?_; rintro e w2 ⟨rfl, ho⟩; obtain ⟨hb1, hb2⟩ := HB.out w2 ho; have HB1 : Hid (MBox 40 w2 w.heap.size ⟨⟨#[]⟩, ⟨#[]⟩, ⟨#[]⟩⟩) := hb1; have HW2 : Hid (Only [] w w2) := only_nil HO.out ho; obtain ⟨k0, k1, k2⟩ := MBox.cells hb2; obtain ⟨j0, j1, j2⟩ := MBox.cells hb1; have f0 := frozen_of_row w2 w.heap.size 0 _ _ hb1; have f1 := frozen_of_row w2 w.heap.size 1 _ _ hb1; have f2 := frozen_of_row w2 w.heap.size 2 _ _ hb1; have hl2 := lt_of_cell j0; clear hr ho hb1 hb2)
  obtain ⟨h3, o3⟩ := set3 (a0 := .string ⟨#[]⟩) (a1 := .string ⟨#[]⟩) (a2 := .string ⟨#[]⟩) HB1.out
  have HF : Hid (Only [] w (((w2.setCell ⟨w.heap.size, 0, none⟩ (.string ⟨#[]⟩)).setCell ⟨w.heap.size, 1, none⟩ (.string ⟨#[]⟩)).setCell ⟨w.heap.size, 2, none⟩ (.string ⟨#[]⟩))) := HW2.out.trans o3 (fun k hk => Or.inr (by simp at hk; omega))
  obtain ⟨z0, z1, z2⟩ := MBox.cells (x := ⟨⟨#[]⟩, ⟨#[]⟩, ⟨#[]⟩⟩) h3
  clear h3 o3 k0 k1 k2 j0 j1 j2 f0 f1 f2 hl2
  generalize (((w2.setCell ⟨w.heap.size, 0, none⟩ (.string ⟨#[]⟩)).setCell ⟨w.heap.size, 1, none⟩ (.string ⟨#[]⟩)).setCell ⟨w.heap.size, 2, none⟩ (.string ⟨#[]⟩)) = wf at HF z0 z1 z2 ⊢
  refine bodyPost_ret (v := .tuple #[.agg #[.string ⟨#[]⟩, .string ⟨#[]⟩, .string ⟨#[]⟩], .iface 121 (.pointer (some (A 4)))]) (by simp [results, Tryd.results9, go_sem, z0, z1, z2]) rfl ⟨rfl, HF.out⟩
set_option maxHeartbeats 2000000 in
theorem take_ok (w : World) (base t : Nat) (v : Value) (l : List Msg) (i : Nat) (x : Msg) (h : PNet w base t v l) (hx : l[i]? = some x) (hl : l.length ≤ 100) : Calls Tryd.prog 9 #[.pointer (some ⟨t, 0, none⟩), .int .i64 i] w fun e w' => e = .returned (.tuple #[.agg #[.string x.F, .string x.T, .string x.X], .nilIface]) ∧ ∃ v', PNet w' base t v' (l.take i ++ l.drop (i + 1)) ∧ Only (t :: v.ownBlock.toList) w w' := by
  have htl := (Array.getElem?_eq_some_iff.1 h.blk).1
  have hgl : ∀ k, v.ownBlock = some k → k < w.heap.size := fun k hk => by
    rcases RowM.open h.own with ⟨h1, _⟩ | ⟨g, cap, cur, h1, _, h3, _⟩
    · rw [h1] at hk; cases hk
    · rw [h1] at hk; cases hk; exact h3
  have o1 : Only [] w ((w.alloc (.cells #[.string ⟨#[]⟩, .string ⟨#[]⟩, .string ⟨#[]⟩] 40)).alloc (.cells #[.string ⟨#[]⟩, .string ⟨#[]⟩, .string ⟨#[]⟩] 40)) := ((Only.refl [] w).alloc _).alloc _
  have h1 := heap_alloc_last w (.cells #[.string ⟨#[]⟩, .string ⟨#[]⟩, .string ⟨#[]⟩] 40)
  have h2 := heap_alloc_last (w.alloc (.cells #[.string ⟨#[]⟩, .string ⟨#[]⟩, .string ⟨#[]⟩] 40)) (.cells #[.string ⟨#[]⟩, .string ⟨#[]⟩, .string ⟨#[]⟩] 40)
  rw [World.size_alloc] at h2
  have h1' := MBox.kept (x := ⟨⟨#[]⟩, ⟨#[]⟩, ⟨#[]⟩⟩) h1 ((Only.refl [] _).alloc (.cells #[.string ⟨#[]⟩, .string ⟨#[]⟩, .string ⟨#[]⟩] 40)) (by simp)
  have hr := replace_take _ base t (w.heap.size + 1) v l i x (h.only o1 (by simp) (fun _ _ => by simp)) hx hl ⟨⟨⟨#[]⟩, ⟨#[]⟩, ⟨#[]⟩⟩, h2⟩ (by omega) (fun e => by have := hgl _ e; omega)
  have HB : Hid (∀ w2, Only ((w.heap.size + 1) :: t :: v.ownBlock.toList) ((w.alloc (.cells #[.string ⟨#[]⟩, .string ⟨#[]⟩, .string ⟨#[]⟩] 40)).alloc (.cells #[.string ⟨#[]⟩, .string ⟨#[]⟩, .string ⟨#[]⟩] 40)) w2 → MBox 40 w2 w.heap.size ⟨⟨#[]⟩, ⟨#[]⟩, ⟨#[]⟩⟩ ∧ Only (t :: v.ownBlock.toList) w w2) := fun w2 ho => by
    refine ⟨MBox.kept h1' ho (fun hm => ?_), (o1.mono (L' := t :: v.ownBlock.toList) (fun _ hk => by cases hk)).trans ho (fun k hk => ?_)⟩
    · rcases List.mem_cons.1 hm with e | e
      · omega
      · rcases List.mem_cons.1 e with e | e
        · omega
        · have := hgl _ (by simpa using e)
          omega
    · rcases List.mem_cons.1 hk with e | e
      · exact Or.inr (by omega)
      · exact Or.inl e
  have HG : Hid (t < w.heap.size ∧ ∀ k, v.ownBlock = some k → k < w.heap.size) := ⟨htl, hgl⟩
  clear h hx hl o1 h1 h2 h1' htl hgl
  go_enter Tryd.func9, Tryd.ntmps9
  go_wp2_with (go_at_call 21; refine hr.mono ?_; rintro e w2 ⟨rfl, hm, v2, hp, hvk, ho⟩; obtain ⟨hb1, how⟩ := HB.out w2 ho; have HB1 : Hid (MBox 40 w2 w.heap.size ⟨⟨#[]⟩, ⟨#[]⟩, ⟨#[]⟩⟩) := hb1; have HP : Hid (PNet w2 base t v2 (l.take i ++ l.drop (i + 1)) ∧ Only (t :: v.ownBlock.toList) w w2) := ⟨hp, how⟩; have HV : Hid (∀ k, v2.ownBlock = some k → k ≠ w.heap.size) := (fun k hk e => by rcases hvk k hk with h1 | h1; exact absurd (HG.out.2 k h1) (by omega); rw [World.size_alloc, World.size_alloc] at h1; omega); obtain ⟨k0, k1, k2⟩ := MBox.cells hm; obtain ⟨j0, j1, j2⟩ := MBox.cells hb1; have f0 := frozen_of_row w2 w.heap.size 0 _ _ hb1; have f1 := frozen_of_row w2 w.heap.size 1 _ _ hb1; have f2 := frozen_of_row w2 w.heap.size 2 _ _ hb1; have hl2 := lt_of_cell j0; clear hr ho hb1 hm hp how hvk)
  obtain ⟨h3, o3⟩ := set3 (a0 := .string x.F) (a1 := .string x.T) (a2 := .string x.X) HB1.out
  have HF : Hid (PNet (((w2.setCell ⟨w.heap.size, 0, none⟩ (.string x.F)).setCell ⟨w.heap.size, 1, none⟩ (.string x.T)).setCell ⟨w.heap.size, 2, none⟩ (.string x.X)) base t v2 (l.take i ++ l.drop (i + 1)) ∧ Only (t :: v.ownBlock.toList) w (((w2.setCell ⟨w.heap.size, 0, none⟩ (.string x.F)).setCell ⟨w.heap.size, 1, none⟩ (.string x.T)).setCell ⟨w.heap.size, 2, none⟩ (.string x.X))) := by
    refine ⟨HP.out.1.only o3 (by have := HG.out.1; simp; omega) (fun k hk e => ?_), HP.out.2.trans o3 (fun k hk => Or.inr (by simp at hk; omega))⟩
    exact HV.out k hk (by simpa using e)
  obtain ⟨z0, z1, z2⟩ := MBox.cells (x := x) h3
  clear h3 o3 k0 k1 k2 j0 j1 j2 f0 f1 f2 hl2
  generalize (((w2.setCell ⟨w.heap.size, 0, none⟩ (.string x.F)).setCell ⟨w.heap.size, 1, none⟩ (.string x.T)).setCell ⟨w.heap.size, 2, none⟩ (.string x.X)) = wf at HF z0 z1 z2 ⊢
  refine bodyPost_ret (v := .tuple #[.agg #[.string x.F, .string x.T, .string x.X], .nilIface]) (by simp [results, Tryd.results9, go_sem, z0, z1, z2]) rfl ⟨rfl, v2, HF.out⟩
end Go.Proofs.YtkfelijpajdcoaaDoor
