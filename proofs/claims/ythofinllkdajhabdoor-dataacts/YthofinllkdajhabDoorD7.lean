/- Data: the document's Write, whole. -/
import Derived.Test.YthofinllkdajhabDoorD6
namespace Go.Proofs.YthofinllkdajhabDoor
open Go Go.RowKit Go.Deep

/-- While the list of holes grows: the list is in a variable, the file still has the elder one. -/
structure Grows (w wx : World) (F : List Nat) (base g : Nat) (S : ByteArray) (v : Value) (L : List Bool) (l : Value) : Prop where
  text : wx.cell? ⟨g, 0, none⟩ = some (.string S)
  row : wx.cell? ⟨g, 1, none⟩ = some v
  fz : ∀ o, wx.frozen? ⟨g, o, none⟩ = false
  owns : wx.ownsRow base 4 1 l L.length (L.map Value.bool)
  lt : g < base
  le : base ≤ w.heap.size
  only : Only F w wx
  foot : ∀ k, l.ownBlock = some k → k ∈ F ∨ w.heap.size ≤ k
theorem Grows.step {w wx w3 : World} {F : List Nat} {base g : Nat} {S : ByteArray} {v l l' : Value} {L : List Bool} {o : Obj} (h : Grows w wx F base g S v L l)
    (ho : w3.ownsRow base 4 1 l' (L.length + 1) (L.map Value.bool ++ [.bool true])) (hg : (wx.alloc o).grownBy w3 l.ownBlock) (hf : ∀ k, l'.ownBlock = some k → l.ownBlock = some k ∨ wx.heap.size ≤ k) : Grows w w3 F base g S v (L ++ [true]) l' := by
  have hne : ∀ k, l.ownBlock = some k → k ≠ g := fun k hk e => by have := (h.owns.lt k hk).1; have := h.lt; omega
  have hgl : g < wx.heap.size := lt_of_cell h.text
  have hb : w3.heap[g]? = wx.heap[g]? := (hg.block g (by simp; omega) (fun e => hne g e.symm rfl)).trans (Below.heap_alloc wx o g hgl)
  refine ⟨(World.cell?_of_block (w := wx) (a := ⟨g, 0, none⟩) hb).trans h.text, (World.cell?_of_block (w := wx) (a := ⟨g, 1, none⟩) hb).trans h.row, fun k => (World.frozen?_of_block (w := wx) (a := ⟨g, k, none⟩) hb).trans (h.fz k), ?_, h.lt, h.le, ?_, fun k hk => ?_⟩
  · simpa using ho
  · exact (h.only.alloc o).grown hg (fun k hk => h.foot k hk)
  · rcases hf k hk with h1 | h1
    · exact h.foot k h1
    · exact Or.inr (Nat.le_trans h.only.size h1)
theorem Tryd.infoBo : (Tryd.prog.info? 4).map (fun i => (i.zero, i.size, i.bytes)) = some (some (.bool false), 1, 1) := by kernel_rfl
/-- The new list is the file's. -/
theorem Grows.done {w wx : World} {F : List Nat} {base g gl n cap k : Nat} {S : ByteArray} {v : Value} {L : List Bool} (h : Grows w wx F base g S v L (.slice (some ⟨gl, 0, none⟩) n cap)) (hn : n = L.length) (hg : g ∈ F) :
    BytesAt ((wx.setCell ⟨gl, k, none⟩ (.bool false)).setCell ⟨g, 1, none⟩ (.slice (some ⟨gl, 0, none⟩) n cap)) base g S (L.set k false) (.slice (some ⟨gl, 0, none⟩) n cap) ∧ Only F w ((wx.setCell ⟨gl, k, none⟩ (.bool false)).setCell ⟨g, 1, none⟩ (.slice (some ⟨gl, 0, none⟩) n cap)) := by
  have hgl : base ≤ gl := (h.owns.lt gl rfl).1
  have hne : gl ≠ g := by have := h.lt; omega
  subst hn
  have ho := (h.owns.stored k (.bool false)).1
  have e0 : (wx.setCell ⟨gl, k, none⟩ (.bool false)).cell? ⟨g, 0, none⟩ = some (.string S) := by rw [World.cell?_setCell_other _ _ _ _ (fun q => hne (congrArg Addr.block q))]; exact h.text
  have e1 : (wx.setCell ⟨gl, k, none⟩ (.bool false)).cell? ⟨g, 1, none⟩ = some v := by rw [World.cell?_setCell_other _ _ _ _ (fun q => hne (congrArg Addr.block q))]; exact h.row
  refine ⟨⟨?_, World.cell?_setCell_same _ _ _ e1, fun o => ?_, ?_, h.lt⟩, ?_⟩
  · rw [World.cell?_setCell_other _ _ _ _ (by simp)]; exact e0
  · have := h.fz o
    simpa using this
  · rw [List.length_set, List.map_set]
    exact ownsRow_setCell_below ho h.lt _
  · exact (h.only.setCell (p := ⟨gl, k, none⟩) (h.foot gl rfl) _).setCell (p := ⟨g, 1, none⟩) (Or.inl hg) _
theorem BytesAt.grows {w wr : World} {F : List Nat} {base g : Nat} {S : ByteArray} {v : Value} {H : List Bool} (h : BytesAt wr base g S H v) (hle : base ≤ w.heap.size) (ho : Only F w wr) (hf : ∀ k, v.ownBlock = some k → k ∈ F ∨ w.heap.size ≤ k) : Grows w wr F base g S v H v :=
  ⟨h.text, h.row, h.fz, h.owns, h.lt, hle, ho, hf⟩
end Go.Proofs.YthofinllkdajhabDoor
