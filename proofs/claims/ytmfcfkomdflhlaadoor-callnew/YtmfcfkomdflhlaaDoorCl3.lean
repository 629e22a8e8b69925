/- Calls: Decode by its contract. -/
import Derived.Test.YtmfcfkomdflhlaaDoorCl1
namespace Go.Proofs.YtmfcfkomdflhlaaDoor
open Go Go.RowKit Go.Deep

/-- A result that is empty as yet lies behind what was there. -/
structure DecAt (w W : World) : Prop where
  k0 : W.cell? ⟨w.heap.size, 0, none⟩ = some (.int .i64 0)
  k1 : W.cell? ⟨w.heap.size, 1, none⟩ = some (.string ⟨#[]⟩)
  f0 : W.frozen? ⟨w.heap.size, 0, none⟩ = false
  f1 : W.frozen? ⟨w.heap.size, 1, none⟩ = false
  below : Below w.heap.size w W
  size : w.heap.size + 2 ≤ W.heap.size
theorem DecAt.later {w W W' : World} (h : DecAt w W) (hb : Below W.heap.size W W') : DecAt w W' := by
  have hz := h.size
  exact ⟨(hb.cell (p := ⟨w.heap.size, 0, none⟩) (by show w.heap.size < _; omega)).trans h.k0, (hb.cell (p := ⟨w.heap.size, 1, none⟩) (by show w.heap.size < _; omega)).trans h.k1, (hb.frozen (p := ⟨w.heap.size, 0, none⟩) (by show w.heap.size < _; omega)).trans h.f0, (hb.frozen (p := ⟨w.heap.size, 1, none⟩) (by show w.heap.size < _; omega)).trans h.f1, h.below.trans (hb.mono (by omega)), by have := hb.size; omega⟩
theorem DecAt.put {w W : World} (h : DecAt w W) (v : Value) : DecAt w (W.setCell ⟨w.heap.size + 1, 0, none⟩ v) := by
  refine ⟨?_, ?_, (World.frozen?_setCell _ _ _ _).trans h.f0, (World.frozen?_setCell _ _ _ _).trans h.f1, h.below.setCell (p := ⟨w.heap.size + 1, 0, none⟩) (Nat.le_succ _) v, by simpa using h.size⟩
  · rw [World.cell?_setCell_other _ _ _ _ (by intro e; have := congrArg Addr.block e; simp at this)]
    exact h.k0
  · rw [World.cell?_setCell_other _ _ _ _ (by intro e; have := congrArg Addr.block e; simp at this)]
    exact h.k1
theorem DecAt.done {w W : World} (h : DecAt w W) (u v : Value) : Below w.heap.size w ((W.setCell ⟨w.heap.size, 0, none⟩ u).setCell ⟨w.heap.size, 1, none⟩ v) := (h.below.setCell (p := ⟨w.heap.size, 0, none⟩) (Nat.le_refl _) u).setCell (p := ⟨w.heap.size, 1, none⟩) (Nat.le_refl _) v
def DecR (A : Nat → Addr) (s : ByteArray) (r : Value) : Prop :=
  (ReqOk s ∧ r = .tuple #[.agg #[.int .i64 (numAt s 8 : Nat), .string (reqX s)], .nilIface]) ∨ (¬ ReqOk s ∧ r = .tuple #[.agg #[.int .i64 0, .string ⟨#[]⟩], erV A 0])
end Go.Proofs.YtmfcfkomdflhlaaDoor
