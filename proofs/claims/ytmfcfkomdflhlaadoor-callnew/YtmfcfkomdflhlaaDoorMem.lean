/- Plain facts on worlds: what a call leaves that has written one cell, and made memory of its own. No program is named here. -/
import Derived.Test.YtmfcfkomdflhlaaDoorMath
import Derived.Laws.AppendOwn
namespace Go.Proofs.YtmfcfkomdflhlaaDoor
open Go Go.RowKit

/-! ### behind a call that has written one cell, and made memory of its own -/
theorem put_cell {w w' : World} {a : Addr} {u v : Value} (h : Below w.heap.size (w.setCell a v) w') (hc : w.cell? a = some u) : w'.cell? a = some v :=
  (h.cell (p := a) (lt_of_cell hc)).trans (World.cell?_setCell_same _ _ _ hc)
theorem put_frozen {w w' : World} {a : Addr} {u v : Value} (h : Below w.heap.size (w.setCell a v) w') (hc : w.cell? a = some u) : w'.frozen? a = w.frozen? a :=
  (h.frozen (p := a) (lt_of_cell hc)).trans (by simp)
theorem put_below {w w' : World} {a : Addr} {v : Value} {B : Nat} (h : Below w.heap.size (w.setCell a v) w') (hB : B ≤ a.block) (hB' : B ≤ w.heap.size) : Below B w w' :=
  ((Below.refl _ _).setCell hB v).trans (h.mono hB')
theorem owns_below {w w' : World} {base : Nat} {e : TypeId} {size : Nat} {v : Value} {n : Nat} {xs : List Value} (h : w.ownsRow base e size v n xs) (hb : Below w.heap.size w w') : w'.ownsRow base e size v n xs := by
  obtain ⟨h1, h2⟩ := h
  refine ⟨h1, ?_⟩
  rcases h2 with h2 | ⟨g, cap, cur, hv, hg, hh, r⟩
  · exact Or.inl h2
  · refine Or.inr ⟨g, cap, cur, hv, hg, ?_, r⟩
    rw [hb.block g (Array.getElem?_eq_some_iff.1 hh).1]
    exact hh
theorem put_owns {w w' : World} {a : Addr} {u : Value} {base : Nat} {e : TypeId} {size : Nat} {v : Value} {n : Nat} {xs : List Value} (h : Below w.heap.size (w.setCell a u) w') (ho : w.ownsRow base e size v n xs) (ha : a.block < base) : w'.ownsRow base e size v n xs :=
  owns_below (ownsRow_setCell_below ho ha u) (by simpa [World.setCell] using h)
end Go.Proofs.YtmfcfkomdflhlaaDoor
