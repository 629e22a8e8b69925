/- What a row's condition gives that lists three errors of the wire: they lie in memory. -/
import Derived.Test.YtkopiffnkbjbiaaDoorWi1
import Derived.Test.YtkopiffnkbjbiaaDoorZ0
namespace Go.Proofs.YtkopiffnkbjbiaaDoor
open Go Go.RowKit Go.ChangeShapes Go.WideShapes

def names8 : List (String × List UInt8) := [errNames.getD 0 ("", []), errNames.getD 1 ("", []), errNames.getD 8 ("", [])]
def gs8 : List Nat := [gOf 0, gOf 1, gOf 8]
theorem named8 : ∀ x ∈ names8.zip gs8, Tryd.prog.globalNamed x.1.1 = some x.2 ∧ (Tryd.prog.globals[x.2]?).map (·.type) = some 26 := by
  have h : ((names8.zip gs8).all fun x => Tryd.prog.globalNamed x.1.1 == some x.2 && (Tryd.prog.globals[x.2]?).map (·.type) == some 26) = true := by kernel_rfl
  intro x hx
  have := List.all_eq_true.1 h x hx
  simpa using this
theorem er3_of_met {W : World} (h : laidMet Tryd.prog (names8.map (sent "*errors.errorString")) W) : ∃ A, Er3 W A := by
  obtain ⟨ps, hv, hnd, hrows⟩ := h
  obtain ⟨As, hl, _, _, hg, _⟩ := sentinels_list Tryd.underlying26 Tryd.rowErr Tryd.underlying182 Tryd.underlying202 rfl rfl Tryd.underlying9 Tryd.cellsES Tryd.cellsStr names8 gs8 ps rfl named8 hv hrows
  have hl3 : As.length = 3 := hl
  match As, hl3 with
  | [a0, a1, a8], _ =>
    refine ⟨fun k => if k = 0 then a0 else if k = 1 then a1 else a8, ⟨fun k hk => ?_⟩⟩
    rcases hk with rfl | rfl | rfl
    · exact hg (gOf 0, a0) (by simp [gs8])
    · exact hg (gOf 1, a1) (by simp [gs8])
    · exact hg (gOf 8, a8) (by simp [gs8])
end Go.Proofs.YtkopiffnkbjbiaaDoor
