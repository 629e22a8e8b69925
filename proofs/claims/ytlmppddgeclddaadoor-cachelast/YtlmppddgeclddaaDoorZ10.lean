/- What a row's condition gives that lists three errors: they lie in memory. -/
import Derived.Test.YtlmppddgeclddaaDoorCa4
import Derived.Test.YtlmppddgeclddaaDoorZ0
namespace Go.Proofs.YtlmppddgeclddaaDoor
open Go Go.RowKit Go.ChangeShapes Go.WideShapes

def names3 : List (String × List UInt8) := [errNames.getD 1 ("", []), errNames.getD 5 ("", []), errNames.getD 11 ("", [])]
def gs3 : List Nat := [gOf 1, gOf 5, gOf 11]
theorem named3 : ∀ x ∈ names3.zip gs3, Tryd.prog.globalNamed x.1.1 = some x.2 ∧ (Tryd.prog.globals[x.2]?).map (·.type) = some 26 := by
  have h : ((names3.zip gs3).all fun x => Tryd.prog.globalNamed x.1.1 == some x.2 && (Tryd.prog.globals[x.2]?).map (·.type) == some 26) = true := by kernel_rfl
  intro x hx
  have := List.all_eq_true.1 h x hx
  simpa using this
theorem three_of_met {W : World} (h : laidMet Tryd.prog (names3.map (sent "*errors.errorString")) W) : ∃ A, Err4 W A := by
  obtain ⟨ps, hv, hnd, hrows⟩ := h
  obtain ⟨As, hl, _, _, hg, _⟩ := sentinels_list Tryd.underlying26 Tryd.rowErr Tryd.underlying97 Tryd.underlying118 rfl rfl Tryd.underlying9 Tryd.cellsES Tryd.cellsStr names3 gs3 ps rfl named3 hv hrows
  have hl3 : As.length = 3 := hl
  match As, hl3 with
  | [a1, a5, a11], _ =>
    refine ⟨fun k => if k = 1 then a1 else if k = 5 then a5 else a11, fun k hk => ?_⟩
    have hk' : k = 1 ∨ k = 5 ∨ k = 11 := by simpa using hk
    rcases hk' with rfl | rfl | rfl
    · exact hg (gOf 1, a1) (by simp [gs3])
    · exact hg (gOf 5, a5) (by simp [gs3])
    · exact hg (gOf 11, a11) (by simp [gs3])
end Go.Proofs.YtlmppddgeclddaaDoor
