/- What a row's condition gives that lists five errors: they lie in memory. -/
import Derived.Test.YtmghffeommdgjaaDoorSh22
import Derived.Test.YtmghffeommdgjaaDoorZ0
namespace Go.Proofs.YtmghffeommdgjaaDoor
open Go Go.RowKit Go.ChangeShapes Go.WideShapes

def names5 : List (String × List UInt8) := [errNames.getD 1 ("", []), errNames.getD 2 ("", []), errNames.getD 4 ("", []), errNames.getD 8 ("", []), errNames.getD 10 ("", [])]
def gs5 : List Nat := [gOf 1, gOf 2, gOf 4, gOf 8, gOf 10]
theorem named5 : ∀ x ∈ names5.zip gs5, Tryd.prog.globalNamed x.1.1 = some x.2 ∧ (Tryd.prog.globals[x.2]?).map (·.type) = some 37 := by
  have h : ((names5.zip gs5).all fun x => Tryd.prog.globalNamed x.1.1 == some x.2 && (Tryd.prog.globals[x.2]?).map (·.type) == some 37) = true := by kernel_rfl
  intro x hx
  have := List.all_eq_true.1 h x hx
  simpa using this
theorem five_of_met {W : World} (h : laidMet Tryd.prog (names5.map (sent "*errors.errorString")) W) : ∃ A, Err5 W A := by
  obtain ⟨ps, hv, hnd, hrows⟩ := h
  obtain ⟨As, hl, _, _, hg, _⟩ := sentinels_list Tryd.underlying37 Tryd.rowErr Tryd.underlying117 Tryd.underlying139 rfl rfl Tryd.underlying9 Tryd.cellsES Tryd.cellsStr names5 gs5 ps rfl named5 hv hrows
  have hl5 : As.length = 5 := hl
  match As, hl5 with
  | [a1, a2, a4, a8, a10], _ =>
    refine ⟨fun k => if k = 1 then a1 else if k = 2 then a2 else if k = 4 then a4 else if k = 8 then a8 else a10, fun k hk => ?_⟩
    have hk' : k = 1 ∨ k = 2 ∨ k = 4 ∨ k = 8 ∨ k = 10 := by simpa using hk
    rcases hk' with rfl | rfl | rfl | rfl | rfl
    · exact hg (gOf 1, a1) (by simp [gs5])
    · exact hg (gOf 2, a2) (by simp [gs5])
    · exact hg (gOf 4, a4) (by simp [gs5])
    · exact hg (gOf 8, a8) (by simp [gs5])
    · exact hg (gOf 10, a10) (by simp [gs5])
end Go.Proofs.YtmghffeommdgjaaDoor
