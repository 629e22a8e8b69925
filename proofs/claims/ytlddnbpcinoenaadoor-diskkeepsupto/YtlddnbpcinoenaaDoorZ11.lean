/- What a row's condition gives that lists three errors: they lie in memory. -/
import Derived.Test.YtlddnbpcinoenaaDoorDk2
import Derived.Test.YtlddnbpcinoenaaDoorZ0
namespace Go.Proofs.YtlddnbpcinoenaaDoor
open Go Go.RowKit Go.ChangeShapes Go.WideShapes

def names16 : List (String × List UInt8) := [errNames.getD 1 ("", []), errNames.getD 2 ("", []), errNames.getD 14 ("", [])]
def gs16 : List Nat := [gOf 1, gOf 2, gOf 14]
theorem named16 : ∀ x ∈ names16.zip gs16, Tryd.prog.globalNamed x.1.1 = some x.2 ∧ (Tryd.prog.globals[x.2]?).map (·.type) = some 27 := by
  have h : ((names16.zip gs16).all fun x => Tryd.prog.globalNamed x.1.1 == some x.2 && (Tryd.prog.globals[x.2]?).map (·.type) == some 27) = true := by kernel_rfl
  intro x hx
  have := List.all_eq_true.1 h x hx
  simpa using this
theorem three16_of_met {W : World} (h : laidMet Tryd.prog (names16.map (sent "*errors.errorString")) W) : ∃ A, Err3 W A := by
  obtain ⟨ps, hv, hnd, hrows⟩ := h
  obtain ⟨As, hl, _, _, hg, _⟩ := sentinels_list Tryd.underlying27 Tryd.rowErr Tryd.underlying112 Tryd.underlying133 rfl rfl Tryd.underlying9 Tryd.cellsES Tryd.cellsStr names16 gs16 ps rfl named16 hv hrows
  have hl3 : As.length = 3 := hl
  match As, hl3 with
  | [a1, a2, a14], _ =>
    refine ⟨fun k => if k = 1 then a1 else if k = 2 then a2 else a14, fun k hk => ?_⟩
    have hk' : k = 1 ∨ k = 2 ∨ k = 14 := by simpa using hk
    rcases hk' with rfl | rfl | rfl
    · exact hg (gOf 1, a1) (by simp [gs16])
    · exact hg (gOf 2, a2) (by simp [gs16])
    · exact hg (gOf 14, a14) (by simp [gs16])
end Go.Proofs.YtlddnbpcinoenaaDoor
