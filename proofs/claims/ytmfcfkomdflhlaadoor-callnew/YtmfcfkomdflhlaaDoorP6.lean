/- The tree: an entry is put for a directory. -/
import Derived.Test.YtmfcfkomdflhlaaDoorP5
/- The tree: an entry is put for a directory. -/
namespace Go.Proofs.YtmfcfkomdflhlaaDoor
open Go Go.RowKit Go.Deep Go.Maps

end Go.Proofs.YtmfcfkomdflhlaaDoor
/- The tree: is a handle a directory's? -/
namespace Go.Proofs.YtmfcfkomdflhlaaDoor
open Go Go.RowKit Go.Deep Go.Maps

theorem keepZ_only {w W : World} {tr t B : Nat} {N G : Int} (h : w.cell? ⟨tr, 0, none⟩ = some (.pointer (some ⟨t, 0, none⟩)) ∧ w.cell? ⟨B, 0, none⟩ = some (.int .i64 N) ∧ w.cell? ⟨B, 1, none⟩ = some (.int .i64 G)) (ho : Only [] w W) : W.cell? ⟨tr, 0, none⟩ = some (.pointer (some ⟨t, 0, none⟩)) ∧ W.cell? ⟨B, 0, none⟩ = some (.int .i64 N) ∧ W.cell? ⟨B, 1, none⟩ = some (.int .i64 G) :=
  ⟨(ho.cell (p := ⟨tr, 0, none⟩) (lt_of_cell h.1) (by simp)).trans h.1, (ho.cell (p := ⟨B, 0, none⟩) (lt_of_cell h.2.1) (by simp)).trans h.2.1, (ho.cell (p := ⟨B, 1, none⟩) (lt_of_cell h.2.2) (by simp)).trans h.2.2⟩
theorem keepZ_alloc {W : World} {tr t B : Nat} {N G : Int} {o : Obj} (h : W.cell? ⟨tr, 0, none⟩ = some (.pointer (some ⟨t, 0, none⟩)) ∧ W.cell? ⟨B, 0, none⟩ = some (.int .i64 N) ∧ W.cell? ⟨B, 1, none⟩ = some (.int .i64 G)) : (W.alloc o).cell? ⟨tr, 0, none⟩ = some (.pointer (some ⟨t, 0, none⟩)) ∧ (W.alloc o).cell? ⟨B, 0, none⟩ = some (.int .i64 N) ∧ (W.alloc o).cell? ⟨B, 1, none⟩ = some (.int .i64 G) := keepZ_only h ((Only.refl [] W).alloc _)
theorem keepZ_set {W : World} {tr t B blk o : Nat} {N G : Int} {u : Value} (h : W.cell? ⟨tr, 0, none⟩ = some (.pointer (some ⟨t, 0, none⟩)) ∧ W.cell? ⟨B, 0, none⟩ = some (.int .i64 N) ∧ W.cell? ⟨B, 1, none⟩ = some (.int .i64 G)) (h1 : tr ≠ blk) (h2 : B ≠ blk) : (W.setCell ⟨blk, o, none⟩ u).cell? ⟨tr, 0, none⟩ = some (.pointer (some ⟨t, 0, none⟩)) ∧ (W.setCell ⟨blk, o, none⟩ u).cell? ⟨B, 0, none⟩ = some (.int .i64 N) ∧ (W.setCell ⟨blk, o, none⟩ u).cell? ⟨B, 1, none⟩ = some (.int .i64 G) := by
  have ho : Only [blk] W (W.setCell ⟨blk, o, none⟩ u) := (Only.refl [blk] W).setCell (Or.inl (by simp)) _
  exact ⟨(ho.cell (p := ⟨tr, 0, none⟩) (lt_of_cell h.1) (by simpa using h1)).trans h.1, (ho.cell (p := ⟨B, 0, none⟩) (lt_of_cell h.2.1) (by simpa using h2)).trans h.2.1, (ho.cell (p := ⟨B, 1, none⟩) (lt_of_cell h.2.2) (by simpa using h2)).trans h.2.2⟩
section
variable (w : World) (tr t : Nat) (N G K Z L C UN UG : Int)
end
end Go.Proofs.YtmfcfkomdflhlaaDoor
