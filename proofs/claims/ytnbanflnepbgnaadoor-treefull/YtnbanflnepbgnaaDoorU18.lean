/- The tree: how many nodes there are; the root. -/
import Derived.Test.YtnbanflnepbgnaaDoorU17
namespace Go.Proofs.YtnbanflnepbgnaaDoor
open Go Go.RowKit Go.Deep Go.Maps

theorem nodes_any (w : World) (tr : Nat) (T : Tr) (h : TreeAt w tr T) :
    Calls Tryd.prog 12 #[.pointer (some ⟨tr, 0, none⟩)] w fun e w' => e = .returned (.int .i64 (countTo T.nd T.p.N : Nat)) ∧ Only [] w w' := by
  have hcn := tcount w T.t T.p T.most T.g T.nd h.tab h.small.N
  have ct := h.c0
  have hle := countTo_le T.nd T.p.N
  clear h
  generalize countTo T.nd T.p.N = cn at hcn hle ⊢
  go_enter Tryd.func12, Tryd.ntmps12
  go_wp2_with (go_at_call 25; go_must (refine hcn.mono ?_); rintro e w1 ⟨rfl, ho1⟩)
  go_ret
  exact ⟨rfl, ho1⟩
theorem root_any (w : World) (v : Value) : Calls Tryd.prog 7 #[v] w fun e w' => e = .returned (.agg #[.int .i64 0, .int .i64 0]) ∧ Only [] w w' := by
  go_enter Tryd.func7, Tryd.ntmps7
  go_wp2
  have hh := heap_alloc_last w (.cells #[.int .i64 0, .int .i64 0] 29)
  have c0 := cell_of_row _ _ 0 _ _ _ hh
  have c1 := cell_of_row _ _ 1 _ _ _ hh
  first
    | exact bodyPost_ret (v := .agg #[.int .i64 0, .int .i64 0]) (by simp [results, Tryd.results7, go_sem, c0, c1]) rfl ⟨rfl, (Only.refl [] w).alloc _⟩
    | (set_option pp.maxSteps 1500 in trace_state; fail)
end Go.Proofs.YtnbanflnepbgnaaDoor
