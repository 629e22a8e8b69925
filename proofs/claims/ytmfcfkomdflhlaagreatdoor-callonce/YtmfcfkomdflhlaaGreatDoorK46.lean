import Derived.Test.YtmfcfkomdflhlaaGreatDoorK45
namespace Go.Proofs.YtmfcfkomdflhlaaGreatDoor
section
open Go Go.RowKit Go.Deep Go.Maps
abbrev attrO:Obj := .cells #[.int .i64 0,.int .i64 0,.int .i64 0,.int .i64 0,.int .i64 0,.int .i64 0] 62
theorem cellsA {W:World}{b:Nat}{c0 c1 c2 c3 c4 c5:Value}{ty:TypeId}(hb:W.heap[b]?=some (.cells #[c0,c1,c2,c3,c4,c5] ty (0,0))):
  W.cell? ⟨b,0,none⟩=some c0∧W.cell? ⟨b,1,none⟩=some c1∧W.cell? ⟨b,2,none⟩=some c2∧W.cell? ⟨b,3,none⟩=some c3∧W.cell? ⟨b,4,none⟩=some c4∧W.cell? ⟨b,5,none⟩=some c5∧b < W.heap.size∧(∀ o,W.frozen? ⟨b,o,none⟩=false) :=
 ⟨cell_of_row _ _ 0 _ _ _ hb,cell_of_row _ _ 1 _ _ _ hb,cell_of_row _ _ 2 _ _ _ hb,cell_of_row _ _ 3 _ _ _ hb,cell_of_row _ _ 4 _ _ _ hb,cell_of_row _ _ 5 _ _ _ hb,(Array.getElem?_eq_some_iff.1 hb).1,fun _=>frozen_of_row _ _ _ _ _ hb⟩
theorem setA {w W:World}{b:Nat}(ho:Only [] w W)(hb:w.heap.size≤b)(v0 v1 v2 v3 v4 v5:Value):Only [] w ((((((W.setCell ⟨b,0,none⟩ v0).setCell ⟨b,1,none⟩ v1).setCell ⟨b,2,none⟩ v2).setCell ⟨b,3,none⟩ v3).setCell ⟨b,4,none⟩ v4).setCell ⟨b,5,none⟩ v5) :=
 (((((ho.setCell (Or.inr hb) _).setCell (Or.inr hb) _).setCell (Or.inr hb) _).setCell (Or.inr hb) _).setCell (Or.inr hb) _).setCell (Or.inr hb) _
end
end Go.Proofs.YtmfcfkomdflhlaaGreatDoor
