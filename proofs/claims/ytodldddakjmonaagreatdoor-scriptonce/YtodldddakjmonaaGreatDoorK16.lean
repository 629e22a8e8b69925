import Derived.Shelf.SlSortCmp.QuietGrown
import Derived.Test.YtodldddakjmonaaGreatDoorK15
import Derived.Test.YtodldddakjmonaaGreatDoorK14
namespace Go.Proofs.YtodldddakjmonaaGreatDoor
section
open Go Go.RowKit Go.Deep
structure OnlyBy (w0:World) where
 w:World
 ho:Only [] w0 w
theorem wp_region_quiet_only {P:Program}{id:Nat}{Q:Exit→Act→World→Prop}{a:Act}{w0 w:World}{l:List Oper}(hO:Only [] w0 w)(hm:P.follows .mixedOrders=true)(hB:Region.lexB .any l.toArray=true)
  (h:wpQuiet P l.toArray (fun w'=>∃ p:OnlyBy w0,w'=p.w) (fun a'=>∀ w',(∃ p:OnlyBy w0,w'=p.w)→Q .normal a' w') l a):(Code.region id l.toArray true).wp P Q a w :=
 wp_region_quiet (C:=fun w'=>∃ p:OnlyBy w0,w'=p.w) hm hB ⟨⟨w.drew,hO.drew⟩,rfl⟩ (by simpa using h)
theorem Calls.only_of {P:Program}{f:FuncId}{args:Array Value}{w0:World}{p:OnlyBy w0}{v:Value}(h:Calls P f args p.w fun e w'=>e = .returned v∧Only [] p.w w'):Calls P f args p.w fun e w''=>e = .returned v∧∃ q:OnlyBy w0,w''=q.w :=
 h.mono fun _ w'' ⟨he,ho⟩=>⟨he,⟨w'',p.ho.trans ho (fun _ hk=>by cases hk)⟩,rfl⟩
end
section
open Go Go.RowKit Go.Deep Go.Maps
def Kinds (T:Tr):Prop:=∀ i n,T.nd i=some n→n.K=1∧T.ds i=none∨n.K=2∧∃ d,T.ds i=some d
theorem errs_only {w W:World}{A:Nat→Addr}(hE:Errs w A)(ho:Only [] w W):Errs W A:=hE.below (ho.to_below (Nat.le_refl _) (fun k hk=>by cases hk)) (Nat.le_refl _)
theorem live_or (T:Tr)(N G:Int):Stale0 T.g T.nd N G∨∃ (i:Nat) (n:Nod),N=(i:Int)∧G=(T.g i:Nat)∧T.nd i=some n:=by
 by_cases hs:Stale0 T.g T.nd N G
 · exact Or.inl hs
 · refine Or.inr (Classical.byContradiction fun hc=>hs fun i n e hn eg=>hc ⟨i,n,e,eg,hn⟩)
theorem own_box {w W:World}{N G:Int}{M:List Nat}(ho:Only M (w.alloc (.cells #[.int .i64 N,.int .i64 G] 116)) W)(h0:w.heap.size∉M):W.cell? ⟨w.heap.size,0,none⟩=some (.int .i64 N)∧W.cell? ⟨w.heap.size,1,none⟩=some (.int .i64 G):=by
 have hh:=heap_alloc_last w (.cells #[.int .i64 N,.int .i64 G] 116);exact ⟨(ho.cell (p:=⟨w.heap.size,0,none⟩) (by simp) h0).trans (cell_of_row _ _ 0 _ _ _ hh),(ho.cell (p:=⟨w.heap.size,1,none⟩) (by simp) h0).trans (cell_of_row _ _ 1 _ _ _ hh)⟩
end
end Go.Proofs.YtodldddakjmonaaGreatDoor
