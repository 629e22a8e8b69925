import Derived.Shelf.SlSortCmp.QuietGrown
import Derived.Test.YtmfcfkomdflhlaaGreatDoorK18
import Derived.Test.YtmfcfkomdflhlaaGreatDoorK17
namespace Go.Proofs.YtmfcfkomdflhlaaGreatDoor
section
open Go Go.RowKit Go.Deep
structure OnlyBy (w0:World) where
 w:World
 ho:Only [] w0 w
theorem wp_region_quiet_only {P:Program}{id:Nat}{Q:Exit→Act→World→Prop}{a:Act}{w0 w:World}{l:List Oper}(hO:Only [] w0 w)(hm:P.follows .mixedOrders=true)(hB:Region.lexB .any l.toArray=true)
  (h:wpQuiet P l.toArray (fun w'=>∃ p:OnlyBy w0,w'=p.w) (fun a'=>∀ w',(∃ p:OnlyBy w0,w'=p.w)→Q .normal a' w') l a):(Code.region id l.toArray true).wp P Q a w :=
 wp_region_quiet (C:=fun w'=>∃ p:OnlyBy w0,w'=p.w) hm hB ⟨⟨w.drew,hO.drew⟩,rfl⟩ (by simpa using h)
theorem Calls.only_of {P:Program}{f:FuncId}{args:Array Value}{w0:World}{p:OnlyBy w0}{v:Value}(h:Calls P f args p.w fun e w'=>e = .returned v∧Only [] p.w w'):Calls P f args p.w fun e w''=>e = .returned v∧∃ q:OnlyBy w0,w''=q.w :=
 h.mono fun _ w'' ⟨he,ho⟩=>⟨he,⟨w'',p.ho.trans ho (fun _ hk=>by cases hk)⟩,rfl⟩
end
section
open Go Go.RowKit Go.Deep Go.Maps
def Kinds (T:Tr):Prop:=∀ i n,T.nd i=some n→n.K=1∧T.ds i=none∨n.K=2∧∃ d,T.ds i=some d
theorem errs_only {w W:World}{A:Nat→Addr}(hE:Errs w A)(ho:Only [] w W):Errs W A:=hE.below (ho.to_below (Nat.le_refl _) (fun k hk=>by cases hk)) (Nat.le_refl _)
theorem live_or (T:Tr)(N G:Int):Stale0 T.g T.nd N G∨∃ (i:Nat) (n:Nod),N=(i:Int)∧G=(T.g i:Nat)∧T.nd i=some n:=by
 by_cases hs:Stale0 T.g T.nd N G
 · exact Or.inl hs
 · refine Or.inr (Classical.byContradiction fun hc=>hs fun i n e hn eg=>hc ⟨i,n,e,eg,hn⟩)
theorem first_two (w:World)(o1 o2:Option Addr):Calls Tryz.prog 201 #[.slice (some ⟨w.heap.size,0,none⟩) 2 2] (w.alloc (.cells #[errO o1,errO o2] 28)) fun e w'=>e = .returned (errO (firstV [o1,o2]))∧(w.alloc (.cells #[errO o1,errO o2] 28))=w' :=
 firstOf_any (w.alloc (.cells #[errO o1,errO o2] 28)) w.heap.size 2 2 [o1,o2] rfl (by decide) (fun j o hj=>by
  have hh:=heap_alloc_last w (.cells #[errO o1,errO o2] 28);rw [cell_of_row _ _ _ _ _ _ hh]
  match j,hj with
  | 0,hj=>simp at hj;subst hj;rfl
  | 1,hj=>simp at hj;subst hj;rfl
  | j+2,hj=>simp at hj)
theorem own_twoZ {w W:World}{N G:Int}{M:List Nat}(ho:Only M ((w.alloc (.cells #[.int .i64 N,.int .i64 G] 60)).alloc (.cells #[.int .i64 0,.int .i64 0] 60)) W)(h0:w.heap.size∉M)(h1:w.heap.size+1∉M):W.cell? ⟨w.heap.size,0,none⟩=some (.int .i64 N)∧W.cell? ⟨w.heap.size,1,none⟩=some (.int .i64 G)∧W.cell? ⟨w.heap.size+1,0,none⟩=some (.int .i64 0)∧W.cell? ⟨w.heap.size+1,1,none⟩=some (.int .i64 0)∧(∀ o,W.frozen? ⟨w.heap.size+1,o,none⟩=false)∧w.heap.size+1 < W.heap.size:=by
 have hA:=heap_alloc_last w (.cells #[.int .i64 N,.int .i64 G] 60);have hZ:=heap_alloc_last (w.alloc (.cells #[.int .i64 N,.int .i64 G] 60)) (.cells #[.int .i64 0,.int .i64 0] 60);rw [World.size_alloc] at hZ;have oA:Only [] (w.alloc (.cells #[.int .i64 N,.int .i64 G] 60)) ((w.alloc (.cells #[.int .i64 N,.int .i64 G] 60)).alloc (.cells #[.int .i64 0,.int .i64 0] 60)):=(Only.refl [] _).alloc _
 have hl:w.heap.size+1 < (((w.alloc (.cells #[.int .i64 N,.int .i64 G] 60)).alloc (.cells #[.int .i64 0,.int .i64 0] 60))).heap.size:=by simp
 have hl0:w.heap.size < (((w.alloc (.cells #[.int .i64 N,.int .i64 G] 60)).alloc (.cells #[.int .i64 0,.int .i64 0] 60))).heap.size:=by simp;omega
 exact ⟨(ho.cell (p:=⟨w.heap.size,0,none⟩) hl0 h0).trans ((oA.cell (p:=⟨w.heap.size,0,none⟩) (by simp) (by simp)).trans (cell_of_row _ _ 0 _ _ _ hA)),(ho.cell (p:=⟨w.heap.size,1,none⟩) hl0 h0).trans ((oA.cell (p:=⟨w.heap.size,1,none⟩) (by simp) (by simp)).trans (cell_of_row _ _ 1 _ _ _ hA)),
  (ho.cell (p:=⟨w.heap.size+1,0,none⟩) hl h1).trans (cell_of_row _ _ 0 _ _ _ hZ),(ho.cell (p:=⟨w.heap.size+1,1,none⟩) hl h1).trans (cell_of_row _ _ 1 _ _ _ hZ),fun o=>(ho.frozen (p:=⟨w.heap.size+1,o,none⟩) hl h1).trans (frozen_of_row _ _ _ _ _ hZ),Nat.lt_of_lt_of_le hl ho.size⟩
theorem own_box {w W:World}{N G:Int}{M:List Nat}(ho:Only M (w.alloc (.cells #[.int .i64 N,.int .i64 G] 60)) W)(h0:w.heap.size∉M):W.cell? ⟨w.heap.size,0,none⟩=some (.int .i64 N)∧W.cell? ⟨w.heap.size,1,none⟩=some (.int .i64 G):=by
 have hh:=heap_alloc_last w (.cells #[.int .i64 N,.int .i64 G] 60);exact ⟨(ho.cell (p:=⟨w.heap.size,0,none⟩) (by simp) h0).trans (cell_of_row _ _ 0 _ _ _ hh),(ho.cell (p:=⟨w.heap.size,1,none⟩) (by simp) h0).trans (cell_of_row _ _ 1 _ _ _ hh)⟩
end
end Go.Proofs.YtmfcfkomdflhlaaGreatDoor
