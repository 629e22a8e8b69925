import Derived.Test.YtodldddakjmonaaGreatDoorK22
namespace Go.Proofs.YtodldddakjmonaaGreatDoor
section
open Go Go.RowKit Go.Deep Go.Maps
abbrev cmpCells (s:Nat):Array Value:=#[.pointer (some ⟨s,0,none⟩),.int .i64 0,.int .i64 0,.bool false,.int .i64 0,.int .i64 0,.bool false]
theorem cmp_new (w:World)(s:Nat):CmpAt (w.alloc (.cells (cmpCells s) 405)) w.heap.size s 0 0 false :=
 ⟨by simp,by simp,by simp,by simp,fun o=>World.frozen?_alloc_at _ _ _ _ (by simp)⟩
theorem op_cells {w:World}{B g:Nat}{l:List OpV}{i:Nat}{x:OpV}(h:Rws w B opC 9 (some ⟨g,0,none⟩) l)(hi:l[i]?=some x):
  w.cell? ⟨g,i*9,none⟩=some (.string x.K)∧w.cell? ⟨g,i*9+1,none⟩=some (.string x.N)∧w.cell? ⟨g,i*9+2,none⟩=some (.string x.T)∧w.cell? ⟨g,i*9+3,none⟩=some (.int .i64 x.x1)∧w.cell? ⟨g,i*9+4,none⟩=some (.int .i64 x.x2)∧w.cell? ⟨g,i*9+5,none⟩=some (.int .i64 x.x3)∧w.cell? ⟨g,i*9+6,none⟩=some (.int .i64 x.x4)∧w.cell? ⟨g,i*9+7,none⟩=some (.int .i64 x.x5)∧w.cell? ⟨g,i*9+8,none⟩=some (.int .i64 x.x6):=by
 obtain ⟨g',h1,_,h3⟩:=h.at_ i x hi
 cases h1
 exact ⟨h3 0 _ rfl,h3 1 _ rfl,h3 2 _ rfl,h3 3 _ rfl,h3 4 _ rfl,h3 5 _ rfl,h3 6 _ rfl,h3 7 _ rfl,h3 8 _ rfl⟩
theorem BoxF.ne {w:World}{x c:Nat}{t t':TypeId}{v:Value}{cs:Array Value}{fr:Nat×Nat}(h:BoxF w x t v)(hc:w.heap[c]?=some (.cells cs t' fr))(ht:t≠t'):x∉[c]:=by
 intro e;rw [List.mem_singleton.1 e] at h;have h':w.heap[c]?=some (.cells #[v] t (0,0)):=h;rw [hc] at h';simp at h';exact ht h'.2.1.symm
theorem FnMap.ne {w:World}{b c:Nat}{f:List UInt8→Option Fv}{cs:Array Value}{t:TypeId}{fr:Nat×Nat}(h:FnMap w b f)(hc:w.heap[c]?=some (.cells cs t fr)):b∉[c]:=by
 obtain ⟨n,D,_,⟨es,clock,hb,_⟩,_⟩:=h;intro e;rw [List.mem_singleton.1 e,hc] at hb
 cases hb
theorem FinderAt.only1 {w w':World}{fb r c:Nat}{b:Nat→Nat}{f:Nat→List UInt8→Option Fv}{cs:Array Value}{fr:Nat×Nat}(h:FinderAt w fb r b f)(hc:w.heap[c]?=some (.cells cs 405 fr))(ho:Only [c] w w'):FinderAt w' fb r b f :=
 ⟨h.box.only ho (h.box.ne hc (by decide)),(ho.block r (Array.getElem?_eq_some_iff.1 h.row).1 (fun e=>by
  have:=h.row;rw [List.mem_singleton.1 e,hc] at this
  simp at this)).trans h.row,fun i hi=>(h.maps i hi).only ho ((h.maps i hi).ne hc)⟩
abbrev kR:ByteArray:=⟨#[114,111,111,116]⟩
abbrev kM:ByteArray:=⟨#[109,97,107,101]⟩
def opR:OpV:=⟨kR,⟨#[]⟩,⟨#[]⟩,0,0,0,0,0,0⟩
def opM (nm:ByteArray):OpV:=⟨kM,nm,⟨#[]⟩,1,0,0,0,0,0⟩
abbrev opVR:Value := .agg #[.string kR,.string ⟨#[]⟩,.string ⟨#[]⟩,.int .i64 0,.int .i64 0,.int .i64 0,.int .i64 0,.int .i64 0,.int .i64 0]
abbrev opVM (nm:ByteArray):Value := .agg #[.string kM,.string nm,.string ⟨#[]⟩,.int .i64 1,.int .i64 0,.int .i64 0,.int .i64 0,.int .i64 0,.int .i64 0]
abbrev opCR:Array Value:=#[.string kR,.string ⟨#[]⟩,.string ⟨#[]⟩,.int .i64 0,.int .i64 0,.int .i64 0,.int .i64 0,.int .i64 0,.int .i64 0]
abbrev opCM (nm:ByteArray):Array Value:=#[.string kM,.string nm,.string ⟨#[]⟩,.int .i64 1,.int .i64 0,.int .i64 0,.int .i64 0,.int .i64 0,.int .i64 0]
abbrev OpS (p:Nat)(K N:ByteArray)(x:Int)(W:World):Prop:=W.cell? ⟨p,0,none⟩=some (.string K)∧W.cell? ⟨p,1,none⟩=some (.string N)∧W.cell? ⟨p,2,none⟩=some (.string ⟨#[]⟩)∧W.cell? ⟨p,3,none⟩=some (.int .i64 x)∧W.cell? ⟨p,4,none⟩=some (.int .i64 0)∧W.cell? ⟨p,5,none⟩=some (.int .i64 0)∧W.cell? ⟨p,6,none⟩=some (.int .i64 0)∧W.cell? ⟨p,7,none⟩=some (.int .i64 0)∧W.cell? ⟨p,8,none⟩=some (.int .i64 0)
theorem opS_only {p:Nat}{K N:ByteArray}{x:Int}{W W':World}{L:List Nat}(h:OpS p K N x W)(ho:Only L W W')(hp:p∉L):OpS p K N x W':=by
 obtain ⟨h0,h1,h2,h3,h4,h5,h6,h7,h8⟩:=h;have hl:=lt_of_cell h0;exact ⟨(ho.cell (p:=⟨p,0,none⟩) hl hp).trans h0,(ho.cell (p:=⟨p,1,none⟩) hl hp).trans h1,(ho.cell (p:=⟨p,2,none⟩) hl hp).trans h2,(ho.cell (p:=⟨p,3,none⟩) hl hp).trans h3,(ho.cell (p:=⟨p,4,none⟩) hl hp).trans h4,(ho.cell (p:=⟨p,5,none⟩) hl hp).trans h5,(ho.cell (p:=⟨p,6,none⟩) hl hp).trans h6,(ho.cell (p:=⟨p,7,none⟩) hl hp).trans h7,(ho.cell (p:=⟨p,8,none⟩) hl hp).trans h8⟩
theorem opS_new (w:World)(K N:ByteArray)(x:Int)(t:TypeId):OpS w.heap.size K N x (w.alloc (.cells #[.string K,.string N,.string ⟨#[]⟩,.int .i64 x,.int .i64 0,.int .i64 0,.int .i64 0,.int .i64 0,.int .i64 0] t)):=⟨by simp,by simp,by simp,by simp,by simp,by simp,by simp,by simp,by simp⟩
theorem op_cellsR {w:World}{B g:Nat}{nm:ByteArray}(h:Rws w B opC 9 (some ⟨g,0,none⟩) [opR,opM nm]):w.cell? ⟨g,0,none⟩=some (.string kR)∧w.cell? ⟨g,1,none⟩=some (.string ⟨#[]⟩)∧w.cell? ⟨g,2,none⟩=some (.string ⟨#[]⟩)∧w.cell? ⟨g,3,none⟩=some (.int .i64 0)∧w.cell? ⟨g,4,none⟩=some (.int .i64 0)∧w.cell? ⟨g,5,none⟩=some (.int .i64 0)∧w.cell? ⟨g,6,none⟩=some (.int .i64 0)∧w.cell? ⟨g,7,none⟩=some (.int .i64 0)∧w.cell? ⟨g,8,none⟩=some (.int .i64 0):=op_cells (i:=0) h rfl
theorem op_cellsM {w:World}{B g:Nat}{nm:ByteArray}(h:Rws w B opC 9 (some ⟨g,0,none⟩) [opR,opM nm]):w.cell? ⟨g,9,none⟩=some (.string kM)∧w.cell? ⟨g,10,none⟩=some (.string nm)∧w.cell? ⟨g,11,none⟩=some (.string ⟨#[]⟩)∧w.cell? ⟨g,12,none⟩=some (.int .i64 1)∧w.cell? ⟨g,13,none⟩=some (.int .i64 0)∧w.cell? ⟨g,14,none⟩=some (.int .i64 0)∧w.cell? ⟨g,15,none⟩=some (.int .i64 0)∧w.cell? ⟨g,16,none⟩=some (.int .i64 0)∧w.cell? ⟨g,17,none⟩=some (.int .i64 0):=op_cells (i:=1) h rfl
def rpv (k:Int):RpV:=⟨k,⟨#[]⟩,0,0,0,0,[],0,false⟩
structure RpAt (w:World)(x:Nat)(k:Int):Prop where
 c0:w.cell? ⟨x,0,none⟩=some (.int .i64 k)
 c1:w.cell? ⟨x,1,none⟩=some (.string ⟨#[]⟩)
 c2:w.cell? ⟨x,2,none⟩=some (.int .i64 0)
 c3:w.cell? ⟨x,3,none⟩=some (.int .i64 0)
 c4:w.cell? ⟨x,4,none⟩=some (.int .i64 0)
 c5:w.cell? ⟨x,5,none⟩=some (.int .i64 0)
 c6:w.cell? ⟨x,6,none⟩=some (.slice none 0 0)
 c7:w.cell? ⟨x,7,none⟩=some (.int .i64 0)
 c8:w.cell? ⟨x,8,none⟩=some (.bool false)
theorem RpAt.only {w w':World}{x:Nat}{k:Int}{L:List Nat}(h:RpAt w x k)(ho:Only L w w')(hx:x∉L):RpAt w' x k:=by
 have hl:=lt_of_cell h.c0;exact ⟨(ho.cell (p:=⟨x,0,none⟩) hl hx).trans h.c0,(ho.cell (p:=⟨x,1,none⟩) hl hx).trans h.c1,(ho.cell (p:=⟨x,2,none⟩) hl hx).trans h.c2,(ho.cell (p:=⟨x,3,none⟩) hl hx).trans h.c3,(ho.cell (p:=⟨x,4,none⟩) hl hx).trans h.c4,(ho.cell (p:=⟨x,5,none⟩) hl hx).trans h.c5,(ho.cell (p:=⟨x,6,none⟩) hl hx).trans h.c6,(ho.cell (p:=⟨x,7,none⟩) hl hx).trans h.c7,(ho.cell (p:=⟨x,8,none⟩) hl hx).trans h.c8⟩
theorem RpAt.new (w:World)(k:Int)(t:TypeId):RpAt (w.alloc (.cells (rpCells k) t)) w.heap.size k:=⟨by simp,by simp,by simp,by simp,by simp,by simp,by simp,by simp,by simp⟩
theorem RpAt.put {w:World}{x:Nat}{j k:Int}(h:RpAt w x j):RpAt (put9 w x (.int .i64 k) (.string ⟨#[]⟩) (.int .i64 0) (.int .i64 0) (.int .i64 0) (.int .i64 0) (.slice none 0 0) (.int .i64 0) (.bool false)) x k:=by
 obtain ⟨h0,h1,h2,h3,h4,h5,h6,h7,h8⟩:=h;refine ⟨?_,?_,?_,?_,?_,?_,?_,?_,?_⟩
 · rw [World.cell?_setCell_other _ _ _ _ (by simp),World.cell?_setCell_other _ _ _ _ (by simp),World.cell?_setCell_other _ _ _ _ (by simp),World.cell?_setCell_other _ _ _ _ (by simp),World.cell?_setCell_other _ _ _ _ (by simp),World.cell?_setCell_other _ _ _ _ (by simp),World.cell?_setCell_other _ _ _ _ (by simp),World.cell?_setCell_other _ _ _ _ (by simp)]
   refine World.cell?_setCell_same _ _ _ (u := .int .i64 j) ?_;exact h0
 · rw [World.cell?_setCell_other _ _ _ _ (by simp),World.cell?_setCell_other _ _ _ _ (by simp),World.cell?_setCell_other _ _ _ _ (by simp),World.cell?_setCell_other _ _ _ _ (by simp),World.cell?_setCell_other _ _ _ _ (by simp),World.cell?_setCell_other _ _ _ _ (by simp),World.cell?_setCell_other _ _ _ _ (by simp)]
   refine World.cell?_setCell_same _ _ _ (u := .string ⟨#[]⟩) ?_;rw [World.cell?_setCell_other _ _ _ _ (by simp)];exact h1
 · rw [World.cell?_setCell_other _ _ _ _ (by simp),World.cell?_setCell_other _ _ _ _ (by simp),World.cell?_setCell_other _ _ _ _ (by simp),World.cell?_setCell_other _ _ _ _ (by simp),World.cell?_setCell_other _ _ _ _ (by simp),World.cell?_setCell_other _ _ _ _ (by simp)]
   refine World.cell?_setCell_same _ _ _ (u := .int .i64 0) ?_;rw [World.cell?_setCell_other _ _ _ _ (by simp),World.cell?_setCell_other _ _ _ _ (by simp)];exact h2
 · rw [World.cell?_setCell_other _ _ _ _ (by simp),World.cell?_setCell_other _ _ _ _ (by simp),World.cell?_setCell_other _ _ _ _ (by simp),World.cell?_setCell_other _ _ _ _ (by simp),World.cell?_setCell_other _ _ _ _ (by simp)]
   refine World.cell?_setCell_same _ _ _ (u := .int .i64 0) ?_;rw [World.cell?_setCell_other _ _ _ _ (by simp),World.cell?_setCell_other _ _ _ _ (by simp),World.cell?_setCell_other _ _ _ _ (by simp)];exact h3
 · rw [World.cell?_setCell_other _ _ _ _ (by simp),World.cell?_setCell_other _ _ _ _ (by simp),World.cell?_setCell_other _ _ _ _ (by simp),World.cell?_setCell_other _ _ _ _ (by simp)]
   refine World.cell?_setCell_same _ _ _ (u := .int .i64 0) ?_;rw [World.cell?_setCell_other _ _ _ _ (by simp),World.cell?_setCell_other _ _ _ _ (by simp),World.cell?_setCell_other _ _ _ _ (by simp),World.cell?_setCell_other _ _ _ _ (by simp)];exact h4
 · rw [World.cell?_setCell_other _ _ _ _ (by simp),World.cell?_setCell_other _ _ _ _ (by simp),World.cell?_setCell_other _ _ _ _ (by simp)]
   refine World.cell?_setCell_same _ _ _ (u := .int .i64 0) ?_;rw [World.cell?_setCell_other _ _ _ _ (by simp),World.cell?_setCell_other _ _ _ _ (by simp),World.cell?_setCell_other _ _ _ _ (by simp),World.cell?_setCell_other _ _ _ _ (by simp),World.cell?_setCell_other _ _ _ _ (by simp)];exact h5
 · rw [World.cell?_setCell_other _ _ _ _ (by simp),World.cell?_setCell_other _ _ _ _ (by simp)]
   refine World.cell?_setCell_same _ _ _ (u := .slice none 0 0) ?_;rw [World.cell?_setCell_other _ _ _ _ (by simp),World.cell?_setCell_other _ _ _ _ (by simp),World.cell?_setCell_other _ _ _ _ (by simp),World.cell?_setCell_other _ _ _ _ (by simp),World.cell?_setCell_other _ _ _ _ (by simp),World.cell?_setCell_other _ _ _ _ (by simp)];exact h6
 · rw [World.cell?_setCell_other _ _ _ _ (by simp)]
   refine World.cell?_setCell_same _ _ _ (u := .int .i64 0) ?_;rw [World.cell?_setCell_other _ _ _ _ (by simp),World.cell?_setCell_other _ _ _ _ (by simp),World.cell?_setCell_other _ _ _ _ (by simp),World.cell?_setCell_other _ _ _ _ (by simp),World.cell?_setCell_other _ _ _ _ (by simp),World.cell?_setCell_other _ _ _ _ (by simp),World.cell?_setCell_other _ _ _ _ (by simp)];exact h7
 · refine World.cell?_setCell_same _ _ _ (u := .bool false) ?_
   rw [World.cell?_setCell_other _ _ _ _ (by simp),World.cell?_setCell_other _ _ _ _ (by simp),World.cell?_setCell_other _ _ _ _ (by simp),World.cell?_setCell_other _ _ _ _ (by simp),World.cell?_setCell_other _ _ _ _ (by simp),World.cell?_setCell_other _ _ _ _ (by simp),World.cell?_setCell_other _ _ _ _ (by simp),World.cell?_setCell_other _ _ _ _ (by simp)];exact h8
def DidR (w:World)(k:Int)(L:List Nat)(X:World→Prop)(v:Value)(wx:World):Prop:=∃ x,v = .pointer (some ⟨x,0,none⟩)∧RpAt wx x k∧X wx∧w.heap.size≤x∧Only L w wx
theorem DidR.new {w w3 w4:World}{k:Int}{L:List Nat}{X:World→Prop}(h3:∀ W,Only [] w3 W→X W)(o3:Only [] w3 w4)(o4:Only L w w4):DidR w k L X (.pointer (some ⟨w4.heap.size,0,none⟩)) (w4.alloc (.cells (rpCells k) 169)) :=
 ⟨_,rfl,RpAt.new _ _ _,h3 _ (o3.alloc _),o4.size,o4.alloc _⟩
theorem DidR.mid {w w3 w4:World}{j k:Int}{L:List Nat}{X:World→Prop}(h3:∀ W,Only [] w3 W→X W)(o3:Only [] w3 w4)(o4:Only L w w4)(ho:w.heap.size≤w3.heap.size)(hr:RpAt w4 w3.heap.size j):DidR w k L X (.pointer (some ⟨w3.heap.size,0,none⟩)) (put9 w4 w3.heap.size (.int .i64 k) (.string ⟨#[]⟩) (.int .i64 0) (.int .i64 0) (.int .i64 0) (.int .i64 0) (.slice none 0 0) (.int .i64 0) (.bool false)) :=
 ⟨_,rfl,RpAt.put hr,h3 _ (o3.trans put9_only (fun q hq=>by rw [List.mem_singleton.1 hq];exact Or.inr (Nat.le_refl _))),ho,o4.trans put9_only (fun q hq=>by rw [List.mem_singleton.1 hq];exact Or.inr ho)⟩
theorem DidR.old {w w3 w4:World}{j k:Int}{L:List Nat}{X:World→Prop}{x:Nat}(h3:∀ W,Only [x] w3 W→X W)(o3:Only [] w3 w4)(o4:Only L w w4)(ho:w.heap.size≤x)(hr:RpAt w4 x j):DidR w k L X (.pointer (some ⟨x,0,none⟩)) (put9 w4 x (.int .i64 k) (.string ⟨#[]⟩) (.int .i64 0) (.int .i64 0) (.int .i64 0) (.int .i64 0) (.slice none 0 0) (.int .i64 0) (.bool false)) :=
 ⟨_,rfl,RpAt.put hr,h3 _ ((o3.mono (L':=[x]) (fun _ hk=>by cases hk)).trans put9_only (fun q hq=>Or.inl hq)),ho,o4.trans put9_only (fun q hq=>by rw [List.mem_singleton.1 hq];exact Or.inr ho)⟩
def TwoR (w:World)(kc:Int)(L:List Nat)(R:World→World→Prop)(e:Ending)(w':World):Prop:=∃ g c,e = .returned (.tuple #[.slice (some ⟨g,0,none⟩) 2 c,.nilIface])∧w'.ownsRow w.heap.size 169 9 (.slice (some ⟨g,0,none⟩) 2 c) 2 (rpC (rpv 0,Value.slice none 0 0)++rpC (rpv kc,Value.slice none 0 0))∧AftR w.heap.size w.heap.size R w'∧Only L w w'
end
end Go.Proofs.YtodldddakjmonaaGreatDoor
