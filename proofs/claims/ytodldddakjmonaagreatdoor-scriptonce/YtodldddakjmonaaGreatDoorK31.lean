import Derived.Test.YtodldddakjmonaaGreatDoorK29
set_option maxRecDepth 100000
set_option maxHeartbeats 8000000
namespace Go.Proofs.YtodldddakjmonaaGreatDoor
section
open Go Go.RowKit Go.Deep
theorem Only.drewsN {L:List Nat}{a w:World}(h:Only L a w)(n:Nat):Only L a (w.drewN n):=⟨h.os,h.tape,h.output,h.size,h.block⟩
structure Msg where
 F:ByteArray
 T:ByteArray
 X:ByteArray
def msC (x:Msg):List Value:=[.string x.F,.string x.T,.string x.X]
theorem msC_len (x:Msg):(msC x).length=3:=rfl
theorem msC_one (x:Msg):∀ v∈msC x,v.oneCell'=true:=by
 intro v hv;simp [msC] at hv;rcases hv with rfl | rfl | rfl<;>rfl
theorem msInfo:(Tryz.prog.info? 184).map (fun i=>(i.zero,i.size,i.bytes))=some (some (.agg #[.string ⟨#[]⟩,.string ⟨#[]⟩,.string ⟨#[]⟩]),3,48):=by kernel_rfl
theorem msUnd:Tryz.prog.underlying 45=some (.slice 184):=by kernel_rfl
theorem msInfo':∃ i0,Tryz.prog.info? 184=some i0∧i0.zero=some (.agg #[.string ⟨#[]⟩,.string ⟨#[]⟩,.string ⟨#[]⟩])∧i0.size=3∧i0.bytes=48:=by
 obtain ⟨i0,hi0,hz⟩:=Option.map_eq_some_iff.1 msInfo;simp only [Prod.mk.injEq] at hz;exact ⟨i0,hi0,hz⟩
def RowM (ty:TypeId)(w:World)(base:Nat)(v:Value)(l:List Msg):Prop:=w.ownsRow base ty 3 v l.length (rowOf msC l)
abbrev Msgs:World→Nat→Value→List Msg→Prop:=RowM 184
theorem RowM.only {ty:TypeId}{w w':World}{base:Nat}{v:Value}{l:List Msg}{L:List Nat}(h:RowM ty w base v l)(ho:Only L w w')(hn:∀ k,v.ownBlock=some k→k∉L):RowM ty w' base v l:=ho.owns h hn
theorem RowM.nil (ty:TypeId)(w:World)(base:Nat):RowM ty w base (.slice none 0 0) []:=World.ownsRow_nil _ _ _ _
theorem RowM.open {ty:TypeId}{w:World}{base:Nat}{v:Value}{l:List Msg}(h:RowM ty w base v l):(v = .slice none 0 0∧l=[])∨∃ g cap cur,v = .slice (some ⟨g,0,none⟩) l.length cap∧base≤g∧g < w.heap.size∧w.heap[g]?=some (.cells cur ty (0,0))∧l.length≤cap∧cap≤maxLen∧cur.size=cap*3∧cur.toList.take (l.length*3)=rowOf msC l:=by
 rcases h.2 with ⟨h1,h2⟩ | ⟨g,cap,cur,h1,h2,h3,h4⟩
 · exact Or.inl ⟨h1,List.length_eq_zero_iff.1 h2⟩
 · exact Or.inr ⟨g,cap,cur,h1,h2,(Array.getElem?_eq_some_iff.1 h3).1,h3,h4⟩
theorem RowM.cells {ty:TypeId}{w:World}{base g cap:Nat}{l:List Msg}(h:RowM ty w base (.slice (some ⟨g,0,none⟩) l.length cap) l){i:Nat}{x:Msg}(hi:l[i]?=some x):
  w.cell? ⟨g,i*3,none⟩=some (.string x.F)∧w.cell? ⟨g,i*3+1,none⟩=some (.string x.T)∧w.cell? ⟨g,i*3+2,none⟩=some (.string x.X)∧(∀ o,w.frozen? ⟨g,o,none⟩=false):=by
 have hlt:i < l.length:=(List.getElem?_eq_some_iff.1 hi).1
 have key:∀ j,j < 3→w.cell? ⟨g,i*3+j,none⟩=(msC x)[j]?:=fun j hj=>by
  rw [World.ownsRow.cellAt h _ (by omega)];exact rowOf_get msC_len l i j x hj hi
 exact ⟨key 0 (by decide),key 1 (by decide),key 2 (by decide),fun o=>World.ownsRow.frozenAt h o⟩
theorem msSize:(Tryz.prog.info? 184).map (·.size)=some 3:=by
 obtain ⟨i0,h1,_,h2,_⟩:=msInfo';rw [h1];simp [h2]
theorem copy_at {w:World}{g o dLen dCap sg so sLen sCap m:Nat}{cur:Array Value}{cs:List Value}(hg:w.heap[g]?=some (.cells cur 184 (0,0)))(hm:Nat.min sLen dLen=m)(hn:cs.length=m*3)
  (hsrc:∀ j v,cs[j]?=some v→w.cell? ((⟨sg,so,none⟩:Addr).add j)=some v) (hfit:o+cs.length≤cur.size) (h1:∀ v∈cs,v.oneCell'=true) :
  ∃ w',(∀ ty,(Builtin.copy_ #[45,45] ty #[.slice (some ⟨g,o,none⟩) dLen dCap,.slice (some ⟨sg,so,none⟩) sLen sCap]).run Tryz.prog w = .ok (goInt m) w')∧w'.heap[g]?=some (.cells (overV cur.toList o cs).toArray 184 (0,0))∧Only [g] w w' :=
 ⟨w.setRow g (overV cur.toList o cs).toArray,fun ty=>run_copy_k (P:=Tryz.prog) w 45 45 ty 184 3 g o dLen dCap ⟨sg,so,none⟩ sLen sCap cur 184 cs msUnd msSize hg m hm hn hsrc hfit h1,setRow_heap w g cur _ 184 _ hg,only_rowS w g _⟩
theorem msZero (w:World):(zeroValue 184).run Tryz.prog w = .ok (.agg #[.string ⟨#[]⟩,.string ⟨#[]⟩,.string ⟨#[]⟩]) w:=by
 obtain ⟨i0,h1,h2,_⟩:=msInfo';simp [zeroValue,typeInfo,h1,h2]
theorem zeroOne (n:Nat):∀ v∈(Builtin.zeroCells (Value.agg #[.string ⟨#[]⟩,.string ⟨#[]⟩,.string ⟨#[]⟩]).cells n).toList,v.oneCell'=true:=by
 intro v hv;simp only [Builtin.zeroCells,Array.toList_map,List.mem_map] at hv;obtain ⟨i,_,rfl⟩:=hv;have h:i % 3 < 3:=Nat.mod_lt _ (by decide);have hs:(Value.agg #[.string ⟨#[]⟩,.string ⟨#[]⟩,.string ⟨#[]⟩]).cells=#[.string ⟨#[]⟩,.string ⟨#[]⟩,.string ⟨#[]⟩]:=rfl;rw [hs];rcases (show i % 3=0∨i % 3=1∨i % 3=2 by omega) with e | e | e<;>simp [e]<;>rfl
theorem clear_at {w:World}{g o n cap:Nat}{cur:Array Value}(hg:w.heap[g]?=some (.cells cur 184 (0,0)))(hn:0 < n)(hfit:o+n*3≤cur.size):
  ∃ w' cs,(∀ ty,(Builtin.clear_ #[45] ty #[.slice (some ⟨g,o,none⟩) n cap]).run Tryz.prog w = .ok (.tuple #[]) w')∧w'.heap[g]?=some (.cells (overV cur.toList o cs).toArray 184 (0,0))∧cs.length=n*3∧Only [g] w w' :=
 ⟨_,_,fun ty=>run_clear_k (P:=Tryz.prog) w 45 ty 184 _ g o n cap cur 184 msUnd msZero hg hn (by have h:=hfit;exact h) (zeroOne n),setRow_heap w g cur _ 184 _ hg,by rw [Array.length_toList,size_zeroCells];rfl,only_rowS w g _⟩
theorem step_append_known {P:Program}{ops:Array Oper}{o:Oper}{a:Act}{w:World}{K:Act→World→Prop}{Q:Exit→Act→World→Prop}{E:Prop}(hg:o.guard=none)(s x:Operand)(t t':TypeId)(hop:o.op=Op.call { callee:=Callee.builtin Builtin.append,args:=#[s,x],argTypes:=#[t,t'] })
  (v u:Value) (hs:a.eval s=v) (hx:a.eval x=u) {v':Value} {w':World} (hr:(Builtin.append_ #[t,t'] o.type #[v,u]).run P w = .ok v' w') (hK:K (a.put o.dst v') w'):if Region.wanted o (yielded ops a.tmps)=true then Oper.wp P o a w K Q else E:=by
 have hw:Region.wanted o (yielded ops a.tmps)=true:=by simp [Region.wanted,hg]
 rw [if_pos hw];unfold Oper.wp;simp [execOp,hop,resolve,invoke,builtin,hs,hx,hr,Result.andThen];exact hK
theorem RowM.rows {ty:TypeId}{w:World}{base g cap n:Nat}{l:List Msg}(h:RowM ty w base (.slice (some ⟨g,0,none⟩) n cap) l)(hn:l.length=n):∀ j u,(rowOf msC l)[j]?=some u→w.cell? ((⟨g,0,none⟩:Addr).add j)=some u:=by
 subst hn;exact World.ownsRow.cells h rfl
theorem run_append_zero (w:World)(g i cap:Nat)(sa:Option Addr)(c:Nat)(ty:TypeId)(hic:i≤cap):(Builtin.append_ #[45,45] ty #[.slice (some ⟨g,0,none⟩) i cap,.slice sa 0 c]).run Tryz.prog w = .ok (.slice (some ⟨g,0,none⟩) i cap) w:=by
 obtain ⟨i0,hi0,hz0,hz1,hz2⟩:=msInfo'
 cases sa<;>simp [Builtin.append_,run_underlying msUnd,sizeOf,typeInfo,hi0,Builtin.lenOf,Builtin.firstCells,hic,storeCells,loadCells,loadCellsFrom]
theorem run_copy_zero (w:World)(g o dLen dCap:Nat)(sa:Option Addr)(c:Nat)(ty:TypeId):(Builtin.copy_ #[45,45] ty #[.slice (some ⟨g,o,none⟩) dLen dCap,.slice sa 0 c]).run Tryz.prog w = .ok (goInt 0) w:=by
 obtain ⟨i0,hi0,hz0,hz1,hz2⟩:=msInfo'
 cases sa<;>simp [Builtin.copy_,run_underlying msUnd,sizeOf,typeInfo,hi0,Builtin.lenOf,Builtin.firstCells,storeCells,loadCells,loadCellsFrom]
def Placed (w w':World)(base g:Nat)(v':Value)(l:List Msg):Prop:=Msgs w' base v' l∧Only [g] w w'∧(v'.ownBlock=some g∨∃ k,v'.ownBlock=some k∧w.heap.size≤k)
theorem row_open {w:World}{base g n cap:Nat}{l:List Msg}(h:Msgs w base (.slice (some ⟨g,0,none⟩) n cap) l)(hn:l.length=n):∃ cur,base≤g∧g < w.heap.size∧w.heap[g]?=some (.cells cur 184 (0,0))∧n≤cap∧cap≤maxLen∧cur.size=cap*3∧cur.toList.take (n*3)=rowOf msC l:=by
 rcases RowM.open h with ⟨h1,_⟩ | ⟨g',cap',cur,h1,hbg,hgl,hg,hnc,hcm,hcs,htk⟩
 · cases h1
 · simp only [Value.slice.injEq,Option.some.injEq,Addr.mk.injEq,and_true] at h1
   obtain ⟨rfl,-,rfl⟩:=h1;subst hn;exact ⟨cur,hbg,hgl,hg,hnc,hcm,hcs,htk⟩
theorem row_take {w:World}{base g n cap i:Nat}{l:List Msg}(h:Msgs w base (.slice (some ⟨g,0,none⟩) n cap) l)(hn:l.length=n)(hi:i≤n):w.ownsRow base 184 3 (.slice (some ⟨g,0,none⟩) i cap) i (rowOf msC (l.take i)):=by
 obtain ⟨cur,hbg,hgl,hg,hnc,hcm,hcs,htk⟩:=row_open h hn;refine ⟨by rw [rowOf_len msC_len,List.length_take];omega,Or.inr ⟨g,cap,cur,rfl,hbg,hg,by omega,hcm,hcs,?_⟩⟩;rw [rowOf_take msC_len,← htk,List.take_take,Nat.min_eq_left (by omega)]
theorem row_part {w:World}{g n i:Nat}{l:List Msg}{cur:Array Value}(hg:w.heap[g]?=some (.cells cur 184 (0,0)))(htk:cur.toList.take (n*3)=rowOf msC l):∀ j v,(rowOf msC (l.drop i))[j]?=some v→w.cell? ((⟨g,i*3,none⟩:Addr).add j)=some v :=
 part_of hg (i*3) (fun j v hv=>by
  rw [rowOf_drop msC_len,← htk,List.getElem?_drop,List.getElem?_take] at hv
  split at hv
  · exact hv
  · cases hv)
theorem shrink_runs (w:World)(base g n cap i:Nat)(l:List Msg)(h:Msgs w base (.slice (some ⟨g,0,none⟩) n cap) l)(hn:l.length=n)(hi:i+1 < n):
   ∃ w2 w3,(∀ ty,(Builtin.copy_ #[45,45] ty #[.slice (some ⟨g,i*3,none⟩) (n - 1 - i) (cap - i),.slice (some ⟨g,(i+1)*3,none⟩) (n - (i+1)) (cap - (i+1))]).run Tryz.prog w.drew = .ok (goInt (n - (i+1):Nat)) w2) ∧
    (∀ ty,(Builtin.clear_ #[45] ty #[.slice (some ⟨g,(n - 1)*3,none⟩) (n - (n - 1)) (cap - (n - 1))]).run Tryz.prog w2 = .ok (.tuple #[]) w3)∧Placed w w3 base g (.slice (some ⟨g,0,none⟩) (n - 1) cap) (l.take i++l.drop (i+1)):=by
 obtain ⟨cur,hbg,hgl,hg,hnc,hcm,hcs,htk⟩:=row_open h hn
 have hdl:(rowOf msC (l.drop (i+1))).length=(n - (i+1))*3:=by rw [rowOf_len msC_len,List.length_drop,hn]
 have hcl:cur.toList.length=cap*3:=by rw [Array.length_toList,hcs]
 obtain ⟨w2,hc2,hh2,o2⟩:=copy_at (w:=w.drew) (g:=g) (dLen:=n - 1 - i) (dCap:=cap - i) (sLen:=n - (i+1)) (sCap:=cap - (i+1)) (m:=n - (i+1)) (cs:=rowOf msC (l.drop (i+1))) (so:=(i+1)*3) (sg:=g) (o:=i*3) hg (by simp only [Nat.min_def];split<;>omega) hdl
   (row_part (w:=w.drew) (n:=n) hg htk) (by omega) (rowOf_one msC_one _)
 have hov1:(overV cur.toList (i*3) (rowOf msC (l.drop (i+1)))).length=cap*3:=by rw [overV_len (by omega),hcl]
 obtain ⟨w3,cs,hc3,hh3,hcsl,o3⟩:=clear_at (g:=g) (o:=(n - 1)*3) (n:=n - (n - 1)) (cap:=cap - (n - 1)) hh2 (by omega) (by rw [List.size_toArray,hov1];omega)
 have hlen:(l.take i++l.drop (i+1)).length=n - 1:=by rw [List.length_append,List.length_take,List.length_drop];omega
 refine ⟨w2,w3,hc2,hc3,⟨by rw [rowOf_len msC_len],Or.inr ⟨g,cap,_,by rw [hlen],hbg,hh3,by rw [hlen];omega,hcm,?_,?_⟩⟩,(((Only.refl [g] w).drew).trans o2 (fun _ hk=>Or.inl hk)).trans o3 (fun k hk=>Or.inl hk),Or.inl rfl⟩
 · rw [List.size_toArray,List.toList_toArray,overV_len (by omega),hov1]
 · rw [hlen,List.toList_toArray,List.toList_toArray]
   have a1:(overV (overV cur.toList (i*3) (rowOf msC (l.drop (i+1)))) ((n - 1)*3) cs).take ((n - 1)*3)=(overV cur.toList (i*3) (rowOf msC (l.drop (i+1)))).take ((n - 1)*3):=by
    rw [overV,List.append_assoc,List.take_append_of_le_length (by rw [List.length_take];omega),List.take_take,Nat.min_self]
   have a2:(n - 1)*3=i*3+(rowOf msC (l.drop (i+1))).length:=by omega
   rw [a1,a2,overV_end (by omega),rowOf_append];congr 1;rw [rowOf_take msC_len,← htk,List.take_take,Nat.min_eq_left (by omega)]
theorem last_run (w:World)(base g n cap:Nat)(l:List Msg)(h:Msgs w base (.slice (some ⟨g,0,none⟩) (n+1) cap) l)(hn:l.length=n+1):
   ∃ w3,(∀ ty,(Builtin.clear_ #[45] ty #[.slice (some ⟨g,n*3,none⟩) (n+1 - n) (cap - n)]).run Tryz.prog w = .ok (.tuple #[]) w3)∧Placed w w3 base g (.slice (some ⟨g,0,none⟩) n cap) (l.take n):=by
 obtain ⟨cur,hbg,hgl,hg,hnc,hcm,hcs,htk⟩:=row_open h hn
 have hcl:cur.toList.length=cap*3:=by rw [Array.length_toList,hcs]
 obtain ⟨w3,cs,hc3,hh3,hcsl,o3⟩:=clear_at (g:=g) (o:=n*3) (n:=n+1 - n) (cap:=cap - n) hg (by omega) (by omega)
 have hlen:(l.take n).length=n:=by rw [List.length_take];omega
 refine ⟨w3,hc3,⟨by rw [rowOf_len msC_len],Or.inr ⟨g,cap,_,by rw [hlen],hbg,hh3,by rw [hlen];omega,hcm,?_,?_⟩⟩,o3,Or.inl rfl⟩
 · rw [List.size_toArray,overV_len (by omega),hcl]
 · rw [hlen,List.toList_toArray,overV,List.append_assoc,List.take_append_of_le_length (by rw [List.length_take];omega),List.take_take,Nat.min_self,rowOf_take msC_len,← htk,List.take_take,Nat.min_eq_left (by omega)]
theorem two_cells (l:List Msg)(i:Nat)(vs:List Msg)(hv:vs.length=2)(hi:i+1 < l.length)(ROW:List Value)(hR:(l.length+1)*3≤ROW.length)(hr:ROW.take (i*3)=rowOf msC (l.take i)):
  (overV (overV ROW (i*3) (rowOf msC vs)) ((i+2)*3) (rowOf msC (l.drop (i+1)))).take ((l.length+1)*3)=rowOf msC (l.take i++vs++l.drop (i+1)):=by
 have hd:(rowOf msC (l.drop (i+1))).length=(l.length - (i+1))*3:=by rw [rowOf_len msC_len,List.length_drop]
 have ho:(rowOf msC vs).length=6:=by rw [rowOf_len msC_len,hv]
 have e1:(overV ROW (i*3) (rowOf msC vs)).length=ROW.length:=overV_len (by omega)
 have e2:(i+2)*3+(rowOf msC (l.drop (i+1))).length=(l.length+1)*3:=by omega
 rw [← e2,overV_end (by omega)]
 have e3:(i+2)*3=i*3+(rowOf msC vs).length:=by omega
 rw [e3,overV_end (by omega),hr];simp [rowOf_append]
theorem two_cells2 (l:List Msg)(i:Nat)(vs:List Msg)(hv:vs.length=2)(hi:i+1 < l.length)(ROW:List Value)(hR:(l.length+1)*3≤ROW.length)(hr:ROW.take (l.length*3)=rowOf msC l):
  (overV (overV ROW ((i+2)*3) (rowOf msC (l.drop (i+1)))) (i*3) (rowOf msC vs)).take ((l.length+1)*3)=rowOf msC (l.take i++vs++l.drop (i+1)):=by
 have hd:(rowOf msC (l.drop (i+1))).length=(l.length - (i+1))*3:=by rw [rowOf_len msC_len,List.length_drop]
 have ho:(rowOf msC vs).length=6:=by rw [rowOf_len msC_len,hv]
 have hr2:ROW.take (i*3)=rowOf msC (l.take i):=by
  rw [rowOf_take msC_len,← hr,List.take_take,Nat.min_eq_left (by omega)]
 unfold overV
 have a1:(ROW.take ((i+2)*3)++rowOf msC (l.drop (i+1))++ROW.drop ((i+2)*3+(rowOf msC (l.drop (i+1))).length)).take (i*3)=rowOf msC (l.take i):=by
  rw [List.append_assoc,List.take_append_of_le_length (by rw [List.length_take];omega),List.take_take,Nat.min_eq_left (by omega),hr2]
 have a2:(ROW.take ((i+2)*3)++rowOf msC (l.drop (i+1))++ROW.drop ((i+2)*3+(rowOf msC (l.drop (i+1))).length)).drop (i*3+(rowOf msC vs).length)=rowOf msC (l.drop (i+1))++ROW.drop ((i+2)*3+(rowOf msC (l.drop (i+1))).length):=by
  have hlt:(ROW.take ((i+2)*3)).length=i*3+(rowOf msC vs).length:=by rw [List.length_take];omega
  rw [List.append_assoc,← hlt,List.drop_left]
 rw [a1,a2]
 have hlen:(rowOf msC (l.take i)++rowOf msC vs++rowOf msC (l.drop (i+1))).length=(l.length+1)*3:=by
  simp only [List.length_append,rowOf_len msC_len,List.length_take,List.length_drop,hv];omega
 rw [← List.append_assoc,← hlen,List.take_left];simp [rowOf_append]
theorem shift_runs (w:World)(base b2 g vb n cap c i:Nat)(l vs:List Msg)(h:Msgs w base (.slice (some ⟨g,0,none⟩) n cap) l)(hn:l.length=n)(hi:i+1 < n)(hroom:n+1≤cap)(hv:Msgs w b2 (.slice (some ⟨vb,0,none⟩) 2 c) vs)(hv2:vs.length=2)(hvb:vb≠g):
   ∃ w2 w3,(∀ ty,(Builtin.copy_ #[45,45] ty #[.slice (some ⟨g,(i+2)*3,none⟩) (n+1 - (i+2)) (cap - (i+2)),.slice (some ⟨g,(i+1)*3,none⟩) (n - (i+1)) (cap - (i+1))]).run Tryz.prog w.drew = .ok (goInt (n - (i+1):Nat)) w2) ∧
    (∀ ty,(Builtin.copy_ #[45,45] ty #[.slice (some ⟨g,i*3,none⟩) (n+1 - i) (cap - i),.slice (some ⟨vb,0,none⟩) 2 c]).run Tryz.prog w2 = .ok (goInt (2:Nat)) w3)∧Placed w w3 base g (.slice (some ⟨g,0,none⟩) (n+1) cap) (l.take i++vs++l.drop (i+1)):=by
 obtain ⟨cur,hbg,hgl,hg,hnc,hcm,hcs,htk⟩:=row_open h hn
 have hdl:(rowOf msC (l.drop (i+1))).length=(n - (i+1))*3:=by rw [rowOf_len msC_len,List.length_drop,hn]
 have hvl:(rowOf msC vs).length=6:=by rw [rowOf_len msC_len,hv2]
 have hcl:cur.toList.length=cap*3:=by rw [Array.length_toList,hcs]
 obtain ⟨w2,hc2,hh2,o2⟩:=copy_at (w:=w.drew) (g:=g) (dLen:=n+1 - (i+2)) (dCap:=cap - (i+2)) (sLen:=n - (i+1)) (sCap:=cap - (i+1)) (m:=n - (i+1)) (cs:=rowOf msC (l.drop (i+1))) (so:=(i+1)*3) (sg:=g) (o:=(i+2)*3) hg (by simp only [Nat.min_def];split<;>omega) hdl
   (row_part (w:=w.drew) (n:=n) hg htk) (by omega) (rowOf_one msC_one _)
 have hov1:(overV cur.toList ((i+2)*3) (rowOf msC (l.drop (i+1)))).length=cap*3:=by rw [overV_len (by omega),hcl]
 have o02:Only [g] w w2:=((Only.refl [g] w).drew).trans o2 (fun _ hk=>Or.inl hk);have hv':Msgs w2 b2 (.slice (some ⟨vb,0,none⟩) 2 c) vs:=RowM.only hv o02 (fun k hk=>by cases hk;simpa using hvb);obtain ⟨w3,hc3,hh3,o3⟩:=copy_at (w:=w2) (g:=g) (dLen:=n+1 - i) (dCap:=cap - i) (sLen:=2) (sCap:=c) (m:=2) (cs:=rowOf msC vs) (so:=0) (sg:=vb) (o:=i*3) hh2 (by simp only [Nat.min_def];split<;>omega) hvl (RowM.rows hv' hv2) (by rw [List.size_toArray,hov1];omega) (rowOf_one msC_one _)
 have hlen:(l.take i++vs++l.drop (i+1)).length=n+1:=by rw [List.length_append,List.length_append,List.length_take,List.length_drop];omega
 refine ⟨w2,w3,hc2,hc3,⟨by rw [rowOf_len msC_len],Or.inr ⟨g,cap,_,by rw [hlen],hbg,hh3,by rw [hlen];exact hroom,hcm,?_,?_⟩⟩,o02.trans o3 (fun k hk=>Or.inl hk),Or.inl rfl⟩
 · rw [List.size_toArray,List.toList_toArray,overV_len (by omega),hov1]
 · rw [hlen,List.toList_toArray,List.toList_toArray,← hn]
   exact two_cells2 l i vs hv2 (by omega) cur.toList (by omega) (by rw [hn];exact htk)
theorem grow_runs (w:World)(base b2 g vb n c i:Nat)(l vs:List Msg)(h:Msgs w base (.slice (some ⟨g,0,none⟩) n n) l)(hn:l.length=n)(hl:n≤1000)(hi:i+1 < n)(hv:Msgs w b2 (.slice (some ⟨vb,0,none⟩) 2 c) vs)(hv2:vs.length=2)(hb:base≤w.heap.size):
   ∃ w1 w2 w3 gn G,n+1≤G∧(G:Int)≤9223372036854775807∧(∀ ty,(Builtin.append_ #[45,3] ty #[.slice (some ⟨g,0,none⟩) i n,.int .i64 ((n+1 - i:Nat):Int)]).run Tryz.prog w = .ok (.slice (some ⟨gn,0,none⟩) (n+1) G) w1) ∧
    (∀ ty,(Builtin.copy_ #[45,45] ty #[.slice (some ⟨gn,i*3,none⟩) (n+1 - i) (G - i),.slice (some ⟨vb,0,none⟩) 2 c]).run Tryz.prog w1 = .ok (goInt (2:Nat)) w2) ∧
    (∀ ty,(Builtin.copy_ #[45,45] ty #[.slice (some ⟨gn,(i+2)*3,none⟩) (n+1 - (i+2)) (G - (i+2)),.slice (some ⟨g,(i+1)*3,none⟩) (n - (i+1)) (n - (i+1))]).run Tryz.prog w2.drew = .ok (goInt (n - (i+1):Nat)) w3)∧Placed w w3 base g (.slice (some ⟨gn,0,none⟩) (n+1) G) (l.take i++vs++l.drop (i+1)):=by
 obtain ⟨i0,hi0,hz0,hz1,hz2⟩:=msInfo';obtain ⟨cur,hbg,hgl,hg,hnc,hcm,hcs,htk⟩:=row_open h hn
 have hvl:(rowOf msC vs).length=6:=by rw [rowOf_len msC_len,hv2]
 have hold:(Builtin.firstCells i0.size i (.slice (some ⟨g,0,none⟩) i n)).run Tryz.prog w.drew = .ok (rowOf msC (l.take i)).toArray w.drew:=by
   rw [hz1];refine run_firstCells_some w.drew 3 i ⟨g,0,none⟩ i n _ (by rw [rowOf_len msC_len,List.length_take];omega) (fun j v hj=>?_);rw [rowOf_take msC_len,← htk,List.take_take,Nat.min_eq_left (by omega)] at hj;exact part_of (w:=w.drew) hg 0 (cs:=cur.toList.take (i*3)) (fun j v hv=>by rw [Nat.zero_add];rw [List.getElem?_take] at hv;split at hv;exact hv;cases hv) j v hj
 have hap:=fun ty=>Lib.run_append_grow_zeros (P:=Tryz.prog) w 45 3 ty 184 i0 _ .i64 .i64 msUnd Tryz.underlying3 hi0 hz0 (some ⟨g,0,none⟩) i n _ hold (n+1 - i) (by omega) (by omega) (by omega) (by omega) (by rw [hz2];omega) (by rw [hz2,show i+(n+1 - i)=n+1 by omega];exact growslice_fits (by omega) (by omega));rw [show i+(n+1 - i)=n+1 by omega] at hap;have hGn:=grownCap_ge w (n+1) n 184;have hGm:=grownCap_le_maxLen w (n+1) n 184 (by unfold maxLen;omega);generalize grownCap w (n+1) n 184=G at hap hGn hGm;obtain ⟨ROW,hROW⟩:∃ ROW:Array Value,(rowOf msC (l.take i)).toArray++Builtin.zeroCells ((.agg #[.string ⟨#[]⟩,.string ⟨#[]⟩,.string ⟨#[]⟩]):Value).cells (n+1 - i)++Builtin.zeroCells ((.agg #[.string ⟨#[]⟩,.string ⟨#[]⟩,.string ⟨#[]⟩]):Value).cells (G - (n+1))=ROW:=⟨_,rfl⟩;rw [hROW] at hap;have hzs:((.agg #[.string ⟨#[]⟩,.string ⟨#[]⟩,.string ⟨#[]⟩]):Value).cells.size=3:=rfl
 have hRs:ROW.size=G*3:=by
   rw [← hROW];simp only [Array.size_append,size_zeroCells,hzs,List.size_toArray,rowOf_len msC_len,List.length_take];omega
 have hRt:ROW.toList.take (i*3)=rowOf msC (l.take i):=by
   have hx:(rowOf msC (l.take i)).length=i*3:=by rw [rowOf_len msC_len,List.length_take];omega
   rw [← hROW];simp only [Array.toList_append,List.append_assoc];rw [← hx,List.take_left]
 clear hROW hold
 have hRl:ROW.toList.length=G*3:=by rw [Array.length_toList,hRs]
 have hov1:(overV ROW.toList (i*3) (rowOf msC vs)).length=G*3:=by rw [overV_len (by omega),hRl]
 have hh1:(w.drew.alloc (.cells ROW 184)).heap[w.heap.size]?=some (.cells ROW 184 (0,0)):=heap_alloc_last w.drew (.cells ROW 184);have o1:Only [] w (w.drew.alloc (.cells ROW 184)):=((Only.refl [] w).drew).alloc _;generalize w.drew.alloc (.cells ROW 184)=w1 at hap hh1 o1;have hv':Msgs w1 b2 (.slice (some ⟨vb,0,none⟩) 2 c) vs:=RowM.only hv o1 (fun k _=>by simp);obtain ⟨w2,hc2,hh2,o2⟩:=copy_at (dLen:=n+1 - i) (dCap:=G - i) (sLen:=2) (sCap:=c) (m:=2) (cs:=rowOf msC vs) (so:=0) (sg:=vb) (o:=i*3) hh1 (by simp only [Nat.min_def];split<;>omega) hvl (RowM.rows hv' hv2) (by rw [hRs];omega) (rowOf_one msC_one _)
 have hdl:(rowOf msC (l.drop (i+1))).length=(n - (i+1))*3:=by rw [rowOf_len msC_len,List.length_drop,hn]
 have hg2:w2.drew.heap[g]?=some (.cells cur 184 (0,0)):=(o2.block g (Nat.lt_of_lt_of_le hgl o1.size) (by simp;omega)).trans ((o1.block g hgl (by simp)).trans hg)
 obtain ⟨w3,hc3,hh3,o3⟩:=copy_at (w:=w2.drew) (g:=w.heap.size) (dLen:=n+1 - (i+2)) (dCap:=G - (i+2)) (sLen:=n - (i+1)) (sCap:=n - (i+1)) (m:=n - (i+1)) (cs:=rowOf msC (l.drop (i+1))) (so:=(i+1)*3) (sg:=g) (o:=(i+2)*3) hh2 (by simp only [Nat.min_def];split<;>omega) hdl
   (row_part (w:=w2.drew) (n:=n) hg2 htk) (by rw [List.size_toArray,hov1,hdl];omega) (rowOf_one msC_one _)
 have hlen:(l.take i++vs++l.drop (i+1)).length=n+1:=by rw [List.length_append,List.length_append,List.length_take,List.length_drop];omega
 refine ⟨w1,w2,w3,w.heap.size,G,hGn,by unfold maxLen at hGm;omega,hap,hc2,hc3,⟨by rw [rowOf_len msC_len],Or.inr ⟨w.heap.size,G,_,by rw [hlen],hb,hh3,by rw [hlen];exact hGn,hGm,?_,?_⟩⟩,?_,Or.inr ⟨w.heap.size,rfl,Nat.le_refl _⟩⟩
 · rw [List.size_toArray,List.toList_toArray,overV_len (by omega),hov1]
 · rw [hlen,List.toList_toArray,List.toList_toArray,← hn]
   exact two_cells l i vs hv2 (by omega) ROW.toList (by omega) hRt
 · exact ((o1.trans (o2.drew) (fun k hk=>Or.inr (by simp at hk;omega))).trans o3 (fun k hk=>Or.inr (by simp at hk;omega))).mono (fun k hk=>by cases hk)
theorem mul_zero (w:World):Calls Tryz.prog 180 #[.int .u64 1,.int .u64 0] w fun e w'=>e = .returned (.tuple #[.int .u64 0,.int .u64 0])∧w=w':=by
 go_enter Tryz.func180,Tryz.ntmps180
 go_wp2
 go_ret2
 exact ⟨rfl,rfl⟩
theorem mul_two (w:World):Calls Tryz.prog 180 #[.int .u64 1,.int .u64 2] w fun e w'=>e = .returned (.tuple #[.int .u64 0,.int .u64 2])∧w=w':=by
 go_enter Tryz.func180,Tryz.ntmps180
 go_wp2
 go_ret2
 exact ⟨rfl,rfl⟩
theorem ms_new (w:World)(cs:List Value)(l:List Msg)(h:cs=rowOf msC l)(hl:l.length≤1000):Msgs (w.alloc (.cells cs.toArray 184)) w.heap.size (.slice (some ⟨w.heap.size,0,none⟩) l.length l.length) l:=by
 subst h;exact ⟨by rw [rowOf_len msC_len],Or.inr ⟨w.heap.size,l.length,_,rfl,Nat.le_refl _,heap_alloc_last w _,Nat.le_refl _,by unfold maxLen;omega,by rw [List.size_toArray,rowOf_len msC_len],by rw [List.take_of_length_le (by rw [rowOf_len msC_len];exact Nat.le_refl _)]⟩⟩
theorem repeat_none (w:World)(vb c:Nat):
  Calls Tryz.prog 127 #[.slice (some ⟨vb,0,none⟩) 1 c,.int .i64 0] w fun e w'=>∃ v',e = .returned v'∧Msgs w' w.heap.size v' []∧Only [] w w':=by
 obtain ⟨i0,hi0,hz0,hz1,hz2⟩:=msInfo';have hmk:=run_makeSlice (P:=Tryz.prog) w 45 184 i0 _ msUnd hi0 hz0 .i64 .i64 0 0 (by omega) (by omega) (by rw [hz1];decide) (by rw [hz2];decide) (by omega)
 have e0:madeCells ((.agg #[.string ⟨#[]⟩,.string ⟨#[]⟩,.string ⟨#[]⟩]):Value).cells ((0:Int).toNat*i0.size)=#[]:=by rw [hz1];simp [madeCells]
 rw [e0] at hmk;have HM:Hid (Msgs (w.alloc (.cells #[] 184)) w.heap.size (.slice (some ⟨w.heap.size,0,none⟩) 0 0) []):=ms_new w [] [] rfl (by decide);have HO:Hid (Only [] w (w.alloc (.cells #[] 184))):=(Only.refl [] w).alloc _
 have hcp:∀ ty,(Builtin.copy_ #[45,45] ty #[.slice (some ⟨w.heap.size,0,none⟩) 0 0,.slice (some ⟨vb,0,none⟩) 1 c]).run Tryz.prog (w.alloc (.cells #[] 184)) = .ok (goInt 0) (w.alloc (.cells #[] 184)):=fun ty=>by
  simp [Builtin.copy_,run_underlying msUnd,sizeOf,typeInfo,hi0,Builtin.lenOf,Builtin.firstCells,storeCells,loadCells,loadCellsFrom]
 clear hi0 hz0 hz1 hz2 e0;generalize w.alloc (.cells #[] 184)=w1 at hmk HM HO hcp
 go_enter Tryz.func127,Tryz.ntmps127
 go_wp2_with (first
  | (go_at_call 180;refine (mul_zero _).mono ?_;rintro e w2 ⟨rfl,rfl⟩)
  | (at_builtin;refine wpList_copy_runI _ rfl _ _ 45 45 rfl _ _ rfl rfl (hcp _) ?_))
 go_loopw [8] (fun x wr=>x = .int .i64 0∧wr=w1) (fun _ _=>0)
 case atStart=>exact ⟨rfl,rfl⟩
 case round =>
  obtain ⟨rfl,rfl⟩:=hrel
  go_wp2
  go_ret
  exact ⟨_,rfl,HM.out,HO.out⟩
def RepInv (w2 w3:World)(x:Value)(wr:World):Prop:=(x = .int .i64 1∧wr=w2)∨(x = .int .i64 2∧wr=w3)
theorem repeat_two (w:World)(b vb c:Nat)(x:Msg)(h:Msgs w b (.slice (some ⟨vb,0,none⟩) 1 c) [x]):
  Calls Tryz.prog 127 #[.slice (some ⟨vb,0,none⟩) 1 c,.int .i64 2] w fun e w'=>∃ vg,e = .returned (.slice (some ⟨vg,0,none⟩) 2 2)∧w.heap.size≤vg∧Msgs w' w.heap.size (.slice (some ⟨vg,0,none⟩) 2 2) [x,x]∧Only [] w w':=by
 obtain ⟨i0,hi0,hz0,hz1,hz2⟩:=msInfo';have hmk:=run_makeSlice (P:=Tryz.prog) w 45 184 i0 _ msUnd hi0 hz0 .i64 .i64 2 2 (by omega) (by omega) (by rw [hz1];decide) (by rw [hz2];decide) (by omega);obtain ⟨Z,hZ⟩:∃ Z:Array Value,madeCells ((.agg #[.string ⟨#[]⟩,.string ⟨#[]⟩,.string ⟨#[]⟩]):Value).cells ((2:Int).toNat*i0.size)=Z:=⟨_,rfl⟩
 have hZs:Z.size=6:=by rw [← hZ,size_madeCells,hz1];rfl
 rw [hZ] at hmk;have hh1:(w.alloc (.cells Z 184)).heap[w.heap.size]?=some (.cells Z 184 (0,0)):=heap_alloc_last w _;have o1:Only [] w (w.alloc (.cells Z 184)):=(Only.refl [] w).alloc _;have hv:=RowM.rows (RowM.only h o1 (fun _ _=>by simp)) rfl;clear hZ h;generalize w.alloc (.cells Z 184)=w1 at hmk hh1 o1 hv;have hxl:(rowOf msC [x]).length=3:=rfl
 have hZl:Z.toList.length=6:=by rw [Array.length_toList,hZs]
 obtain ⟨w2,hc2,hh2,o2⟩:=copy_at (w:=w1) (g:=w.heap.size) (dLen:=2) (dCap:=2) (sLen:=1) (sCap:=c) (m:=1) (cs:=rowOf msC [x]) (so:=0) (sg:=vb) (o:=0) hh1 rfl rfl hv (by rw [hZs];omega) (rowOf_one msC_one _);have hh2':w2.drew.heap[w.heap.size]?=some (.cells (overV Z.toList 0 (rowOf msC [x])).toArray 184 (0,0)):=hh2
 obtain ⟨w3,hc3,hh3,o3⟩:=copy_at (w:=w2.drew) (g:=w.heap.size) (dLen:=1) (dCap:=1) (sLen:=1) (sCap:=2) (m:=1) (cs:=rowOf msC [x]) (so:=0) (sg:=w.heap.size) (o:=3) hh2' rfl rfl (part_of hh2' 0 (fun j v hj=>by
  rw [Nat.zero_add,List.toList_toArray,overV,List.take_zero,List.nil_append,List.getElem?_append_left (by exact (List.getElem?_eq_some_iff.1 hj).1)]
  exact hj)) (by rw [List.size_toArray,overV_len (by omega),hZl];omega) (rowOf_one msC_one _)
 have HF:Hid (Msgs w3 w.heap.size (.slice (some ⟨w.heap.size,0,none⟩) 2 2) [x,x]∧Only [] w w3):=by
  refine ⟨⟨rfl,Or.inr ⟨w.heap.size,2,_,rfl,Nat.le_refl _,hh3,Nat.le_refl _,by decide,?_,?_⟩⟩,?_⟩
  · rw [List.size_toArray,List.toList_toArray,overV_len (by rw [overV_len (by omega)];omega),overV_len (by omega),hZl]
  · have a1:=overV_end (l:=overV Z.toList 0 (rowOf msC [x])) (cs:=rowOf msC [x]) (n:=3) (by rw [overV_len (by omega)];omega)
    have a2:=overV_end (l:=Z.toList) (cs:=rowOf msC [x]) (n:=0) (by omega);rw [hxl] at a1 a2
    rw [List.toList_toArray,List.toList_toArray,show [x,x].length*3=3+3 from rfl,a1,show 3=0+3 from rfl,a2]
    rfl
  · exact ((o1.trans o2.drew (fun k hk=>Or.inr (by simp at hk;omega))).trans o3 (fun k hk=>Or.inr (by simp at hk;omega))).mono (fun k hk=>by cases hk)
 have mixed:Tryz.prog.follows Departure.mixedOrders=true:=by kernel_rfl
 clear hh1 hh2 hh2' hh3 o1 o2 o3 hv hi0 hz0 hz1 hz2 hZs hZl hxl;obtain ⟨ng,hng⟩:∃ ng,w.heap.size=ng:=⟨_,rfl⟩
 have HNG:Hid (w.heap.size≤ng):=by show _≤_;omega
 rw [hng] at hmk hc2 hc3
 have HF2:Hid (Msgs w3 w.heap.size (.slice (some ⟨ng,0,none⟩) 2 2) [x,x]∧Only [] w w3):=by have:=HF.out;show _∧_;rw [hng] at this ⊢;exact this
 clear hng HF
 go_enter Tryz.func127,Tryz.ntmps127
 go_wp2_with (first
  | (go_at_call 180;refine (mul_two _).mono ?_;rintro e w5 ⟨rfl,rfl⟩)
  | (at_builtin;refine wpList_copy_runI _ rfl _ _ 45 45 rfl _ _ rfl rfl (hc2 _) ?_))
 go_loopw [8] (fun x wr=>RepInv w2 w3 x wr) (fun x _=>2 - (intOf x).toNat)
 case atStart=>exact Or.inl ⟨rfl,rfl⟩
 case round =>
  rcases hrel with ⟨rfl,rfl⟩ | ⟨rfl,rfl⟩
  · have q2:IntKind.i64.wrap 2=2:=by rw [IntKind.wrap_i64];rfl
    go_wp2
    go_region_law_o (refine step_copy_runI rfl _ _ 45 45 rfl (.slice (some ⟨ng,3,none⟩) 1 1) (.slice (some ⟨ng,0,none⟩) 1 2) (by simp [Act.eval,Act.put]) (by simp [Act.eval,Act.put]) (hc3 _) ?_)
    simp only [List.getElem_toArray,List.getElem_cons_zero,List.getElem_cons_succ]
    go_simp
    go_roundw
    case rel=>exact ⟨_,_,_,_,_,_,_,_,_,_,_,_,_,_,(show RepInv _ _ (.int .i64 2) w3 from Or.inr ⟨rfl,rfl⟩),rfl⟩
    case measure=>simp [intOf]
  · go_wp2
    go_ret
    exact ⟨ng,rfl,HNG.out,HF2.out.1,HF2.out.2⟩
theorem Placed.drews {w w':World}{k base g:Nat}{v':Value}{l:List Msg}(h:Placed (w.drewN k) w' base g v' l):Placed w w' base g v' l :=
 ⟨h.1,(((Only.refl [g] w).drewsN k).trans h.2.1 (fun _ hk=>Or.inl hk)),h.2.2⟩
theorem replace_last0 (w:World)(base g cap i c:Nat)(sa:Option Addr)(l:List Msg)(h:Msgs w base (.slice (some ⟨g,0,none⟩) (i+1) cap) l)(hn:l.length=i+1)(hl:i≤1000):
  Calls Tryz.prog 125 #[.slice (some ⟨g,0,none⟩) (i+1) cap,.int .i64 i,.int .i64 ((i:Int)+1),.slice sa 0 c] w fun e w'=>e = .returned (.slice (some ⟨g,0,none⟩) i cap)∧Placed w w' base g (.slice (some ⟨g,0,none⟩) i cap) (l.take i):=by
 obtain ⟨cur,-,-,-,hnc,hcm,-,-⟩:=row_open h hn;obtain ⟨w3,hcl,hP⟩:=last_run w base g i cap l h hn;rw [show i+1 - i=1 by omega] at hcl;have HP:Hid (Placed w w3 base g (.slice (some ⟨g,0,none⟩) i cap) (l.take i)):=hP;have hap:=fun ty=>run_append_zero w g i cap sa c ty (by omega)
 have hG63:(cap:Int)≤9223372036854775807:=by unfold maxLen at hcm;omega
 have q1:¬ ((i:Int)=(i:Int)+1):=by omega
 have q2:(i:Int)+1≤cap:=by omega
 have q3:(i:Int)≤(i:Int)+1:=by omega
 have q4:(0:Int)≤(i:Int)+1:=by omega
 have q6:(i:Int)≤cap:=by omega
 have q7:¬ (cap=i):=by omega
 have q8:((i:Int)+1).toNat=i+1:=by omega
 have q9:decide ((i:Int) < (i:Int)+1)=true:=decide_eq_true (by omega);clear h hP hcm
 go_enter Tryz.func125,Tryz.ntmps125
 go_wp2_with (at_builtin;first
  | refine Lib.wpList_append_run _ rfl _ _ _ _ rfl _ _ rfl rfl _ _ (hap _) ?_
  | refine wpList_clear_known rfl _ 45 rfl _ rfl (hcl _) ?_)
 go_ret
 exact ⟨rfl,HP.out⟩
theorem replace_last2 (w:World)(base b2 g vb cap i c:Nat)(l vs:List Msg)(h:Msgs w base (.slice (some ⟨g,0,none⟩) (i+1) cap) l)(hn:l.length=i+1)(hl:i≤1000)(hv:Msgs w b2 (.slice (some ⟨vb,0,none⟩) 2 c) vs)(hv2:vs.length=2)(hb:base≤w.heap.size):
  Calls Tryz.prog 125 #[.slice (some ⟨g,0,none⟩) (i+1) cap,.int .i64 i,.int .i64 ((i:Int)+1),.slice (some ⟨vb,0,none⟩) 2 c] w fun e w'=>∃ v',e = .returned v'∧Placed w w' base g v' (l.take i++vs):=by
 obtain ⟨i0,hi0,hz0,hz1,hz2⟩:=msInfo';obtain ⟨cur,-,-,-,hnc,hcm,-,-⟩:=row_open h hn;have HT:Hid (w.ownsRow base 184 3 (.slice (some ⟨g,0,none⟩) i cap) i (rowOf msC (l.take i))):=row_take h hn (by omega);have HV:Hid (∀ j u,(rowOf msC vs)[j]?=some u→w.cell? ((⟨vb,0,none⟩:Addr).add j)=some u):=RowM.rows hv hv2
 have hvl:(rowOf msC vs).length=2*3:=by rw [rowOf_len msC_len,hv2]
 have hF:∀ gl cp w6,w6.ownsRow base 184 3 (.slice (some ⟨gl,0,none⟩) (i+2) cp) (i+2) (rowOf msC (l.take i)++rowOf msC vs)→w.grownBy w6 (Value.slice (some ⟨g,0,none⟩) i cap).ownBlock→((Value.slice (some ⟨g,0,none⟩) i cap).ownBlock=some gl∨gl=w.heap.size)→Placed w w6 base g (.slice (some ⟨gl,0,none⟩) (i+2) cp) (l.take i++vs):=fun gl cp w6 h1 h2 h3=>by
  have e:(l.take i++vs).length=i+2:=by rw [List.length_append,List.length_take,hn,hv2];omega
  refine ⟨?_,(Only.refl _ w).grown h2 (fun k hk=>Or.inl (by cases hk;simp)),?_⟩
  · unfold Msgs RowM
    rw [e,rowOf_append];exact h1
  · rcases h3 with h3 | h3
    · exact Or.inl h3.symm
    · exact Or.inr ⟨gl,rfl,by omega⟩
 have HF:Hid (∀ gl cp w6,w6.ownsRow base 184 3 (.slice (some ⟨gl,0,none⟩) (i+2) cp) (i+2) (rowOf msC (l.take i)++rowOf msC vs)→w.grownBy w6 (Value.slice (some ⟨g,0,none⟩) i cap).ownBlock→((Value.slice (some ⟨g,0,none⟩) i cap).ownBlock=some gl∨gl=w.heap.size)→Placed w w6 base g (.slice (some ⟨gl,0,none⟩) (i+2) cp) (l.take i++vs)):=hF
 have hG63:(cap:Int)≤9223372036854775807:=by unfold maxLen at hcm;omega
 have q1:¬ ((i:Int)=(i:Int)+1):=by omega
 have q2:(i:Int)+1≤cap:=by omega
 have q3:(i:Int)≤(i:Int)+1:=by omega
 have q4:(0:Int)≤(i:Int)+1:=by omega
 have q6:(i:Int)≤cap:=by omega
 have q7:¬ (cap=i):=by omega
 have q8:((i:Int)+1).toNat=i+1:=by omega
 have q9:decide ((i:Int)+2 < (i:Int)+1)=false:=decide_eq_false (by omega);clear h hv hF hcm hn
 go_enter Tryz.func125,Tryz.ntmps125
 go_wp2_with (at_builtin;refine wpList_append_lies _ rfl (.tmp 32) (.tmp 33) 45 rfl base 184 i0 _ 3 48 msUnd hi0 hz0 hz1 hz2 rfl (by decide) _ i (rowOf msC (l.take i)) rfl HT.out ⟨vb,0,none⟩ 2 c (rowOf msC vs) rfl hvl HV.out (rowOf_one msC_one vs) (by decide) (by unfold maxLen;omega) (by omega) hb _ rfl ?_;intro gl cp w6 hown6 hgr6 hat6 hlt6;have HX:Hid (Placed w w6 base g (.slice (some ⟨gl,0,none⟩) (i+2) cp) (l.take i++vs)):=HF.out gl cp w6 hown6 hgr6 hat6;clear hown6 hgr6 hat6 hlt6)
 all_goals go_ret
 all_goals exact ⟨.slice (some ⟨gl,0,none⟩) (i+2) cp,rfl,HX.out⟩
theorem replace_shrink (w:World)(base g n cap i c:Nat)(sa:Option Addr)(l:List Msg)(h:Msgs w base (.slice (some ⟨g,0,none⟩) n cap) l)(hn:l.length=n)(hl:n≤1000)(hi:i+1 < n):
  Calls Tryz.prog 125 #[.slice (some ⟨g,0,none⟩) n cap,.int .i64 i,.int .i64 ((i:Int)+1),.slice sa 0 c] w fun e w'=>e = .returned (.slice (some ⟨g,0,none⟩) (n - 1) cap)∧Placed w w' base g (.slice (some ⟨g,0,none⟩) (n - 1) cap) (l.take i++l.drop (i+1)):=by
 obtain ⟨cur,-,-,-,hnc,hcm,-,-⟩:=row_open h hn
 have HR:Hid (∀ k,∃ w2 w3,(∀ ty,(Builtin.copy_ #[45,45] ty #[.slice (some ⟨g,i*3,none⟩) (n - 1 - i) (cap - i),.slice (some ⟨g,(i+1)*3,none⟩) (n - (i+1)) (cap - (i+1))]).run Tryz.prog (w.drewN k).drew = .ok (goInt (n - (i+1):Nat)) w2) ∧
   (∀ ty,(Builtin.clear_ #[45] ty #[.slice (some ⟨g,(n - 1)*3,none⟩) (n - (n - 1)) (cap - (n - 1))]).run Tryz.prog w2 = .ok (.tuple #[]) w3)∧Placed w w3 base g (.slice (some ⟨g,0,none⟩) (n - 1) cap) (l.take i++l.drop (i+1))):=fun k=>by
  obtain ⟨w2,w3,h1,h2,h3⟩:=shrink_runs (w.drewN k) base g n cap i l (RowM.only h ((Only.refl [] w).drewsN k) (fun _ _=>by simp)) hn hi;exact ⟨w2,w3,h1,h2,h3.drews⟩
 have hcz:=fun w dLen dCap ty=>run_copy_zero w g (i*3) dLen dCap sa c ty
 have hG63:(cap:Int)≤9223372036854775807:=by unfold maxLen at hcm;omega
 have q1:¬ ((i:Int)=(i:Int)+1):=by omega
 have q2:(i:Int)+1≤cap:=by omega
 have q2n:(i:Int)+1≤n:=by omega
 have q3:(i:Int)≤(i:Int)+1:=by omega
 have q4:(0:Int)≤(i:Int)+1:=by omega
 have q5:¬ ((i:Int)+1=(n:Int)):=by omega
 have q6:(i:Int)≤cap:=by omega
 have q7:¬ (cap=i):=by omega
 have q7':¬ (cap=i+1):=by omega
 have q7'':¬ (cap=n - 1):=by omega
 have q8:((i:Int)+1).toNat=i+1:=by omega
 have q10:IntKind.i64.wrap (i:Int)=i:=by rw [IntKind.wrap_i64];omega
 have q11:IntKind.i64.wrap ((i:Int)+((n - (i+1):Nat):Int))=((n - 1:Nat):Int):=by rw [IntKind.wrap_i64];omega
 have q12:decide ((cap:Int) < ((n - 1:Nat):Int))=false:=decide_eq_false (by omega)
 have q13:((n - 1:Nat):Int)≤cap:=by omega
 have q14:((n - 1:Nat):Int)≤n:=by omega
 have q15:(i:Int)≤((n - 1:Nat):Int):=by omega
 have mixed:Tryz.prog.follows Departure.mixedOrders=true:=by kernel_rfl
 clear h hcm hn
 go_enter Tryz.func125,Tryz.ntmps125
 go_wp2
 go_big_quiet (fail)
 obtain ⟨w2,w3,hc2,hc3,hP⟩:=HR.out nq;have HP:Hid (Placed w w3 base g (.slice (some ⟨g,0,none⟩) (n - 1) cap) (l.take i++l.drop (i+1))):=hP;clear hP HR
 go_wp2_with (at_builtin;refine wpList_copy_runI _ rfl _ _ 45 45 rfl _ _ rfl rfl (hcz _ _ _ _) ?_)
 go_region_law_o (refine step_copy_runI rfl _ _ 45 45 rfl (.slice (some ⟨g,i*3,none⟩) (n - 1 - i) (cap - i)) (.slice (some ⟨g,(i+1)*3,none⟩) (n - (i+1)) (cap - (i+1))) (by simp [Act.eval,Act.put]) (by simp [Act.eval,Act.put]) (hc2 _) ?_)
 go_wp2_with (at_builtin;refine wpList_clear_known rfl _ 45 rfl _ rfl (hc3 _) ?_)
 go_ret
 exact ⟨rfl,HP.out⟩
theorem replace_shift (w:World)(base b2 g vb n cap c i:Nat)(l vs:List Msg)(h:Msgs w base (.slice (some ⟨g,0,none⟩) n cap) l)(hn:l.length=n)(hl:n≤1000)(hi:i+1 < n)(hroom:n+1≤cap)(hv:Msgs w b2 (.slice (some ⟨vb,0,none⟩) 2 c) vs)(hv2:vs.length=2)(hvb:vb≠g):
  Calls Tryz.prog 125 #[.slice (some ⟨g,0,none⟩) n cap,.int .i64 i,.int .i64 ((i:Int)+1),.slice (some ⟨vb,0,none⟩) 2 c] w fun e w'=>∃ v',e = .returned v'∧Placed w w' base g v' (l.take i++vs++l.drop (i+1)):=by
 obtain ⟨i0,hi0,hz0,hz1,hz2⟩:=msInfo';obtain ⟨cur,-,-,hg,hnc,hcm,hcs,-⟩:=row_open h hn;obtain ⟨vcur,-,-,hvg,hvc,-,hvs,-⟩:=row_open hv hv2
 have hsz:∀ w,(Go.sizeOf 184).run Tryz.prog w = .ok 3 w:=fun w=>by simp [sizeOf,typeInfo,hi0,hz1]
 have hov:∀ k lb cb,(callFunc 177 #[.slice (some ⟨g,(i+2)*3,none⟩) lb cb,.slice (some ⟨vb,0,none⟩) 2 c]).run Tryz.prog (w.drewN k) = .ok (.value (.bool false)) (w.drewN k):=fun k lb cb=>by
  rw [run_callFunc_extern Tryz.func177 (by kernel_rfl) (by kernel_rfl) (by kernel_rfl) (e:=Extern.SlicesOverlaps.overlaps #[45,45] #[4]) (by kernel_rfl),
   Lib.run_overlaps_apart (w.drewN k) 45 4 184 msUnd 3 hsz ⟨g,(i+2)*3,none⟩ ⟨vb,0,none⟩ lb cb 2 c (Ne.symm hvb) 184 184 cur.size vcur.size (by show World.shape? w _=_;simp [World.shape?,hg]) (by show World.shape? w _=_;simp [World.shape?,hvg]) (by omega) (frozen_of_row _ _ _ _ _ hg) (frozen_of_row _ _ _ _ _ hg)]
  rfl
 have HR:Hid (∀ k,∃ w2 w3,(∀ ty,(Builtin.copy_ #[45,45] ty #[.slice (some ⟨g,(i+2)*3,none⟩) (n+1 - (i+2)) (cap - (i+2)),.slice (some ⟨g,(i+1)*3,none⟩) (n - (i+1)) (cap - (i+1))]).run Tryz.prog (w.drewN k).drew = .ok (goInt (n - (i+1):Nat)) w2) ∧
   (∀ ty,(Builtin.copy_ #[45,45] ty #[.slice (some ⟨g,i*3,none⟩) (n+1 - i) (cap - i),.slice (some ⟨vb,0,none⟩) 2 c]).run Tryz.prog w2 = .ok (goInt (2:Nat)) w3)∧Placed w w3 base g (.slice (some ⟨g,0,none⟩) (n+1) cap) (l.take i++vs++l.drop (i+1))):=fun k=>by
  obtain ⟨w2,w3,h1,h2,h3⟩:=shift_runs (w.drewN k) base b2 g vb n cap c i l vs (RowM.only h ((Only.refl [] w).drewsN k) (fun _ _=>by simp)) hn hi hroom (RowM.only hv ((Only.refl [] w).drewsN k) (fun _ _=>by simp)) hv2 hvb;exact ⟨w2,w3,h1,h2,h3.drews⟩
 have hG63:(cap:Int)≤9223372036854775807:=by unfold maxLen at hcm;omega
 have q1:¬ ((i:Int)=(i:Int)+1):=by omega
 have q2:(i:Int)+1≤cap:=by omega
 have q2n:(i:Int)+1≤n:=by omega
 have q3:(i:Int)≤(i:Int)+1:=by omega
 have q4:(0:Int)≤(i:Int)+1:=by omega
 have q5:¬ ((i:Int)+1=(n:Int)):=by omega
 have q6:(i:Int)≤cap:=by omega
 have q7:¬ (cap=i):=by omega
 have q7':¬ (cap=i+1):=by omega
 have q7b:¬ (cap=i+2):=by omega
 have q8:((i:Int)+1).toNat=i+1:=by omega
 have q8b:((i:Int)+2).toNat=i+2:=by omega
 have q8c:((n:Int)+1).toNat=n+1:=by omega
 have q10:IntKind.i64.wrap ((i:Int)+2)=(i:Int)+2:=by rw [IntKind.wrap_i64];omega
 have q11:IntKind.i64.wrap ((i:Int)+2+((n - (i+1):Nat):Int))=(n:Int)+1:=by rw [IntKind.wrap_i64];omega
 have q16:(0:Int)≤(i:Int)+2:=by omega
 have q17:(i:Int)+2≤(n:Int)+1:=by omega
 have q18:(0:Int)≤(n:Int)+1:=by omega
 have q19:(i:Int)≤(n:Int)+1:=by omega
 have q20:decide ((i:Int)+2≤(i:Int)+1)=false:=decide_eq_false (by omega);have q12:decide ((cap:Int) < (n:Int)+1)=false:=decide_eq_false (by omega)
 have q13:(n:Int)+1≤cap:=by omega
 have mixed:Tryz.prog.follows Departure.mixedOrders=true:=by kernel_rfl
 clear h hv hcm hn hi0 hz0 hz1 hz2 hg hvg hvs hcs hsz hvb
 go_enter Tryz.func125,Tryz.ntmps125
 go_wp2
 go_big_quiet (fail)
 obtain ⟨w2,w3,hc2,hc3,hP⟩:=HR.out nq;have HP:Hid (Placed w w3 base g (.slice (some ⟨g,0,none⟩) (n+1) cap) (l.take i++vs++l.drop (i+1))):=hP;have hov':=hov nq;clear hP HR hov
 go_wp2_with (simp only [hov'])
 go_region_law_o (refine step_copy_runI rfl _ _ 45 45 rfl (.slice (some ⟨g,(i+2)*3,none⟩) (n+1 - (i+2)) (cap - (i+2))) (.slice (some ⟨g,(i+1)*3,none⟩) (n - (i+1)) (cap - (i+1))) (by simp [Act.eval,Act.put]) (by simp [Act.eval,Act.put]) (hc2 _) ?_)
 go_wp2_with (at_builtin;refine wpList_copy_runI _ rfl _ _ 45 45 rfl _ _ rfl rfl (hc3 _) ?_)
 go_ret
 exact ⟨.slice (some ⟨g,0,none⟩) (n+1) cap,rfl,HP.out⟩
theorem replace_grow (w:World)(base b2 g vb n c i:Nat)(l vs:List Msg)(h:Msgs w base (.slice (some ⟨g,0,none⟩) n n) l)(hn:l.length=n)(hl:n≤1000)(hi:i+1 < n)(hv:Msgs w b2 (.slice (some ⟨vb,0,none⟩) 2 c) vs)(hv2:vs.length=2)(hb:base≤w.heap.size):
  Calls Tryz.prog 125 #[.slice (some ⟨g,0,none⟩) n n,.int .i64 i,.int .i64 ((i:Int)+1),.slice (some ⟨vb,0,none⟩) 2 c] w fun e w'=>∃ v',e = .returned v'∧Placed w w' base g v' (l.take i++vs++l.drop (i+1)):=by
 have HR:Hid (∀ k,∃ w1 w2 w3 gn G,n+1≤G∧(G:Int)≤9223372036854775807∧(∀ ty,(Builtin.append_ #[45,3] ty #[.slice (some ⟨g,0,none⟩) i n,.int .i64 ((n+1 - i:Nat):Int)]).run Tryz.prog (w.drewN k) = .ok (.slice (some ⟨gn,0,none⟩) (n+1) G) w1) ∧
   (∀ ty,(Builtin.copy_ #[45,45] ty #[.slice (some ⟨gn,i*3,none⟩) (n+1 - i) (G - i),.slice (some ⟨vb,0,none⟩) 2 c]).run Tryz.prog w1 = .ok (goInt (2:Nat)) w2) ∧
   (∀ ty,(Builtin.copy_ #[45,45] ty #[.slice (some ⟨gn,(i+2)*3,none⟩) (n+1 - (i+2)) (G - (i+2)),.slice (some ⟨g,(i+1)*3,none⟩) (n - (i+1)) (n - (i+1))]).run Tryz.prog w2.drew = .ok (goInt (n - (i+1):Nat)) w3)∧Placed w w3 base g (.slice (some ⟨gn,0,none⟩) (n+1) G) (l.take i++vs++l.drop (i+1))):=fun k=>by
  obtain ⟨w1,w2,w3,gn,G,h1,h2,h3,h4,h5,h6⟩:=grow_runs (w.drewN k) base b2 g vb n c i l vs (RowM.only h ((Only.refl [] w).drewsN k) (fun _ _=>by simp)) hn hl hi (RowM.only hv ((Only.refl [] w).drewsN k) (fun _ _=>by simp)) hv2 hb;exact ⟨w1,w2,w3,gn,G,h1,h2,h3,h4,h5,h6.drews⟩
 have q1:¬ ((i:Int)=(i:Int)+1):=by omega
 have q2:(i:Int)+1≤n:=by omega
 have q3:(i:Int)≤(i:Int)+1:=by omega
 have q4:(0:Int)≤(i:Int)+1:=by omega
 have q5:¬ ((i:Int)+1=(n:Int)):=by omega
 have q6:(i:Int)≤n:=by omega
 have q7:¬ (n=i):=by omega
 have q7':¬ (n=i+1):=by omega
 have q8:((i:Int)+1).toNat=i+1:=by omega
 have q8b:((i:Int)+2).toNat=i+2:=by omega
 have q8c:((n:Int)+1).toNat=n+1:=by omega
 have q10:IntKind.i64.wrap ((i:Int)+2)=(i:Int)+2:=by rw [IntKind.wrap_i64];omega
 have q11:IntKind.i64.wrap ((i:Int)+2+((n - (i+1):Nat):Int))=(n:Int)+1:=by rw [IntKind.wrap_i64];omega
 have q16:(0:Int)≤(i:Int)+2:=by omega
 have q17:(i:Int)+2≤(n:Int)+1:=by omega
 have q18:(0:Int)≤(n:Int)+1:=by omega
 have q19:(i:Int)≤(n:Int)+1:=by omega
 have q20:decide ((i:Int)+2≤(i:Int)+1)=false:=decide_eq_false (by omega);have q12:decide ((n:Int) < (n:Int)+1)=true:=decide_eq_true (by omega)
 have q13:IntKind.i64.wrap ((n:Int)+1 - (i:Int))=((n+1 - i:Nat):Int):=by rw [IntKind.wrap_i64];omega
 have mixed:Tryz.prog.follows Departure.mixedOrders=true:=by kernel_rfl
 clear h hv hn hb
 go_enter Tryz.func125,Tryz.ntmps125
 go_wp2
 go_big_quiet (fail)
 obtain ⟨w1,w2,w3,gn,G,hG1,hG63,hc1,hc2,hc3,hP⟩:=HR.out nq;have HP:Hid (Placed w w3 base g (.slice (some ⟨gn,0,none⟩) (n+1) G) (l.take i++vs++l.drop (i+1))):=hP
 have r1:¬ (G=i):=by omega
 have r2:¬ (G=i+2):=by omega
 clear hP HR
 go_wp2_with (at_builtin;first
  | refine Lib.wpList_append_run _ rfl _ _ _ _ rfl _ _ rfl rfl _ _ (hc1 _) ?_
  | refine wpList_copy_runI _ rfl _ _ 45 45 rfl _ _ rfl rfl (hc2 _) ?_)
 go_region_law_o (refine step_copy_runI rfl _ _ 45 45 rfl (.slice (some ⟨gn,(i+2)*3,none⟩) (n+1 - (i+2)) (G - (i+2))) (.slice (some ⟨g,(i+1)*3,none⟩) (n - (i+1)) (n - (i+1))) (by simp [Act.eval,Act.put]) (by simp [Act.eval,Act.put]) (hc3 _) ?_)
 go_wp2
 go_ret
 exact ⟨.slice (some ⟨gn,0,none⟩) (n+1) G,rfl,HP.out⟩
end
end Go.Proofs.YtodldddakjmonaaGreatDoor
