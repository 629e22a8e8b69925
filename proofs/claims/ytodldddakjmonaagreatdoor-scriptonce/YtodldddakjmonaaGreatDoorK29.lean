import Derived.Lib.AppendZerosOnto
import Derived.Shelf.Spec.SlicesInsert
import Derived.Lib.SliceRun
import Derived.Lib.Overlaps
import Derived.Test.YtodldddakjmonaaGreatDoorK28
set_option maxRecDepth 100000
set_option maxHeartbeats 8000000
namespace Go.Proofs.YtodldddakjmonaaGreatDoor
section
open Go Go.RowKit Go.Maps
structure Kp where
 c:ByteArray
 n:Int
 t:ByteArray
 r:ByteArray
def Kp.k (x:Kp):ByteArray×Int:=(x.c,x.n)
def findK (L:List Kp)(k:ByteArray×Int):Option Kp:=L.find? (fun x=>decide (x.k=k))
theorem findK_none {L:List Kp}{k:ByteArray×Int}(h:findK L k=none):∀ x∈L,x.k≠k:=fun x hx=>by
 have:=List.find?_eq_none.1 h x hx
 simpa using this
theorem findK_of_none {L:List Kp}{k:ByteArray×Int}(h:∀ x∈L,x.k≠k):findK L k=none:=by
 unfold findK;rw [List.find?_eq_none];intro x hx
 simpa using h x hx
theorem findK_cons (y:Kp)(L:List Kp)(k:ByteArray×Int):findK (y::L) k=if y.k=k then some y else findK L k:=by
 unfold findK;rw [List.find?_cons]
 by_cases h:y.k=k
 · simp [h]
 · simp [h]
theorem findK_app (L:List Kp)(x:Kp)(k:ByteArray×Int):findK (L++[x]) k=match findK L k with | some y=>some y | none=>if x.k=k then some x else none:=by
 induction L with
 | nil=>rw [List.nil_append,findK_cons];rfl
 | cons y L ih =>
  rw [List.cons_append,findK_cons,findK_cons,ih]
  by_cases h:y.k=k
  · simp [h]
  · simp [h]
def roomK (most:Nat)(L:List Kp):List Kp:=if L.length=most then L.drop 1 else L
def lookK (L:List Kp)(k:ByteArray×Int)(t:ByteArray):Nat×Bool×ByteArray :=
 match findK L k with
 | none=>(0,false,⟨#[]⟩)
 | some x=>if x.t=t then (0,true,x.r) else (12,false,⟨#[]⟩)
def keepK (most:Nat)(L:List Kp)(x:Kp):Nat×List Kp:=if (findK L x.k).isSome then (6,L) else (0,roomK most L++[x])
def OkQ (k:ByteArray×Int):Prop:=k.1.size≤maxLen∧(Lit.int .i64 k.2).wf=true
structure KInv (most:Nat)(L:List Kp):Prop where
 most1:1≤most
 most2:most≤20
 len:L.length≤most
 nod:(L.map Kp.k).Nodup
 num:∀ x∈L,OkQ x.k
theorem KInv.nil {most:Nat}(h1:1≤most)(h2:most≤20):KInv most []:=⟨h1,h2,Nat.zero_le _,List.nodup_nil,fun x hx=>by cases hx⟩
theorem findK_at {L:List Kp}{x:Kp}(hn:(L.map Kp.k).Nodup)(hx:x∈L):findK L x.k=some x:=by
 induction L with
 | nil=>cases hx
 | cons y L ih =>
  rw [findK_cons];simp only [List.map_cons,List.nodup_cons] at hn
  by_cases h:y.k=x.k
  · rw [if_pos h]
    rcases List.mem_cons.1 hx with e | e
    · rw [e]
    · exact absurd (List.mem_map.2 ⟨x,e,h.symm⟩) hn.1
  · rw [if_neg h]
    rcases List.mem_cons.1 hx with e | e
    · exact absurd (by rw [e]) h
    · exact ih hn.2 e
theorem roomK_sub (most:Nat)(L:List Kp):(roomK most L).Sublist L:=by
 unfold roomK
 split
 · exact List.drop_sublist _ _
 · exact List.Sublist.refl _
theorem KInv.room {most:Nat}{L:List Kp}(h:KInv most L):KInv most (roomK most L)∧(roomK most L).length < most:=by
 have hs:=roomK_sub most L;refine ⟨⟨h.most1,h.most2,Nat.le_trans hs.length_le h.len,(hs.map Kp.k).nodup h.nod,fun x hx=>h.num x (hs.subset hx)⟩,?_⟩;have h1:=h.most1;have h2:=h.len;unfold roomK
 split
 · rw [List.length_drop];omega
 · omega
theorem KInv.snoc {most:Nat}{L:List Kp}(h:KInv most L)(hl:L.length < most)(x:Kp)(hf:findK L x.k=none)(hx:OkQ x.k):KInv most (L++[x]):=by
 refine ⟨h.most1,h.most2,by rw [List.length_append,List.length_singleton];omega,?_,fun y hy=>?_⟩
 · rw [List.map_append,List.nodup_append]
   refine ⟨h.nod,by simp,fun a ha b hb=>?_⟩;simp only [List.map_cons,List.map_nil,List.mem_singleton] at hb;obtain ⟨y,hy,rfl⟩:=List.mem_map.1 ha;rw [hb];exact findK_none hf y hy
 · rcases List.mem_append.1 hy with e | e
   · exact h.num y e
   · rw [List.mem_singleton.1 e];exact hx
theorem findK_room_none {most:Nat}{L:List Kp}{k:ByteArray×Int}(h:findK L k=none):findK (roomK most L) k=none:=findK_of_none fun x hx=>findK_none h x ((roomK_sub most L).subset hx)
theorem findK_drop_first {y:Kp}{L:List Kp}(hn:((y::L).map Kp.k).Nodup):findK L y.k=none∧∀ k,k≠y.k→findK L k=findK (y::L) k:=by
 simp only [List.map_cons,List.nodup_cons] at hn;refine ⟨findK_of_none fun x hx e=>hn.1 (List.mem_map.2 ⟨x,hx,e⟩),fun k hk=>?_⟩;rw [findK_cons,if_neg (fun e=>hk e.symm)]
end
section
open Go Go.RowKit
def overV (l:List Value)(o:Nat)(cs:List Value):List Value:=l.take o++cs++l.drop (o+cs.length)
theorem overV_len {l cs:List Value}{o:Nat}(h:o+cs.length≤l.length):(overV l o cs).length=l.length:=by
 simp only [overV,List.length_append,List.length_take,List.length_drop];omega
theorem overV_end {l cs:List Value}{n:Nat}(h:n+cs.length≤l.length):(overV l n cs).take (n+cs.length)=l.take n++cs:=by
 unfold overV;rw [List.take_append_of_le_length (by simp;omega),List.take_of_length_le (by simp;omega)]
theorem only_rowS (w:World)(g:Nat)(c:Array Value):Only [g] w (w.setRow g c) :=
 ⟨rfl,rfl,rfl,by simp [World.setRow],fun k _ hk=>by
  simp only [World.setRow]
  rw [Array.getElem?_modify,if_neg (fun e=>hk (by simp [e]))]⟩
theorem run_copy_k {P:Program}(w:World)(dT sT ty elem:TypeId)(k:Nat)(g o dLen dCap:Nat)(a:Addr)(sLen sCap:Nat)(cur:Array Value)(t:TypeId)(cs:List Value)
  (hu:P.underlying dT=some (.slice elem)) (hs:(P.info? elem).map (·.size)=some k)
  (hg:w.heap[g]?=some (.cells cur t (0,0))) (m:Nat) (hm:Nat.min sLen dLen=m) (hn:cs.length=m*k)
  (hsrc:∀ j v,cs[j]?=some v→w.cell? (a.add j)=some v) (hfit:o+cs.length≤cur.size) (h1:∀ v∈cs,v.oneCell'=true) :
  (Builtin.copy_ #[dT,sT] ty #[.slice (some ⟨g,o,none⟩) dLen dCap,.slice (some a) sLen sCap]).run P w =
   .ok (goInt m) (w.setRow g (overV cur.toList o cs).toArray):=by
 have hl:=run_loadCells_list (P:=P) w a cs hsrc;have hst:=run_storeCells_at P g o t cs 0 cur w hg (by simpa using hfit) h1;simp only [Nat.add_zero] at hst
 cases hq:P.info? elem with
 | none=>simp [hq] at hs
 | some i =>
  have hi:i.size=k:=by simpa [hq] using hs
  simp [Builtin.copy_,run_underlying hu,Builtin.lenOf,Builtin.firstCells,sizeOf,typeInfo,hq,hi,hm,← hn,hl,hst,overV]
theorem run_clear_k {P:Program}(w:World)(t ty elem:TypeId)(z:Value)(g o n cap:Nat)(cur:Array Value)(tb:TypeId)
  (hu:P.underlying t=some (.slice elem)) (hz:∀ w,(zeroValue elem).run P w = .ok z w) (hg:w.heap[g]?=some (.cells cur tb (0,0))) (hn:0 < n) (hfit:o+n*z.cells.size≤cur.size) (h1:∀ v∈(Builtin.zeroCells z.cells n).toList,v.oneCell'=true) :
  (Builtin.clear_ #[t] ty #[.slice (some ⟨g,o,none⟩) n cap]).run P w = .ok (.tuple #[]) (w.setRow g (overV cur.toList o (Builtin.zeroCells z.cells n).toList).toArray):=by
 have hst:=run_storeCells_at P g o tb (Builtin.zeroCells z.cells n).toList 0 cur w hg (by rw [Array.length_toList,size_zeroCells];omega) h1;simp only [Nat.add_zero] at hst;obtain ⟨k,rfl⟩:∃ k,n=k+1:=⟨n - 1,by omega⟩;simp only [Builtin.clear_,Sem.run_bind,run_underlying hu,hz,Result.andThen_ok,List.getElem?_toArray,List.getElem?_cons_zero];rw [hst];rfl
theorem add_none (g o j:Nat):(⟨g,o,none⟩:Addr).add j=⟨g,o+j,none⟩:=by unfold Addr.add;split<;>simp_all
theorem part_of {w:World}{g:Nat}{e:TypeId}{cur:Array Value}(hg:w.heap[g]?=some (.cells cur e (0,0)))(o:Nat){cs:List Value}(hc:∀ j v,cs[j]?=some v→cur.toList[o+j]?=some v):∀ j v,cs[j]?=some v→w.cell? ((⟨g,o,none⟩:Addr).add j)=some v:=fun j v hv=>by
 rw [add_none,cell_of_row _ _ _ _ _ _ hg]
 simpa using hc j v hv
end
section
open Go Go.RowKit Go.Deep Go.Maps
theorem only_turnedK {w w':World}{b:Nat}(h:w.mapTurned w' b):Only [b] w w':=by
 have hg:=h.grown;exact ⟨hg.os,hg.tape,hg.output,hg.size,fun k hk hn=>hg.block k hk (fun e=>hn (by simp at e;simp [e]))⟩
theorem own_onlyK {w w':World}{K:TypeId}{R:Value→Option (DataW Unit×List MemPlace)}{b n:Nat}{D:DataW Unit}{L:List Nat}(h:w.ownsMap Tryz.prog K R b n D)(ho:Only L w w')(hb:b∉L):w'.ownsMap Tryz.prog K R b n D:=by
 have hlt:=h.lt;obtain ⟨es,clock,h1,r⟩:=h;exact ⟨es,clock,(ho.block b hlt hb).trans h1,r⟩
theorem own_sizedK {w:World}{K:TypeId}{R:Value→Option (DataW Unit×List MemPlace)}{b n:Nat}{D:DataW Unit}(h:w.ownsMap Tryz.prog K R b n D):w.ownsMap Tryz.prog K R b (Maps.size D) D:=by
 obtain ⟨es,clock,hb,F,_,rfl⟩:=h;exact ⟨es,clock,hb,F,by simp [Maps.size,length_sorted],rfl⟩
theorem own_ne_block {w:World}{K:TypeId}{R:Value→Option (DataW Unit×List MemPlace)}{b n g:Nat}{D:DataW Unit}{cs:Array Value}{ty:TypeId}{fr:Nat×Nat}(h:w.ownsMap Tryz.prog K R b n D)(hc:w.heap[g]?=some (.cells cs ty fr)):b≠g:=by
 obtain ⟨es,clock,hb,_⟩:=h;intro e;subst e;rw [hb] at hc
 cases hc
theorem own_block {w:World}{base e k n b:Nat}{v:Value}{xs:List Value}(h:w.ownsRow base e k v n xs)(hb:v.ownBlock=some b):base≤b∧b < w.heap.size∧∃ cur,w.heap[b]?=some (.cells cur e (0,0)):=by
 rcases h.2 with ⟨rfl,_⟩ | ⟨g,cap,cur,rfl,h1,h2,h3⟩
 · cases hb
 · cases hb
   exact ⟨h1,(Array.getElem?_eq_some_iff.1 h2).1,cur,h2⟩
theorem undRq:(match Tryz.prog.underlying 366 with | some (.array _ _) | some (.struct _)=>true | _=>false)=true:=by kernel_rfl
theorem keyRq:Tryz.prog.keyType 366=true:=by kernel_rfl
theorem laidOutK:laidOutB Tryz.prog=true:=by kernel_rfl
theorem lawQ:Keyed Tryz.prog 366:=Keyed.of_law (deep_law_gate laidOutK (by decide +kernel) (by decide +kernel) keyRq undRq)
def qkey (k:ByteArray×Int):Lit:=if k.1.size≤maxLen∧(Lit.int .i64 k.2).wf=true then .string (keyBytes [.string k.1.data.toList,.int .i64 k.2]) else .bool false
theorem qkey_key (k:ByteArray×Int):WideAt.IsKeyLit (qkey k):=by
 unfold qkey
 split<;>trivial
theorem cellsIntK:Tryz.prog.cellsOf 3=1:=by kernel_rfl
theorem cellsStr:Tryz.prog.cellsOf 9=1:=by kernel_rfl
theorem cellsRq:Tryz.prog.cellsOf 366=2:=by kernel_rfl
theorem lits_intK (d:Nat)(n:Int)(h:(Lit.int .i64 n).wf=true):Tryz.prog.keyLits (d+1) 3 [.int .i64 n]=some [.int .i64 n]:=by
 unfold Program.keyLits;rw [Tryz.underlying3];simp [h]
theorem lits_str (d:Nat)(s:ByteArray)(h:s.size≤maxLen):Tryz.prog.keyLits (d+1) 9 [.string s]=some [.string s.data.toList]:=by
 unfold Program.keyLits;rw [Tryz.underlying9];simp [h]
theorem keyOf_rq {k:ByteArray×Int}(h:OkQ k):keyOf Tryz.prog 366 (.agg #[.string k.1,.int .i64 k.2])=some (qkey k):=by
 have h0:0 < Tryz.prog.types.size:=by decide +kernel
 obtain ⟨m,hm⟩:∃ m,Tryz.prog.types.size=m+1:=⟨Tryz.prog.types.size - 1,by omega⟩
 have hf:(Value.agg #[.string k.1,.int .i64 k.2]).formed Tryz.prog 366=true:=by
  unfold Value.formed;rw [Tryz.underlying366,cellsRq];rfl
 have hl:Tryz.prog.keyLits (m+1+1) 366 (Value.agg #[.string k.1,.int .i64 k.2]).cells.toList=some [.string k.1.data.toList,.int .i64 k.2]:=by
  unfold Program.keyLits;rw [Tryz.underlying366,cellsRq];simp [Value.cells,cellsIntK,cellsStr,lits_intK m k.2 h.2,lits_str m k.1 h.1]
 have hkk:qkey k = .string (keyBytes [.string k.1.data.toList,.int .i64 k.2]):=if_pos h;rw [hkk];unfold keyOf;rw [Tryz.underlying366,keyRq,hf,hm,hl];rfl
theorem qkey_only {k:ByteArray×Int}(h:OkQ k)(j:ByteArray×Int)(e:qkey j=qkey k):j=k:=by
 by_cases hj:OkQ j
 · have h1:=keyOf_rq h
   rw [← e] at h1;have h2:=lawQ.inj (keyOf_rq hj) h1;simp only [Value.agg.injEq,Array.mk.injEq,List.cons.injEq,Value.string.injEq,Value.int.injEq,true_and,and_true] at h2;exact Prod.ext h2.1 h2.2
 · unfold qkey at e
   rw [if_neg (show ¬ (j.1.size≤maxLen∧(Lit.int .i64 j.2).wf=true) from hj),if_pos (show k.1.size≤maxLen∧(Lit.int .i64 k.2).wf=true from h)] at e
   cases e
theorem undKn:Tryz.prog.underlying 137=some (.map 366 363):=by kernel_rfl
theorem infoAn:(Tryz.prog.info? 363).map (fun i=>(i.zero,i.size))=some (some (.agg #[.string ⟨#[]⟩,.string ⟨#[]⟩]),2):=by kernel_rfl
theorem zeroAn (w:World):(zeroValue 363).run Tryz.prog w = .ok (.agg #[.string ⟨#[]⟩,.string ⟨#[]⟩]) w:=(zero_of_info infoAn).1 w
def anV (x:Kp):DataW Unit := .agg [.lit (.string x.t.data.toList),.lit (.string x.r.data.toList)]
def anElem:Value→Option (DataW Unit×List MemPlace)
 | .agg cs=>match cs.toList with
  | [.string a,.string s]=>some (.agg [.lit (.string a.data.toList),.lit (.string s.data.toList)],[])
  | _=>none
 | _=>none
theorem anElem_mk (x:Kp):anElem (.agg #[.string x.t,.string x.r])=some (anV x,[]):=rfl
theorem bytes_of {s r:ByteArray}(h:s.data.toList=r.data.toList):s=r:=by
 cases s;cases r
 congr 1;exact Array.toList_inj.1 h
theorem anElem_inv {v:Value}{x:Kp}{ps:List MemPlace}(h:anElem v=some (anV x,ps)):v = .agg #[.string x.t,.string x.r]:=by
 unfold anElem at h
 split at h
 · rename_i cs
   split at h
   · rename_i a s e
     simp only [anV,Option.some.injEq,Prod.mk.injEq,DataW.agg.injEq,List.cons.injEq,DataW.lit.injEq,Lit.string.injEq,and_true] at h;obtain ⟨⟨h1,h2⟩,_⟩:=h;rw [← bytes_of h1,← bytes_of h2];congr 1;rw [← e]
   · cases h
 · cases h
def rqC (x:Kp):List Value:=[.string x.c,.int .i64 x.n]
theorem rqC_len (x:Kp):(rqC x).length=2:=rfl
theorem rqC_one (x:Kp):∀ v∈rqC x,v.oneCell'=true:=by
 intro v hv;simp only [rqC,List.mem_cons,List.not_mem_nil,or_false] at hv;rcases hv with rfl | rfl<;>rfl
theorem rqInfo:(Tryz.prog.info? 366).map (fun i=>(i.zero,i.size,i.bytes))=some (some (.agg #[.string ⟨#[]⟩,.int .i64 0]),2,24):=by kernel_rfl
theorem rqInfo':∃ i,Tryz.prog.info? 366=some i∧i.zero=some (.agg #[.string ⟨#[]⟩,.int .i64 0])∧i.size=2∧i.bytes=24:=by
 obtain ⟨i,hi,hz⟩:=Option.map_eq_some_iff.1 rqInfo;simp only [Prod.mk.injEq] at hz;exact ⟨i,hi,hz⟩
theorem rqsUnd:Tryz.prog.underlying 138=some (.slice 366):=by kernel_rfl
def Rqs (w:World)(base:Nat)(v:Value)(l:List Kp):Prop:=w.ownsRow base 366 2 v l.length (rowOf rqC l)
theorem Rqs.only {w w':World}{base:Nat}{v:Value}{l:List Kp}{L:List Nat}(h:Rqs w base v l)(ho:Only L w w')(hn:∀ k,v.ownBlock=some k→k∉L):Rqs w' base v l:=ho.owns h hn
theorem Rqs.nil (w:World)(base:Nat):Rqs w base (.slice none 0 0) []:=World.ownsRow_nil _ _ _ _
theorem Rqs.open {w:World}{base:Nat}{v:Value}{l:List Kp}(h:Rqs w base v l):(v = .slice none 0 0∧l=[])∨∃ g cap cur,v = .slice (some ⟨g,0,none⟩) l.length cap∧base≤g∧g < w.heap.size∧w.heap[g]?=some (.cells cur 366 (0,0))∧l.length≤cap∧cap≤maxLen∧cur.size=cap*2∧cur.toList.take (l.length*2)=rowOf rqC l:=by
 rcases h.2 with ⟨h1,h2⟩ | ⟨g,cap,cur,h1,h2,h3,h4⟩
 · exact Or.inl ⟨h1,List.length_eq_zero_iff.1 h2⟩
 · exact Or.inr ⟨g,cap,cur,h1,h2,(Array.getElem?_eq_some_iff.1 h3).1,h3,h4⟩
theorem Rqs.snoc {w:World}{base n:Nat}{v:Value}{L:List Kp}{x:Kp}(hn:L.length=n)(h:w.ownsRow base 366 2 v (n+1) (rowOf rqC L++rqC x)):Rqs w base v (L++[x]):=by
 unfold Rqs;rw [rowOf_append,List.length_append,List.length_singleton,hn,show rowOf rqC [x]=rqC x by simp [rowOf]];exact h
theorem Rqs.own {w:World}{base n:Nat}{v:Value}{L:List Kp}(hn:L.length=n)(h:Rqs w base v L):w.ownsRow base 366 2 v n (rowOf rqC L):=by
 unfold Rqs at h;rw [hn] at h;exact h
theorem rq_news {w:World}(x:Kp)(ty:TypeId):∀ (r:Nat) (q:Value),(rqC x)[r]?=some q→(w.alloc (.cells #[.string x.c,.int .i64 x.n] ty)).cell? ((⟨w.heap.size,0,none⟩:Addr).add r)=some q:=World.news_of_block (w:=w.alloc (.cells #[.string x.c,.int .i64 x.n] ty)) (heap_alloc_last w _)
structure CaAt (w:World)(base t b:Nat)(v:Value)(most:Nat)(L:List Kp):Prop where
 tab:w.heap[t]?=some (.cells #[.int .i64 (most:Nat),.map (some b),v] 140 (0,0))
 own:∃ D,w.ownsMap Tryz.prog 366 anElem b L.length D∧Maps.size D=L.length∧Reads qkey anV D (findK L)
 row:Rqs w base v L
 inv:KInv most L
section
variable {w w':World}{base t b:Nat}{v:Value}{most:Nat}{L:List Kp}
theorem CaAt.lt (h:CaAt w base t b v most L):t < w.heap.size:=(Array.getElem?_eq_some_iff.1 h.tab).1
theorem CaAt.c0 (h:CaAt w base t b v most L):w.cell? ⟨t,0,none⟩=some (.int .i64 (most:Nat)):=cell_of_row _ _ 0 _ _ _ h.tab
theorem CaAt.c1 (h:CaAt w base t b v most L):w.cell? ⟨t,1,none⟩=some (.map (some b)):=cell_of_row _ _ 1 _ _ _ h.tab
theorem CaAt.c2 (h:CaAt w base t b v most L):w.cell? ⟨t,2,none⟩=some v:=cell_of_row _ _ 2 _ _ _ h.tab
theorem CaAt.ne (h:CaAt w base t b v most L):b≠t:=by
 obtain ⟨D,h1,_⟩:=h.own;exact own_ne_block h1 h.tab
theorem CaAt.blt (h:CaAt w base t b v most L):b < w.heap.size:=by
 obtain ⟨D,h1,_⟩:=h.own;exact h1.lt
theorem CaAt.vne (h:CaAt w base t b v most L){k:Nat}(hk:v.ownBlock=some k):k≠t∧k≠b:=by
 obtain ⟨_,_,cur,hc⟩:=own_block h.row hk;refine ⟨fun e=>?_,fun e=>?_⟩
 · rw [e,h.tab] at hc
   simp at hc
 · obtain ⟨D,h1,_⟩:=h.own
   exact own_ne_block h1 hc e.symm
theorem CaAt.kept {K:List Nat}(h:CaAt w base t b v most L)(ho:Only K w w')(h1:t∉K)(h2:b∉K)(h3:∀ k,v.ownBlock=some k→k∉K):CaAt w' base t b v most L:=⟨(ho.block t h.lt h1).trans h.tab,by
 obtain ⟨D,a,c⟩:=h.own
 exact ⟨D,own_onlyK a ho h2,c⟩,h.row.only ho h3,h.inv⟩
theorem CaAt.only (h:CaAt w base t b v most L)(ho:Only [] w w'):CaAt w' base t b v most L:=h.kept ho (by simp) (by simp) (fun _ _=>by simp)
def ansV (L:List Kp)(k:ByteArray×Int):Value:=match findK L k with | some x => .agg #[.string x.t,.string x.r] | none => .agg #[.string ⟨#[]⟩,.string ⟨#[]⟩]
theorem CaAt.look (h:CaAt w base t b v most L){k:ByteArray×Int}(hk:OkQ k):(Instr.lookup 137 (.map (some b)) (.agg #[.string k.1,.int .i64 k.2]) true).run Tryz.prog w = .ok (.tuple #[ansV L k,.bool (findK L k).isSome]) w:=by
 unfold ansV;obtain ⟨D,h1,h2,h3⟩:=h.own;obtain ⟨v,ps,hr,hv⟩:=h1.look_ok lawQ undKn (zeroAn _) (zd:=anV ⟨⟨#[]⟩,0,⟨#[]⟩,⟨#[]⟩⟩) (zp:=[]) rfl (keyOf_rq hk);rw [h3.isSome] at hr;rw [h3.look] at hv;rw [hr]
 cases hf:findK L k with
 | none =>
  rw [hf] at hv;rw [anElem_inv (x:=⟨⟨#[]⟩,0,⟨#[]⟩,⟨#[]⟩⟩) hv]
 | some x =>
  rw [hf] at hv;rw [anElem_inv hv]
theorem CaAt.put (h:CaAt w base t b v most L)(x:Kp)(hx:OkQ x.k)(hf:findK L x.k=none):∃ w' D,(Instr.mapUpdate 137 (.map (some b)) (.agg #[.string x.c,.int .i64 x.n]) (.agg #[.string x.t,.string x.r])).run Tryz.prog w = .ok () w'∧w'.ownsMap Tryz.prog 366 anElem b (L++[x]).length D∧Maps.size D=(L++[x]).length∧Reads qkey anV D (findK (L++[x]))∧Only [b] w w':=by
 obtain ⟨D,h1,h2,h3⟩:=h.own;have hl:=h.inv.len;have hm:=h.inv.most2;obtain ⟨w',hr,hown,ht⟩:=h1.store lawQ undKn (by unfold maxLen;omega) (keyOf_rq hx) (anElem_mk x)
 have hsz:Maps.size (D.put (qkey x.k) (anV x))=(L++[x]).length:=by
  rw [size_put (h1.tidy lawQ),h3.isSome,hf,h2,List.length_append]
  all_goals rfl
 refine ⟨w',_,hr,?_,hsz,h3.put h1.isMap qkey_key (qkey_only hx) (by rw [findK_app,hf];simp) (fun j hj=>by
  rw [findK_app]
  cases findK L j with
  | none=>exact if_neg (fun e=>hj e.symm)
  | some y=>rfl),only_turnedK ht⟩
 rw [← hsz];exact own_sizedK hown
theorem CaAt.del {y:Kp}(h:CaAt w base t b v most (y::L))(ty:TypeId):∃ w' D,(Builtin.delete_ #[137,366] ty #[.map (some b),.agg #[.string y.c,.int .i64 y.n]]).run Tryz.prog w = .ok (.tuple #[]) w'∧w'.ownsMap Tryz.prog 366 anElem b L.length D∧Maps.size D=L.length∧Reads qkey anV D (findK L)∧Only [b] w w':=by
 obtain ⟨D,h1,h2,h3⟩:=h.own;have hy:OkQ y.k:=h.inv.num y (by simp);obtain ⟨w',hr,hown,ht⟩:=h1.drop lawQ undKn (keyOf_rq hy) ty;obtain ⟨hn,ho⟩:=findK_drop_first h.inv.nod
 have hsz:Maps.size (D.del (qkey y.k))=L.length:=by
  have e1:=size_del (k:=qkey y.k) (h1.tidy lawQ);rw [h3.isSome,findK_cons,if_pos rfl,h2] at e1;simp at e1;omega
 refine ⟨w',_,hr,?_,hsz,h3.del (qkey_only hy) hn ho,only_turnedK ht⟩;rw [← hsz];exact own_sizedK hown
end
end
section
open Go Go.RowKit Go.Deep
theorem rqZero (w:World):(zeroValue 366).run Tryz.prog w = .ok (.agg #[.string ⟨#[]⟩,.int .i64 0]) w:=by
 obtain ⟨i0,h1,h2,_⟩:=rqInfo';simp [zeroValue,typeInfo,h1,h2]
theorem zeroOneK (n:Nat):∀ v∈(Builtin.zeroCells (Value.agg #[.string ⟨#[]⟩,.int .i64 0]).cells n).toList,v.oneCell'=true:=by
 intro v hv;simp only [Builtin.zeroCells,Array.toList_map,List.mem_map] at hv;obtain ⟨i,_,rfl⟩:=hv;have h:i % 2 < 2:=Nat.mod_lt _ (by decide);have hs:(Value.agg #[.string ⟨#[]⟩,.int .i64 0]).cells=#[.string ⟨#[]⟩,.int .i64 0]:=rfl;rw [hs];rcases (show i % 2=0∨i % 2=1 by omega) with e | e<;>simp [e]<;>rfl
theorem clear_atK {w:World}{g o n cap:Nat}{cur:Array Value}(hg:w.heap[g]?=some (.cells cur 366 (0,0)))(hn:0 < n)(hfit:o+n*2≤cur.size):
  ∃ w' cs,(∀ ty,(Builtin.clear_ #[138] ty #[.slice (some ⟨g,o,none⟩) n cap]).run Tryz.prog w = .ok (.tuple #[]) w')∧w'.heap[g]?=some (.cells (overV cur.toList o cs).toArray 366 (0,0))∧cs.length=n*2∧Only [g] w w' :=
 ⟨_,_,fun ty=>run_clear_k (P:=Tryz.prog) w 138 ty 366 _ g o n cap cur 366 rqsUnd rqZero hg hn (by have h:=hfit;exact h) (zeroOneK n),setRow_heap w g cur _ 366 _ hg,by rw [Array.length_toList,size_zeroCells];rfl,only_rowS w g _⟩
theorem step_append_knownK {P:Program}{ops:Array Oper}{o:Oper}{a:Act}{w:World}{K:Act→World→Prop}{Q:Exit→Act→World→Prop}{E:Prop}(hg:o.guard=none)(s x:Operand)(t t':TypeId)(hop:o.op=Op.call { callee:=Callee.builtin Builtin.append,args:=#[s,x],argTypes:=#[t,t'] })
  (v u:Value) (hs:a.eval s=v) (hx:a.eval x=u) {v':Value} {w':World} (hr:(Builtin.append_ #[t,t'] o.type #[v,u]).run P w = .ok v' w') (hK:K (a.put o.dst v') w'):if Region.wanted o (yielded ops a.tmps)=true then Oper.wp P o a w K Q else E:=by
 have hw:Region.wanted o (yielded ops a.tmps)=true:=by simp [Region.wanted,hg]
 rw [if_pos hw];unfold Oper.wp;simp [execOp,hop,resolve,invoke,builtin,hs,hx,hr,Result.andThen];exact hK
theorem delete_any (w:World)(base g n cap i:Nat)(l:List Kp)(h:Rqs w base (.slice (some ⟨g,0,none⟩) n cap) l)(hn:l.length=n)(hl:n≤1000)(hi:i < n):
   Calls Tryz.prog 262 #[.slice (some ⟨g,0,none⟩) n cap,.int .i64 i,.int .i64 ((i:Int)+1)] w fun e w'=>e = .returned (.slice (some ⟨g,0,none⟩) (n - 1) cap)∧Rqs w' base (.slice (some ⟨g,0,none⟩) (n - 1) cap) (l.take i++l.drop (i+1))∧Only [g] w w':=by
 obtain ⟨i0,hi0,hz0,hz1,hz2⟩:=rqInfo';rcases h.open with ⟨h1,_⟩ | ⟨g',cap',cur,h1,hbg,hgl,hg,hnc,hcm,hcs,htk⟩
 · cases h1
 simp only [Value.slice.injEq,Option.some.injEq,Addr.mk.injEq,and_true] at h1;obtain ⟨rfl,-,rfl⟩:=h1
 have hdl:(rowOf rqC (l.drop (i+1))).length=(n - (i+1))*2:=by rw [rowOf_len rqC_len,List.length_drop,hn]
 have hcl:cur.toList.length=cap*2:=by rw [Array.length_toList,hcs]
 have hc1:∀ (ad:Addr) ty c,(i+1 < n→ad=⟨g,(i+1)*2,none⟩)→(Builtin.append_ #[138,138] ty #[.slice (some ⟨g,0,none⟩) i cap,.slice (some ad) (n - (i+1)) c]).run Tryz.prog w.drew = .ok (.slice (some ⟨g,0,none⟩) (i+(n - (i+1))) cap) (w.drew.setRow g (cur.toList.take (i*2)++rowOf rqC (l.drop (i+1))++cur.toList.drop (i*2+(rowOf rqC (l.drop (i+1))).length)).toArray):=fun ad ty c had=>by
   have:=run_append_room (P:=Tryz.prog) w.drew 138 ty 366 i0 rqsUnd hi0 g i cap cur hg ad (n - (i+1)) c (rowOf rqC (l.drop (i+1))) (by rw [hz1,hdl]) (fun j v hv=>by
     by_cases hlt:i+1 < n
     · rw [had hlt]
       refine part_of (w:=w.drew) hg ((i+1)*2) (cs:=rowOf rqC (l.drop (i+1))) (fun j v hv=>?_) j v hv;rw [rowOf_drop rqC_len,← htk,List.getElem?_drop,List.getElem?_take] at hv
       split at hv
       · exact hv
       · cases hv
     · have:=(List.getElem?_eq_some_iff.1 hv).1
       omega) (rowOf_one rqC_one _) (by omega) (by rw [hz1];rw [← Array.length_toList];omega)
   rw [hz1] at this;exact this
 have e1:i+(n - (i+1))=n - 1:=by omega
 rw [e1] at hc1;have hh1:(w.drew.setRow g (cur.toList.take (i*2)++rowOf rqC (l.drop (i+1))++cur.toList.drop (i*2+(rowOf rqC (l.drop (i+1))).length)).toArray).heap[g]?=some (.cells (overV cur.toList (i*2) (rowOf rqC (l.drop (i+1)))).toArray 366 (0,0)):=setRow_heap w.drew g cur _ 366 _ hg;have o1:Only [g] w (w.drew.setRow g (cur.toList.take (i*2)++rowOf rqC (l.drop (i+1))++cur.toList.drop (i*2+(rowOf rqC (l.drop (i+1))).length)).toArray):=((Only.refl [g] w).drew).trans (only_rowS _ g _) (fun _ hk=>Or.inl hk);generalize w.drew.setRow g (cur.toList.take (i*2)++rowOf rqC (l.drop (i+1))++cur.toList.drop (i*2+(rowOf rqC (l.drop (i+1))).length)).toArray=w2 at hc1 hh1 o1
 have hov1:(overV cur.toList (i*2) (rowOf rqC (l.drop (i+1)))).length=cap*2:=by rw [overV_len (by omega),hcl]
 obtain ⟨w3,cs,hc3,hh3,hcsl,o3⟩:=clear_atK (g:=g) (o:=(n - 1)*2) (n:=n - (n - 1)) (cap:=cap - (n - 1)) hh1 (by omega) (by rw [List.size_toArray,hov1];omega)
 have fin:Rqs w3 base (.slice (some ⟨g,0,none⟩) (n - 1) cap) (l.take i++l.drop (i+1))∧Only [g] w w3:=by
   have hlen:(l.take i++l.drop (i+1)).length=n - 1:=by rw [List.length_append,List.length_take,List.length_drop];omega
   refine ⟨⟨by rw [rowOf_len rqC_len],Or.inr ⟨g,cap,_,by rw [hlen],hbg,hh3,by rw [hlen];omega,hcm,?_,?_⟩⟩,o1.trans o3 (fun k hk=>Or.inl hk)⟩
   · rw [List.size_toArray,List.toList_toArray,overV_len (by omega),hov1]
   · rw [hlen,List.toList_toArray,List.toList_toArray]
     have a1:(overV (overV cur.toList (i*2) (rowOf rqC (l.drop (i+1)))) ((n - 1)*2) cs).take ((n - 1)*2)=(overV cur.toList (i*2) (rowOf rqC (l.drop (i+1)))).take ((n - 1)*2):=by
       rw [overV,List.append_assoc,List.take_append_of_le_length (by rw [List.length_take];omega),List.take_take,Nat.min_self]
     have a2:(n - 1)*2=i*2+(rowOf rqC (l.drop (i+1))).length:=by omega
     rw [a1,a2,overV_end (by omega),rowOf_append];congr 1;rw [rowOf_take rqC_len,← htk,List.take_take,Nat.min_eq_left (by omega)]
 have HFIN:Hid (Rqs w3 base (.slice (some ⟨g,0,none⟩) (n - 1) cap) (l.take i++l.drop (i+1))∧Only [g] w w3):=fin
 have hG63:(cap:Int)≤9223372036854775807:=by unfold maxLen at hcm;omega
 have HC1:Hid (∀ (ad:Addr) ty c,(i+1 < n→ad=⟨g,(i+1)*2,none⟩)→(Builtin.append_ #[138,138] ty #[.slice (some ⟨g,0,none⟩) i cap,.slice (some ad) (n - (i+1)) c]).run Tryz.prog w.drew = .ok (.slice (some ⟨g,0,none⟩) (n - 1) cap) w2):=hc1
 have mixed:Tryz.prog.follows Departure.mixedOrders=true:=by kernel_rfl
 have q1:¬ ((i:Int)=(i:Int)+1):=by omega
 have q2:(i:Int)+1≤n:=by omega
 have q3:(i:Int)≤(i:Int)+1:=by omega
 have q4:(0:Int)≤(i:Int)+1:=by omega
 have q5:((i:Int)+1).toNat=i+1:=by omega
 have q6:(i:Int)≤cap:=by omega
 have q7:¬ (cap=n - 1):=by omega
 have q8:((n - 1:Nat):Int)≤n:=by omega
 clear fin hc1 hh1 hh3 o1 o3 hcsl hdl hcl hov1 hgl hg hcs htk h hbg hcm hi0 hz0 hz1 hz2
 by_cases hce:cap=i+1
 · obtain rfl:n=cap:=by omega
   have HC2:=HC1.out ⟨g,0,none⟩ 138 0 (fun h=>absurd h (by omega));rw [show n - (i+1)=0 by omega] at HC2;rw [show n - (n - 1)=1 by omega] at hc3
   have hn1:n - 1=i:=by omega
   rw [hn1] at HC2 HFIN hc3 ⊢
   have hic:(i:Int)+1=(n:Int):=by omega
   have r1:¬ ((i:Int)=(n:Int)):=by omega
   have r2:¬ (n=i):=by omega
   have r3:(i:Int)≤n:=by omega
   have r4:n - i=1:=by omega
   rw [hic];clear HC1 q1 q2 q3 q4 q5 q6 q7 q8 e1 hce hn1 hic
   go_enter Tryz.func262,Tryz.ntmps262
   go_wp2
   go_region_law_o (refine step_append_knownK rfl _ _ 138 138 rfl (Value.slice (some ⟨g,0,none⟩) i n) (Value.slice (some ⟨g,0,none⟩) 0 0) (by simp [Act.eval,Act.put]) (by simp [Act.eval,Act.put]) (HC2) ?_)
   go_wp2_with (at_builtin;refine wpList_clear_knownK rfl _ 138 rfl _ rfl (hc3 _) ?_)
   go_ret
   exact ⟨rfl,HFIN.out⟩
 · go_enter Tryz.func262,Tryz.ntmps262
   go_wp2
   go_region_law_o (refine step_append_knownK rfl _ _ 138 138 rfl (Value.slice (some ⟨g,0,none⟩) i cap) (Value.slice (some ⟨g,(i+1)*2,none⟩) (n - (i+1)) (cap - (i+1))) (by simp [Act.eval,Act.put]) (by simp [Act.eval,Act.put]) (HC1.out _ _ _ (fun _=>rfl)) ?_)
   go_wp2_with (at_builtin;refine wpList_clear_knownK rfl _ 138 rfl _ rfl (hc3 _) ?_)
   go_ret
   exact ⟨rfl,HFIN.out⟩
end
section
open Go Go.RowKit Go.Deep Go.Maps
def Err4 (W:World)(A:Nat→Addr):Prop:=∀ k,k∈[1,5,11]→W.cell? ⟨gOf k,0,none⟩=some (.iface 416 (.pointer (some (A k))))
theorem Errs.four {W:World}{A:Nat→Addr}(h:Errs W A):Err4 W A:=fun k hk=>h.cell k (by simp at hk;omega)
theorem bytes_ne {s r:ByteArray}(h:¬ s=r):(s.toList==r.toList)=false:=by
 rw [Lib.toList_data,Lib.toList_data];exact beq_eq_false_iff_ne.2 (fun e=>h (bytes_of e))
section
variable {w w':World}{base t b:Nat}{v v':Value}{most:Nat}{L:List Kp}
theorem CaAt.reordered (ht:w.heap[t]?=some (.cells #[.int .i64 (most:Nat),.map (some b),v] 140 (0,0)))(hm:∃ D,w.ownsMap Tryz.prog 366 anElem b L.length D∧Maps.size D=L.length∧Reads qkey anV D (findK L))(hr:Rqs w base v' L)(hi:KInv most L):
  w.cell? ⟨t,2,none⟩=some v∧w.frozen? ⟨t,2,none⟩=false∧t < w.heap.size∧CaAt (w.setCell ⟨t,2,none⟩ v') base t b v' most L∧Only [t] w (w.setCell ⟨t,2,none⟩ v'):=by
 have ho:Only [t] w (w.setCell ⟨t,2,none⟩ v'):=(Only.refl [t] w).setCell (Or.inl (by simp)) _;obtain ⟨D,h1,h2⟩:=hm;have hbt:b≠t:=own_ne_block h1 ht;refine ⟨cell_of_row _ _ 2 _ _ _ ht,frozen_of_row _ _ _ _ _ ht,(Array.getElem?_eq_some_iff.1 ht).1,⟨heap_setCell_same w t 2 _ _ _ ht,⟨D,own_onlyK h1 ho (by simpa using hbt),h2⟩,hr.only ho (fun k hk hkt=>?_),hi⟩,ho⟩;obtain ⟨_,_,cur,hc⟩:=own_block hr hk;rw [List.mem_singleton.1 hkt,ht] at hc;simp at hc
end
def NewR (w w':World)(most:Nat)(e:Ending):Prop:=∃ t b,e = .returned (.tuple #[.pointer (some ⟨t,0,none⟩),.nilIface])∧(∀ base,CaAt w' base t b (.slice none 0 0) most [])∧Only [] w w'∧w.heap.size≤t∧w.heap.size≤b
theorem new_ok (w:World)(most:Nat)(h1:1≤most)(h2:most≤20):Calls Tryz.prog 23 #[.int .i64 (most:Nat)] w fun e w'=>NewR w w' most e:=by
 have hm1:=run_makeMap (P:=Tryz.prog) 137 w;have d0:decide ((most:Int) < 1)=false:=decide_eq_false (by omega);have d1:decide ((20:Int) < most)=false:=decide_eq_false (by omega);have HI:Hid (KInv most []):=KInv.nil h1 h2
 go_enter Tryz.func23,Tryz.ntmps23
 go_wp2
 go_ret2
 have hh:=heap_alloc_last (w.alloc (.map #[] 0)) (.cells #[.int .i64 (most:Nat),.map (some w.heap.size),.slice none 0 0] 140);rw [World.size_alloc] at hh;exact ⟨w.heap.size+1,w.heap.size,rfl,fun base=>⟨hh,⟨_,(World.ownsMap_made (H:=Unit) w Tryz.prog 366 anElem).alloc _,rfl,Reads.empty⟩,Rqs.nil _ _,HI.out⟩,((Only.refl [] w).alloc _).alloc _,by omega,Nat.le_refl _⟩
def lookV (A:Nat→Addr)(L:List Kp)(k:ByteArray×Int)(s:ByteArray):Value := .tuple #[.string (lookK L k s).2.2,.bool (lookK L k s).2.1,errN A (lookK L k s).1]
theorem look_any (A:Nat→Addr)(w:World)(base t b:Nat)(v:Value)(most:Nat)(L:List Kp)(k:ByteArray×Int)(s:ByteArray)(hE:Err4 w A)(h:CaAt w base t b v most L)(hk:OkQ k):
  Calls Tryz.prog 171 #[.pointer (some ⟨t,0,none⟩),.string k.1,.int .i64 k.2,.string s] w fun e w'=>e = .returned (lookV A L k s)∧Only [] w w':=by
 have c1:=h.c1;have hlk:=h.look hk;have htl:=h.lt;have c11:w.cell? ⟨13,0,none⟩=some (.iface 416 (.pointer (some (A 11)))):=hE 11 (by simp);obtain ⟨c,n⟩:=k;dsimp only at hlk ⊢;unfold ansV at hlk;unfold lookV lookK;clear hE h hk
 cases hf:findK L (c,n) with
 | none =>
  rw [hf] at hlk;clear hf c11
  go_enter Tryz.func171,Tryz.ntmps171
  go_wp2
  go_ret3
  exact ⟨rfl,(Only.refl _ _).alloc _⟩
 | some x =>
  rw [hf] at hlk;have o1:Only [] w (w.alloc (.cells #[.string x.t,.string x.r] 363)):=(Only.refl _ _).alloc _;have c12:=(o1.cell (lt_of_cell c11) (by simp)).trans c11;dsimp only at hlk ⊢;clear hf c11 o1
  by_cases ht:x.t=s
  · subst ht
    rw [if_pos rfl]
    go_enter Tryz.func171,Tryz.ntmps171
    go_wp2
    go_ret3
    exact ⟨rfl,(Only.refl _ _).alloc _⟩
  · rw [if_neg ht]
    have e:errN A 12 = .iface 416 (.pointer (some (A 11))):=rfl;dsimp only;rw [e];have hb:(x.t.toList==s.toList)=false:=bytes_ne ht;clear e
    go_enter Tryz.func171,Tryz.ntmps171
    go_wp2
    go_region
    all_goals go_wp2
    all_goals go_ret3
    all_goals exact ⟨rfl,((Only.refl _ _).alloc _).drew⟩
def ForgetR (w w':World)(base t b:Nat)(v:Value)(most:Nat)(L:List Kp)(e:Ending):Prop:=e = .returned (.tuple #[])∧∃ v',CaAt w' base t b v' most L∧Only (t::b::v.ownBlock.toList) w w'∧v'.ownBlock=v.ownBlock
theorem forget_any (w:World)(base t b:Nat)(v:Value)(most:Nat)(y:Kp)(L:List Kp)(h:CaAt w base t b v most (y::L)):
   Calls Tryz.prog 228 #[.pointer (some ⟨t,0,none⟩)] w fun e w'=>ForgetR w w' base t b v most L e:=by
 rcases h.row.open with ⟨_,e2⟩ | ⟨g,cap,cur,hv,hbg,hgl,hg,hnc,hcm,hcs,htk⟩
 · cases e2
 have hI:KInv most L:=⟨h.inv.most1,h.inv.most2,by have:=h.inv.len;simp at this;omega,by have:=h.inv.nod;simp only [List.map_cons,List.nodup_cons] at this;exact this.2,fun x hx=>h.inv.num x (by simp [hx])⟩;have od:Only [] w w.drew:=(Only.refl [] w).drew;obtain ⟨w2,D,hr,hown,hsz,hrd,ho2⟩:=(h.only od).del 0;have hrow':=h.row;rw [hv] at hrow';have k0:=World.ownsRow.cellAt hrow' 0 (by simp);have k1:=World.ownsRow.cellAt hrow' 1 (by simp;omega);clear hrow';obtain ⟨n,hn⟩:∃ n,L.length=n:=⟨_,rfl⟩;have hln:=h.inv.len;have hlm:=h.inv.most2
 have hcm':(cap:Int)≤9223372036854775807:=by unfold maxLen at hcm;omega
 simp only [List.length_cons,hn] at hv hnc hln;have c1:=h.c1;have c2:=h.c2;have HT:Hid (w.heap[t]?=some (.cells #[.int .i64 (most:Nat),.map (some b),v] 140 (0,0))):=h.tab;have hvne:∀ k,v.ownBlock=some k→k≠t∧k≠b:=fun k hk=>h.vne hk;have hb:=h.ne;have hrow:=h.row;have htl:=h.lt;subst hv;obtain ⟨hgt,hgb⟩:=hvne g rfl;have q0:w.cell? ⟨g,0,none⟩=some (.string y.c):=k0;have q1:w.cell? ⟨g,1,none⟩=some (.int .i64 y.n):=k1;have ho02:Only [b] w w2:=(od.mono (fun _ hk=>by cases hk)).trans ho2 (fun k hk=>Or.inl hk);have hrow2:Rqs w2 base (.slice (some ⟨g,0,none⟩) (n+1) cap) (y::L):=hrow.only ho02 (fun k hk=>by cases hk;simpa using hgb);have hdel:Calls Tryz.prog 262 #[.slice (some ⟨g,0,none⟩) (n+1) cap,.int .i64 0,.int .i64 1] w2 fun e w'=>e = .returned (.slice (some ⟨g,0,none⟩) n cap)∧Rqs w' base (.slice (some ⟨g,0,none⟩) n cap) L∧Only [g] w2 w':=delete_any w2 base g (n+1) cap 0 (y::L) hrow2 (by simp [hn]) (by omega) (by omega)
 have HFIN:Hid (∀ w3,Rqs w3 base (.slice (some ⟨g,0,none⟩) n cap) L→Only [g] w2 w3→w3.cell? ⟨t,2,none⟩=some (.slice (some ⟨g,0,none⟩) (n+1) cap)∧w3.frozen? ⟨t,2,none⟩=false∧t < w3.heap.size∧CaAt (w3.setCell ⟨t,2,none⟩ (.slice (some ⟨g,0,none⟩) n cap)) base t b (.slice (some ⟨g,0,none⟩) n cap) most L∧Only [t,b,g] w (w3.setCell ⟨t,2,none⟩ (.slice (some ⟨g,0,none⟩) n cap))):=by
   intro w3 hR3 ho3;have ho:Only [b,g] w w3:=(ho02.mono (fun k hk=>Or.inl (by rw [List.mem_singleton.1 hk];simp))).trans ho3 (fun k hk=>Or.inl (by rw [List.mem_singleton.1 hk];simp));have ht:=(ho.block t htl (by simp;exact ⟨hb.symm,hgt.symm⟩)).trans HT.out;obtain ⟨r1,r2,r3,r4,r5⟩:=CaAt.reordered (L:=L) (v' := .slice (some ⟨g,0,none⟩) n cap) ht ⟨D,own_onlyK hown ho3 (by simpa using hgb.symm),hsz,hrd⟩ hR3 hI;exact ⟨r1,r2,r3,r4,(ho.mono (fun k hk=>Or.inl (by simp at hk;simp [hk]))).trans r5 (fun k hk=>Or.inl (by rw [List.mem_singleton.1 hk];simp))⟩
 have z2:w2.cell? ⟨t,2,none⟩=some (.slice (some ⟨g,0,none⟩) (n+1) cap):=(ho02.cell (p:=⟨t,2,none⟩) htl (by simpa using hb.symm)).trans c2;clear h hrow hrow2 HT hvne hown hrd ho2 ho02 hg hcs htk k0 k1 od hI hcm
 go_enter Tryz.func228,Tryz.ntmps228
 go_wp2
 go_region
 all_goals go_wp2_with (go_at_call 262;refine hdel.mono ?_;rintro e w3 ⟨rfl,hR3,ho3⟩;obtain ⟨r1,r2,r3,r4⟩:=HFIN.out w3 hR3 ho3;have HR:Hid (CaAt (w3.setCell ⟨t,2,none⟩ (.slice (some ⟨g,0,none⟩) n cap)) base t b (.slice (some ⟨g,0,none⟩) n cap) most L∧Only [t,b,g] w (w3.setCell ⟨t,2,none⟩ (.slice (some ⟨g,0,none⟩) n cap))):=r4;clear hdel hR3 ho3 r4)
 all_goals go_end0
 all_goals exact ⟨rfl,_,HR.out.1,HR.out.2,rfl⟩
def ClrAt (w:World)(c:Nat)(a b:ByteArray)(last:Int)(t:ByteArray):Prop:=w.heap[c]?=some (.cells #[.string a,.string b,.int .i64 last,.string t] 90 (0,0))
theorem check_yes0 (A:Nat→Addr)(s:ByteArray)(h:OkN s)(W:World)(hE:Errs W A):Calls Tryz.prog 22 #[.string s] W fun e w'=>e = .returned .nilIface∧Below W.heap.size W w' :=
 (check_any s A W hE).mono fun e w' q=>by
  rcases q with ⟨⟨_,q⟩ | ⟨q,_⟩,hb⟩
  · exact ⟨q,hb⟩
  · exact absurd h q
theorem check_no0 (A:Nat→Addr)(s:ByteArray)(h:¬ OkN s)(W:World)(hE:Errs W A):Calls Tryz.prog 22 #[.string s] W fun e w'=>e = .returned (erV A 3)∧Below W.heap.size W w' :=
 (check_any s A W hE).mono fun e w' q=>by
  rcases q with ⟨⟨q,_⟩ | ⟨_,q⟩,hb⟩
  · exact absurd q h
  · exact ⟨q,hb⟩
theorem pair_cells {w w':World}{x y:Value}{t:TypeId}(hb:Below (w.alloc (.cells #[x,y] t)).heap.size (w.alloc (.cells #[x,y] t)) w'):w'.cell? ⟨w.heap.size,1,none⟩=some y∧Below w.heap.size w w':=by
 refine ⟨?_,((Below.refl _ _).alloc (Nat.le_refl _) _).trans (hb.mono (by simp))⟩;rw [hb.cell (p:=⟨w.heap.size,1,none⟩) (by simp)];simp
theorem newCaller_no2 (A:Nat→Addr)(a b:ByteArray)(w:World)(hE:Errs w A)(ha:OkN a)(hb:¬ OkN b):
  Calls Tryz.prog 15 #[.string a,.string b] w fun e w'=>e = .returned (.tuple #[.pointer none,erV A 3])∧Below w.heap.size w w':=by
 have H1:Hid (∀ W,Errs W A→Calls Tryz.prog 22 #[.string a] W fun e w'=>e = .returned .nilIface∧Below W.heap.size W w'):=check_yes0 A a ha;have H2:Hid (∀ W,Errs W A→Calls Tryz.prog 22 #[.string b] W fun e w'=>e = .returned (erV A 3)∧Below W.heap.size W w'):=check_no0 A b hb;have HE0:Hid (∀ W,Below w.heap.size w W→Errs W A):=fun W h=>hE.below h (Nat.le_refl _);have HE:Hid (∀ o,Errs (w.alloc o) A):=fun o=>hE.below ((Below.refl _ _).alloc (Nat.le_refl _) _) (Nat.le_refl _);clear hE ha hb
 go_enter Tryz.func15,Tryz.ntmps15
 go_wp2
 refine wp_loop_rounds 3 ?_;rw [rounds_succ]
 go_wp2_with (go_at_call 22;go_must (refine (H1.out _ (HE.out _)).mono ?_);rintro e w1 ⟨rfl,hb⟩;obtain ⟨c1,B1⟩:=pair_cells hb;have HB1:Hid (Below w.heap.size w w1):=B1;clear B1 hb)
 rw [rounds_succ]
 go_wp2_with (go_at_call 22;go_must (refine (H2.out w1 (HE0.out _ HB1.out)).mono ?_);rintro e w2 ⟨rfl,hb⟩)
 go_ret2
 exact ⟨rfl,HB1.out.trans (hb.mono HB1.out.size)⟩
theorem newCaller_ok (A:Nat→Addr)(a b:ByteArray)(w:World)(hE:Errs w A)(ha:OkN a)(hb:OkN b):
  Calls Tryz.prog 15 #[.string a,.string b] w fun e w'=>∃ c,e = .returned (.tuple #[.pointer (some ⟨c,0,none⟩),.nilIface])∧ClrAt w' c a b 0 ⟨#[]⟩∧w.heap.size≤c∧Below w.heap.size w w':=by
 have H1:Hid (∀ W,Errs W A→Calls Tryz.prog 22 #[.string a] W fun e w'=>e = .returned .nilIface∧Below W.heap.size W w'):=check_yes0 A a ha;have H2:Hid (∀ W,Errs W A→Calls Tryz.prog 22 #[.string b] W fun e w'=>e = .returned .nilIface∧Below W.heap.size W w'):=check_yes0 A b hb;have HE0:Hid (∀ W,Below w.heap.size w W→Errs W A):=fun W h=>hE.below h (Nat.le_refl _);have HE:Hid (∀ o,Errs (w.alloc o) A):=fun o=>hE.below ((Below.refl _ _).alloc (Nat.le_refl _) _) (Nat.le_refl _);clear hE ha hb
 go_enter Tryz.func15,Tryz.ntmps15
 go_wp2
 refine wp_loop_rounds 3 ?_;rw [rounds_succ]
 go_wp2_with (go_at_call 22;go_must (refine (H1.out _ (HE.out _)).mono ?_);rintro e w1 ⟨rfl,hb⟩;obtain ⟨c1,B1⟩:=pair_cells hb;have HB1:Hid (Below w.heap.size w w1):=B1;clear B1 hb)
 rw [rounds_succ]
 go_wp2_with (go_at_call 22;go_must (refine (H2.out w1 (HE0.out _ HB1.out)).mono ?_);rintro e w2 ⟨rfl,hb⟩;have HB2:Hid (Below w.heap.size w w2):=HB1.out.trans (hb.mono HB1.out.size);clear hb)
 rw [rounds_succ]
 go_wp2
 go_ret2
 exact ⟨_,rfl,(show (w2.heap.push _)[w2.heap.size]?=_ by simp),HB2.out.size,HB2.out.alloc HB2.out.size _⟩
theorem leaseNew0 (w:World):Calls Tryz.prog 57 #[] w fun e w'=>(∃ t,e = .returned (.pointer (some ⟨t,0,none⟩)))∧Below w.heap.size w w':=by
 have hmm:=@run_makeMap Tryz.prog
 go_enter Tryz.func57,Tryz.ntmps57
 go_wp2
 go_ret
 exact ⟨⟨_,rfl⟩,((Below.refl _ _).alloc (Nat.le_refl _) _).alloc (by simp) _⟩
theorem cell_new0 (w:World)(a:Array Value)(ty:TypeId)(k:Nat)(v:Value)(h:k=w.heap.size∧a[0]?=some v):(w.alloc (.cells a ty)).cell? ⟨k,0,none⟩=some v:=by
 obtain ⟨rfl,h⟩:=h;rw [World.cell?_alloc_new];exact h
theorem serve_over (w:World)(tr:Nat):Calls Tryz.prog 21 #[.pointer (some ⟨tr,0,none⟩)] w fun e w'=>∃ s,e = .returned (.pointer (some ⟨s,0,none⟩))∧(w'.cell? ⟨s,0,none⟩=some (.pointer (some ⟨tr,0,none⟩))∧w.heap.size≤s∧s+1≤w'.heap.size)∧Below w.heap.size w w':=by
 have hmm:=@run_makeMap Tryz.prog
 go_enter Tryz.func21,Tryz.ntmps21
 go_wp2_with (go_at_call 57;go_must (refine (leaseNew0 _).mono ?_);rintro e w2 ⟨⟨lt,rfl⟩,hb2⟩)
 go_ret
 have hs:=hb2.size;exact ⟨w2.heap.size+1+1,rfl,⟨cell_new0 _ _ _ _ _ (by simp),by omega,by simp⟩,((hb2.alloc hs _).alloc (by simp;omega) _).alloc (by simp;omega) _⟩
def LsnAt (w:World)(l c:Nat)(a:ByteArray)(s:Nat):Prop:=w.heap[l]?=some (.cells #[.pointer (some ⟨c,0,none⟩),.string a,.pointer (some ⟨s,0,none⟩)] 88 (0,0))
theorem newListener_ok (A:Nat→Addr)(a:ByteArray)(s:Nat)(m:Nat)(w:World)(hE:Errs w A)(ha:OkN a)(h1:1≤m)(h2:m≤20):
  Calls Tryz.prog 14 #[.string a,.pointer (some ⟨s,0,none⟩),.int .i64 m] w fun e w'=>∃ l c b,e = .returned (.tuple #[.pointer (some ⟨l,0,none⟩),.nilIface])∧LsnAt w' l c a s∧(∀ base,CaAt w' base c b (.slice none 0 0) m [])∧w.heap.size≤l∧w.heap.size≤c∧w.heap.size≤b∧Below w.heap.size w w':=by
 have H1:Hid (Calls Tryz.prog 22 #[.string a] w fun e w'=>e = .returned .nilIface∧Below w.heap.size w w'):=check_yes0 A a ha w hE
 have H2:Hid (∀ W,Below w.heap.size w W→Calls Tryz.prog 23 #[.int .i64 m] W fun e w'=>∃ c b,e = .returned (.tuple #[.pointer (some ⟨c,0,none⟩),.nilIface])∧(∀ base,CaAt w' base c b (.slice none 0 0) m [])∧W.heap.size≤c∧W.heap.size≤b∧Below w.heap.size w w'):=fun W hb=>(new_ok W m h1 h2).mono fun e w' q=>by
  obtain ⟨t,b,he,hc,ho,k1,k2⟩:=q;exact ⟨t,b,he,hc,k1,k2,only_below hb ho⟩
 clear hE ha h1 h2
 go_enter Tryz.func14,Tryz.ntmps14
 go_wp2_with (first
  | (go_at_call 22;go_must (refine H1.out.mono ?_);rintro e w1 ⟨rfl,hb⟩;have HB:Hid (Below w.heap.size w w1):=hb;clear hb)
  | (go_at_call 23;go_must (refine (H2.out w1 HB.out).mono ?_);rintro e w2 ⟨c,b,rfl,hq⟩;have HQ:Hid ((∀ base,CaAt w2 base c b (.slice none 0 0) m [])∧w1.heap.size≤c∧w1.heap.size≤b∧Below w.heap.size w w2):=hq;clear hq))
 go_ret2
 obtain ⟨q1,q2,q3,q4⟩:=HQ.out;have:=HB.out.size;exact ⟨_,c,b,rfl,(show (w2.heap.push _)[w2.heap.size]?=_ by simp),fun base=>(q1 base).only ((Only.refl [] _).alloc _),q4.size,by omega,by omega,q4.alloc q4.size _⟩
end
end Go.Proofs.YtodldddakjmonaaGreatDoor
