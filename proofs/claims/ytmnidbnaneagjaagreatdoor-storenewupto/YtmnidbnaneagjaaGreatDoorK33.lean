import Derived.Test.YtmnidbnaneagjaaGreatDoorK32
import Derived.Laws.Shifts
import Derived.Laws.Tables
import Derived.Deep.CutBlock
set_option maxRecDepth 100000
set_option maxHeartbeats 8000000
namespace Go.Proofs.YtmnidbnaneagjaaGreatDoor
section
open Go Go.RowKit Go.Deep
def wd (n:Nat):List UInt8:=[UInt8.ofNat (n / 16777216),UInt8.ofNat (n / 65536),UInt8.ofNat (n / 256),UInt8.ofNat n]
def unwd (l:List UInt8):Nat:=l.foldl (fun n b=>n*256+b.toNat) 0
theorem wd_len (n:Nat):(wd n).length=4:=rfl
theorem unwd_wd {n:Nat}(h:n < 4294967296):unwd (wd n)=n:=by
 simp [unwd,wd];omega
theorem unwd_lt4 {l:List UInt8}(h:l.length≤4):unwd l < 4294967296:=by
 match l,h with
 | [],_=>simp [unwd]
 | [a],_=>have:=a.toNat_lt;simp [unwd];omega
 | [a,b],_=>have:=a.toNat_lt;have:=b.toNat_lt;simp [unwd];omega
 | [a,b,c],_=>have:=a.toNat_lt;have:=b.toNat_lt;have:=c.toNat_lt;simp [unwd];omega
 | [a,b,c,d],_=>have:=a.toNat_lt;have:=b.toNat_lt;have:=c.toNat_lt;have:=d.toNat_lt;simp [unwd];omega
theorem unwd_lt3 {l:List UInt8}(h:l.length≤3):unwd l < 16777216:=by
 match l,h with
 | [],_=>simp [unwd]
 | [a],_=>have:=a.toNat_lt;simp [unwd];omega
 | [a,b],_=>have:=a.toNat_lt;have:=b.toNat_lt;simp [unwd];omega
 | [a,b,c],_=>have:=a.toNat_lt;have:=b.toNat_lt;have:=c.toNat_lt;simp [unwd];omega
abbrev Rst:=Option (List UInt8)
def leftR (r:Rst):List UInt8:=r.getD []
def rB (k:Nat)(r:Rst):List UInt8×Rst:=match r with
 | none=>([],none)
 | some l=>if l.length < k then ([],none) else (l.take k,some (l.drop k))
def rW (r:Rst):Nat×Rst:=(unwd (rB 4 r).1,(rB 4 r).2)
theorem rB_len (k:Nat)(r:Rst):(rB k r).1.length≤k:=by
 unfold rB
 split
 · simp
 · split
   · simp
   · simp;omega
theorem rW_lt (r:Rst):(rW r).1 < 4294967296:=unwd_lt4 (rB_len 4 r)
theorem rB_left (k:Nat)(r:Rst):(leftR (rB k r).2).length≤(leftR r).length - k:=by
 unfold rB
 split
 · simp [leftR]
 · split
   · simp [leftR]
   · simp [leftR]
theorem rB_app (a b:List UInt8):rB a.length (some (a++b))=(a,some b):=by
 simp [rB]
theorem rW_wd {n:Nat}(h:n < 4294967296)(b:List UInt8):rW (some (wd n++b))=(n,some b):=by
 have:=rB_app (wd n) b;rw [wd_len] at this;simp only [rW,this,unwd_wd h]
def rRecs:Nat→Rst→List (List UInt8)→Option (List (List UInt8)×Rst)
 | 0,r,acc=>some (acc,r)
 | k+1,r,acc=>match (rB (rW r).1 (rW r).2).2 with
  | none=>none
  | some l=>rRecs k (some l) (acc++[(rB (rW r).1 (rW r).2).1])
def rBlks:Nat→Rst→List (List UInt8)→Option (List (List UInt8))
 | 0,_,acc=>some acc
 | f+1,r,acc=>if leftR r=[] then some acc else
  match rRecs (rW r).1 (rW r).2 acc with
  | none=>none
  | some (a,q)=>rBlks f (rB ((leftR q).length % 64) q).2 a
def rAll (t:List UInt8):Option (List (List UInt8)):=rBlks t.length (some t) []
theorem rRecs_left {k:Nat}{r q:Rst}{acc a:List (List UInt8)}(h:rRecs k r acc=some (a,q)):(leftR q).length≤(leftR r).length:=by
 induction k generalizing r acc with
 | zero=>simp only [rRecs,Option.some.injEq,Prod.mk.injEq] at h;rw [h.2];exact Nat.le_refl _
 | succ k ih =>
  simp only [rRecs] at h
  split at h
  · cases h
  · rename_i l hl
    have h1:=ih h;have h2:=rB_left (rW r).1 (rW r).2;have h3:=rB_left 4 r;rw [hl] at h2;have h4:(leftR (rW r).2).length=(leftR (rB 4 r).2).length:=rfl;omega
theorem rBlks_fuel {f g:Nat}{r:Rst}{acc:List (List UInt8)}(hf:(leftR r).length≤f)(hg:(leftR r).length≤g):rBlks f r acc=rBlks g r acc:=by
 induction f generalizing g r acc with
 | zero =>
  have h0:leftR r=[]:=List.length_eq_zero_iff.1 (by omega)
  cases g with
  | zero=>rfl
  | succ g=>simp [rBlks,h0]
 | succ f ih =>
  cases g with
  | zero =>
   have h0:leftR r=[]:=List.length_eq_zero_iff.1 (by omega);simp [rBlks,h0]
  | succ g =>
   simp only [rBlks]
   by_cases h0:leftR r=[]
   · simp [h0]
   · simp only [h0,if_false]
     have hpos:0 < (leftR r).length:=List.length_pos_iff.2 h0
     split
     · rfl
     · rename_i a q hq
       have h1:=rRecs_left hq;have h2:=rB_left ((leftR q).length % 64) q;have h3:=rB_left 4 r;have h4:(leftR (rW r).2).length=(leftR (rB 4 r).2).length:=rfl;apply ih<;>omega
def recT (s:List UInt8):List UInt8:=wd s.length++s
def blkT (L:List (List UInt8)):List UInt8:=wd L.length++(L.map recT).flatten
def wgt (L:List (List UInt8)):Nat:=(L.map fun s=>16+s.length).sum
def secsN (n:Nat):Nat:=(n+63) / 64
theorem flat_lenG (L:List (List UInt8)):(L.map recT).flatten.length+12*L.length=wgt L:=by
 induction L with
 | nil=>rfl
 | cons s L ih =>
  simp only [wgt,List.map_cons,List.flatten_cons,List.length_append,List.sum_cons,List.length_cons] at ih ⊢;simp only [recT,List.length_append,wd_len];omega
theorem blkT_len (L:List (List UInt8)):(blkT L).length+12*L.length=4+wgt L:=by
 have:=flat_lenG L;simp only [blkT,List.length_append,wd_len];omega
theorem secs_fit (L:List (List UInt8)):secsN (blkT L).length*64≤64+wgt L:=by
 have h:=blkT_len L
 cases L with
 | nil=>decide
 | cons s L =>
  simp only [List.length_cons] at h;simp only [secsN];omega
theorem rRecs_read {L:List (List UInt8)}(hs:∀ s∈L,s.length < 4294967296)(b:List UInt8)(acc:List (List UInt8)):rRecs L.length (some ((L.map recT).flatten++b)) acc=some (acc++L,some b):=by
 induction L generalizing acc with
 | nil=>simp [rRecs]
 | cons s L ih =>
  have e:((s::L).map recT).flatten++b=wd s.length++(s++((L.map recT).flatten++b)):=by simp [recT]
  have hw:=rW_wd (hs s (by simp)) (s++((L.map recT).flatten++b));have hb:=rB_app s ((L.map recT).flatten++b);rw [List.length_cons,e];simp only [rRecs,hw,hb];rw [ih (fun x hx=>hs x (by simp [hx]))];simp
def fillT (t:List UInt8):List UInt8:=t++List.replicate (secsN t.length*64 - t.length) 0
theorem fillT_len (t:List UInt8):(fillT t).length=secsN t.length*64:=by
 simp only [fillT,List.length_append,List.length_replicate,secsN];omega
def BkOk (L:List (List UInt8)):Prop:=L.length < 4294967296∧∀ s∈L,s.length < 4294967296
theorem rBlks_read {Ls:List (List (List UInt8))}(hs:∀ L∈Ls,BkOk L)(acc:List (List UInt8))(f:Nat)(hf:((Ls.map fun L=>fillT (blkT L)).flatten).length≤f):rBlks f (some (Ls.map fun L=>fillT (blkT L)).flatten) acc=some (acc++Ls.flatten):=by
 induction Ls generalizing acc f with
 | nil=>cases f<;>simp [rBlks,leftR]
 | cons L Ls ih =>
  obtain ⟨h1,h2⟩:=hs L (by simp);generalize hq:(Ls.map fun L=>fillT (blkT L)).flatten=q at ih
  have hm:q.length % 64=0:=by
   rw [← hq];clear ih hq hf hs
   induction Ls with
   | nil=>rfl
   | cons L Ls ih=>simp only [List.map_cons,List.flatten_cons,List.length_append,fillT_len];omega
  have e:((L::Ls).map fun L=>fillT (blkT L)).flatten=wd L.length++((L.map recT).flatten++(List.replicate (secsN (blkT L).length*64 - (blkT L).length) 0++q)):=by
   simp [fillT,← hq];simp [blkT]
  rw [e] at hf ⊢
  have hl:4≤f:=by simp only [List.length_append,wd_len] at hf;omega
  obtain ⟨f,rfl⟩:∃ g,f=g+1:=⟨f - 1,by omega⟩;have hw:=rW_wd h1 ((L.map recT).flatten++(List.replicate (secsN (blkT L).length*64 - (blkT L).length) 0++q));have hr:=rRecs_read h2 (List.replicate (secsN (blkT L).length*64 - (blkT L).length) 0++q) acc
  have hn:leftR (some (wd L.length++((L.map recT).flatten++(List.replicate (secsN (blkT L).length*64 - (blkT L).length) 0++q))))≠[]:=by simp [leftR,wd]
  simp only [rBlks,hn,if_false,hw,hr];generalize hz:secsN (blkT L).length*64 - (blkT L).length=z
  have hz2:z < 64:=by rw [← hz];simp only [secsN];omega
  have hmod:(leftR (some (List.replicate z 0++q))).length % 64=(List.replicate z (0:UInt8)).length:=by
   simp only [leftR,Option.getD_some,List.length_append,List.length_replicate];omega
  have hb:=rB_app (List.replicate z (0:UInt8)) q;rw [hmod,hb];have:=ih (fun M hM=>hs M (by simp [hM])) (acc++L) f (by simp only [List.length_append,wd_len] at hf;omega);rw [this];simp
def concatS (l:List Sec):List UInt8:=(l.map (·.1)).flatten
theorem concatS_len (l:List Sec):(concatS l).length=l.length*64:=by
 induction l with
 | nil=>rfl
 | cons s l ih=>simp only [concatS,List.map_cons,List.flatten_cons,List.length_append,s.2,List.length_cons] at ih ⊢;omega
theorem concatS_app (a b:List Sec):concatS (a++b)=concatS a++concatS b:=by simp [concatS]
def pieceS (t:List UInt8)(i:Nat):Sec:=padB (bs ((t.drop (i*64)).take 64))
def piecesS (t:List UInt8)(k:Nat):List Sec:=(List.range k).map (pieceS t)
theorem pieceS_val (t:List UInt8)(i:Nat):(pieceS t i).1=((t.drop (i*64)).take 64++List.replicate 64 0).take 64:=by simp [pieceS,padB,bs]
theorem pieces_text (t:List UInt8)(k:Nat):concatS (piecesS t k)=(t++List.replicate (k*64) 0).take (k*64):=by
 induction k with
 | zero=>simp [piecesS,concatS]
 | succ k ih =>
  have e:piecesS t (k+1)=piecesS t k++[pieceS t k]:=by simp [piecesS,List.range_succ]
  rw [e,concatS_app,ih]
  have e2:concatS [pieceS t k]=(pieceS t k).1:=by simp [concatS]
  rw [e2,pieceS_val];apply List.ext_getElem?;intro i;simp only [List.getElem?_append,List.getElem?_take,List.length_take,List.length_append,List.length_replicate,List.getElem?_replicate,List.getElem?_drop,List.length_drop]
  repeat' split
  all_goals first
   | rfl
   | omega
   | (congr 1;omega)
   | skip
  all_goals grind
theorem pieces_fill (t:List UInt8):concatS (piecesS t (secsN t.length))=fillT t:=by
 rw [pieces_text,fillT]
 have h:t.length≤secsN t.length*64:=by simp only [secsN];omega
 rw [List.take_append,List.take_of_length_le h,List.take_replicate];congr 2;omega
def putAt (sec:List Sec)(a:Nat):List Sec→List Sec
 | []=>sec
 | p::ps=>putAt (sec.set a p) (a+1) ps
theorem putAt_len (sec:List Sec)(a:Nat)(ps:List Sec):(putAt sec a ps).length=sec.length:=by
 induction ps generalizing sec a with
 | nil=>rfl
 | cons p ps ih=>simp [putAt,ih]
theorem putAt_other (sec:List Sec)(a:Nat)(ps:List Sec)(i:Nat)(h:i < a∨a+ps.length≤i):(putAt sec a ps)[i]?=sec[i]?:=by
 induction ps generalizing sec a with
 | nil=>rfl
 | cons p ps ih =>
  simp only [List.length_cons] at h;rw [putAt,ih _ _ (by omega),List.getElem?_set_ne (by omega)]
theorem putAt_in (sec:List Sec)(a:Nat)(ps:List Sec)(i:Nat)(hi:i < ps.length)(h:a+ps.length≤sec.length):(putAt sec a ps)[a+i]?=ps[i]?:=by
 induction ps generalizing sec a i with
 | nil=>simp at hi
 | cons p ps ih =>
  simp only [List.length_cons] at h hi
  cases i with
  | zero=>rw [putAt,putAt_other _ _ _ _ (by omega),Nat.add_zero,List.getElem?_set_self (by omega)];rfl
  | succ i =>
   have:=ih (sec.set a p) (a+1) i (by omega) (by simp;omega);rw [putAt,show a+(i+1)=a+1+i by omega,this];simp
theorem putAt_snoc (sec:List Sec)(a:Nat)(ps:List Sec)(p:Sec):putAt sec a (ps++[p])=(putAt sec a ps).set (a+ps.length) p:=by
 induction ps generalizing sec a with
 | nil=>simp [putAt]
 | cons q ps ih=>simp only [List.cons_append,putAt,ih,List.length_cons];congr 1;omega
def Near (sec:List Sec)(a k:Nat)(s:List Sec):Prop:=s.length=sec.length∧∀ i,(i < a∨a+k≤i)→s[i]?=sec[i]?
theorem Near.set {sec s:List Sec}{a k:Nat}(h:Near sec a k s){n:Nat}(hn:a≤n∧n < a+k)(p:Sec):Near sec a k (s.set n p):=⟨by simp [h.1],fun i hi=>by
 rw [List.getElem?_set_ne (by omega)]
 exact h.2 i hi⟩
theorem Near.undo {sec s:List Sec}{a k:Nat}(h:Near sec a k s){wt:List Wr}(hw:∀ x∈wt,a≤x.n∧x.n < a+k):Near sec a k (undo s wt):=by
 induction wt with
 | nil=>exact h
 | cons x l ih=>exact (ih (fun y hy=>hw y (by simp [hy]))).set (hw x (by simp)) x.was
theorem Near.redo {sec s:List Sec}{a k:Nat}(h:Near sec a k s){wt:List Wr}(hw:∀ x∈wt,a≤x.n∧x.n < a+k)(keep:Nat→Bool)(m:Nat):Near sec a k (redo keep wt s m):=by
 induction m with
 | zero=>exact h
 | succ m ih =>
  simp only [Go.Proofs.YtmnidbnaneagjaaGreatDoor.redo]
  split
  · rename_i x hx
    split
    · exact ih.set (hw x (List.mem_of_getElem? hx)) x.now
    · exact ih
  · exact ih
theorem Near.put {sec:List Sec}{a k:Nat}(ps:List Sec)(h:ps.length≤k):Near sec a k (putAt sec a ps):=⟨putAt_len _ _ _,fun i hi=>putAt_other _ _ _ _ (by omega)⟩
theorem wd_cells (n:Nat):#[Value.int .u8 ((n:Int) / 16777216 % 256),Value.int .u8 ((n:Int) / 65536 % 256),Value.int .u8 ((n:Int) / 256 % 256),Value.int .u8 ((n:Int) % 256)]=(Lib.byteCells (wd n)).toArray:=by
 simp only [Lib.byteCells,wd,List.map_cons,List.map_nil,UInt8.toNat_ofNat',Nat.reducePow];simp
theorem word_text (w:World)(n:Nat):(convert 159 9 (.slice (some ⟨w.heap.size,0,none⟩) 4 4)).run Tryz.prog (w.alloc (.cells #[Value.int .u8 ((n:Int) / 16777216 % 256),Value.int .u8 ((n:Int) / 65536 % 256),Value.int .u8 ((n:Int) / 256 % 256),Value.int .u8 ((n:Int) % 256)] 376)) = .ok (.string (bs (wd n))) (w.alloc (.cells #[Value.int .u8 ((n:Int) / 16777216 % 256),Value.int .u8 ((n:Int) / 65536 % 256),Value.int .u8 ((n:Int) / 256 % 256),Value.int .u8 ((n:Int) % 256)] 376)):=by
 rw [wd_cells]
 exact run_convert_bytes_back (P:=Tryz.prog) _ 159 9 5 ⟨w.heap.size,0,none⟩ 4 (wd n) Tryz.underlying159 Tryz.underlying5 Tryz.underlying9 (fun x hx=>by
  rw [Addr.add_mid,Lib.cell_of_heap (heap_alloc_last w _)]
  simp [Lib.byteCells,hx])
theorem word_ok (w:World)(n:Nat)  : Calls Tryz.prog 145 #[.int .i64 (n:Nat)] w fun e w'=>e = .returned (.string (bs (wd n)))∧Only [] w w':=by
 have hcv:=word_text w n
 go_enter Tryz.func145,Tryz.ntmps145
 go_wp2
 refine wp_loop_rounds 5 ?_;rw [rounds_succ]
 go_wp2
 rw [rounds_succ]
 go_wp2
 rw [rounds_succ]
 go_wp2
 rw [rounds_succ]
 go_wp2
 rw [rounds_succ]
 go_wp2
 go_ret
 exact ⟨rfl,(Only.refl _ _).alloc _⟩
structure RdAt (w:World)(r:Nat)(st:Rst):Prop where
 blk:w.heap[r]?=some (.cells #[.string (bs (leftR st)),.bool st.isNone] 256 (0,0))
theorem RdAt.lt {w:World}{r:Nat}{st:Rst}(h:RdAt w r st):r < w.heap.size:=(Array.getElem?_eq_some_iff.1 h.blk).1
theorem RdAt.cells {w:World}{r:Nat}{st:Rst}(h:RdAt w r st):w.cell? ⟨r,0,none⟩=some (.string (bs (leftR st)))∧w.cell? ⟨r,1,none⟩=some (.bool st.isNone)∧∀ o,w.frozen? ⟨r,o,none⟩=false :=
 ⟨cell_of_row _ _ 0 _ _ _ h.blk,cell_of_row _ _ 1 _ _ _ h.blk,fun _=>frozen_of_row _ _ _ _ _ h.blk⟩
theorem RdAt.only {w w':World}{r:Nat}{st:Rst}(h:RdAt w r st){L:List Nat}(ho:Only L w w')(hr:r∉L):RdAt w' r st:=⟨(ho.block r h.lt hr).trans h.blk⟩
theorem bs_take (l:List UInt8)(k:Nat):(bs l).extract 0 k=bs (l.take k):=by
 apply data_inj;simp [bs,ByteArray.data_extract]
theorem bs_drop (l:List UInt8)(k n:Nat)(h:n=l.length):(bs l).extract k n=bs (l.drop k):=by
 subst h;apply data_inj;simp [bs,ByteArray.data_extract,List.take_of_length_le]
theorem bytes_okG {w:World}{r:Nat}{st:Rst}(h:RdAt w r st)(k:Nat)(hk:k < 4611686018427387904)(hl:(leftR st).length < 4611686018427387904):
   Calls Tryz.prog 128 #[.pointer (some ⟨r,0,none⟩),.int .i64 (k:Nat)] w fun e w'=>e = .returned (.string (bs (rB k st).1))∧RdAt w' r (rB k st).2∧Only [r] w w':=by
 have hlt:=h.lt;obtain ⟨c0,c1,fz⟩:=h.cells;have f0:=fz 0;have f1:=fz 1;have HR:Hid (RdAt w r st):=h;have hsz:=bs_size (leftR st);clear h fz
 by_cases hb:(leftR st).length < k
 · have d0:decide ((bs (leftR st)).size < k)=true:=decide_eq_true (by omega)
   go_enter Tryz.func128,Tryz.ntmps128
   go_wp2
   go_ret
   have ho:Only [r] w ((w.setCell ⟨r,0,none⟩ (.string ⟨#[]⟩)).setCell ⟨r,1,none⟩ (.bool true)):=((Only.refl [r] w).setCell (Or.inl (by simp)) _).setCell (Or.inl (by simp)) _
   have e1:rB k st=([],none):=by
    cases st with
    | none=>rfl
    | some l=>simp only [leftR,Option.getD_some] at hb;simp [rB,hb]
   rw [e1];refine ⟨rfl,⟨?_⟩,ho⟩;rw [heap_setCell_same _ r 1 _ _ _ (heap_setCell_same w r 0 _ _ _ HR.out.blk)];rfl
 · have d0:decide ((bs (leftR st)).size < k)=false:=decide_eq_false (by omega)
   go_enter Tryz.func128,Tryz.ntmps128
   go_wp2
   go_ret
   have e1:bs (rB k st).1=(bs (leftR st)).extract 0 k∧bs (leftR (rB k st).2)=(bs (leftR st)).extract k (leftR st).length∧(rB k st).2.isNone=st.isNone:=by
    rw [bs_take,bs_drop _ _ _ rfl]
    cases st with
    | none=>simp only [leftR,Option.getD_none,List.length_nil] at hb;simp [rB,leftR]
    | some l=>simp only [leftR,Option.getD_some] at hb;simp [rB,hb,leftR]
   have ho:Only [r] w (w.setCell ⟨r,0,none⟩ (.string ((bs (leftR st)).extract k (leftR st).length))):=(Only.refl [r] w).setCell (Or.inl (by simp)) _;refine ⟨by rw [e1.1];rfl,⟨?_⟩,ho⟩;rw [heap_setCell_same w r 0 _ _ _ HR.out.blk,e1.2.1,e1.2.2];rfl
theorem byte_at (s:ByteArray)(j:Nat)(h:j < s.size):(s.data.toList.take (j+1))=s.data.toList.take j++[s[j]]:=by
 rw [List.take_add_one]
 have:s.data.toList[j]?=some s[j]:=by
  rw [Array.getElem?_toList];exact Array.getElem?_eq_getElem h
 rw [this];rfl
theorem or_i64_nat (a b:Nat)(ha:a < 4611686018427387904)(hb:b < 4611686018427387904):bits .or .i64 (a:Int) (b:Int)=((a ||| b:Nat):Int):=by
 have hx:a ||| b < 2 ^ 62:=Nat.or_lt_two_pow (by omega) (by omega)
 have h1:(BitVec.ofInt 64 (a:Int)).toNat=a:=by
  rw [BitVec.ofInt_natCast,BitVec.toNat_ofNat];exact Nat.mod_eq_of_lt (by omega)
 have h2:(BitVec.ofInt 64 (b:Int)).toNat=b:=by
  rw [BitVec.ofInt_natCast,BitVec.toNat_ofNat];exact Nat.mod_eq_of_lt (by omega)
 show IntKind.i64.wrap ((BitVec.ofInt 64 (a:Int) ||| BitVec.ofInt 64 (b:Int)).toNat:Int)=_;rw [BitVec.toNat_or,h1,h2,IntKind.wrap_i64];omega
theorem shl8_or (n:Nat)(b:UInt8)(h:n < 16777216):bits .or .i64 ((n:Int)*256) (wrap64 (b.toNat:Int))=((n*256+b.toNat:Nat):Int):=by
 have hb:=b.toNat_lt
 have e0:wrap64 (b.toNat:Int)=(b.toNat:Int):=by unfold wrap64;omega
 have e1:((n:Int)*256)=((n*256:Nat):Int):=by omega
 rw [e0,e1,or_i64_nat _ _ (by omega) (by omega)]
 have:n*256 ||| b.toNat=n*256+b.toNat:=by
  have:=Nat.two_pow_add_eq_or_of_lt (i:=8) (by simpa using hb) n;rw [Nat.mul_comm n 256];exact this.symm
 rw [this]
theorem rword_ok {w:World}{r:Nat}{st:Rst}(h:RdAt w r st)(hl:(leftR st).length < 4611686018427387904):
  Calls Tryz.prog 124 #[.pointer (some ⟨r,0,none⟩)] w fun e w'=>e = .returned (.int .i64 ((rW st).1:Nat))∧RdAt w' r (rW st).2∧Only [r] w w':=by
 have H:=bytes_okG h 4 (by decide) hl;have hlen:=rB_len 4 st;unfold rW;generalize rB 4 st=q at H hlen ⊢;obtain ⟨l,st'⟩:=q;have e1:l=(bs l).data.toList:=(bs_data l).symm;have hsz:=bs_size l;simp only at H hlen ⊢;generalize bs l=s at H e1 hsz;subst e1;clear h;have H1:Hid (Calls Tryz.prog 128 #[.pointer (some ⟨r,0,none⟩),.int .i64 (4:Nat)] w fun e w'=>e = .returned (.string s)∧RdAt w' r st'∧Only [r] w w'):=H;clear H;rw [← hsz] at hlen;clear hsz
 go_enter Tryz.func124,Tryz.ntmps124
 go_wp2_with (go_at_call 128;refine H1.out.mono ?_;rintro e w1 ⟨rfl,h1,h2⟩)
 go_loopw [3,5,10] (fun v _ i wr=>∃ j:Nat,j≤s.size∧i = .int .i64 j∧v = .int .i64 (unwd (s.data.toList.take j):Nat)∧wr=w1) (fun _ _ i _=>s.size - (intOf i).toNat)
 case atStart=>exact ⟨0,Nat.zero_le _,rfl,rfl,rfl⟩
 case round =>
  obtain ⟨j,hj,rfl,rfl,rfl⟩:=hrel
  by_cases hlt:j < s.size
  · have hu:unwd (s.data.toList.take j) < 16777216:=unwd_lt3 (by rw [List.length_take];omega)
    generalize hU:unwd (s.data.toList.take j)=U at hu
    have hn:unwd (s.data.toList.take (j+1))=U*256+s[j].toNat:=by rw [byte_at s j hlt,unwd,List.foldl_append,← unwd,hU];rfl
    have ho:=shl8_or U s[j] hu
    go_wp2
    exact ⟨⟨j+1,by omega,rfl,by rw [hn];rfl,trivial⟩,by simp only [intOf];omega⟩
  · go_wp2
    go_ret
    obtain rfl:j=s.size:=by omega
    refine ⟨?_,h1,h2⟩;have hz:s.data.toList.take s.size=s.data.toList:=List.take_of_length_le (Nat.le_of_eq rfl);rw [hz];rfl
def Err3 (W:World)(A:Nat→Addr):Prop:=∀ k,k∈[1,2,14]→W.cell? ⟨gOf k,0,none⟩=some (.iface 535 (.pointer (some (A k))))
theorem Err3.below {W w:World}{A:Nat→Addr}(h:Err3 W A){B:Nat}(hb:Below B W w)(hB:W.heap.size≤B):Err3 w A:=fun k hk=>(hb.cell (p:=⟨gOf k,0,none⟩) (Nat.lt_of_lt_of_le (lt_of_cell (h k hk)) hB)).trans (h k hk)
structure DkAt (w:World)(base t:Nat)(pw:Option Nat)(vs vw:Value)(sec:List Sec)(wt:List Wr):Prop where
 blk:w.heap[t]?=some (.cells #[.bool pw.isSome,.int .i64 (pw.getD 0:Nat),vs,vw] 61 (0,0))
 tb:base≤t
 secs:w.ownsRow base 106 64 vs sec.length (rowOf secC sec)
 wts:w.ownsRow base 108 129 vw wt.length (rowOf wrC wt)
 ins:∀ x∈wt,x.n < sec.length
 pos:1≤sec.length
 most:sec.length≤4000
def dkFoot (t:Nat)(vs vw:Value):List Nat:=t::(vs.ownBlock.toList++vw.ownBlock.toList)
theorem mem_foot {t:Nat}{vs vw:Value}{k:Nat}:k∈dkFoot t vs vw↔k=t∨vs.ownBlock=some k∨vw.ownBlock=some k:=by
 simp [dkFoot,Option.mem_toList]
theorem own_blkD {w:World}{base:Nat}{e:TypeId}{k n b:Nat}{v:Value}{xs:List Value}(h:w.ownsRow base e k v n xs)(hb:v.ownBlock=some b):base≤b∧b < w.heap.size∧∃ cur,w.heap[b]?=some (.cells cur e (0,0)):=by
 rcases h.2 with ⟨rfl,_⟩ | ⟨g,cap,cur,rfl,h2,h3,_⟩
 · cases hb
 · cases hb
   exact ⟨h2,(Array.getElem?_eq_some_iff.1 h3).1,cur,h3⟩
section
variable {w w':World}{base t:Nat}{pw:Option Nat}{vs vw:Value}{sec:List Sec}{wt:List Wr}
theorem DkAt.lt (h:DkAt w base t pw vs vw sec wt):t < w.heap.size:=(Array.getElem?_eq_some_iff.1 h.blk).1
theorem DkAt.ne1 (h:DkAt w base t pw vs vw sec wt){k:Nat}(hk:vs.ownBlock=some k):k≠t:=fun e=>by
 obtain ⟨_,_,cur,hc⟩:=own_blkD h.secs hk;rw [e,h.blk] at hc;simp at hc
theorem DkAt.ne2 (h:DkAt w base t pw vs vw sec wt){k:Nat}(hk:vw.ownBlock=some k):k≠t:=fun e=>by
 obtain ⟨_,_,cur,hc⟩:=own_blkD h.wts hk;rw [e,h.blk] at hc;simp at hc
theorem DkAt.ne3 (h:DkAt w base t pw vs vw sec wt){k j:Nat}(hk:vs.ownBlock=some k)(hj:vw.ownBlock=some j):k≠j:=fun e=>by
 obtain ⟨_,_,cur,hc⟩:=own_blkD h.secs hk;obtain ⟨_,_,cur',hc'⟩:=own_blkD h.wts hj;rw [e,hc'] at hc;simp at hc
theorem DkAt.only (h:DkAt w base t pw vs vw sec wt){L:List Nat}(ho:Only L w w')(hd:∀ k∈dkFoot t vs vw,k∉L):DkAt w' base t pw vs vw sec wt :=
 ⟨(ho.block t h.lt (hd t (mem_foot.2 (Or.inl rfl)))).trans h.blk,h.tb,ho.owns h.secs (fun k hk=>hd k (mem_foot.2 (Or.inr (Or.inl hk)))),ho.owns h.wts (fun k hk=>hd k (mem_foot.2 (Or.inr (Or.inr hk)))),h.ins,h.pos,h.most⟩
theorem DkAt.keep (h:DkAt w base t pw vs vw sec wt)(ho:Only [] w w'):DkAt w' base t pw vs vw sec wt:=h.only ho (fun _ _=>by simp)
theorem DkAt.row (h:DkAt w base t pw vs vw sec wt):∃ g cap cur,vs = .slice (some ⟨g,0,none⟩) sec.length cap∧base≤g∧w.heap[g]?=some (.cells cur 106 (0,0))∧sec.length≤cap∧cur.size=cap*64∧sec.length≤cap:=by
 have hp:=h.pos;rcases h.secs.2 with ⟨_,h2⟩ | ⟨g,cap,cur,e,h2,h3,h4,_,h5,_⟩
 · omega
 · exact ⟨g,cap,cur,e,h2,h3,h4,h5,h4⟩
theorem DkAt.cells (h:DkAt w base t pw vs vw sec wt):w.cell? ⟨t,0,none⟩=some (.bool pw.isSome)∧w.cell? ⟨t,1,none⟩=some (.int .i64 (pw.getD 0:Nat))∧w.cell? ⟨t,2,none⟩=some vs∧w.cell? ⟨t,3,none⟩=some vw∧(∀ o,w.frozen? ⟨t,o,none⟩=false) :=
 ⟨cell_of_row _ _ 0 _ _ _ h.blk,cell_of_row _ _ 1 _ _ _ h.blk,cell_of_row _ _ 2 _ _ _ h.blk,cell_of_row _ _ 3 _ _ _ h.blk,fun _=>frozen_of_row _ _ _ _ _ h.blk⟩
theorem DkAt.reblk (h:DkAt w base t pw vs vw sec wt){pw':Option Nat}(ho:Only [t] w w')(hb:w'.heap[t]?=some (.cells #[.bool pw'.isSome,.int .i64 (pw'.getD 0:Nat),vs,vw] 61 (0,0))):DkAt w' base t pw' vs vw sec wt :=
 ⟨hb,h.tb,ho.owns h.secs (fun k hk=>by simpa using h.ne1 hk),ho.owns h.wts (fun k hk=>by simpa using h.ne2 hk),h.ins,h.pos,h.most⟩
end
theorem has_anyD {w:World}{base t:Nat}{pw:Option Nat}{vs vw:Value}{sec:List Sec}{wt:List Wr}(h:DkAt w base t pw vs vw sec wt)(n:Int):
   Calls Tryz.prog 58 #[.pointer (some ⟨t,0,none⟩),.int .i64 n] w fun e w'=>e = .returned (.bool (decide (0≤n∧n < sec.length)))∧w'=w:=by
 obtain ⟨g,cap,cur,rfl,_⟩:=h.row;have c2:=h.cells.2.2.1;have hlt:=h.lt;clear h
 by_cases h0:0≤n
 · have d0:decide (0≤n)=true:=decide_eq_true h0
   have e1:decide (0≤n∧n < sec.length)=decide (n < sec.length):=by simp [h0]
   rw [e1]
   go_enter Tryz.func58,Tryz.ntmps58
   go_wp2
   go_ret
   exact ⟨rfl,rfl⟩
 · have d0:decide (0≤n)=false:=decide_eq_false h0
   have e1:decide (0≤n∧n < sec.length)=false:=decide_eq_false (fun e=>h0 e.1);rw [e1]
   go_enter Tryz.func58,Tryz.ntmps58
   go_wp2
   go_ret
   exact ⟨rfl,rfl⟩
theorem sectors_ok {w:World}{base t:Nat}{pw:Option Nat}{vs vw:Value}{sec:List Sec}{wt:List Wr}(h:DkAt w base t pw vs vw sec wt):
  Calls Tryz.prog 92 #[.pointer (some ⟨t,0,none⟩)] w fun e w'=>e = .returned (.int .i64 (sec.length:Nat))∧w'=w:=by
 obtain ⟨g,cap,cur,rfl,_⟩:=h.row;have c2:=h.cells.2.2.1;have hlt:=h.lt;clear h
 go_enter Tryz.func92,Tryz.ntmps92
 go_wp2
 go_ret
 exact ⟨rfl,rfl⟩
theorem own_slice {w:World}{base:Nat}{e:TypeId}{k n:Nat}{v:Value}{xs:List Value}(h:w.ownsRow base e k v n xs):∃ ad cap,v = .slice ad n cap:=by
 rcases h.2 with ⟨rfl,rfl⟩ | ⟨g,cap,cur,rfl,_⟩
 · exact ⟨none,0,rfl⟩
 · exact ⟨_,cap,rfl⟩
theorem waiting_ok {w:World}{base t:Nat}{pw:Option Nat}{vs vw:Value}{sec:List Sec}{wt:List Wr}(h:DkAt w base t pw vs vw sec wt):
  Calls Tryz.prog 72 #[.pointer (some ⟨t,0,none⟩)] w fun e w'=>e = .returned (.int .i64 (wt.length:Nat))∧w'=w:=by
 obtain ⟨ad,cap,rfl⟩:=own_slice h.wts;have c3:=h.cells.2.2.2.1;have hlt:=h.lt;clear h
 go_enter Tryz.func72,Tryz.ntmps72
 go_wp2
 go_ret
 exact ⟨rfl,rfl⟩
def SpentR (A:Nat→Addr)(w w':World)(base t:Nat)(pw:Option Nat)(vs vw:Value)(sec:List Sec)(wt:List Wr)(e:Ending):Prop :=
 (pw=some 0∧e = .returned (sErr A 14)∧w'=w)∨(pw≠some 0∧e = .returned .nilIface∧DkAt w' base t (pw.map (· - 1)) vs vw sec wt∧Only [t] w w')
theorem spend_any (A:Nat→Addr){w:World}{base t:Nat}{pw:Option Nat}{vs vw:Value}{sec:List Sec}{wt:List Wr}(hE:Err3 w A)(h:DkAt w base t pw vs vw sec wt)(hp:∀ k,pw=some k→k < 9223372036854775808):
  Calls Tryz.prog 59 #[.pointer (some ⟨t,0,none⟩)] w fun e w'=>SpentR A w w' base t pw vs vw sec wt e:=by
 obtain ⟨c0,c1,_,_,fz⟩:=h.cells;have hlt:=h.lt;have HD:Hid (DkAt w base t pw vs vw sec wt):=h;have f1:=fz 1;have ce:w.cell? ⟨14,0,none⟩=some (.iface 535 (.pointer (some (A 14)))):=hE 14 (by simp);clear hE h fz;unfold SpentR sErr
 match pw,hp with
 | none,_ =>
  simp only [Option.isSome] at c0
  go_enter Tryz.func59,Tryz.ntmps59
  go_wp2
  go_ret
  exact Or.inr ⟨by simp,rfl,HD.out,Only.refl _ _⟩
 | some 0,_ =>
  simp only [Option.isSome,Option.getD] at c0 c1
  go_enter Tryz.func59,Tryz.ntmps59
  go_wp2
  go_ret
  exact Or.inl ⟨by simp,rfl,rfl⟩
 | some (k+1),hp =>
  have hk:=hp _ rfl;simp only [Option.isSome,Option.getD] at c0 c1;have d0:decide (((k+1:Nat):Int)=0)=false:=decide_eq_false (by omega)
  go_enter Tryz.func59,Tryz.ntmps59
  go_wp2
  go_ret
  refine Or.inr ⟨by simp,rfl,HD.out.reblk ((Only.refl _ _).setCell (Or.inl (by simp)) _) ?_,(Only.refl _ _).setCell (Or.inl (by simp)) _⟩;rw [heap_setCell_same w t 1 _ _ _ HD.out.blk];simp
theorem secUnd:Tryz.prog.underlying 106=some (.array 64 5):=by kernel_rfl
theorem secUnd':Tryz.prog.underlying 106=some (.array (Tryz.prog.arrayLen 106) (Tryz.prog.elem 106)):=by kernel_rfl
theorem secInfo:(Tryz.prog.info? 106).map (fun i=>(i.zero,i.size,i.bytes))=some (some (.agg (secC zeroS).toArray),64,64):=by kernel_rfl
theorem secSize:(Tryz.prog.info? 106).map (·.size)=some 64:=by kernel_rfl
theorem secsUnd:Tryz.prog.underlying 56=some (.slice 106):=by kernel_rfl
theorem slice_all (W:World)(g o:Nat):(Instr.sliceAt 106 (.pointer (some ⟨g,o,none⟩)) none none none).run Tryz.prog W = .ok (.slice (some ⟨g,o,none⟩) 64 64) W:=by
 have hl:Tryz.prog.arrayLen 106=64:=by kernel_rfl
 have he:Tryz.prog.elem 106=5:=by kernel_rfl
 have hadd:(⟨g,o,none⟩:Addr).add (0*1)=⟨g,o,none⟩:=by unfold Addr.add;split<;>simp_all
 rw [run_sliceAt_array_all (P:=Tryz.prog) W 106 ⟨g,o,none⟩ secUnd',he,Tryz.sizeOf5,hl];simp only [Result.andThen,slicedAt,hadd];rw [if_neg (by omega)]
theorem sec_text {w:World}{g o:Nat}{s:Sec}(h:w.rangeAt g o (secC s)):(convert 159 9 (.slice (some ⟨g,o,none⟩) 64 64)).run Tryz.prog w = .ok (.string (bs s.1)) w:=by
 have:=run_convert_bytes_back (P:=Tryz.prog) w 159 9 5 ⟨g,o,none⟩ 64 s.1 Tryz.underlying159 Tryz.underlying5 Tryz.underlying9 (fun x hx=>by
  rw [Addr.add_mid,h x (.int .u8 (s.1[x].toNat:Int)) (by simp [secC,Lib.byteCells,hx])])
 rwa [s.2] at this
section
variable {w w':World}{base t:Nat}{pw:Option Nat}{vs vw:Value}{sec:List Sec}{wt:List Wr}
theorem DkAt.range (h:DkAt w base t pw vs vw sec wt){g cap:Nat}(hv:vs = .slice (some ⟨g,0,none⟩) sec.length cap){n:Nat}{s:Sec}(hs:sec[n]?=some s):w.rangeAt g (n*64) (secC s):=by
 subst hv;exact own_range h.secs (n*64) (rowOf_part secC_len sec n s hs)
end
theorem read_bad (A:Nat→Addr){w:World}{base t:Nat}{pw:Option Nat}{vs vw:Value}{sec:List Sec}{wt:List Wr}(hE:Err3 w A)(h:DkAt w base t pw vs vw sec wt)(n:Int)(hn:¬ (0≤n∧n < sec.length)):
  Calls Tryz.prog 67 #[.pointer (some ⟨t,0,none⟩),.int .i64 n] w fun e w'=>e = .returned (.tuple #[.string ⟨#[]⟩,sErr A 1])∧Only [] w w':=by
 have hh:=has_anyD h n;rw [decide_eq_false hn] at hh;have H:Hid (Calls Tryz.prog 58 #[.pointer (some ⟨t,0,none⟩),.int .i64 n] w fun e w'=>e = .returned (.bool false)∧w'=w):=hh;have c1:w.cell? ⟨0,0,none⟩=some (.iface 535 (.pointer (some (A 1)))):=hE 1 (by simp);unfold sErr;clear hE h hh
 go_enter Tryz.func67,Tryz.ntmps67
 go_wp2_with (go_at_call 58;refine H.out.mono ?_;rintro e w1 ⟨rfl,rfl⟩)
 go_region
 all_goals go_wp2
 all_goals go_ret2
 all_goals exact ⟨rfl,(Only.refl _ _).drew⟩
theorem read_ok {w:World}{base t:Nat}{pw:Option Nat}{vs vw:Value}{sec:List Sec}{wt:List Wr}(h:DkAt w base t pw vs vw sec wt)(n:Nat)(s:Sec)(hs:sec[n]?=some s):
  Calls Tryz.prog 67 #[.pointer (some ⟨t,0,none⟩),.int .i64 (n:Nat)] w fun e w'=>e = .returned (.tuple #[.string (bs s.1),.nilIface])∧w'=w:=by
 have hlt:n < sec.length:=(List.getElem?_eq_some_iff.1 hs).1;have hm:=h.most;have hh:=has_anyD h (n:Int);rw [decide_eq_true (by omega)] at hh;have H:Hid (Calls Tryz.prog 58 #[.pointer (some ⟨t,0,none⟩),.int .i64 (n:Nat)] w fun e w'=>e = .returned (.bool true)∧w'=w):=hh;obtain ⟨g,cap,cur,e,_⟩:=h.row;have hr:=h.range e hs;have c2:=h.cells.2.2.1;rw [e] at c2;have ht:=h.lt;have hcv:=sec_text hr;have hsl:=fun W=>slice_all W g (n*64);have hz:=Tryz.sizeOf106;clear hh h hr e
 go_enter Tryz.func67,Tryz.ntmps67
 go_wp2_with (go_at_call 58;refine H.out.mono ?_;rintro e w1 ⟨rfl,rfl⟩)
 go_ret2
 exact ⟨rfl,rfl⟩
section
variable {w w':World}{base t:Nat}{pw:Option Nat}{vs vw:Value}{sec:List Sec}{wt:List Wr}
theorem DkAt.emptied (h:DkAt w base t pw vs vw sec wt):DkAt (w.setCell ⟨t,3,none⟩ (.slice none 0 0)) base t pw vs (.slice none 0 0) sec []∧Only [t] w (w.setCell ⟨t,3,none⟩ (.slice none 0 0)):=by
 have ho:Only [t] w (w.setCell ⟨t,3,none⟩ (.slice none 0 0)):=(Only.refl [t] w).setCell (Or.inl (by simp)) _;exact ⟨⟨heap_setCell_same w t 3 _ _ _ h.blk,h.tb,ho.owns h.secs (fun k hk=>by simpa using h.ne1 hk),World.ownsRow_nil _ _ _ _,fun _ hx=>(by cases hx),h.pos,h.most⟩,ho⟩
end
def FlushR (A:Nat→Addr)(w w':World)(base t:Nat)(pw:Option Nat)(vs:Value)(sec:List Sec)(e:Ending):Prop :=
 (pw=some 0∧e = .returned (sErr A 14)∧w'=w)∨(pw≠some 0∧e = .returned .nilIface∧DkAt w' base t (pw.map (· - 1)) vs (.slice none 0 0) sec []∧Only [t] w w')
theorem flush_any (A:Nat→Addr){w:World}{base t:Nat}{pw:Option Nat}{vs vw:Value}{sec:List Sec}{wt:List Wr}(hE:Err3 w A)(h:DkAt w base t pw vs vw sec wt)(hp:∀ k,pw=some k→k < 9223372036854775808):
   Calls Tryz.prog 31 #[.pointer (some ⟨t,0,none⟩)] w fun e w'=>FlushR A w w' base t pw vs sec e:=by
 have H:Hid (Calls Tryz.prog 59 #[.pointer (some ⟨t,0,none⟩)] w fun e w'=>SpentR A w w' base t pw vs vw sec wt e):=spend_any A hE h hp;have hlt:=h.lt;clear hE h hp
 by_cases hz:pw=some 0
 · have H1:Hid (Calls Tryz.prog 59 #[.pointer (some ⟨t,0,none⟩)] w fun e w'=>e = .returned (.iface 535 (.pointer (some (A 14))))∧w'=w):=H.out.mono fun e w' q=>by
    rcases q with q | q
    · exact q.2
    · exact absurd hz q.1
   clear H
   go_enter Tryz.func31,Tryz.ntmps31
   go_wp2_with (go_at_call 59;refine H1.out.mono ?_;rintro e w1 ⟨rfl,rfl⟩)
   go_ret
   exact Or.inl ⟨hz,rfl,rfl⟩
 · have H1:Hid (Calls Tryz.prog 59 #[.pointer (some ⟨t,0,none⟩)] w fun e w'=>e = .returned .nilIface∧DkAt w' base t (pw.map (· - 1)) vs vw sec wt∧Only [t] w w'):=H.out.mono fun e w' q=>by
    rcases q with q | q
    · exact absurd q.1 hz
    · exact q.2
   clear H
   go_enter Tryz.func31,Tryz.ntmps31
   go_wp2_with (go_at_call 59;refine H1.out.mono ?_;rintro e w1 ⟨rfl,hd,ho⟩;have hlt1:=hd.lt;have c3:=hd.cells.2.2.2.1;have f3:=hd.cells.2.2.2.2 3;have HD:Hid (DkAt w1 base t (pw.map (· - 1)) vs vw sec wt):=hd;have HO:Hid (Only [t] w w1):=ho;obtain ⟨ad3,cap3,rfl⟩:=own_slice hd.wts;clear hd ho)
   go_ret
   exact Or.inr ⟨hz,rfl,HD.out.emptied.1,HO.out.trans HD.out.emptied.2 (fun _ h=>Or.inl h)⟩
def FailR (A:Nat→Addr)(w w':World)(base t:Nat)(vs vw:Value)(sec:List Sec)(wt:List Wr)(n:Int)(e:Ending):Prop :=
 (n < 0∧e = .returned (sErr A 1)∧w'=w)∨(0≤n∧e = .returned .nilIface∧DkAt w' base t (some n.toNat) vs vw sec wt∧Only [t] w w')
theorem lasts_any (A:Nat→Addr){w:World}{base t:Nat}{pw:Option Nat}{vs vw:Value}{sec:List Sec}{wt:List Wr}(hE:Err3 w A)(h:DkAt w base t pw vs vw sec wt)(n:Int):
   Calls Tryz.prog 60 #[.pointer (some ⟨t,0,none⟩),.int .i64 n] w fun e w'=>FailR A w w' base t vs vw sec wt n e:=by
 obtain ⟨c0,c1,_,_,fz⟩:=h.cells;have f0:=fz 0;have f1:=fz 1;have hlt:=h.lt;have HD:Hid (DkAt w base t pw vs vw sec wt):=h;have ce:w.cell? ⟨0,0,none⟩=some (.iface 535 (.pointer (some (A 1)))):=hE 1 (by simp);clear hE h fz
 by_cases hn:n < 0
 · have d0:decide (n < 0)=true:=decide_eq_true hn
   go_enter Tryz.func60,Tryz.ntmps60
   go_wp2
   go_ret
   exact Or.inl ⟨hn,rfl,rfl⟩
 · have d0:decide (n < 0)=false:=decide_eq_false hn
   go_enter Tryz.func60,Tryz.ntmps60
   go_wp2
   go_ret
   have ho:Only [t] w ((w.setCell ⟨t,0,none⟩ (.bool true)).setCell ⟨t,1,none⟩ (.int .i64 n)):=((Only.refl [t] w).setCell (Or.inl (by simp)) _).setCell (Or.inl (by simp)) _;refine Or.inr ⟨by omega,rfl,HD.out.reblk ho ?_,ho⟩;rw [heap_setCell_same _ t 1 _ _ _ (heap_setCell_same w t 0 _ _ _ HD.out.blk)]
   have e1:((n.toNat:Nat):Int)=n:=by omega
   simp only [Option.getD,e1];simp
theorem fail_any (A:Nat→Addr){w:World}{base t:Nat}{pw:Option Nat}{vs vw:Value}{sec:List Sec}{wt:List Wr}(hE:Err3 w A)(h:DkAt w base t pw vs vw sec wt)(n:Int):
  Calls Tryz.prog 32 #[.pointer (some ⟨t,0,none⟩),.int .i64 n] w fun e w'=>FailR A w w' base t vs vw sec wt n e:=by
 have H:=lasts_any A hE h n;have hlt:=h.lt;clear hE h
 have H1:Hid (Calls Tryz.prog 60 #[.pointer (some ⟨t,0,none⟩),.int .i64 n] w fun e w'=>∃ v,e = .returned v∧FailR A w w' base t vs vw sec wt n (.returned v)):=H.mono fun e w' q=>by
  rcases q with ⟨h1,rfl,h2⟩ | ⟨h1,rfl,h2⟩
  · exact ⟨_,rfl,Or.inl ⟨h1,rfl,h2⟩⟩
  · exact ⟨_,rfl,Or.inr ⟨h1,rfl,h2⟩⟩
 clear H
 go_enter Tryz.func32,Tryz.ntmps32
 go_wp2_with (go_at_call 60;refine H1.out.mono ?_;rintro e w1 ⟨v,rfl,hr⟩;have HR:Hid (FailR A w w1 base t vs vw sec wt n (.returned v)):=hr;clear hr)
 go_ret
 exact HR.out
theorem restore_ok {w:World}{base t:Nat}{pw:Option Nat}{vs vw:Value}{sec:List Sec}{wt:List Wr}(h:DkAt w base t pw vs vw sec wt):
  Calls Tryz.prog 34 #[.pointer (some ⟨t,0,none⟩)] w fun e w'=>(∃ v,e = .returned v)∧DkAt w' base t none vs vw sec wt∧Only [t] w w':=by
 obtain ⟨c0,c1,_,_,fz⟩:=h.cells;have f0:=fz 0;have f1:=fz 1;have hlt:=h.lt;have HD:Hid (DkAt w base t pw vs vw sec wt):=h;clear h fz
 go_enter Tryz.func34,Tryz.ntmps34
 go_wp2
 go_end0
 have ho:Only [t] w ((w.setCell ⟨t,0,none⟩ (.bool false)).setCell ⟨t,1,none⟩ (.int .i64 0)):=((Only.refl [t] w).setCell (Or.inl (by simp)) _).setCell (Or.inl (by simp)) _;refine ⟨⟨_,rfl⟩,HD.out.reblk ho ?_,ho⟩;rw [heap_setCell_same _ t 1 _ _ _ (heap_setCell_same w t 0 _ _ _ HD.out.blk)];simp
theorem rep_row (n:Nat):rowOf secC (List.replicate n zeroS)=List.replicate (n*64) (.int .u8 0):=by
 induction n with
 | zero=>rfl
 | succ n ih =>
  have h:secC zeroS=List.replicate 64 (.int .u8 0):=by simp [secC,zeroS,Lib.byteCells]
  rw [List.replicate_succ,rowOf,ih,h,List.replicate_append_replicate,Nat.add_mul];congr 1;omega
theorem made_rep (m k:Nat)(v:Value)(hm:0 < m):(madeCells (List.replicate m v).toArray k).toList=List.replicate k v:=by
 apply List.ext_getElem
 · simp [madeCells]
 · intro i h1 h2
   have h3:i % m < m:=Nat.mod_lt _ hm;simp [madeCells,h3]
theorem made_row (n:Nat):(madeCells (Value.agg (secC zeroS).toArray).cells (n*64)).toList=rowOf secC (List.replicate n zeroS):=by
 rw [rep_row,← made_rep 64 (n*64) (.int .u8 0) (by decide)];rfl
theorem dnew_ok (w:World)(n:Nat)(h1:1≤n)(h2:n≤4000):Calls Tryz.prog 6 #[.int .i64 (n:Nat)] w fun e w'=>∃ t vs,e = .returned (.tuple #[.pointer (some ⟨t,0,none⟩),.nilIface])∧DkAt w' w.heap.size t none vs (.slice none 0 0) (List.replicate n zeroS) []∧Only [] w w':=by
 obtain ⟨i,hi,hz⟩:=Option.map_eq_some_iff.1 secInfo;simp only [Prod.mk.injEq] at hz;obtain ⟨z0,z1,z2⟩:=hz;have hmk:=run_make (P:=Tryz.prog) w 56 106 i _ secsUnd hi z0 .i64 .i64 n n (by omega) (Int.le_refl _) (by rw [z2];omega) (by omega);rw [z1] at hmk;simp only [Int.toNat_natCast] at hmk;have hrow:=made_row n;generalize madeCells (Value.agg (secC zeroS).toArray).cells (n*64)=C at hmk hrow;have d0:decide ((n:Int) < 1)=false:=decide_eq_false (by omega);have d1:decide ((4000:Int) < n)=false:=decide_eq_false (by omega);clear hi z0 z1 z2
 go_enter Tryz.func6,Tryz.ntmps6
 go_wp2
 go_ret2
 have hb:=heap_alloc_last (w.alloc (.cells C 106)) (.cells #[.bool false,.int .i64 0,.slice (some ⟨w.heap.size,0,none⟩) n n,.slice none 0 0] 61);have hr:=(Below.heap_alloc (w.alloc (.cells C 106)) (.cells #[.bool false,.int .i64 0,.slice (some ⟨w.heap.size,0,none⟩) n n,.slice none 0 0] 61) w.heap.size (by simp)).trans (heap_alloc_last w _);rw [World.size_alloc] at hb;refine ⟨_,_,rfl,⟨hb,by simp,⟨?_,Or.inr ⟨w.heap.size,n,C,by simp,Nat.le_refl _,hr,by simp,?_,?_,?_⟩⟩,World.ownsRow_nil _ _ _ _,fun _ hx=>(by cases hx),by simpa using h1,by simpa using h2⟩,((Only.refl _ _).alloc _).alloc _⟩
 · rw [rowOf_len secC_len]
 · unfold maxLen;omega
 · rw [← Array.length_toList,hrow,rowOf_len secC_len];simp
 · rw [hrow,List.take_of_length_le (by rw [rowOf_len secC_len];exact Nat.le_refl _)]
theorem fold_over (off:Nat):∀ (cs:List Value) (k:Nat) (cur:Array Value),off+k+cs.length≤cur.size→(cs.zipIdx k).foldl (fun (a:Array Value) (p:Value×Nat)=>a.setIfInBounds (off+p.2) p.1) cur=(overV cur.toList (off+k) cs).toArray
 | [],k,cur,_=>by simp [overV]
 | c::cs,k,cur,h=>by
  simp only [List.length_cons] at h;rw [List.zipIdx_cons,List.foldl_cons,fold_over off cs (k+1) _ (by simp;omega)];apply congrArg
  have hk:off+k < cur.toList.length:=by simp;omega
  simp only [overV,Array.toList_setIfInBounds,List.length_cons];rw [List.drop_set_of_lt (by omega),show off+(k+1)=off+k+1 by omega,List.take_add_one,List.take_set_of_le (by omega)];have e:(cur.toList.set (off+k) c)[off+k]?=some c:=List.getElem?_set_self hk;rw [e];simp only [Option.toList,List.append_assoc,List.cons_append,List.nil_append];rw [show off+k+1+cs.length=off+k+(cs.length+1) by omega]
theorem fill_one {place:Nat→Option (Nat×Nat)}{cur:Array Value}{i off:Nat}{cs:List Value}{v:Value}{rest:List (Nat×Value)}(hv:v.cells=cs.toArray)(hp:place i=some (off,cs.length))(h:off+cs.length≤cur.size):Instr.fill place cur ((i,v)::rest)=Instr.fill place (overV cur.toList off cs).toArray rest:=by
 have hf:=fold_over off cs 0 cur (by omega);rw [Nat.add_zero] at hf
 have h1:¬ (off+cs.length > cur.size):=by omega
 simp only [Instr.fill,hp,hv,List.size_toArray,ne_eq,not_true,decide_false,Bool.false_or,h1];rw [← hf];congr 1;simp
theorem wrInfo:(Tryz.prog.info? 108).map (fun i=>(i.zero,i.size,i.bytes))=some (some (.agg (wrC ⟨0,zeroS,zeroS⟩).toArray),129,136):=by kernel_rfl
theorem wrSize:(Tryz.prog.info? 108).map (·.size)=some 129:=by kernel_rfl
theorem wrsUnd:Tryz.prog.underlying 59=some (.slice 108):=by kernel_rfl
theorem wr_built (parts:List (Nat×Value)):Tryz.prog.built 108 parts=Instr.fill (fun i=>#[(0,1),(1,64),(65,64)][i]?) (wrC ⟨0,zeroS,zeroS⟩).toArray parts:=by kernel_rfl
theorem over_at (a b cs:List Value)(o:Nat)(h:a.length=o):overV (a++b) o cs=a++cs++b.drop cs.length:=by
 subst h;unfold overV;rw [List.take_left,List.drop_append,List.drop_eq_nil_of_le (by omega),Nat.add_sub_cancel_left];simp
theorem wr_build (W:World)(n:Nat)(s:Sec):(Instr.build 108 #[(0,.int .i64 (n:Nat)),(1,.agg (secC s).toArray)]).run Tryz.prog W = .ok (.agg (wrC ⟨n,s,zeroS⟩).toArray) W:=by
 refine run_build W _ _ _ ?_;rw [wr_built,fill_one (cs:=[.int .i64 (n:Nat)]) (off:=0) rfl rfl (by simp [wrC,secC_len]),fill_one (cs:=secC s) (off:=1) rfl (by rw [secC_len];rfl) (by simp [overV,wrC,secC_len])];show some _=some _;congr 2;show overV (overV (wrC ⟨0,zeroS,zeroS⟩) 0 [.int .i64 (n:Nat)]) 1 (secC s)=_
 have e1:overV (wrC ⟨0,zeroS,zeroS⟩) 0 [.int .i64 (n:Nat)]=[.int .i64 (n:Nat)]++(secC zeroS++secC zeroS):=by
  unfold wrC
  rw [show (Value.int .i64 ((0:Nat):Int)::(secC zeroS++secC zeroS))=[]++(Value.int .i64 ((0:Nat):Int)::(secC zeroS++secC zeroS)) from rfl,over_at _ _ _ 0 rfl]
  rfl
 rw [e1,over_at _ _ _ 1 rfl,secC_len,List.drop_append,List.drop_eq_nil_of_le (by rw [secC_len];exact Nat.le_refl _),secC_len];simp [wrC]
theorem one_slice (W:World)(x:Wr):(Instr.buildSlice 59 1 #[(0,.agg (wrC x).toArray)]).run Tryz.prog W = .ok (.slice (some ⟨W.heap.size,0,none⟩) 1 1) (W.alloc (.cells (wrC x).toArray 108)):=by
 obtain ⟨i,hi,hz⟩:=Option.map_eq_some_iff.1 wrInfo;simp only [Prod.mk.injEq] at hz;obtain ⟨z0,z1,z2⟩:=hz
 have hsz:∀ W,(sizeOf 108).run Tryz.prog W = .ok 129 W:=fun W=>by simp [sizeOf,typeInfo,hi,z1]
 have hzv:∀ W,(zeroValue 108).run Tryz.prog W = .ok (.agg (wrC ⟨0,zeroS,zeroS⟩).toArray) W:=fun W=>by simp [zeroValue,typeInfo,hi,z0]
 have hs0:(Array.map (fun j=>(wrC ⟨0,zeroS,zeroS⟩).toArray[j % (wrC ⟨0,zeroS,zeroS⟩).toArray.size]!) (Array.range (1*129))).size=129:=by simp
 have hfl:=fun rest=>fill_one (place:=fun i=>some (i*129,129)) (cur:=Array.map (fun j=>(wrC ⟨0,zeroS,zeroS⟩).toArray[j % (wrC ⟨0,zeroS,zeroS⟩).toArray.size]!) (Array.range (1*129))) (i:=0) (off:=0) (cs:=wrC x) (v := .agg (wrC x).toArray) (rest:=rest) rfl (by rw [wrC_len]) (by rw [hs0,wrC_len];exact Nat.le_refl _)
 have hov:∀ l:List Value,l.length=129→overV l 0 (wrC x)=wrC x:=fun l hl=>by
  unfold overV;rw [List.drop_eq_nil_of_le (by rw [hl,wrC_len];exact Nat.le_refl _)];simp
 rw [hov _ (by rw [Array.length_toList];exact hs0)] at hfl;simp only [Instr.buildSlice,Sem.run_bind,run_underlying wrsUnd,hsz,Result.andThen_ok];rw [if_neg (by decide),if_neg (by decide)];simp only [Sem.run_bind,hzv,Result.andThen_ok,Sem.run_pure,Value.cells];rw [hfl];simp [Instr.fill,newRow,Result.andThen]
theorem bytes_len (s:ByteArray):(Lib.byteCells s.data.toList).length=s.size:=by
 rw [Lib.byteCells,List.length_map];rfl
theorem run_copy_str {P:Program}(w:World)(dT sT ty elem:TypeId)(g o dLen dCap:Nat)(s:ByteArray)(cur:Array Value)(t:TypeId)
  (hu:P.underlying dT=some (.slice elem)) (hs:(P.info? elem).map (·.size)=some 1) (hg:w.heap[g]?=some (.cells cur t (0,0))) (hd:s.size≤dLen) (hfit:o+s.size≤cur.size) :
  (Builtin.copy_ #[dT,sT] ty #[.slice (some ⟨g,o,none⟩) dLen dCap,.string s]).run P w = .ok (.int .i64 (s.size:Nat)) (w.setRow g (overV cur.toList o (Lib.byteCells s.data.toList)).toArray):=by
 have hl:(Lib.byteCells s.data.toList).length=s.size:=bytes_len s;have hst:=run_storeCells_at P g o t (Lib.byteCells s.data.toList) 0 _ w hg (by rw [hl];omega) (Lib.byteCells_one _);simp only [Nat.add_zero] at hst
 have hc:((s.extract 0 s.size).data.map fun b:UInt8=>Value.int .u8 b.toNat).toList=Lib.byteCells s.data.toList:=by
  rw [Array.toList_map,ByteArray.data_extract,Array.toList_extract,List.extract_eq_take_drop,List.drop_zero,Nat.sub_zero,List.take_of_length_le (i:=s.size) (Nat.le_of_eq rfl)];rfl
 have hm:Nat.min s.size dLen=s.size:=Nat.min_eq_left hd
 cases hq:P.info? elem with
 | none=>simp [hq] at hs
 | some i =>
  simp only [Builtin.copy_,Sem.run_bind,run_underlying hu,Builtin.lenOf,Builtin.firstCells,sizeOf,typeInfo,Sem.run_pure,hm,goInt,Result.andThen_ok,List.getElem?_toArray,List.getElem?_cons_zero,List.getElem?_cons_succ,hc];simp [hq,hst,overV]
theorem padB_val {s:ByteArray}(h:s.size≤64):(padB s).1=s.data.toList++List.replicate (64 - s.size) 0:=by
 have hl:s.data.toList.length=s.size:=rfl;simp only [padB];rw [List.take_append,List.take_of_length_le (by omega),hl,List.take_replicate,Nat.min_eq_left (by omega)]
theorem wr_copied (n:Nat)(a:Sec){s:ByteArray}(h:s.size≤64):overV (wrC ⟨n,a,zeroS⟩) 65 (Lib.byteCells s.data.toList)=wrC ⟨n,a,padB s⟩:=by
 have hl:(Lib.byteCells s.data.toList).length=s.size:=bytes_len s;have e:wrC ⟨n,a,zeroS⟩=(.int .i64 (n:Nat)::secC a)++secC zeroS:=rfl;rw [e,over_at _ _ _ 65 (by simp [secC_len]),hl]
 have e2:secC zeroS=List.replicate 64 (.int .u8 0):=by
  unfold secC zeroS Lib.byteCells;rw [List.map_replicate];rfl
 have e3:secC (padB s)=Lib.byteCells s.data.toList++List.replicate (64 - s.size) (.int .u8 0):=by
  unfold secC Lib.byteCells;rw [padB_val h,List.map_append,List.map_replicate];rfl
 rw [e2,List.drop_replicate];show _ = .int .i64 (n:Nat)::(secC a++secC (padB s));rw [e3];simp
theorem wpList_newWr {w:World}{ops:Array Oper}{rest:List Oper}{o:Oper}{a:Act}{Q:Exit→Act→World→Prop}(hg:o.guard=none)(hop:o.op=Op.alloc 108)
  (hK:∀ w',w'.heap[w.heap.size]?=some (.cells (wrC ⟨0,zeroS,zeroS⟩).toArray 108 (0,0))→Only [] w w'→wpList Tryz.prog ops Q rest (a.put o.dst (.pointer (some ⟨w.heap.size,0,none⟩))) w'):wpList Tryz.prog ops Q (o::rest) a w:=by
 refine wpList_plain hg fun K' hK'=>?_;have:=hK _ (heap_alloc_last w _) ((Only.refl [] w).alloc (.cells (wrC ⟨0,zeroS,zeroS⟩).toArray 108));obtain ⟨i,hi,hz⟩:=Option.map_eq_some_iff.1 wrInfo;simp only [Prod.mk.injEq] at hz
 have hzv:∀ W,(zeroValue 108).run Tryz.prog W = .ok (.agg (wrC ⟨0,zeroS,zeroS⟩).toArray) W:=fun W=>by simp [zeroValue,typeInfo,hi,hz.1]
 unfold Oper.wp;simp only [execOp,hop]
 have hr:(Instr.alloc 108 true (.tuple #[])).run Tryz.prog w = .ok (.pointer (some ⟨w.heap.size,0,none⟩)) (w.alloc (.cells (wrC ⟨0,zeroS,zeroS⟩).toArray 108)):=by
  simp [Instr.alloc,newVar,newRow,Value.cells,Result.andThen,hzv]
 simp [hr,Result.andThen];exact hK' _ _ this
theorem wpList_wrb {w:World}{ops:Array Oper}{rest:List Oper}{o:Oper}{a:Act}{Q:Exit→Act→World→Prop}(hg:o.guard=none)(x y:Operand)(hop:o.op=Op.build 108 #[(0,x),(1,y)])(n:Nat)(s:Sec)(hx:a.eval x = .int .i64 (n:Nat))(hy:a.eval y = .agg (secC s).toArray)
  (hK:wpList Tryz.prog ops Q rest (a.put o.dst (.agg (wrC ⟨n,s,zeroS⟩).toArray)) w):wpList Tryz.prog ops Q (o::rest) a w:=by
 refine wpList_plain hg fun K' hK'=>?_;unfold Oper.wp execOp;simp only [hop,List.map_toArray,List.map_cons,List.map_nil,hx,hy,Sem.run_bind,wr_build,Result.andThen_ok];exact hK' _ _ hK
theorem wpList_copied2 {P:Program}{w:World}{ops:Array Oper}{rest:List Oper}{o:Oper}{a:Act}{Q:Exit→Act→World→Prop}(hg:o.guard=none)(d s:Operand)(t t':TypeId)
  (ho:o.op = .call { callee := .builtin .copy,args:=#[d,s],argTypes:=#[t,t'] }) (v u:Value) (hd:a.eval d=v) (hs:a.eval s=u) {v':Value} {w':World}
  (hr:∀ ty,(Builtin.copy_ #[t,t'] ty #[v,u]).run P w = .ok v' w') (h:wpList P ops Q rest (a.put o.dst v') w'):wpList P ops Q (o::rest) a w:=by
 refine wpList_plain hg fun K' hK'=>?_;unfold Oper.wp execOp;simp only [ho,resolve,invoke,builtin,Sem.run_bind,Sem.run_pure,Result.andThen_ok,List.map_toArray,List.map_cons,List.map_nil,hd,hs,hr];exact hK' _ _ h
theorem step_load_mid {P:Program}{ops:Array Oper}{o:Oper}{a:Act}{w:World}{K:Act→World→Prop}{Q:Exit→Act→World→Prop}{E:Prop}(hg:o.guard=none)(ty:TypeId)(x:Operand)(ho:o.op = .load ty x)
  (b off:Nat) (hx:a.eval x = .pointer (some ⟨b,off,none⟩)) (cs:List Value) (d:TypeDesc) (hc:w.rangeAt b off cs) (hu:P.underlying ty=some d) (hd:d.isRow=true) (hi:(P.info? ty).map (·.size)=some cs.length)
  (h:K (a.put o.dst (.agg cs.toArray)) w):if Region.wanted o (yielded ops a.tmps)=true then Oper.wp P o a w K Q else E:=by
 have hw:Region.wanted o (yielded ops a.tmps)=true:=by simp [Region.wanted,hg]
 rw [if_pos hw];exact wp_load_mid ty x ho b off hx cs d hc hu hd hi h
theorem step_one {ops:Array Oper}{o:Oper}{a:Act}{w:World}{K:Act→World→Prop}{Q:Exit→Act→World→Prop}{E:Prop}(hg:o.guard=none)(y:Operand)(ho:o.op = .buildSlice 59 1 #[(0,y)])(x:Wr)(hy:a.eval y = .agg (wrC x).toArray)
  (h:K (a.put o.dst (.slice (some ⟨w.heap.size,0,none⟩) 1 1)) (w.alloc (.cells (wrC x).toArray 108))):if Region.wanted o (yielded ops a.tmps)=true then Oper.wp Tryz.prog o a w K Q else E:=by
 have hw:Region.wanted o (yielded ops a.tmps)=true:=by simp [Region.wanted,hg]
 rw [if_pos hw];unfold Oper.wp execOp;simp only [ho,List.map_toArray,List.map_cons,List.map_nil,hy,Sem.run_bind,one_slice,Result.andThen_ok];exact h
theorem setCells_over {w:World}{g off:Nat}{t:TypeId}{cur:Array Value}{cs:List Value}(hg:w.heap[g]?=some (.cells cur t (0,0)))(hfit:off+cs.length≤cur.size)(h1:∀ v∈cs,v.oneCell'=true):w.setCells g off cs=w.setRow g (overV cur.toList off cs).toArray:=by
 have a:=run_storeCells_at Tryz.prog g off t cs 0 cur w hg (by simpa using hfit) h1;have b:=run_storeCells_cells (P:=Tryz.prog) g off cs 0 w (fun j hj=>by rw [Nat.add_zero,cell_of_row _ _ _ _ _ _ hg];simp;omega) (fun j _=>by rw [frozen_of_row _ _ _ _ _ hg]) h1;rw [a] at b;simp only [Nat.add_zero] at b;injection b with _ b;rw [← b];rfl
def WriteRD (A:Nat→Addr)(w w':World)(base t:Nat)(pw:Option Nat)(vs vw:Value)(sec:List Sec)(wt:List Wr)(n:Int)(s:ByteArray)(e:Ending):Prop :=
 (¬ (0≤n∧n < sec.length)∧e = .returned (sErr A 1)∧w'=w) ∨
 ((0≤n∧n < sec.length)∧64 < s.size∧e = .returned (sErr A 2)∧w'=w) ∨
 ((0≤n∧n < sec.length)∧s.size≤64∧pw=some 0∧e = .returned (sErr A 14)∧w'=w) ∨
 ((0≤n∧n < sec.length)∧s.size≤64∧pw≠some 0∧e = .returned .nilIface∧∃ vw' x,sec[n.toNat]?=some x∧DkAt w' base t (pw.map (· - 1)) vs vw' (sec.set n.toNat (padB s)) (wt++[⟨n.toNat,x,padB s⟩])∧Only (dkFoot t vs vw) w w'∧(∀ k,vw'.ownBlock=some k→vw.ownBlock=some k∨w.heap.size≤k))
theorem write_bad (A:Nat→Addr){w:World}{base t:Nat}{pw:Option Nat}{vs vw:Value}{sec:List Sec}{wt:List Wr}(hE:Err3 w A)(h:DkAt w base t pw vs vw sec wt)(n:Int)(s:ByteArray)(hn:¬ (0≤n∧n < sec.length)):
  Calls Tryz.prog 30 #[.pointer (some ⟨t,0,none⟩),.int .i64 n,.string s] w fun e w'=>WriteRD A w w' base t pw vs vw sec wt n s e:=by
 have hh:=has_anyD h n;rw [decide_eq_false hn] at hh;have H:Hid (Calls Tryz.prog 58 #[.pointer (some ⟨t,0,none⟩),.int .i64 n] w fun e w'=>e = .returned (.bool false)∧w'=w):=hh;have c1:w.cell? ⟨0,0,none⟩=some (.iface 535 (.pointer (some (A 1)))):=hE 1 (by simp);clear hE h hh
 go_enter Tryz.func30,Tryz.ntmps30
 go_wp2_with (go_at_call 58;refine H.out.mono ?_;rintro e w1 ⟨rfl,rfl⟩)
 go_ret
 exact Or.inl ⟨hn,rfl,rfl⟩
theorem write_long (A:Nat→Addr){w:World}{base t:Nat}{pw:Option Nat}{vs vw:Value}{sec:List Sec}{wt:List Wr}(hE:Err3 w A)(h:DkAt w base t pw vs vw sec wt)(n:Int)(s:ByteArray)(hn:0≤n∧n < sec.length)(hs:64 < s.size):
  Calls Tryz.prog 30 #[.pointer (some ⟨t,0,none⟩),.int .i64 n,.string s] w fun e w'=>WriteRD A w w' base t pw vs vw sec wt n s e:=by
 have hh:=has_anyD h n;rw [decide_eq_true hn] at hh;have H:Hid (Calls Tryz.prog 58 #[.pointer (some ⟨t,0,none⟩),.int .i64 n] w fun e w'=>e = .returned (.bool true)∧w'=w):=hh;have c1:w.cell? ⟨3,0,none⟩=some (.iface 535 (.pointer (some (A 2)))):=hE 2 (by simp);have d0:decide ((64:Int) < (s.size:Int))=true:=decide_eq_true (by omega);clear hE h hh
 go_enter Tryz.func30,Tryz.ntmps30
 go_wp2_with (go_at_call 58;refine H.out.mono ?_;rintro e w1 ⟨rfl,rfl⟩)
 go_ret
 exact Or.inr (Or.inl ⟨hn,hs,rfl,rfl⟩)
theorem write_power (A:Nat→Addr){w:World}{base t:Nat}{pw:Option Nat}{vs vw:Value}{sec:List Sec}{wt:List Wr}(hE:Err3 w A)(h:DkAt w base t pw vs vw sec wt)(n:Int)(s:ByteArray)(hn:0≤n∧n < sec.length)(hs:s.size≤64)(hp:pw=some 0):
  Calls Tryz.prog 30 #[.pointer (some ⟨t,0,none⟩),.int .i64 n,.string s] w fun e w'=>WriteRD A w w' base t pw vs vw sec wt n s e:=by
 have hh:=has_anyD h n;rw [decide_eq_true hn] at hh;have H:Hid (Calls Tryz.prog 58 #[.pointer (some ⟨t,0,none⟩),.int .i64 n] w fun e w'=>e = .returned (.bool true)∧w'=w):=hh
 have H1:Hid (Calls Tryz.prog 59 #[.pointer (some ⟨t,0,none⟩)] w fun e w'=>e = .returned (.iface 535 (.pointer (some (A 14))))∧w'=w):=(spend_any A hE h (fun k e=>by rw [hp] at e;cases e;decide)).mono fun e w' q=>by
  rcases q with q | q
  · exact q.2
  · exact absurd hp q.1
 have d0:decide ((64:Int) < (s.size:Int))=false:=decide_eq_false (by omega);have hlt:=h.lt;clear hE h hh
 go_enter Tryz.func30,Tryz.ntmps30
 go_wp2_with (first
  | (go_at_call 58;refine H.out.mono ?_;rintro e w1 ⟨rfl,rfl⟩)
  | (go_at_call 59;refine H1.out.mono ?_;rintro e w1 ⟨rfl,rfl⟩))
 go_ret
 exact Or.inr (Or.inr (Or.inl ⟨hn,hs,hp,rfl,rfl⟩))
end
end Go.Proofs.YtmnidbnaneagjaaGreatDoor
