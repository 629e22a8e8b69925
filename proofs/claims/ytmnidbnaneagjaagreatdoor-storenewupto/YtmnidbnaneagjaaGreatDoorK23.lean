import Derived.Test.YtmnidbnaneagjaaGreatDoorK22
import Derived.Defers
import Derived.Recover
import Derived.Laws.EntriesVeiled
import Derived.WalkSmall
import Derived.Laws.Pointers
set_option maxRecDepth 100000
set_option maxHeartbeats 8000000
namespace Go.Proofs.YtmnidbnaneagjaaGreatDoor
section
open Go Go.RowKit Go.Deep
abbrev Par (α:Type):=ByteArray→Option (α×ByteArray)
def bindP {α β:Type}(p:Par α)(f:α→Par β):Par β:=fun t=>match p t with
 | none=>none
 | some (a,t')=>f a t'
def retP {α:Type}(a:α):Par α:=fun t=>some (a,t)
theorem bindP_some {α β:Type}{p:Par α}{f:α→Par β}{t t':ByteArray}{a:α}(h:p t=some (a,t')):bindP p f t=f a t':=by simp [bindP,h]
theorem bindP_none {α β:Type}{p:Par α}{f:α→Par β}{t:ByteArray}(h:p t=none):bindP p f t=none:=by simp [bindP,h]
def pTimes {α:Type}(p:Par α):Nat→Par (List α)
 | 0=>retP []
 | n+1=>bindP p fun a=>bindP (pTimes p n) fun l=>retP (a::l)
def pNum (m:Int):Par Nat:=fun t=>if 8≤t.size∧numAt t 8≤9223372036854775807∧(numAt t 8:Int)≤m then some (numAt t 8,cutAt t 8) else none
def itemM (m:Int)(s:ByteArray):Bool:=decide (4≤s.size)&&(decide ((numAt s 4:Int)≤m)&&(decide (4+numAt s 4+fillN (numAt s 4)≤s.size)&&zerosB (s.extract (4+numAt s 4) (4+numAt s 4+fillN (numAt s 4)))))
theorem itemM_iff (m:Int)(s:ByteArray):itemM m s=true↔ItemOk s m:=by simp [itemM,ItemOk]
def pByt (m:Int):Par ByteArray:=fun t=>if itemM m t=true then some (t.extract 4 (4+numAt t 4),cutAt t (4+numAt t 4+fillN (numAt t 4))) else none
def manyT:Int:=4611686018427387903
def pGiven:Par Nmb:=bindP (pNum 2) fun k=>bindP (pNum manyT) fun g=>if k=0 then retP ⟨g,0,0⟩ else bindP (pNum manyT) fun c=>retP ⟨g,k,c⟩
theorem cut_le (t:ByteArray)(k:Nat):(cutAt t k).size≤t.size:=by rw [cutAt_size];omega
theorem pNum_le {m:Int}{t t':ByteArray}{n:Nat}(h:pNum m t=some (n,t')):(n:Int)≤m∧t'.size≤t.size:=by
 unfold pNum at h
 split at h
 · rename_i hc
   simp only [Option.some.injEq,Prod.mk.injEq] at h;obtain ⟨rfl,rfl⟩:=h;exact ⟨hc.2.2,cut_le _ _⟩
 · cases h
theorem pByt_size {m:Int}{t t' s:ByteArray}(h:pByt m t=some (s,t'))(h1:1≤s.size):t'.size+8≤t.size:=by
 unfold pByt at h
 split at h
 · rename_i hc
   simp only [Option.some.injEq,Prod.mk.injEq] at h;obtain ⟨rfl,rfl⟩:=h;obtain ⟨_,_,h3,_⟩:=(itemM_iff m t).1 hc;rw [ByteArray.size_extract] at h1;rw [cutAt_size]
   have:4≤numAt t 4+fillN (numAt t 4):=by unfold fillN;omega
   omega
 · cases h
theorem pByt_le {m:Int}{t t' s:ByteArray}(h:pByt m t=some (s,t')):(s.size:Int)≤m∧t'.size≤t.size:=by
 unfold pByt at h
 split at h
 · rename_i hc
   simp only [Option.some.injEq,Prod.mk.injEq] at h;obtain ⟨rfl,rfl⟩:=h;have:=((itemM_iff m t).1 hc).2.1;refine ⟨?_,cut_le _ _⟩;simp only [ByteArray.size_extract];omega
 · cases h
abbrev eV (A:Nat→Addr)(k:Nat):Value := .iface 535 (.pointer (some (A k)))
abbrev thr (A:Nat→Addr):List PanicEntry:=[{ v := .iface 194 (.agg #[eV A 0]),recovered:=false }]
structure LdR (w:World)(A:Nat→Addr)(lb xb:Nat)(tp v:Value)(t:ByteArray):Prop where
 blk:w.heap[lb]?=some (.cells #[.pointer (some ⟨xb,0,none⟩),tp,v] 200 (0,0))
 rd:w.heap[xb]?=some (.cells #[.string t] 261 (0,0))
 err:Errs w A
 le:t.size≤15000
 old:∀ k,k < 15→gOf k≠xb∧gOf k≠lb∧(A k).block≠xb∧(A k).block≠lb
 typ:15≠xb∧15≠lb
section
variable {w w':World}{A:Nat→Addr}{lb xb:Nat}{tp v:Value}{t t':ByteArray}
theorem LdR.ne (h:LdR w A lb xb tp v t):lb≠xb:=fun e=>by
 have:=h.blk;rw [e,h.rd] at this;simp at this
theorem LdR.c0 (h:LdR w A lb xb tp v t):w.cell? ⟨lb,0,none⟩=some (.pointer (some ⟨xb,0,none⟩)):=cell_of_row _ _ 0 _ _ _ h.blk
theorem LdR.c1 (h:LdR w A lb xb tp v t):w.cell? ⟨lb,1,none⟩=some tp:=cell_of_row _ _ 1 _ _ _ h.blk
theorem LdR.c2 (h:LdR w A lb xb tp v t):w.cell? ⟨lb,2,none⟩=some v:=cell_of_row _ _ 2 _ _ _ h.blk
theorem LdR.fz (h:LdR w A lb xb tp v t)(o:Nat):w.frozen? ⟨lb,o,none⟩=false:=frozen_of_row _ _ _ _ _ h.blk
theorem LdR.lt (h:LdR w A lb xb tp v t):lb < w.heap.size:=(Array.getElem?_eq_some_iff.1 h.blk).1
theorem LdR.ltx (h:LdR w A lb xb tp v t):xb < w.heap.size:=(Array.getElem?_eq_some_iff.1 h.rd).1
theorem Errs.only {L:List Nat}(h:Errs w A)(ho:Only L w w')(hk:∀ k,k < 15→gOf k∉L∧(A k).block∉L)(ht:15∉L):Errs w' A:=by
 refine ⟨fun k hk'=>?_,h.inj,fun k hk'=>?_,fun k hk'=>?_,?_⟩
 · have:=h.cell k hk'
   exact (ho.cell (p:=⟨gOf k,0,none⟩) (lt_of_cell this) (hk k hk').1).trans this
 · obtain ⟨c,u,e⟩:=h.row k hk'
   exact ⟨c,u,(ho.block _ (Array.getElem?_eq_some_iff.1 e).1 (hk k hk').2).trans e⟩
 · obtain ⟨s,e1,e2⟩:=h.text k hk'
   exact ⟨s,(ho.cell (p:=A k) (lt_of_cell e1) (hk k hk').2).trans e1,e2⟩
 · exact (ho.cell (p:=⟨15,0,none⟩) (lt_of_cell h.typ) ht).trans h.typ
theorem LdR.only (h:LdR w A lb xb tp v t)(ho:Only [] w w'):LdR w' A lb xb tp v t :=
 ⟨(ho.block lb h.lt (by simp)).trans h.blk,(ho.block xb h.ltx (by simp)).trans h.rd,h.err.only ho (fun _ _=>⟨by simp,by simp⟩) (by simp),h.le,h.old,h.typ⟩
theorem LdR.read (h:LdR w A lb xb tp v t)(hl:t'.size≤t.size):LdR (w.setCell ⟨xb,0,none⟩ (.string t')) A lb xb tp v t':=by
 have ho:Only [xb] w (w.setCell ⟨xb,0,none⟩ (.string t')):=(Only.refl [xb] w).setCell (Or.inl (by simp)) _;exact ⟨(ho.block lb h.lt (by simpa using h.ne)).trans h.blk,heap_setCell_same w xb 0 _ _ _ h.rd,h.err.only ho (fun k hk=>⟨by simpa using (h.old k hk).1,by simpa using (h.old k hk).2.2.1⟩) (by simpa using h.typ.1),Nat.le_trans hl h.le,h.old,h.typ⟩
end
theorem must_yes (lb:Nat)(w:World):Calls Tryz.prog 78 #[.pointer (some ⟨lb,0,none⟩),.bool true] w fun e w'=>e = .returned (.tuple #[])∧w=w':=by
 go_enter Tryz.func78,Tryz.ntmps78
 go_wp2
 go_end0
 exact ⟨rfl,rfl⟩
theorem must_no (A:Nat→Addr)(lb:Nat)(w:World)(h:Errs w A):Calls Tryz.prog 78 #[.pointer (some ⟨lb,0,none⟩),.bool false] w fun e w'=>e = .panicked (thr A)∧w=w':=by
 have c0:w.cell? ⟨1,0,none⟩=some (eV A 0):=h.cell 0 (by decide);clear h
 go_enter Tryz.func78,Tryz.ntmps78
 go_wp2
 exact ⟨rfl,rfl,rfl⟩
def REnd {α:Type}(A:Nat→Addr)(lb xb:Nat)(tp v:Value)(w:World)(t:ByteArray)(p:Par α)(f:α→Value)(e:Ending)(w':World):Prop :=
 (∃ a t',p t=some (a,t')∧e = .returned (f a)∧Only [xb] w w'∧LdR w' A lb xb tp v t')∨(p t=none∧e = .panicked (thr A)∧Only [xb] w w')
theorem number_ends (A:Nat→Addr)(lb xb:Nat)(tp v:Value)(t:ByteArray)(m:Int)(w:World)(h:LdR w A lb xb tp v t):
   Calls Tryz.prog 129 #[.pointer (some ⟨lb,0,none⟩),.int .i64 m] w (REnd A lb xb tp v w t (pNum m) (fun n => .int .i64 (n:Nat))):=by
 have H:Hid (LdR w A lb xb tp v t):=h;have c0:=h.c0;have cx:w.cell? ⟨xb,0,none⟩=some (.string t):=cell_of_row _ _ 0 _ _ _ h.rd;have fx:w.frozen? ⟨xb,0,none⟩=false:=frozen_of_row _ _ _ _ _ h.rd;have cE:w.cell? ⟨1,0,none⟩=some (eV A 0):=h.err.cell 0 (by decide);have hle:=h.le
 by_cases h8:8≤t.size
 · by_cases hg:numAt t 8≤9223372036854775807
   · have hr:=rLong_ok xb t w cx fx h8 (by omega) hg
     have HW:Hid (LdR (w.setCell ⟨xb,0,none⟩ (.string (cutAt t 8))) A lb xb tp v (cutAt t 8)∧Only [xb] w (w.setCell ⟨xb,0,none⟩ (.string (cutAt t 8)))):=⟨h.read (cut_le _ _),(Only.refl [xb] w).setCell (Or.inl (by simp)) _⟩;clear h cx fx cE
     by_cases hm:(numAt t 8:Int)≤m
     · have HP:Hid (pNum m t=some (numAt t 8,cutAt t 8)):=if_pos ⟨h8,hg,hm⟩
       have d1:decide ((numAt t 8:Int)≤m)=true:=decide_eq_true hm;clear h8 hg hm;generalize numAt t 8=n at hr HP d1
       go_enter Tryz.func129,Tryz.ntmps129
       go_wp2_with (first
         | (go_at_call 224;refine hr.mono ?_;rintro e w1 ⟨rfl,rfl⟩;clear hr)
         | (go_at_call 78;refine (must_yes _ _).mono ?_;rintro e w2 ⟨rfl,rfl⟩))
       go_ret
       exact Or.inl ⟨_,_,HP.out,rfl,HW.out.2,HW.out.1⟩
     · have HP:Hid (pNum m t=none):=if_neg (fun k=>hm k.2.2)
       have d1:decide ((numAt t 8:Int)≤m)=false:=decide_eq_false hm;clear h8 hg hm;generalize numAt t 8=n at hr d1
       go_enter Tryz.func129,Tryz.ntmps129
       go_wp2_with (first
         | (go_at_call 224;refine hr.mono ?_;rintro e w1 ⟨rfl,rfl⟩;clear hr)
         | (go_at_call 78;refine (must_no A _ _ HW.out.1.err).mono ?_;rintro e w2 ⟨rfl,rfl⟩))
       exact ⟨rfl,Or.inr ⟨HP.out,rfl,HW.out.2⟩⟩
   · have HP:Hid (pNum m t=none):=if_neg (fun k=>hg k.2.1)
     have hr:=rLong_great xb t _ _ w cx cE h8 (by omega) (by omega);clear h cx fx cE
     go_enter Tryz.func129,Tryz.ntmps129
     go_wp2_with (first
       | (go_at_call 224;refine hr.mono ?_;rintro e w1 ⟨rfl,hb⟩;have HO:Hid (Only [] w w1):=Only.of_below hb _;clear hr hb)
       | (go_at_call 78;refine (must_no A _ _ (H.out.only HO.out).err).mono ?_;rintro e w2 ⟨rfl,rfl⟩))
     exact ⟨rfl,Or.inr ⟨HP.out,rfl,HO.out.mono (fun _ hk=>by cases hk)⟩⟩
 · have HP:Hid (pNum m t=none):=if_neg (fun k=>h8 k.1)
   have hr:=rLong_short xb t _ _ w cx cE (by omega);clear h cx fx cE
   go_enter Tryz.func129,Tryz.ntmps129
   go_wp2_with (first
     | (go_at_call 224;refine hr.mono ?_;rintro e w1 ⟨rfl,hb⟩;have HO:Hid (Only [] w w1):=Only.of_below hb _;clear hr hb)
     | (go_at_call 78;refine (must_no A _ _ (H.out.only HO.out).err).mono ?_;rintro e w2 ⟨rfl,rfl⟩))
   exact ⟨rfl,Or.inr ⟨HP.out,rfl,HO.out.mono (fun _ hk=>by cases hk)⟩⟩
theorem bytes_ends (A:Nat→Addr)(lb xb:Nat)(tp v:Value)(t:ByteArray)(m:Int)(w:World)(h:LdR w A lb xb tp v t):
   Calls Tryz.prog 228 #[.pointer (some ⟨lb,0,none⟩),.int .i64 m] w (REnd A lb xb tp v w t (pByt m) (fun s => .string s)):=by
 have H:Hid (LdR w A lb xb tp v t):=h;have c0:=h.c0;have hr:=rBytes_ends xb t m _ _ w (cell_of_row _ _ 0 _ _ _ h.rd) (frozen_of_row _ _ _ _ _ h.rd) (h.err.cell 0 (by decide)) h.le;clear h
 go_enter Tryz.func228,Tryz.ntmps228
 go_wp2_with fail
 refine hr.mono ?_;rintro e w1 (⟨hi,rfl,rfl⟩ | ⟨hi,rfl,hb⟩)
 · have HP:Hid (pByt m t=some (t.extract 4 (4+numAt t 4),cutAt t (4+numAt t 4+fillN (numAt t 4)))):=if_pos ((itemM_iff m t).2 hi)
   clear hr hi
   go_wp2_with (go_at_call 78;refine (must_yes _ _).mono ?_;rintro e w2 ⟨rfl,rfl⟩)
   go_ret
   exact Or.inl ⟨_,_,HP.out,rfl,(Only.refl [xb] w).setCell (Or.inl (by simp)) _,H.out.read (cut_le _ _)⟩
 · have HP:Hid (pByt m t=none):=if_neg (fun k=>hi ((itemM_iff m t).1 k))
   have HO:Hid (Only [] w w1):=Only.of_below hb _;clear hr hi hb
   go_wp2_with (go_at_call 78;refine (must_no A _ _ (H.out.only HO.out).err).mono ?_;rintro e w2 ⟨rfl,rfl⟩)
   exact ⟨rfl,Or.inr ⟨HP.out,rfl,HO.out.mono (fun _ hk=>by cases hk)⟩⟩
theorem handleOf_any (w:World)(i:Nat)(x:Nmb):Calls Tryz.prog 102 #[.int .i64 (i:Nat),.agg #[.int .i64 (x.g:Nat),.int .i64 (x.k:Nat),.int .i64 (x.c:Nat)]] w fun e w'=>e = .returned (.agg #[.int .i64 (i:Nat),.int .i64 (x.g:Nat)])∧Only [] w w':=by
 go_enter Tryz.func102,Tryz.ntmps102
 go_wp2
 refine bodyPost_ret (v := .agg #[.int .i64 (i:Nat),.int .i64 (x.g:Nat)]) (by simp [results,Tryz.results102,go_sem]) rfl ⟨rfl,?_⟩
 first | exact ((Only.refl [] w).alloc _).alloc _ | exact (((Only.refl [] w).alloc _).alloc _).drew
def lastF (g:Nat→Nat)(nd:Nat→Option Nod)(i:Nat):Nmb:=match nd i with | none=>⟨g i,0,0⟩ | some n=>if n.K=1∧n.L=0 then ⟨g i+1,0,0⟩ else ⟨g i,n.K.toNat,n.C.toNat⟩
def lastL (N:Nat)(g:Nat→Nat)(nd:Nat→Option Nod)(j:Nat):List Nmb:=(List.range N).map (fun i=>if i < j then lastF g nd i else numF g nd i)
theorem lastL_len (N:Nat)(g:Nat→Nat)(nd:Nat→Option Nod)(j:Nat):(lastL N g nd j).length=N:=by simp [lastL]
theorem lastL_zero (N:Nat)(g:Nat→Nat)(nd:Nat→Option Nod):lastL N g nd 0=numL N g nd N:=by
 apply List.ext_getElem?;intro i
 by_cases h:i < N<;>simp [lastL,numL,h]
theorem lastL_at {N j:Nat}(g:Nat→Nat)(nd:Nat→Option Nod)(h:j < N):(lastL N g nd j)[j]?=some (numF g nd j):=by simp [lastL,h]
theorem lastL_all {N j:Nat}(g:Nat→Nat)(nd:Nat→Option Nod)(h:j < N):(lastL N g nd N)[j]?=some (lastF g nd j):=by simp [lastL,h]
theorem lastL_step {N j:Nat}(g:Nat→Nat)(nd:Nat→Option Nod)(h:j < N):(lastL N g nd j).set j (lastF g nd j)=lastL N g nd (j+1):=by
 apply List.ext_getElem?;intro i;rw [List.getElem?_set,lastL_len]
 by_cases e:j=i
 · subst e
   simp [lastL,h]
 · rw [if_neg e]
   by_cases hi:i < N
   · by_cases hij:i < j
     · simp [lastL,hi,hij,show i < j+1 by omega]
     · simp [lastL,hi,hij,show ¬ i < j+1 by omega]
   · rw [List.getElem?_eq_none (by rw [lastL_len];omega),List.getElem?_eq_none (by rw [lastL_len];omega)]
theorem lastL_same {N j:Nat}(g:Nat→Nat)(nd:Nat→Option Nod)(h:j < N)(he:lastF g nd j=numF g nd j):lastL N g nd j=lastL N g nd (j+1):=by
 rw [← lastL_step g nd h,he];apply List.ext_getElem?;intro i;rw [List.getElem?_set]
 by_cases e:j=i
 · subst e
   rw [if_pos rfl,if_pos (by rw [lastL_len];exact h),lastL_at g nd h]
 · rw [if_neg e]
theorem Nrs.setAll {w:World}{base B n cap j:Nat}{l:List Nmb}{x:Nmb}(h:Nrs w base (.slice (some ⟨B,0,none⟩) n cap) l)(hn:l.length=n)(hx:l[j]?=some x)(y:Nmb):Nrs (((w.setCell ⟨B,j*3,none⟩ (.int .i64 (y.g:Nat))).setCell ⟨B,j*3+1,none⟩ (.int .i64 (y.k:Nat))).setCell ⟨B,j*3+2,none⟩ (.int .i64 (y.c:Nat))) base (.slice (some ⟨B,0,none⟩) n cap) (l.set j y):=by
 have h1:=(h.setG hn hx y.g).kc (by rw [List.length_set];exact hn) (set_at _ hx) y.k y.c;rw [List.set_set] at h1;exact h1
theorem lasting_any (w:World)(tr:Nat)(T:Tr)(h:TreeAt w tr T)(hok:∀ i n,T.nd i=some n→NodOk n):
  Calls Tryz.prog 97 #[.pointer (some ⟨tr,0,none⟩)] w fun e w'=>∃ B,e = .returned (.slice (some ⟨B,0,none⟩) T.p.N T.p.N)∧w.heap.size≤B∧Nrs w' w.heap.size (.slice (some ⟨B,0,none⟩) T.p.N T.p.N) (lastL T.p.N T.g T.nd T.p.N)∧Only [] w w':=by
 have hN:=h.small.N;have hnm:=numbers_any w T.t T.p T.most T.g T.nd h.tab hN hok;have HT:Hid (∀ W,Only [] w W→TreeAt W tr T):=fun W ho=>h.only ho;have HOK:Hid (∀ i n,T.nd i=some n→NodOk n):=hok;have HG:Hid (∀ i,T.g i≤5000000000000000000):=h.small.g;have c0:=h.c0;obtain ⟨N,hNN⟩:∃ N,T.p.N=N:=⟨_,rfl⟩;rw [hNN] at hnm hN ⊢;obtain ⟨sz,hsz⟩:∃ sz,w.heap.size=sz:=⟨_,rfl⟩;have HSZ:Hid (w.heap.size=sz):=hsz;rw [hsz] at hnm ⊢;clear h hok hsz
 go_enter Tryz.func97,Tryz.ntmps97
 go_wp2_with (go_at_call 147;refine hnm.mono ?_;rintro e w1 ⟨B,rfl,hB,hR,ho⟩;have HR1:Hid (Nrs w1 sz (.slice (some ⟨B,0,none⟩) N N) (lastL N T.g T.nd 0)∧Only [] w w1):=(by rw [lastL_zero];exact ⟨hR,ho⟩);have HB:Hid (sz≤B):=hB;clear hR ho hnm hB)
 clear c0
 go_loopw [13] (fun q wr=>∃ j:Nat,q = .int .i64 (j:Nat)∧j≤N∧Nrs wr sz (.slice (some ⟨B,0,none⟩) N N) (lastL N T.g T.nd j)∧Only [] w wr) (fun q _=>N - (intOf q).toNat)
 case atStart=>exact ⟨0,rfl,Nat.zero_le _,HR1.out⟩
 case round =>
  obtain ⟨j,rfl,hj,hR,hO⟩:=hrel;have HR:Hid (Nrs wr sz (.slice (some ⟨B,0,none⟩) N N) (lastL N T.g T.nd j)):=hR;have HO:Hid (Only [] w wr):=hO;clear hR hO HR1
  by_cases hlt:j < N
  · obtain ⟨x,hx⟩:∃ x,numF T.g T.nd j=x:=⟨_,rfl⟩
    have HX:Hid (numF T.g T.nd j=x):=hx;obtain ⟨y0,y1,y2⟩:=HR.out.cells (lastL_len _ _ _ _) (by rw [lastL_at T.g T.nd hlt,hx]);have hBl:=lt_of_cell y0;clear hx
    go_upto_region 5 with fail
    have oA:Only [] wr (wr.alloc (.cells #[.int .i64 (x.g:Nat),.int .i64 (x.k:Nat),.int .i64 (x.c:Nat)] 233)):=(Only.refl [] wr).alloc _;have HWA:Hid (Only [] w (wr.alloc (.cells #[.int .i64 (x.g:Nat),.int .i64 (x.k:Nat),.int .i64 (x.c:Nat)] 233))):=HO.out.trans oA (fun _ hk=>by cases hk);have HBX:Hid ((wr.alloc (.cells #[.int .i64 (x.g:Nat),.int .i64 (x.k:Nat),.int .i64 (x.c:Nat)] 233)).heap[wr.heap.size]?=some (.cells #[.int .i64 (x.g:Nat),.int .i64 (x.k:Nat),.int .i64 (x.c:Nat)] 233 (0,0))):=heap_alloc_last wr _;have HRA:Hid (Nrs (wr.alloc (.cells #[.int .i64 (x.g:Nat),.int .i64 (x.k:Nat),.int .i64 (x.c:Nat)] 233)) sz (.slice (some ⟨B,0,none⟩) N N) (lastL N T.g T.nd j)):=HR.out.only oA (fun _ _=>by simp)
    have HBne:Hid (wr.heap.size≠B):=fun e=>by have h3:B < wr.heap.size:=hBl;omega
    clear y0 y1 y2 oA hBl;generalize wr.alloc (.cells #[.int .i64 (x.g:Nat),.int .i64 (x.k:Nat),.int .i64 (x.c:Nat)] 233)=wb at HWA HBX HRA ⊢;generalize wr.heap.size=bx at HBX HBne ⊢;have x0:wb.cell? ⟨bx,0,none⟩=some (.int .i64 (x.g:Nat)):=cell_of_row _ _ 0 _ _ _ HBX.out;have x1:wb.cell? ⟨bx,1,none⟩=some (.int .i64 (x.k:Nat)):=cell_of_row _ _ 1 _ _ _ HBX.out;have x2:wb.cell? ⟨bx,2,none⟩=some (.int .i64 (x.c:Nat)):=cell_of_row _ _ 2 _ _ _ HBX.out
    by_cases hk:x.k=1
    · obtain ⟨n,hn⟩:∃ n,T.nd j=some n:=by
        cases e:T.nd j with
        | none =>
         have:=HX.out;unfold numF at this;rw [e] at this;rw [← this] at hk
         cases hk
        | some n=>exact ⟨n,rfl⟩
      have hxe:x=⟨T.g j,n.K.toNat,n.C.toNat⟩:=by
        rw [← HX.out];unfold numF;rw [hn]
      have hnK:n.K=1:=by
        rw [hxe] at hk;have:=(HOK.out j n hn).1;simp only at hk;omega
      have hgx:x.g=T.g j:=by rw [hxe]
      have htd:∀ W,Only [] w W→Calls Tryz.prog 148 #[.pointer (some ⟨tr,0,none⟩),.agg #[.int .i64 (j:Nat),.int .i64 (x.g:Nat)]] W fun e w'=>e = .returned (.agg #[.int .i64 n.K,.int .i64 (n.S.size:Int),.int .i64 n.L,.int .i64 n.C,.int .i64 n.UN,.int .i64 n.UG])∧Only [] W w':=fun W ho=>by
        rw [hgx];exact told_ok W tr T j n (n.S.size:Int) (HT.out W ho) hn (Or.inl ⟨hnK,rfl⟩)
      have HTD:Hid (∀ W,Only [] w W→Calls Tryz.prog 148 #[.pointer (some ⟨tr,0,none⟩),.agg #[.int .i64 (j:Nat),.int .i64 (x.g:Nat)]] W fun e w'=>e = .returned (.agg #[.int .i64 n.K,.int .i64 (n.S.size:Int),.int .i64 n.L,.int .i64 n.C,.int .i64 n.UN,.int .i64 n.UG])∧Only [] W w'):=htd;have hho:=handleOf_any wb j x;have hfl:∀ W,(Instr.field 293 (.agg #[.int .i64 n.K,.int .i64 (n.S.size:Int),.int .i64 n.L,.int .i64 n.C,.int .i64 n.UN,.int .i64 n.UG]) 2).run Tryz.prog W = .ok (.int .i64 n.L) W:=fun W=>fieldLinks W _ _ _ _ _ _
      have d1:((x.k:Int)==1)=true:=by rw [hk];rfl
      have HN:Hid (T.nd j=some n):=hn;have HNK:Hid (n.K=1∧x=⟨T.g j,n.K.toNat,n.C.toNat⟩):=⟨hnK,hxe⟩;clear hk hn hxe hnK hgx htd
      by_cases hL:n.L=0
      · have d2:(n.L==0)=true:=by rw [hL];rfl
        have HLF:Hid (lastF T.g T.nd j=⟨x.g+1,0,0⟩):=by
         show _=_;unfold lastF;rw [HN.out];simp only [HNK.out.1,hL,and_self,if_true];rw [HNK.out.2]
        have hg5:x.g≤5000000000000000000:=by rw [HNK.out.2];exact HG.out j
        have hwr:wrap64 ((x.g:Int)+1)=(x.g:Int)+1:=by unfold wrap64;omega
        have HFB:Hid (∀ W,Only [] wb W→W.cell? ⟨bx,0,none⟩=some (.int .i64 (x.g:Nat))∧(W.cell? ⟨B,j*3,none⟩=some (.int .i64 (x.g:Nat))∧W.cell? ⟨B,j*3+1,none⟩=some (.int .i64 (x.k:Nat))∧W.cell? ⟨B,j*3+2,none⟩=some (.int .i64 (x.c:Nat)))∧(∀ o,W.frozen? ⟨B,o,none⟩=false)∧Nrs (((W.setCell ⟨B,j*3,none⟩ (.int .i64 ((x.g:Int)+1))).setCell ⟨B,j*3+1,none⟩ (.int .i64 0)).setCell ⟨B,j*3+2,none⟩ (.int .i64 0)) sz (.slice (some ⟨B,0,none⟩) N N) (lastL N T.g T.nd (j+1))∧Only [] w (((W.setCell ⟨B,j*3,none⟩ (.int .i64 ((x.g:Int)+1))).setCell ⟨B,j*3+1,none⟩ (.int .i64 0)).setCell ⟨B,j*3+2,none⟩ (.int .i64 0))):=fun W ho=>by
         have hRW:=HRA.out.only ho (fun _ _=>by simp)
         have hat:(lastL N T.g T.nd j)[j]?=some x:=by rw [lastL_at T.g T.nd hlt,HX.out]
         have hB2:w.heap.size≤B:=by rw [HSZ.out];exact HB.out
         refine ⟨(ho.cell (p:=⟨bx,0,none⟩) (lt_of_cell x0) (by simp)).trans x0,hRW.cells (lastL_len _ _ _ _) hat,hRW.fz (lastL_len _ _ _ _),?_,(((HWA.out.trans ho (fun _ hk=>by cases hk)).setCell (p:=⟨B,j*3,none⟩) (Or.inr hB2) _).setCell (p:=⟨B,j*3+1,none⟩) (Or.inr hB2) _).setCell (p:=⟨B,j*3+2,none⟩) (Or.inr hB2) _⟩;have:=hRW.setAll (lastL_len _ _ _ _) hat ⟨x.g+1,0,0⟩;rw [← HLF.out,lastL_step T.g T.nd hlt,HLF.out] at this;exact this
        clear hL
        go_wp2_with (first
         | (go_at_call 102;refine hho.mono ?_;rintro e w6 ⟨rfl,o6⟩;have HO6:Hid (Only [] wb w6):=o6;have htd:=HTD.out w6 (HWA.out.trans o6 (fun _ hk=>by cases hk));clear hho o6)
         | (go_at_call 148;refine htd.mono ?_;rintro e w7 ⟨rfl,o7⟩;obtain ⟨q0,⟨q1,q2,q3⟩,qf,hE,hEO⟩:=HFB.out w7 (HO6.out.trans o7 (fun _ hk=>by cases hk));have hBl:=lt_of_cell q1;have f0:=qf (j*3);have f1:=qf (j*3+1);have f2:=qf (j*3+2);have HE:Hid (Nrs (((w7.setCell ⟨B,j*3,none⟩ (.int .i64 ((x.g:Int)+1))).setCell ⟨B,j*3+1,none⟩ (.int .i64 0)).setCell ⟨B,j*3+2,none⟩ (.int .i64 0)) sz (.slice (some ⟨B,0,none⟩) N N) (lastL N T.g T.nd (j+1))∧Only [] w (((w7.setCell ⟨B,j*3,none⟩ (.int .i64 ((x.g:Int)+1))).setCell ⟨B,j*3+1,none⟩ (.int .i64 0)).setCell ⟨B,j*3+2,none⟩ (.int .i64 0))):=⟨hE,hEO⟩;clear htd o7 qf hE hEO x0 x1 x2))
        go_roundw
        case rel=>exact ⟨j+1,by go_num,by omega,HE.out.1,HE.out.2⟩
        case measure=>simp [intOf];omega
      · have d2:(n.L==0)=false:=beq_eq_false_iff_ne.2 hL
        have HSM:Hid (lastL N T.g T.nd j=lastL N T.g T.nd (j+1)):=lastL_same T.g T.nd hlt (by
         unfold lastF numF;rw [HN.out]
         simp only [hL,and_false,if_false])
        clear hL
        go_wp2_with (first
         | (go_at_call 102;refine hho.mono ?_;rintro e w6 ⟨rfl,o6⟩;have HO6:Hid (Only [] wb w6):=o6;have htd:=HTD.out w6 (HWA.out.trans o6 (fun _ hk=>by cases hk));clear hho o6)
         | (go_at_call 148;refine htd.mono ?_;rintro e w7 ⟨rfl,o7⟩;have HO7:Hid (Only [] wb w7):=HO6.out.trans o7 (fun _ hk=>by cases hk);have HE:Hid (Nrs w7 sz (.slice (some ⟨B,0,none⟩) N N) (lastL N T.g T.nd (j+1))∧Only [] w w7):=⟨by rw [← HSM.out];exact HRA.out.only HO7.out (fun _ _=>by simp),HWA.out.trans HO7.out (fun _ hk=>by cases hk)⟩;clear htd o7))
        go_roundw
        case rel=>exact ⟨j+1,by go_num,by omega,HE.out.1,HE.out.2⟩
        case measure=>simp [intOf];omega
    · have d1:((x.k:Int)==1)=false:=beq_eq_false_iff_ne.2 (by omega)
      have HSM:Hid (lastL N T.g T.nd j=lastL N T.g T.nd (j+1)):=lastL_same T.g T.nd hlt (by
        have h1:=HX.out;unfold lastF numF at *
        cases e:T.nd j with
        | none=>rfl
        | some n =>
         rw [e] at h1;simp only at h1 ⊢;rw [if_neg];rintro ⟨hK,_⟩;rw [← h1,hK] at hk
         exact hk rfl)
      have HE:Hid (Nrs wb sz (.slice (some ⟨B,0,none⟩) N N) (lastL N T.g T.nd (j+1))∧Only [] w wb):=⟨by rw [← HSM.out];exact HRA.out,HWA.out⟩;clear hk
      go_wp2
      go_roundw
      case rel=>exact ⟨j+1,by go_num,by omega,HE.out.1,HE.out.2⟩
      case measure=>simp [intOf];omega
  · obtain rfl:N=j:=by omega
    have hj2:decide ((N:Int) < N)=false:=decide_eq_false (by omega)
    go_wp2
    go_ret
    exact ⟨B,rfl,HB.out,HR.out,HO.out⟩
section
variable {w w':World}{A:Nat→Addr}{lb xb:Nat}{tp v:Value}{t t':ByteArray}
theorem LdR.of (h:LdR w A lb xb tp v t)(ho:Only [xb] w w')(hr:w'.heap[xb]?=some (.cells #[.string t'] 261 (0,0)))(hl:t'.size≤15000):LdR w' A lb xb tp v t' :=
 ⟨(ho.block lb h.lt (by simpa using h.ne)).trans h.blk,hr,h.err.only ho (fun k hk=>⟨by simpa using (h.old k hk).1,by simpa using (h.old k hk).2.2.1⟩) (by simpa using h.typ.1),hl,h.old,h.typ⟩
theorem LdR.put (h:LdR w A lb xb tp v t)(hw:LdR w' A lb xb tp v t')(ho:Only [xb] w w'){b o:Nat}(hb:w.heap.size≤b)(u:Value):LdR (w'.setCell ⟨b,o,none⟩ u) A lb xb tp v t'∧Only [xb] w (w'.setCell ⟨b,o,none⟩ u):=by
 have h1:Only [xb] w (w'.setCell ⟨b,o,none⟩ u):=ho.setCell (p:=⟨b,o,none⟩) (Or.inr hb) _;have hx:=h.ltx;exact ⟨h.of h1 ((Below.heap_setCell w' ⟨b,o,none⟩ u xb (by show xb≠b;omega)).trans hw.rd) hw.le,h1⟩
end
abbrev nmV (x:Nmb):Value := .agg #[.int .i64 (x.g:Nat),.int .i64 (x.k:Nat),.int .i64 (x.c:Nat)]
theorem given_ends (A:Nat→Addr)(lb xb:Nat)(tp v:Value)(t:ByteArray)(w:World)(h:LdR w A lb xb tp v t):
   Calls Tryz.prog 130 #[.pointer (some ⟨lb,0,none⟩)] w (REnd A lb xb tp v w t pGiven nmV):=by
 have H:Hid (LdR w A lb xb tp v t):=h;have o0:Only [] w ((w.alloc (.cells #[.int .i64 0,.int .i64 0,.int .i64 0] 233)).alloc (.cells #[.int .i64 0,.int .i64 0,.int .i64 0] 233)):=((Only.refl [] w).alloc _).alloc _
 have hh1:((w.alloc (.cells #[.int .i64 0,.int .i64 0,.int .i64 0] 233)).alloc (.cells #[.int .i64 0,.int .i64 0,.int .i64 0] 233)).heap[w.heap.size+1]?=some (.cells #[.int .i64 0,.int .i64 0,.int .i64 0] 233 (0,0)):=by
   have:=heap_alloc_last (w.alloc (.cells #[.int .i64 0,.int .i64 0,.int .i64 0] 233)) (.cells #[.int .i64 0,.int .i64 0,.int .i64 0] 233);rw [World.size_alloc] at this;exact this
 have hh0:((w.alloc (.cells #[.int .i64 0,.int .i64 0,.int .i64 0] 233)).alloc (.cells #[.int .i64 0,.int .i64 0,.int .i64 0] 233)).heap[w.heap.size]?=some (.cells #[.int .i64 0,.int .i64 0,.int .i64 0] 233 (0,0)) :=
   (((Only.refl [] (w.alloc (.cells #[.int .i64 0,.int .i64 0,.int .i64 0] 233))).alloc _).block w.heap.size (by simp) (by simp)).trans (heap_alloc_last w _)
 have h0:=h.only o0;have hn1:=number_ends A lb xb tp v t 2 _ h0;have HN:Hid (∀ W t' (m:Int),LdR W A lb xb tp v t'→Calls Tryz.prog 129 #[.pointer (some ⟨lb,0,none⟩),.int .i64 m] W (REnd A lb xb tp v W t' (pNum m) (fun n => .int .i64 (n:Nat)))):=fun W t' m k=>number_ends A lb xb tp v t' m W k;have hxl:=h.ltx;generalize hw0:(w.alloc (.cells #[.int .i64 0,.int .i64 0,.int .i64 0] 233)).alloc (.cells #[.int .i64 0,.int .i64 0,.int .i64 0] 233)=w0 at o0 hh0 hh1 h0 hn1;have HO0:Hid (Only [] w w0):=o0;have HXL:Hid (xb < w.heap.size):=hxl;have HB0:Hid (w0.heap[w.heap.size]?=some (.cells #[.int .i64 0,.int .i64 0,.int .i64 0] 233 (0,0))∧w0.heap[w.heap.size+1]?=some (.cells #[.int .i64 0,.int .i64 0,.int .i64 0] 233 (0,0))):=⟨hh0,hh1⟩;clear h o0 hh0 hh1 h0 hxl
 go_enter Tryz.func130,Tryz.ntmps130
 go_upto_region 2 with fail
 obtain ⟨sz,hsz⟩:∃ sz,w.heap.size=sz:=⟨_,rfl⟩;rw [hsz] at HXL HB0 ⊢;have HSZ:Hid (w.heap.size=sz):=hsz;clear hw0 hsz
 go_wp2_with fail
 refine hn1.mono ?_;rintro e w1 (⟨k,t1,hp1,rfl,o1,h1⟩ | ⟨hp1,rfl,o1⟩)
 · have HP1:Hid (pNum 2 t=some (k,t1)):=hp1
   have HO1:Hid (Only [xb] w w1):=(HO0.out.mono (fun _ hk=>by cases hk)).trans o1 (fun _ hk=>Or.inl hk);have HL1:Hid (LdR w1 A lb xb tp v t1):=h1;have hb0:w1.heap[sz]?=some (.cells #[.int .i64 0,.int .i64 0,.int .i64 0] 233 (0,0)):=(o1.block sz (Array.getElem?_eq_some_iff.1 HB0.out.1).1 (by have:=HXL.out;simp;omega)).trans HB0.out.1;have hb1:w1.heap[sz+1]?=some (.cells #[.int .i64 0,.int .i64 0,.int .i64 0] 233 (0,0)):=(o1.block (sz+1) (Array.getElem?_eq_some_iff.1 HB0.out.2).1 (by have:=HXL.out;simp;omega)).trans HB0.out.2;have HB1:Hid (w1.heap[sz]?=some (.cells #[.int .i64 0,.int .i64 0,.int .i64 0] 233 (0,0))∧w1.heap[sz+1]?=some (.cells #[.int .i64 0,.int .i64 0,.int .i64 0] 233 (0,0))):=⟨hb0,hb1⟩;have q1:w1.cell? ⟨sz+1,1,none⟩=some (.int .i64 0):=cell_of_row _ _ 1 _ _ _ hb1;have f1:w1.frozen? ⟨sz+1,1,none⟩=false:=frozen_of_row _ _ _ _ _ hb1;have hl1:=(Array.getElem?_eq_some_iff.1 hb1).1
   have HK2:Hid (k≤2):=by have:=(pNum_le hp1).1;show k≤2;omega
   clear hn1 hp1 o1 h1 hb0 hb1
   go_upto_region 3 with fail
   obtain ⟨hL2,hO2⟩:=H.out.put HL1.out HO1.out (b:=sz+1) (o:=1) (by rw [HSZ.out];omega) (.int .i64 (k:Nat));have HB2:Hid ((w1.setCell ⟨sz+1,1,none⟩ (.int .i64 (k:Nat))).heap[sz]?=some (.cells #[.int .i64 0,.int .i64 0,.int .i64 0] 233 (0,0))∧(w1.setCell ⟨sz+1,1,none⟩ (.int .i64 (k:Nat))).heap[sz+1]?=some (.cells #[.int .i64 0,.int .i64 (k:Nat),.int .i64 0] 233 (0,0))):=⟨(Below.heap_setCell w1 ⟨sz+1,1,none⟩ _ sz (by show sz≠sz+1;omega)).trans HB1.out.1,heap_setCell_same w1 (sz+1) 1 _ _ _ HB1.out.2⟩;have HO2:Hid (Only [xb] w (w1.setCell ⟨sz+1,1,none⟩ (.int .i64 (k:Nat)))):=hO2;have hn2:=HN.out _ t1 manyT hL2;clear q1 f1 hl1 hO2 hL2;generalize w1.setCell ⟨sz+1,1,none⟩ (.int .i64 (k:Nat))=w2 at HB2 HO2 hn2 ⊢;have hn2':Calls Tryz.prog 129 #[.pointer (some ⟨lb,0,none⟩),.int .i64 4611686018427387903] w2 (REnd A lb xb tp v w2 t1 (pNum manyT) (fun n => .int .i64 (n:Nat))):=hn2;clear hn2
   go_wp2_with fail
   refine hn2'.mono ?_;rintro e w3 (⟨g,t2,hp2,rfl,o3,h3⟩ | ⟨hp2,rfl,o3⟩)
   · have HP2:Hid (pNum manyT t1=some (g,t2)):=hp2
     have HO3:Hid (Only [xb] w w3):=HO2.out.trans o3 (fun _ hk=>Or.inl hk);have HL3:Hid (LdR w3 A lb xb tp v t2):=h3;have hb0:w3.heap[sz]?=some (.cells #[.int .i64 0,.int .i64 0,.int .i64 0] 233 (0,0)):=(o3.block sz (Array.getElem?_eq_some_iff.1 HB2.out.1).1 (by have:=HXL.out;simp;omega)).trans HB2.out.1;have hb1:w3.heap[sz+1]?=some (.cells #[.int .i64 0,.int .i64 (k:Nat),.int .i64 0] 233 (0,0)):=(o3.block (sz+1) (Array.getElem?_eq_some_iff.1 HB2.out.2).1 (by have:=HXL.out;simp;omega)).trans HB2.out.2;have HB3:Hid (w3.heap[sz]?=some (.cells #[.int .i64 0,.int .i64 0,.int .i64 0] 233 (0,0))∧w3.heap[sz+1]?=some (.cells #[.int .i64 0,.int .i64 (k:Nat),.int .i64 0] 233 (0,0))):=⟨hb0,hb1⟩;have q0:w3.cell? ⟨sz+1,0,none⟩=some (.int .i64 0):=cell_of_row _ _ 0 _ _ _ hb1;have f0:w3.frozen? ⟨sz+1,0,none⟩=false:=frozen_of_row _ _ _ _ _ hb1;have hl1:=(Array.getElem?_eq_some_iff.1 hb1).1;clear hn2' hp2 o3 h3 hb0 hb1
     go_upto_region 4 with fail
     obtain ⟨hL4,hO4⟩:=H.out.put HL3.out HO3.out (b:=sz+1) (o:=0) (by rw [HSZ.out];omega) (.int .i64 (g:Nat));have HB4:Hid ((w3.setCell ⟨sz+1,0,none⟩ (.int .i64 (g:Nat))).heap[sz]?=some (.cells #[.int .i64 0,.int .i64 0,.int .i64 0] 233 (0,0))∧(w3.setCell ⟨sz+1,0,none⟩ (.int .i64 (g:Nat))).heap[sz+1]?=some (.cells #[.int .i64 (g:Nat),.int .i64 (k:Nat),.int .i64 0] 233 (0,0))):=⟨(Below.heap_setCell w3 ⟨sz+1,0,none⟩ _ sz (by show sz≠sz+1;omega)).trans HB3.out.1,heap_setCell_same w3 (sz+1) 0 _ _ _ HB3.out.2⟩;have HO4:Hid (Only [xb] w (w3.setCell ⟨sz+1,0,none⟩ (.int .i64 (g:Nat)))):=hO4;have HL4:Hid (LdR (w3.setCell ⟨sz+1,0,none⟩ (.int .i64 (g:Nat))) A lb xb tp v t2):=hL4;clear q0 f0 hl1 hO4 hL4;generalize w3.setCell ⟨sz+1,0,none⟩ (.int .i64 (g:Nat))=w4 at HB4 HO4 HL4 ⊢;have u0:w4.cell? ⟨sz+1,0,none⟩=some (.int .i64 (g:Nat)):=cell_of_row _ _ 0 _ _ _ HB4.out.2;have u1:w4.cell? ⟨sz+1,1,none⟩=some (.int .i64 (k:Nat)):=cell_of_row _ _ 1 _ _ _ HB4.out.2;have u2:w4.cell? ⟨sz+1,2,none⟩=some (.int .i64 0):=cell_of_row _ _ 2 _ _ _ HB4.out.2;have r0:w4.cell? ⟨sz,0,none⟩=some (.int .i64 0):=cell_of_row _ _ 0 _ _ _ HB4.out.1;have r1:w4.cell? ⟨sz,1,none⟩=some (.int .i64 0):=cell_of_row _ _ 1 _ _ _ HB4.out.1;have r2:w4.cell? ⟨sz,2,none⟩=some (.int .i64 0):=cell_of_row _ _ 2 _ _ _ HB4.out.1
     have HRET:Hid (∀ W t3 (c:Nat),LdR W A lb xb tp v t3→Only [xb] w W→LdR (((W.setCell ⟨sz,0,none⟩ (.int .i64 (g:Nat))).setCell ⟨sz,1,none⟩ (.int .i64 (k:Nat))).setCell ⟨sz,2,none⟩ (.int .i64 (c:Nat))) A lb xb tp v t3∧Only [xb] w (((W.setCell ⟨sz,0,none⟩ (.int .i64 (g:Nat))).setCell ⟨sz,1,none⟩ (.int .i64 (k:Nat))).setCell ⟨sz,2,none⟩ (.int .i64 (c:Nat)))):=fun W t3 c hL hO=>by
       have hz:w.heap.size≤sz:=by rw [HSZ.out];exact Nat.le_refl _
       obtain ⟨a1,b1⟩:=H.out.put hL hO (b:=sz) (o:=0) hz (.int .i64 (g:Nat));obtain ⟨a2,b2⟩:=H.out.put a1 b1 (b:=sz) (o:=1) hz (.int .i64 (k:Nat));exact H.out.put a2 b2 (b:=sz) (o:=2) hz (.int .i64 (c:Nat))
     have zf:∀ o,w4.frozen? ⟨sz,o,none⟩=false:=fun o=>frozen_of_row _ _ _ _ _ HB4.out.1;have z0:=zf 0;have z1:=zf 1;have z2:=zf 2;have hl1:=(Array.getElem?_eq_some_iff.1 HB4.out.1).1;clear zf
     by_cases hk:k=0
     · subst hk
       have HPG:Hid (pGiven t=some (⟨g,0,0⟩,t2)):=by
         show _=_;unfold pGiven;rw [bindP_some HP1.out,bindP_some HP2.out,if_pos rfl];rfl
       go_wp2
       refine bodyPost_ret (v := .agg #[.int .i64 (g:Nat),.int .i64 0,.int .i64 0]) (by simp [results,Tryz.results130,go_sem,r0,r1,r2]) rfl (Or.inl ⟨⟨g,0,0⟩,t2,HPG.out,rfl,?_,?_⟩)
       · exact (HRET.out w4 t2 0 HL4.out HO4.out).2
       · exact (HRET.out w4 t2 0 HL4.out HO4.out).1
     · have d0:((k:Int) != 0)=true:=by simp;omega
       have hn3:Calls Tryz.prog 129 #[.pointer (some ⟨lb,0,none⟩),.int .i64 4611686018427387903] w4 (REnd A lb xb tp v w4 t2 (pNum manyT) (fun n => .int .i64 (n:Nat))):=HN.out w4 t2 manyT HL4.out
       go_wp2_with fail
       refine hn3.mono ?_;rintro e w5 (⟨c,t3,hp3,rfl,o5,h5⟩ | ⟨hp3,rfl,o5⟩)
       · have HPG:Hid (pGiven t=some (⟨g,k,c⟩,t3)):=by
           show _=_;unfold pGiven;rw [bindP_some HP1.out,bindP_some HP2.out,if_neg hk,bindP_some hp3];rfl
         have HO5:Hid (Only [xb] w w5):=HO4.out.trans o5 (fun _ hk=>Or.inl hk);have HL5:Hid (LdR w5 A lb xb tp v t3):=h5;have hb0:w5.heap[sz]?=some (.cells #[.int .i64 0,.int .i64 0,.int .i64 0] 233 (0,0)):=(o5.block sz (Array.getElem?_eq_some_iff.1 HB4.out.1).1 (by have:=HXL.out;simp;omega)).trans HB4.out.1;have hb1:w5.heap[sz+1]?=some (.cells #[.int .i64 (g:Nat),.int .i64 (k:Nat),.int .i64 0] 233 (0,0)):=(o5.block (sz+1) (Array.getElem?_eq_some_iff.1 HB4.out.2).1 (by have:=HXL.out;simp;omega)).trans HB4.out.2;have HB5:Hid (w5.heap[sz]?=some (.cells #[.int .i64 0,.int .i64 0,.int .i64 0] 233 (0,0))∧w5.heap[sz+1]?=some (.cells #[.int .i64 (g:Nat),.int .i64 (k:Nat),.int .i64 0] 233 (0,0))):=⟨hb0,hb1⟩;have q2:w5.cell? ⟨sz+1,2,none⟩=some (.int .i64 0):=cell_of_row _ _ 2 _ _ _ hb1;have f2:w5.frozen? ⟨sz+1,2,none⟩=false:=frozen_of_row _ _ _ _ _ hb1;have hl5:=(Array.getElem?_eq_some_iff.1 hb1).1;clear hn3 hp3 o5 h5 hb0 hb1 u0 u1 u2 r0 r1 r2 z0 z1 z2 hl1
         go_upto_region 6 with fail
         obtain ⟨hL6,hO6⟩:=H.out.put HL5.out HO5.out (b:=sz+1) (o:=2) (by rw [HSZ.out];omega) (.int .i64 (c:Nat));have HB6:Hid ((w5.setCell ⟨sz+1,2,none⟩ (.int .i64 (c:Nat))).heap[sz]?=some (.cells #[.int .i64 0,.int .i64 0,.int .i64 0] 233 (0,0))∧(w5.setCell ⟨sz+1,2,none⟩ (.int .i64 (c:Nat))).heap[sz+1]?=some (.cells #[.int .i64 (g:Nat),.int .i64 (k:Nat),.int .i64 (c:Nat)] 233 (0,0))):=⟨(Below.heap_setCell w5 ⟨sz+1,2,none⟩ _ sz (by show sz≠sz+1;omega)).trans HB5.out.1,heap_setCell_same w5 (sz+1) 2 _ _ _ HB5.out.2⟩;have HL6:Hid (LdR (w5.setCell ⟨sz+1,2,none⟩ (.int .i64 (c:Nat))) A lb xb tp v t3∧Only [xb] w (w5.setCell ⟨sz+1,2,none⟩ (.int .i64 (c:Nat)))):=⟨hL6,hO6⟩;clear q2 f2 hl5 hL6 hO6;generalize w5.setCell ⟨sz+1,2,none⟩ (.int .i64 (c:Nat))=w6 at HB6 HL6 ⊢;have u0:w6.cell? ⟨sz+1,0,none⟩=some (.int .i64 (g:Nat)):=cell_of_row _ _ 0 _ _ _ HB6.out.2;have u1:w6.cell? ⟨sz+1,1,none⟩=some (.int .i64 (k:Nat)):=cell_of_row _ _ 1 _ _ _ HB6.out.2;have u2:w6.cell? ⟨sz+1,2,none⟩=some (.int .i64 (c:Nat)):=cell_of_row _ _ 2 _ _ _ HB6.out.2;have r0:w6.cell? ⟨sz,0,none⟩=some (.int .i64 0):=cell_of_row _ _ 0 _ _ _ HB6.out.1;have r1:w6.cell? ⟨sz,1,none⟩=some (.int .i64 0):=cell_of_row _ _ 1 _ _ _ HB6.out.1;have r2:w6.cell? ⟨sz,2,none⟩=some (.int .i64 0):=cell_of_row _ _ 2 _ _ _ HB6.out.1;have z0:w6.frozen? ⟨sz,0,none⟩=false:=frozen_of_row _ _ _ _ _ HB6.out.1;have z1:w6.frozen? ⟨sz,1,none⟩=false:=frozen_of_row _ _ _ _ _ HB6.out.1;have z2:w6.frozen? ⟨sz,2,none⟩=false:=frozen_of_row _ _ _ _ _ HB6.out.1;have hl1:=(Array.getElem?_eq_some_iff.1 HB6.out.1).1
         go_wp2
         refine bodyPost_ret (v := .agg #[.int .i64 (g:Nat),.int .i64 (k:Nat),.int .i64 (c:Nat)]) (by simp [results,Tryz.results130,go_sem,r0,r1,r2]) rfl (Or.inl ⟨⟨g,k,c⟩,t3,HPG.out,rfl,?_,?_⟩)
         · exact (HRET.out w6 t3 c HL6.out.1 HL6.out.2).2
         · exact (HRET.out w6 t3 c HL6.out.1 HL6.out.2).1
       · have HPG:Hid (pGiven t=none):=by
           show _=_;unfold pGiven;rw [bindP_some HP1.out,bindP_some HP2.out,if_neg hk,bindP_none hp3]
         exact ⟨rfl,Or.inr ⟨HPG.out,rfl,HO4.out.trans o5 (fun _ hk=>Or.inl hk)⟩⟩
   · have HPG:Hid (pGiven t=none):=by
       show _=_;unfold pGiven;rw [bindP_some HP1.out,bindP_none hp2]
     exact ⟨rfl,Or.inr ⟨HPG.out,rfl,HO2.out.trans o3 (fun _ hk=>Or.inl hk)⟩⟩
 · have HPG:Hid (pGiven t=none):=by
     show _=_;unfold pGiven;rw [bindP_none hp1]
   exact ⟨rfl,Or.inr ⟨HPG.out,rfl,(HO0.out.mono (fun _ hk=>by cases hk)).trans o1 (fun _ hk=>Or.inl hk)⟩⟩
theorem numFree_any (w:World)(x:Nmb):Calls Tryz.prog 309 #[nmV x] w fun e w'=>e = .returned (.bool (decide (x.k=0)))∧Only [] w w':=by
 have hd:((x.k:Int)==0)=decide (x.k=0):=by
  by_cases h:x.k=0
  · rw [h];rfl
  · rw [beq_eq_false_iff_ne.2 (show ¬ ((x.k:Int)=0) by omega),decide_eq_false h]
 go_enter Tryz.func309,Tryz.ntmps309
 go_wp2
 go_ret
 exact ⟨by rw [← hd];rfl,(Only.refl [] w).alloc _⟩
def Nmb.bad (x:Nmb):Prop:=x.k=0∧x.g=0
theorem numCheck_any (A:Nat→Addr)(w:World)(x:Nmb)(hE:Errs w A)(hk:x.k≤2):Calls Tryz.prog 225 #[nmV x] w fun e w'=>((x.bad∧e = .returned (eV A 2))∨(¬ x.bad∧e = .returned .nilIface))∧Only [] w w':=by
 have o1:Only [] w (w.alloc (.cells #[.int .i64 (x.g:Nat),.int .i64 (x.k:Nat),.int .i64 (x.c:Nat)] 233)):=(Only.refl [] w).alloc _;have hh:=heap_alloc_last w (.cells #[.int .i64 (x.g:Nat),.int .i64 (x.k:Nat),.int .i64 (x.c:Nat)] 233)
 have HB:Hid (∀ W,Only [] (w.alloc (.cells #[.int .i64 (x.g:Nat),.int .i64 (x.k:Nat),.int .i64 (x.c:Nat)] 233)) W→W.cell? ⟨w.heap.size,0,none⟩=some (.int .i64 (x.g:Nat))∧W.cell? ⟨w.heap.size,1,none⟩=some (.int .i64 (x.k:Nat))∧W.cell? ⟨w.heap.size,2,none⟩=some (.int .i64 (x.c:Nat))∧W.cell? ⟨3,0,none⟩=some (eV A 2)):=fun W ho=>by
   have hb:=(ho.block w.heap.size (Array.getElem?_eq_some_iff.1 hh).1 (by simp)).trans hh;have c2:w.cell? ⟨3,0,none⟩=some (eV A 2):=hE.cell 2 (by decide);exact ⟨cell_of_row _ _ 0 _ _ _ hb,cell_of_row _ _ 1 _ _ _ hb,cell_of_row _ _ 2 _ _ _ hb,((o1.trans ho (fun _ hk=>by cases hk)).cell (lt_of_cell c2) (by simp)).trans c2⟩
 have HO:Hid (Only [] w (w.alloc (.cells #[.int .i64 (x.g:Nat),.int .i64 (x.k:Nat),.int .i64 (x.c:Nat)] 233))):=o1;obtain ⟨y0,y1,y2,y3⟩:=HB.out _ (Only.refl _ _);have hf1:=numFree_any (w.alloc (.cells #[.int .i64 (x.g:Nat),.int .i64 (x.k:Nat),.int .i64 (x.c:Nat)] 233)) x;have HF:Hid (∀ W,Calls Tryz.prog 309 #[nmV x] W fun e w'=>e = .returned (.bool (decide (x.k=0)))∧Only [] W w'):=fun W=>numFree_any W x;have d0:decide ((x.g:Int) < 0)=false:=decide_eq_false (by omega);have d1:decide ((x.c:Int) < 0)=false:=decide_eq_false (by omega);clear hE o1 hh
 by_cases hk0:x.k=0
 · have e0:decide (x.k=0)=true:=decide_eq_true hk0
   rw [e0] at hf1 HF
   by_cases hg0:x.g=0
   · have d2:((x.g:Int)==0)=true:=by rw [hg0];rfl
     have HBD:Hid (x.bad):=⟨hk0,hg0⟩;clear e0 hk0 hg0 hk
     go_enter Tryz.func225,Tryz.ntmps225
     go_wp2_with (go_at_call 309;refine hf1.mono ?_;rintro e w2 ⟨rfl,o2⟩;have HO2:Hid (Only [] (w.alloc (.cells #[.int .i64 (x.g:Nat),.int .i64 (x.k:Nat),.int .i64 (x.c:Nat)] 233)) w2):=o2;clear y0 y1 y2 y3;obtain ⟨y0,y1,y2,y3⟩:=HB.out w2 o2;clear hf1 o2)
     go_ret
     exact ⟨Or.inl ⟨HBD.out,rfl⟩,HO.out.trans HO2.out (fun _ hk=>by cases hk)⟩
   · have d2:((x.g:Int)==0)=false:=beq_eq_false_iff_ne.2 (by omega)
     have HBD:Hid (¬ x.bad):=fun h=>hg0 h.2;clear e0 hk0 hg0 hk
     go_enter Tryz.func225,Tryz.ntmps225
     go_wp2_with (first
      | (go_at_call 309;refine hf1.mono ?_;rintro e w2 ⟨rfl,o2⟩;have HO2:Hid (Only [] (w.alloc (.cells #[.int .i64 (x.g:Nat),.int .i64 (x.k:Nat),.int .i64 (x.c:Nat)] 233)) w2):=o2;clear y0 y1 y2 y3;obtain ⟨y0,y1,y2,y3⟩:=HB.out w2 o2;have hf2:=HF.out w2;clear hf1 o2)
      | (go_at_call 309;refine hf2.mono ?_;rintro e w3 ⟨rfl,o3⟩;have HO3:Hid (Only [] (w.alloc (.cells #[.int .i64 (x.g:Nat),.int .i64 (x.k:Nat),.int .i64 (x.c:Nat)] 233)) w3):=HO2.out.trans o3 (fun _ hk=>by cases hk);clear hf2 o3))
     go_ret
     exact ⟨Or.inr ⟨HBD.out,rfl⟩,HO.out.trans HO3.out (fun _ hk=>by cases hk)⟩
 · have e0:decide (x.k=0)=false:=decide_eq_false hk0
   rw [e0] at hf1 HF;have HBD:Hid (¬ x.bad):=fun h=>hk0 h.1
   have hk12:x.k=1∨x.k=2:=by omega
   rcases hk12 with hk1 | hk1
   · have d2:((x.k:Int) != 1)=false:=by rw [hk1];rfl
     clear e0 hk0 hk hk1
     go_enter Tryz.func225,Tryz.ntmps225
     go_wp2_with (first
      | (go_at_call 309;refine hf1.mono ?_;rintro e w2 ⟨rfl,o2⟩;have HO2:Hid (Only [] (w.alloc (.cells #[.int .i64 (x.g:Nat),.int .i64 (x.k:Nat),.int .i64 (x.c:Nat)] 233)) w2):=o2;clear y0 y1 y2 y3;obtain ⟨y0,y1,y2,y3⟩:=HB.out w2 o2;have hf2:=HF.out w2;clear hf1 o2)
      | (go_at_call 309;refine hf2.mono ?_;rintro e w3 ⟨rfl,o3⟩;have HO3:Hid (Only [] (w.alloc (.cells #[.int .i64 (x.g:Nat),.int .i64 (x.k:Nat),.int .i64 (x.c:Nat)] 233)) w3):=HO2.out.trans o3 (fun _ hk=>by cases hk);clear y0 y1 y2 y3;obtain ⟨y0,y1,y2,y3⟩:=HB.out w3 HO3.out;clear hf2 o3))
     go_ret
     exact ⟨Or.inr ⟨HBD.out,rfl⟩,HO.out.trans HO3.out (fun _ hk=>by cases hk)⟩
   · have d2:((x.k:Int) != 1)=true:=by rw [hk1];rfl
     have d3:((x.k:Int) != 2)=false:=by rw [hk1];rfl
     clear e0 hk0 hk hk1
     go_enter Tryz.func225,Tryz.ntmps225
     go_wp2_with (first
      | (go_at_call 309;refine hf1.mono ?_;rintro e w2 ⟨rfl,o2⟩;have HO2:Hid (Only [] (w.alloc (.cells #[.int .i64 (x.g:Nat),.int .i64 (x.k:Nat),.int .i64 (x.c:Nat)] 233)) w2):=o2;clear y0 y1 y2 y3;obtain ⟨y0,y1,y2,y3⟩:=HB.out w2 o2;have hf2:=HF.out w2;clear hf1 o2)
      | (go_at_call 309;refine hf2.mono ?_;rintro e w3 ⟨rfl,o3⟩;have HO3:Hid (Only [] (w.alloc (.cells #[.int .i64 (x.g:Nat),.int .i64 (x.k:Nat),.int .i64 (x.c:Nat)] 233)) w3):=HO2.out.trans o3 (fun _ hk=>by cases hk);clear y0 y1 y2 y3;obtain ⟨y0,y1,y2,y3⟩:=HB.out w3 HO3.out;clear hf2 o3))
     go_ret
     exact ⟨Or.inr ⟨HBD.out,rfl⟩,HO.out.trans HO3.out (fun _ hk=>by cases hk)⟩
def resNod (b:Nat)(x:Nmb):Nod:={ newNod b (x.k:Int) with C:=(x.c:Int) }
def placeN (x:Nmb)(b:Nat):Option Nod:=if x.k=0 then none else some (resNod b x)
theorem resNod_at (w:World)(x:Nmb):NodAt (w.alloc (.cells #[.int .i64 (x.k:Nat),.int .i64 0,.int .i64 0,.int .i64 (x.c:Nat),.int .i64 0,.int .i64 0,.int .i64 0,.map none] 375)) (resNod w.heap.size x):=by
 have hh:=heap_alloc_last w (.cells #[.int .i64 (x.k:Nat),.int .i64 0,.int .i64 0,.int .i64 (x.c:Nat),.int .i64 0,.int .i64 0,.int .i64 0,.map none] 375);refine ⟨cell_of_row _ _ 0 _ _ _ hh,cell_of_row _ _ 1 _ _ _ hh,cell_of_row _ _ 2 _ _ _ hh,cell_of_row _ _ 3 _ _ _ hh,cell_of_row _ _ 4 _ _ _ hh,cell_of_row _ _ 5 _ _ _ hh,cell_of_row _ _ 6 _ _ _ hh,cell_of_row _ _ 7 _ _ _ hh,fun k=>?_,⟨_,_,hh⟩,_,Same.start,rfl⟩;exact frozen_of_row _ _ _ _ _ hh
theorem numPlace_any (w:World)(x:Nmb):Calls Tryz.prog 226 #[nmV x] w fun e w'=>∃ b,e = .returned (.agg #[.int .i64 (x.g:Nat),.pointer ((placeN x b).map (fun n=>⟨n.b,0,none⟩))])∧Only [] w w'∧w.heap.size≤b∧∀ n,placeN x b=some n→NodAt w' n∧n=resNod b x:=by
 have o2:Only [] w ((w.alloc (.cells #[.int .i64 (x.g:Nat),.int .i64 (x.k:Nat),.int .i64 (x.c:Nat)] 233)).alloc (.cells #[.int .i64 0,.pointer none] 180)):=((Only.refl [] w).alloc _).alloc _
 have hh1:((w.alloc (.cells #[.int .i64 (x.g:Nat),.int .i64 (x.k:Nat),.int .i64 (x.c:Nat)] 233)).alloc (.cells #[.int .i64 0,.pointer none] 180)).heap[w.heap.size+1]?=some (.cells #[.int .i64 0,.pointer none] 180 (0,0)):=by
   have:=heap_alloc_last (w.alloc (.cells #[.int .i64 (x.g:Nat),.int .i64 (x.k:Nat),.int .i64 (x.c:Nat)] 233)) (.cells #[.int .i64 0,.pointer none] 180);rw [World.size_alloc] at this;exact this
 have hh0:((w.alloc (.cells #[.int .i64 (x.g:Nat),.int .i64 (x.k:Nat),.int .i64 (x.c:Nat)] 233)).alloc (.cells #[.int .i64 0,.pointer none] 180)).heap[w.heap.size]?=some (.cells #[.int .i64 (x.g:Nat),.int .i64 (x.k:Nat),.int .i64 (x.c:Nat)] 233 (0,0)) :=
   (((Only.refl [] (w.alloc (.cells #[.int .i64 (x.g:Nat),.int .i64 (x.k:Nat),.int .i64 (x.c:Nat)] 233))).alloc _).block w.heap.size (by simp) (by simp)).trans (heap_alloc_last w _)
 have hf:=numFree_any ((w.alloc (.cells #[.int .i64 (x.g:Nat),.int .i64 (x.k:Nat),.int .i64 (x.c:Nat)] 233)).alloc (.cells #[.int .i64 0,.pointer none] 180)) x;generalize hw0:(w.alloc (.cells #[.int .i64 (x.g:Nat),.int .i64 (x.k:Nat),.int .i64 (x.c:Nat)] 233)).alloc (.cells #[.int .i64 0,.pointer none] 180)=w0 at o2 hh0 hh1 hf;obtain ⟨sz,hsz⟩:∃ sz,w.heap.size=sz:=⟨_,rfl⟩;have HSZ:Hid (w.heap.size=sz):=hsz;rw [hsz] at hh0 hh1;have HO0:Hid (Only [] w w0):=o2;have HB0:Hid (∀ W,Only [] w0 W→W.heap[sz]?=some (.cells #[.int .i64 (x.g:Nat),.int .i64 (x.k:Nat),.int .i64 (x.c:Nat)] 233 (0,0))∧W.heap[sz+1]?=some (.cells #[.int .i64 0,.pointer none] 180 (0,0))):=fun W ho=>⟨(ho.block sz (Array.getElem?_eq_some_iff.1 hh0).1 (by simp)).trans hh0,(ho.block (sz+1) (Array.getElem?_eq_some_iff.1 hh1).1 (by simp)).trans hh1⟩;have x0:w0.cell? ⟨sz,0,none⟩=some (.int .i64 (x.g:Nat)):=cell_of_row _ _ 0 _ _ _ hh0;have x1:w0.cell? ⟨sz,1,none⟩=some (.int .i64 (x.k:Nat)):=cell_of_row _ _ 1 _ _ _ hh0;have x2:w0.cell? ⟨sz,2,none⟩=some (.int .i64 (x.c:Nat)):=cell_of_row _ _ 2 _ _ _ hh0;clear o2 hh0 hh1
 go_enter Tryz.func226,Tryz.ntmps226
 go_upto_region 1 with fail
 clear hw0 hsz
 by_cases hk:x.k=0
 · have e0:decide (x.k=0)=true:=decide_eq_true hk
   rw [e0] at hf;have HPN:Hid (∀ b,placeN x b=none):=fun b=>if_pos hk;clear e0 hk
   go_wp2_with (go_at_call 309;refine hf.mono ?_;rintro e w2 ⟨rfl,o2⟩;have HO2:Hid (Only [] w0 w2):=o2;obtain ⟨b0,b1⟩:=HB0.out w2 o2;have y0:w2.cell? ⟨sz,0,none⟩=some (.int .i64 (x.g:Nat)):=cell_of_row _ _ 0 _ _ _ b0;have r0:w2.cell? ⟨sz+1,0,none⟩=some (.int .i64 0):=cell_of_row _ _ 0 _ _ _ b1;have r1:w2.cell? ⟨sz+1,1,none⟩=some (.pointer none):=cell_of_row _ _ 1 _ _ _ b1;have z0:w2.frozen? ⟨sz+1,0,none⟩=false:=frozen_of_row _ _ _ _ _ b1;have z1:w2.frozen? ⟨sz+1,1,none⟩=false:=frozen_of_row _ _ _ _ _ b1;have hl:=(Array.getElem?_eq_some_iff.1 b1).1;clear hf o2 b0 b1 x0 x1 x2)
   refine bodyPost_ret (v := .agg #[.int .i64 (x.g:Nat),.pointer none]) (by simp [results,Tryz.results226,go_sem,r0,r1]) rfl ⟨w.heap.size,by rw [HPN.out];rfl,?_,Nat.le_refl _,fun n hn=>by rw [HPN.out] at hn;cases hn⟩;exact (((HO0.out.trans HO2.out (fun _ hk=>by cases hk)).setCell (p:=⟨sz+1,0,none⟩) (Or.inr (by show w.heap.size≤sz+1;rw [HSZ.out];omega)) _).setCell (p:=⟨sz+1,1,none⟩) (Or.inr (by show w.heap.size≤sz+1;rw [HSZ.out];omega)) _)
 · have e0:decide (x.k=0)=false:=decide_eq_false hk
   rw [e0] at hf;have HPN:Hid (∀ b,placeN x b=some (resNod b x)):=fun b=>if_neg hk;clear e0 hk
   go_wp2_with (go_at_call 309;refine hf.mono ?_;rintro e w2 ⟨rfl,o2⟩;have HO2:Hid (Only [] w0 w2):=o2;obtain ⟨b0,b1⟩:=HB0.out w2 o2;have y0:w2.cell? ⟨sz,0,none⟩=some (.int .i64 (x.g:Nat)):=cell_of_row _ _ 0 _ _ _ b0;have y1:w2.cell? ⟨sz,1,none⟩=some (.int .i64 (x.k:Nat)):=cell_of_row _ _ 1 _ _ _ b0;have y2:w2.cell? ⟨sz,2,none⟩=some (.int .i64 (x.c:Nat)):=cell_of_row _ _ 2 _ _ _ b0;have r0:w2.cell? ⟨sz+1,0,none⟩=some (.int .i64 0):=cell_of_row _ _ 0 _ _ _ b1;have r1:w2.cell? ⟨sz+1,1,none⟩=some (.pointer none):=cell_of_row _ _ 1 _ _ _ b1;have z0:w2.frozen? ⟨sz+1,0,none⟩=false:=frozen_of_row _ _ _ _ _ b1;have z1:w2.frozen? ⟨sz+1,1,none⟩=false:=frozen_of_row _ _ _ _ _ b1;have hl:=(Array.getElem?_eq_some_iff.1 b1).1;clear hf o2 b0 b1 x0 x1 x2)
   have hs2:w.heap.size≤w2.heap.size:=Nat.le_trans HO0.out.size HO2.out.size;have hON:Only [] w (w2.alloc (.cells #[.int .i64 (x.k:Nat),.int .i64 0,.int .i64 0,.int .i64 (x.c:Nat),.int .i64 0,.int .i64 0,.int .i64 0,.map none] 375)):=(HO0.out.trans HO2.out (fun _ hk=>by cases hk)).alloc _;have hNA:=resNod_at w2 x
   have hne:sz+1≠w2.heap.size:=by omega
   have e1:((w2.setCell ⟨sz+1,0,none⟩ (.int .i64 (x.g:Nat))).setCell ⟨sz+1,1,none⟩ (.pointer (some ⟨w2.heap.size,0,none⟩))).alloc (.cells #[.int .i64 (x.k:Nat),.int .i64 0,.int .i64 0,.int .i64 (x.c:Nat),.int .i64 0,.int .i64 0,.int .i64 0,.map none] 375)=((w2.alloc (.cells #[.int .i64 (x.k:Nat),.int .i64 0,.int .i64 0,.int .i64 (x.c:Nat),.int .i64 0,.int .i64 0,.int .i64 0,.map none] 375)).setCell ⟨sz+1,0,none⟩ (.int .i64 (x.g:Nat))).setCell ⟨sz+1,1,none⟩ (.pointer (some ⟨w2.heap.size,0,none⟩)):=by
     rw [World.setCell_alloc_past (w:=w2) _ (sz+1) _ _ hl,World.setCell_alloc_past (w:=w2.setCell _ _) _ (sz+1) _ _ (by simpa using hl)]
   have hfin:Only [] w (((w2.alloc (.cells #[.int .i64 (x.k:Nat),.int .i64 0,.int .i64 0,.int .i64 (x.c:Nat),.int .i64 0,.int .i64 0,.int .i64 0,.map none] 375)).setCell ⟨sz+1,0,none⟩ (.int .i64 (x.g:Nat))).setCell ⟨sz+1,1,none⟩ (.pointer (some ⟨w2.heap.size,0,none⟩))):=(hON.setCell (p:=⟨sz+1,0,none⟩) (Or.inr (by show w.heap.size≤sz+1;rw [HSZ.out];omega)) _).setCell (p:=⟨sz+1,1,none⟩) (Or.inr (by show w.heap.size≤sz+1;rw [HSZ.out];omega)) _;have hOS:Only [sz+1] (w2.alloc (.cells #[.int .i64 (x.k:Nat),.int .i64 0,.int .i64 0,.int .i64 (x.c:Nat),.int .i64 0,.int .i64 0,.int .i64 0,.map none] 375)) (((w2.alloc (.cells #[.int .i64 (x.k:Nat),.int .i64 0,.int .i64 0,.int .i64 (x.c:Nat),.int .i64 0,.int .i64 0,.int .i64 0,.map none] 375)).setCell ⟨sz+1,0,none⟩ (.int .i64 (x.g:Nat))).setCell ⟨sz+1,1,none⟩ (.pointer (some ⟨w2.heap.size,0,none⟩))):=((Only.refl [sz+1] _).setCell (p:=⟨sz+1,0,none⟩) (Or.inl (by simp)) _).setCell (p:=⟨sz+1,1,none⟩) (Or.inl (by simp)) _
   have hNF:NodAt (((w2.alloc (.cells #[.int .i64 (x.k:Nat),.int .i64 0,.int .i64 0,.int .i64 (x.c:Nat),.int .i64 0,.int .i64 0,.int .i64 0,.map none] 375)).setCell ⟨sz+1,0,none⟩ (.int .i64 (x.g:Nat))).setCell ⟨sz+1,1,none⟩ (.pointer (some ⟨w2.heap.size,0,none⟩))) (resNod w2.heap.size x):=hNA.kept hOS (fun k hk hm=>by
     have e2:k=w2.heap.size:=by
      have:(resNod w2.heap.size x).foot=[w2.heap.size]:=rfl;rw [this] at hk
      simpa using hk
     rw [e2] at hm
     exact hne (List.mem_singleton.1 hm).symm)
   have r0':(w2.alloc (.cells #[.int .i64 (x.k:Nat),.int .i64 0,.int .i64 0,.int .i64 (x.c:Nat),.int .i64 0,.int .i64 0,.int .i64 0,.map none] 375)).cell? ⟨sz+1,0,none⟩=some (.int .i64 0):=(((Only.refl [] w2).alloc _).cell (p:=⟨sz+1,0,none⟩) hl (by simp)).trans r0;have r1':(w2.alloc (.cells #[.int .i64 (x.k:Nat),.int .i64 0,.int .i64 0,.int .i64 (x.c:Nat),.int .i64 0,.int .i64 0,.int .i64 0,.map none] 375)).cell? ⟨sz+1,1,none⟩=some (.pointer none):=(((Only.refl [] w2).alloc _).cell (p:=⟨sz+1,1,none⟩) hl (by simp)).trans r1
   try rw [e1]
   refine bodyPost_ret (v := .agg #[.int .i64 (x.g:Nat),.pointer (some ⟨w2.heap.size,0,none⟩)]) (by simp [results,Tryz.results226,go_sem,r0',r1']) rfl ⟨w2.heap.size,by rw [HPN.out];rfl,?_,hs2,fun n hn=>?_⟩
   · exact hfin
   · rw [HPN.out] at hn
     simp only [Option.some.injEq] at hn;subst hn;exact ⟨hNF,rfl⟩
theorem TabAt.app {w w1:World}{t most b cap gx:Nat}{p:Row}{g:Nat→Nat}{nd:Nat→Option Nod}{pn:Option Nod}(h:TabAt w t p most g nd)(ho:Only p.a.toList w w1)(hr:w1.ownsRow 0 180 2 (.slice (some ⟨b,0,none⟩) (p.N+1) cap) (p.N+1) (rowOf placeCells (places p.N g nd)++placeCells (gx,pn)))
   (hb:p.a=some b∨w.heap.size≤b) (hn:∀ n,pn=some n→NodAt w1 n∧∀ k∈n.foot,w.heap.size≤k∧k≠b):TabAt (w1.setCell ⟨t,1,none⟩ (.slice (some ⟨b,0,none⟩) (p.N+1) cap)) t ⟨some b,p.N+1,cap⟩ most (setN g p.N gx) (setN nd p.N pn)∧Only (t::p.a.toList) w (w1.setCell ⟨t,1,none⟩ (.slice (some ⟨b,0,none⟩) (p.N+1) cap)):=by
 have ht:=h.tlt;have htp:t∉p.a.toList:=fun hm=>h.pt (by simpa using hm)
 have hbt:b≠t:=by
   rcases hb with h1 | h1
   · exact fun e=>h.pt (by rw [h1,e])
   · omega
 have o2:Only (t::p.a.toList) w (w1.setCell ⟨t,1,none⟩ (.slice (some ⟨b,0,none⟩) (p.N+1) cap)):=(ho.mono (L':=t::p.a.toList) (fun i hi=>Or.inl (List.mem_cons_of_mem _ hi))).setCell (Or.inl (by simp)) _;have o1t:Only [t] w1 (w1.setCell ⟨t,1,none⟩ (.slice (some ⟨b,0,none⟩) (p.N+1) cap)):=(Only.refl [t] w1).setCell (p:=⟨t,1,none⟩) (Or.inl (by simp)) _;have c1:=(ho.cell (p:=⟨t,1,none⟩) ht htp).trans h.tab
 have hfoot:∀ i n,nd i=some n→∀ k∈n.foot,k∉t::p.a.toList:=fun i n hn k hk hm=>by
   obtain ⟨o1,o2⟩:=h.own i n hn;rcases List.mem_cons.1 hm with rfl | hm
   · exact o1 hk
   · exact o2 k (by simpa using hm) hk
 have old:∀ j n,j≠p.N→setN nd p.N pn j=some n→nd j=some n:=fun j n hne e=>by rw [setN_other _ _ hne] at e;exact e
 have hlt:∀ j n,nd j=some n→∀ k∈n.foot,k < w.heap.size:=fun j n e=>(h.node j n e).foot_lt;refine ⟨⟨?_,World.cell?_setCell_same _ _ _ c1,fun o=>?_,(h.ty.only ho htp).set _ _,?_,fun i hi=>?_,by simpa using hbt,fun i n e=>?_,fun i j n n' e e' hij=>?_,fun i n e=>?_⟩,o2⟩
 · rw [World.cell?_setCell_other _ _ _ _ (by simp)]
   exact (ho.cell (p:=⟨t,0,none⟩) ht htp).trans h.most
 · rw [World.frozen?_setCell]
   exact (ho.frozen (p:=⟨t,o,none⟩) ht htp).trans (h.tfz o)
 · have e1:places (p.N+1) (setN g p.N gx) (setN nd p.N pn)=places p.N g nd++[(gx,pn)]:=by
     rw [places_more,setN_same,setN_same];congr 1;exact places_congr (fun i hi=>setN_other _ _ (by omega)) (fun i hi=>setN_other _ _ (by omega))
   show World.ownsRow _ 0 _ 2 _ (p.N+1) (rowOf placeCells (places (p.N+1) _ _));rw [e1,rowOf_append,rowOf_single];exact o1t.owns hr (fun k hk=>by have e:b=k:=Option.some.inj ((Row.own ⟨some b,p.N+1,cap⟩).symm.trans hk);subst e;simpa using hbt)
 · have hi':p.N+1≤i:=hi
   rw [setN_other _ _ (by omega),setN_other _ _ (by omega)];exact h.out i (by omega)
 · by_cases hiN:i=p.N
   · subst hiN
     rw [setN_same] at e
     exact (hn n e).1.kept o1t (fun k hk hm=>by
       have:=((hn n e).2 k hk).1;rw [List.mem_singleton.1 hm] at this
       omega)
   · exact (h.node i n (old i n hiN e)).kept o2 (hfoot i n (old i n hiN e))
 · by_cases hiN:i=p.N
   · subst hiN
     rw [setN_same] at e;intro k hk hk';have h1:=((hn n e).2 k hk).1;have h2:=hlt j n' (old j n' (Ne.symm hij) e') k hk';omega
   · by_cases hjN:j=p.N
     · subst hjN
       rw [setN_same] at e';intro k hk hk';have h1:=((hn n' e').2 k hk').1;have h2:=hlt i n (old i n hiN e) k hk;omega
     · exact h.apart i j n n' (old i n hiN e) (old j n' hjN e') hij
 · by_cases hiN:i=p.N
   · subst hiN
     rw [setN_same] at e;refine ⟨fun hk=>by have:=((hn n e).2 t hk).1;omega,fun b' hb' hk=>?_⟩;simp only [Option.some.injEq] at hb';exact ((hn n e).2 b' hk).2 hb'.symm
   · refine ⟨(h.own i n (old i n hiN e)).1,fun b' hb' hk=>?_⟩
     simp only [Option.some.injEq] at hb';subst hb';rcases hb with h1 | h1
     · exact (h.own i n (old i n hiN e)).2 b h1 hk
     · have:=hlt i n (old i n hiN e) b hk
       omega
end
end Go.Proofs.YtmnidbnaneagjaaGreatDoor
