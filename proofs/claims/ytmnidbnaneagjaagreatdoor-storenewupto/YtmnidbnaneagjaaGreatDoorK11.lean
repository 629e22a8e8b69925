import Derived.Test.YtmnidbnaneagjaaGreatDoorK9
import Derived.Test.YtmnidbnaneagjaaGreatDoorK10
import Derived.Laws.OwnMore
import Derived.BigQuiet
import Derived.Deep.QuietTactic
import Derived.OwnWalk
import Derived.Deep.AppendLies
set_option maxRecDepth 100000
set_option maxHeartbeats 8000000
namespace Go.Proofs.YtmnidbnaneagjaaGreatDoor
section
open Go Go.RowKit Go.Deep Go.Maps
structure NodAt (w:World)(n:Nod):Prop where
 c0:w.cell? ⟨n.b,0,none⟩=some (.int .i64 n.K)
 c1:w.cell? ⟨n.b,1,none⟩=some (.int .i64 n.Z)
 c2:w.cell? ⟨n.b,2,none⟩=some (.int .i64 n.L)
 c3:w.cell? ⟨n.b,3,none⟩=some (.int .i64 n.C)
 c4:w.cell? ⟨n.b,4,none⟩=some (.int .i64 n.UN)
 c5:w.cell? ⟨n.b,5,none⟩=some (.int .i64 n.UG)
 d:DataO w n.b 6 n.S n.H n.m
def Nod.foot (n:Nod):List Nat:=footD n.b n.m
theorem Nod.b_foot (n:Nod):n.b∈n.foot:=List.mem_cons_self ..
theorem NodAt.foot_lt {w:World}{n:Nod}(h:NodAt w n):∀ k∈n.foot,k < w.heap.size:=h.d.foot_lt
theorem NodAt.kept {w w':World}{n:Nod}{L:List Nat}(h:NodAt w n)(ho:Only L w w')(hd:∀ k∈n.foot,k∉L):NodAt w' n:=by
 have hb:n.b < w.heap.size:=lt_of_cell h.c0;have hn:n.b∉L:=hd _ n.b_foot
 exact ⟨(ho.cell (p:=⟨n.b,0,none⟩) hb hn).trans h.c0,(ho.cell (p:=⟨n.b,1,none⟩) hb hn).trans h.c1,(ho.cell (p:=⟨n.b,2,none⟩) hb hn).trans h.c2,(ho.cell (p:=⟨n.b,3,none⟩) hb hn).trans h.c3,
  (ho.cell (p:=⟨n.b,4,none⟩) hb hn).trans h.c4,(ho.cell (p:=⟨n.b,5,none⟩) hb hn).trans h.c5,h.d.kept ho hd⟩
structure Row where
 a:Option Nat
 N:Nat
 cap:Nat
def Row.v (p:Row):Value := .slice (p.a.map (fun b=>⟨b,0,none⟩)) p.N p.cap
theorem Row.own (p:Row):p.v.ownBlock=p.a:=by obtain ⟨a,N,cap⟩:=p;cases a<;>rfl
def placeCells (x:Nat×Option Nod):List Value:=[.int .i64 (x.1:Nat),.pointer (x.2.map (fun n=>⟨n.b,0,none⟩))]
theorem placeCells_len (x:Nat×Option Nod):(placeCells x).length=2:=rfl
def places (N:Nat)(g:Nat→Nat)(nd:Nat→Option Nod):List (Nat×Option Nod):=(List.range N).map (fun i=>(g i,nd i))
theorem places_len (N:Nat)(g:Nat→Nat)(nd:Nat→Option Nod):(places N g nd).length=N:=by simp [places]
theorem places_get {N i:Nat}(g:Nat→Nat)(nd:Nat→Option Nod)(h:i < N):(places N g nd)[i]?=some (g i,nd i):=by simp [places,h]
theorem places_congr {N:Nat}{g g':Nat→Nat}{nd nd':Nat→Option Nod}(hg:∀ i,i < N→g i=g' i)(hn:∀ i,i < N→nd i=nd' i):places N g nd=places N g' nd':=by
 unfold places;refine List.map_congr_left fun i hi=>?_;rw [List.mem_range] at hi;rw [hg i hi,hn i hi]
theorem places_set {N i:Nat}{g g':Nat→Nat}{nd nd':Nat→Option Nod}(hg:∀ j,j≠i→g' j=g j)(hn:∀ j,j≠i→nd' j=nd j):(places N g nd).set i (g' i,nd' i)=places N g' nd':=by
 apply List.ext_getElem?;intro j;rw [List.getElem?_set]
 by_cases hj:i=j
 · subst hj
   rw [if_pos rfl,places_len]
   by_cases h:i < N
   · rw [if_pos h,places_get _ _ h]
   · rw [if_neg h,List.getElem?_eq_none (by rw [places_len];omega)]
 · rw [if_neg hj]
   by_cases h:j < N
   · rw [places_get _ _ h,places_get _ _ h,hg j (Ne.symm hj),hn j (Ne.symm hj)]
   · rw [List.getElem?_eq_none (by rw [places_len];omega),List.getElem?_eq_none (by rw [places_len];omega)]
structure TabAt (w:World)(t:Nat)(p:Row)(most:Nat)(g:Nat→Nat)(nd:Nat→Option Nod):Prop where
 most:w.cell? ⟨t,0,none⟩=some (.int .i64 most)
 tab:w.cell? ⟨t,1,none⟩=some p.v
 tfz:∀ o,w.frozen? ⟨t,o,none⟩=false
 ty:Ty w t 177
 row:w.ownsRow 0 180 2 p.v p.N (rowOf placeCells (places p.N g nd))
 out:∀ i,p.N≤i→g i=0∧nd i=none
 pt:p.a≠some t
 node:∀ i n,nd i=some n→NodAt w n
 apart:∀ i j n n',nd i=some n→nd j=some n'→i≠j→∀ k∈n.foot,k∉n'.foot
 own:∀ i n,nd i=some n→t∉n.foot∧∀ b,p.a=some b→b∉n.foot
def InFoot (t:Nat)(p:Row)(_most:Nat)(nd:Nat→Option Nod)(k:Nat):Prop:=k=t∨p.a=some k∨∃ i n,nd i=some n∧k∈n.foot
section
variable {w w':World}{t most:Nat}{p p':Row}{g:Nat→Nat}{nd:Nat→Option Nod}
theorem InFoot.node {i:Nat}{n:Nod}(h:nd i=some n){k:Nat}(hk:k∈n.foot):InFoot t p most nd k:=Or.inr (Or.inr ⟨i,n,h,hk⟩)
theorem TabAt.tlt (h:TabAt w t p most g nd):t < w.heap.size:=lt_of_cell h.tab
theorem TabAt.plt (h:TabAt w t p most g nd){b:Nat}(hb:p.a=some b):b < w.heap.size:=(h.row.lt b (by rw [p.own,hb])).2
theorem TabAt.lt (h:TabAt w t p most g nd){i:Nat}{n:Nod}(hn:nd i=some n):i < p.N:=by
 rcases Nat.lt_or_ge i p.N with h1 | h1
 · exact h1
 · rw [(h.out i h1).2] at hn;cases hn
theorem TabAt.place_at (h:TabAt w t p most g nd){i:Nat}(hi:i < p.N):∃ b,p.a=some b∧w.cell? ⟨b,i*2,none⟩=some (.int .i64 (g i:Nat))∧w.cell? ⟨b,i*2+1,none⟩=some (.pointer ((nd i).map (fun n=>⟨n.b,0,none⟩)))∧(∀ o,w.frozen? ⟨b,o,none⟩=false)∧b < w.heap.size:=by
 have hr:=h.row;have hl:=fun b=>h.plt (b:=b);obtain ⟨a,N,cap⟩:=p;simp only [Row.v] at hr hi hl
 cases a with
 | none =>
  rcases hr.2 with ⟨h1,h2⟩ | ⟨b,cap',cur,h1,_⟩
  · omega
  · simp at h1
 | some b =>
  simp only [Option.map_some] at hr;refine ⟨b,rfl,?_,?_,fun o=>hr.frozenAt o,hl b rfl⟩
  · rw [hr.cellAt _ (by omega)]
    have:=rowOf_get placeCells_len _ i 0 _ (by decide) (places_get g nd hi)
    simpa [placeCells] using this
  · rw [hr.cellAt _ (by omega),rowOf_get placeCells_len _ i 1 _ (by decide) (places_get g nd hi)]
    rfl
theorem TabAt.foot_lt (h:TabAt w t p most g nd):∀ k,InFoot t p most nd k→k < w.heap.size:=by
 rintro k (rfl | hk | ⟨i,n,hn,hk⟩)
 · exact h.tlt
 · exact h.plt hk
 · exact (h.node i n hn).foot_lt k hk
theorem TabAt.kept {L:List Nat}(h:TabAt w t p most g nd)(ho:Only L w w')(hd:∀ k,InFoot t p most nd k→k∉L):TabAt w' t p most g nd:=by
 have htl:t∉L:=hd t (Or.inl rfl)
 exact ⟨(ho.cell (p:=⟨t,0,none⟩) h.tlt htl).trans h.most,(ho.cell (p:=⟨t,1,none⟩) h.tlt htl).trans h.tab,fun o=>(ho.frozen (p:=⟨t,o,none⟩) h.tlt htl).trans (h.tfz o),h.ty.only ho htl,
  ho.owns h.row (fun k hk=>hd k (Or.inr (Or.inl (by rw [← p.own];exact hk)))),h.out,h.pt,fun i n hn=>(h.node i n hn).kept ho (fun k hk=>hd k (.node hn hk)),h.apart,h.own⟩
theorem TabAt.place {g':Nat→Nat}{nd':Nat→Option Nod}{i b:Nat}(h:TabAt w t p most g nd)(hb:p.a=some b)(hi:i < p.N)(ho:Only [b] w w')(hr:w'.ownsRow 0 180 2 p.v p.N (rowOf placeCells ((places p.N g nd).set i (g' i,nd' i))))(hg:∀ j,j≠i→g' j=g j)(hn:∀ j,j≠i→nd' j=nd j)
   (hnew:∀ n,nd' i=some n→NodAt w' n∧∀ k∈n.foot,w.heap.size≤k):TabAt w' t p most g' nd':=by
 have ht:t < w.heap.size:=h.tlt
 have htb:t∉[b]:=by
   have:=h.pt;rw [hb] at this
   simpa using fun e:t=b=>this (by rw [e])
 have old:∀ j n,j≠i→nd' j=some n→nd j=some n:=fun j n hne e=>by rw [hn j hne] at e;exact e
 have hlt:∀ j n,j≠i→nd' j=some n→∀ k∈n.foot,k < w.heap.size:=fun j n hne e=>(h.node j n (old j n hne e)).foot_lt;rw [places_set hg hn] at hr;refine ⟨(ho.cell (p:=⟨t,0,none⟩) ht htb).trans h.most,(ho.cell (p:=⟨t,1,none⟩) ht htb).trans h.tab,fun o=>(ho.frozen (p:=⟨t,o,none⟩) ht htb).trans (h.tfz o),h.ty.only ho htb,hr,fun j hj=>?_,h.pt,fun j n e=>?_,fun j j' n n' e e' hne=>?_,fun j n e=>?_⟩
 · rw [hg j (by omega),hn j (by omega)]
   exact h.out j hj
 · by_cases hji:j=i
   · subst hji;exact (hnew n e).1
   · exact (h.node j n (old j n hji e)).kept ho (fun k hk hm=>by simp at hm;subst hm;exact (h.own j n (old j n hji e)).2 k hb hk)
 · by_cases hji:j=i
   · subst hji
     intro k hk hk';have h1:=(hnew n e).2 k hk;have h2:=hlt j' n' (Ne.symm hne) e' k hk';omega
   · by_cases hji':j'=i
     · subst hji'
       intro k hk hk';have h1:=(hnew n' e').2 k hk';have h2:=hlt j n hji e k hk;omega
     · exact h.apart j j' n n' (old j n hji e) (old j' n' hji' e') hne
 · by_cases hji:j=i
   · subst hji
     have h1:=(hnew n e).2;exact ⟨fun hk=>by have:=h1 t hk;omega,fun b' hb' hk=>by have:=h1 b' hk;have:=h.plt hb';omega⟩
   · exact h.own j n (old j n hji e)
theorem TabAt.turn {i:Nat}{n n':Nod}(h:TabAt w t p most g nd)(hnd:nd i=some n)(hb:n'.b=n.b)(hn:NodAt w' n')(ho:Only n.foot w w')(hsub:∀ k∈n'.foot,k∈n.foot∨w.heap.size≤k):TabAt w' t p most g (setN nd i (some n')):=by
 have ht:t < w.heap.size:=h.tlt;obtain ⟨ot,op⟩:=h.own i n hnd;have hi:=h.lt hnd
 have old:∀ j m,j≠i→setN nd i (some n') j=some m→nd j=some m:=fun j m hne e=>by rw [setN_other _ _ hne] at e;exact e
 refine ⟨(ho.cell (p:=⟨t,0,none⟩) ht ot).trans h.most,(ho.cell (p:=⟨t,1,none⟩) ht ot).trans h.tab,fun o=>(ho.frozen (p:=⟨t,o,none⟩) ht ot).trans (h.tfz o),h.ty.only ho ot,?_,fun j hj=>?_,h.pt,fun j m e=>?_,fun j j' m m' e e' hne=>?_,fun j m e=>?_⟩
 · have hr:=ho.owns h.row (fun k hk=>op k (by rw [← p.own];exact hk))
   have e:rowOf placeCells (places p.N g nd)=rowOf placeCells (places p.N g (setN nd i (some n'))):=by
     rw [← places_set (g:=g) (g':=g) (nd:=nd) (nd':=setN nd i (some n')) (i:=i) (fun _ _=>rfl) (fun j hj=>setN_other _ _ hj)];have hs:=rowOf_set placeCells_len (places p.N g nd) i 0 (g i,nd i) (g i,setN nd i (some n') i) (.int .i64 (g i:Nat)) (by decide) (places_get g nd hi) (by simp [placeCells,setN_same,hnd,hb]);rw [← hs]
     symm
     apply List.ext_getElem?;intro k;rw [List.getElem?_set]
     split
     · rename_i hk
       subst hk;rw [rowOf_get placeCells_len _ i 0 _ (by decide) (places_get g nd hi)]
       split
       · rfl
       · rename_i hk
         rw [rowOf_len placeCells_len,places_len] at hk;omega
     · rfl
   rw [← e];exact hr
 · rw [setN_other _ _ (by omega)]
   exact h.out j hj
 · by_cases hji:j=i
   · subst hji;rw [setN_same] at e;cases e;exact hn
   · exact (h.node j m (old j m hji e)).kept ho (fun k hk=>h.apart j i m n (old j m hji e) hnd hji k hk)
 · by_cases hji:j=i
   · subst hji
     rw [setN_same] at e;cases e;intro k hk hk';rcases hsub k hk with h1 | h1
     · exact h.apart j j' n m' hnd (old j' m' (Ne.symm hne) e') hne k h1 hk'
     · have:=(h.node j' m' (old j' m' (Ne.symm hne) e')).foot_lt k hk'
       omega
   · by_cases hji':j'=i
     · subst hji'
       rw [setN_same] at e';cases e';intro k hk hk';rcases hsub k hk' with h1 | h1
       · exact h.apart j j' m n (old j m hji e) hnd hne k hk h1
       · have:=(h.node j m (old j m hji e)).foot_lt k hk
         omega
     · exact h.apart j j' m m' (old j m hji e) (old j' m' hji' e') hne
 · by_cases hji:j=i
   · subst hji
     rw [setN_same] at e;cases e;refine ⟨fun hk=>?_,fun b hb' hk=>?_⟩
     · rcases hsub t hk with h1 | h1
       · exact ot h1
       · omega
     · rcases hsub b hk with h1 | h1
       · exact op b hb' h1
       · have:=h.plt hb';omega
   · exact h.own j m (old j m hji e)
end
theorem isFree_any (w:World)(z:Int)(a:Option Addr):Calls Tryz.prog 64 #[.agg #[.int .i64 z,.pointer a]] w fun e w'=>e = .returned (.bool a.isNone)∧Only [] w w':=by
 cases a with
 | none =>
  go_enter Tryz.func64,Tryz.ntmps64
  go_wp2
  go_ret
  exact ⟨rfl,(Only.refl _ _).alloc _⟩
 | some a =>
  go_enter Tryz.func64,Tryz.ntmps64
  go_wp2
  go_ret
  exact ⟨rfl,(Only.refl _ _).alloc _⟩
theorem ptr_none (nd:Nat→Option Nod)(i:Nat):((nd i).map (fun n=>(⟨n.b,0,none⟩:Addr))).isNone=(nd i).isNone:=by cases nd i<;>rfl
def leastFree (most:Nat)(nd:Nat→Option Nod)(r:Int):Prop :=
 (r = -1∧∀ j:Nat,j < most→(nd j).isSome=true)∨∃ i:Nat,r=(i:Int)∧i < most∧nd i=none∧∀ j:Nat,j < i→(nd j).isSome=true
theorem Row.open (p:Row):∃ ad,p.v = .slice ad p.N p.cap∧∀ b,p.a=some b→ad=some ⟨b,0,none⟩:=⟨_,rfl,fun b hb=>by rw [hb];rfl⟩
theorem indexFree (w:World)(t:Nat)(p:Row)(most:Nat)(g:Nat→Nat)(nd:Nat→Option Nod)(h:TabAt w t p most g nd)(hm:p.N≤1000):
  Calls Tryz.prog 320 #[p.v,.func (.func 64) #[] #[]] w fun e w'=>(∃ r,e = .returned (.int .i64 r)∧leastFree p.N nd r)∧Only [] w w':=by
 have H:Hid (TabAt w t p most g nd):=h;clear h;obtain ⟨ad,hv,had⟩:=p.open;rw [hv];clear hv;have HAD:Hid (∀ b,p.a=some b→ad=some ⟨b,0,none⟩):=had;clear had;obtain ⟨N,hN⟩:∃ N,p.N=N:=⟨_,rfl⟩;have HN:Hid (p.N=N):=hN;rw [hN] at hm ⊢;clear hN;generalize p.cap=cap
 go_enter Tryz.func320,Tryz.ntmps320
 go_wp2
 go_loopw [5,8] (fun _ i wr=>∃ j:Nat,i = .int .i64 j∧j≤N∧(∀ q,q < j→(nd q).isSome=true)∧Only [] w wr) (fun _ i _=>N - (intOf i).toNat)
 case atStart=>exact ⟨0,rfl,Nat.zero_le _,fun q hq=>by omega,Only.refl _ _⟩
 case round =>
  obtain ⟨j,rfl,hj,hall,ho⟩:=hrel;have HA:Hid (∀ q,q < j→(nd q).isSome=true):=hall;clear hall
  by_cases hlt:j < N
  · have hT:=H.out.kept ho (fun _ _=>by simp)
    obtain ⟨b,hb,c0,c1,_,_⟩:=hT.place_at (by rw [HN.out];exact hlt);obtain rfl:=HAD.out b hb;have hcall:=isFree_any wr (g j) ((nd j).map (fun n=>(⟨n.b,0,none⟩:Addr)));rw [ptr_none] at hcall;clear hT hb
    cases hn:(nd j).isNone with
    | true =>
     rw [hn] at hcall
     go_wp2_with (go_at_call 64;go_must (refine hcall.mono ?_);rintro e w2 ⟨rfl,ho2⟩)
     go_ret
     exact ⟨⟨j,rfl,Or.inr ⟨j,rfl,hlt,by simpa using hn,HA.out⟩⟩,ho.trans ho2 (fun _ hk=>by cases hk)⟩
    | false =>
     rw [hn] at hcall
     go_wp2_with (go_at_call 64;go_must (refine hcall.mono ?_);rintro e w2 ⟨rfl,ho2⟩)
     go_roundw
     case rel=>exact ⟨j+1,by go_num,by omega,fun q hq=>by
      rcases Nat.lt_or_ge q j with h1 | h1
      · exact HA.out q h1
      · obtain rfl:q=j:=by omega
        cases hh:nd q with
        | none=>rw [hh] at hn;cases hn
        | some n=>rfl,ho.trans ho2 (fun _ hk=>by cases hk)⟩
     case measure=>simp [intOf];omega
  · obtain rfl:j=N:=by omega
    go_wp2
    go_ret
    exact ⟨⟨-1,rfl,Or.inl ⟨rfl,HA.out⟩⟩,ho⟩
def countTo (nd:Nat→Option Nod)(j:Nat):Nat:=((List.range j).filter (fun i=>(nd i).isSome)).length
theorem countTo_succ (nd:Nat→Option Nod)(j:Nat):countTo nd (j+1)=countTo nd j+if (nd j).isSome then 1 else 0:=by
 unfold countTo;rw [List.range_succ,List.filter_append,List.length_append]
 cases h:nd j<;>simp [h]
theorem countTo_le (nd:Nat→Option Nod)(j:Nat):countTo nd j≤j:=by
 have:=List.length_filter_le (fun i=>(nd i).isSome) (List.range j);rw [List.length_range] at this;exact this
theorem tcount (w:World)(t:Nat)(p:Row)(most:Nat)(g:Nat→Nat)(nd:Nat→Option Nod)(h:TabAt w t p most g nd)(hm:p.N≤1000):
  Calls Tryz.prog 36 #[.pointer (some ⟨t,0,none⟩)] w fun e w'=>e = .returned (.int .i64 (countTo nd p.N:Nat))∧Only [] w w':=by
 have H:Hid (TabAt w t p most g nd):=h;have ct:=h.tab;clear h;obtain ⟨ad,hv,had⟩:=p.open;rw [hv] at ct;clear hv;have HAD:Hid (∀ b,p.a=some b→ad=some ⟨b,0,none⟩):=had;clear had;obtain ⟨N,hN⟩:∃ N,p.N=N:=⟨_,rfl⟩;have HN:Hid (p.N=N):=hN;rw [hN] at hm ct ⊢;clear hN;generalize p.cap=cap at ct
 go_enter Tryz.func36,Tryz.ntmps36
 go_wp2
 clear ct
 go_loopw [3,5,11] (fun c _ i wr=>∃ j:Nat,i = .int .i64 j∧j≤N∧c = .int .i64 (countTo nd j:Nat)∧Only [] w wr) (fun _ _ i _=>N - (intOf i).toNat)
 case atStart=>exact ⟨0,rfl,Nat.zero_le _,rfl,Only.refl _ _⟩
 case round =>
  obtain ⟨j,rfl,hj,rfl,ho⟩:=hrel;have hle:=countTo_le nd j
  by_cases hlt:j < N
  · have hT:=H.out.kept ho (fun _ _=>by simp)
    obtain ⟨b,hb,c0,c1,_,_⟩:=hT.place_at (by rw [HN.out];exact hlt);obtain rfl:=HAD.out b hb;clear hb;have hs:=countTo_succ nd j;have HC:Hid (countTo nd (j+1)=countTo nd j+if (nd j).isSome then 1 else 0):=hs;clear hT hs;generalize hK:countTo nd j=K at hle HC ⊢;generalize hpa:(nd j).map (fun n=>(⟨n.b,0,none⟩:Addr))=pa at c1;have hcall:=isFree_any (wr.alloc (.cells #[.int .i64 (g j:Nat),.pointer pa] 180)) (g j) pa
    have HN:Hid (pa.isNone=!(nd j).isSome):=by subst hpa;cases nd j<;>rfl
    clear hpa hK
    cases hn:pa.isNone with
    | true =>
     rw [hn] at hcall
     go_wp2_with (go_at_call 64;go_must (refine hcall.mono ?_);rintro e w2 ⟨rfl,ho2⟩)
     go_roundw
     case rel =>
      have h1:=HN.out;rw [hn] at h1;have h2:=HC.out;rw [show (nd j).isSome=false by simpa using h1.symm] at h2;exact ⟨j+1,by go_num,by omega,by rw [h2];simp,(ho.alloc _).trans ho2 (fun _ hk=>by cases hk)⟩
     case measure=>simp [intOf];omega
    | false =>
     rw [hn] at hcall
     go_wp2_with (go_at_call 64;go_must (refine hcall.mono ?_);rintro e w2 ⟨rfl,ho2⟩)
     go_roundw
     case rel =>
      have h1:=HN.out;rw [hn] at h1;have h2:=HC.out;rw [show (nd j).isSome=true by simpa using h1.symm] at h2;exact ⟨j+1,by go_num,by omega,by rw [h2];simp,(ho.alloc _).trans ho2 (fun _ hk=>by cases hk)⟩
     case measure=>simp [intOf];omega
  · obtain rfl:j=N:=by omega
    go_wp2
    go_ret
    exact ⟨rfl,ho⟩
theorem Only.drewN {L:List Nat}{a w:World}(h:Only L a w)(n:Nat):Only L a (w.drewN n):=⟨h.os,h.tape,h.output,h.size,h.block⟩
def FoundAt (c:Prop)(E:Value)(pa:Option Addr)(e:Ending):Prop:=(c∧e = .returned (.tuple #[.pointer none,E]))∨(¬ c∧e = .returned (.tuple #[.pointer pa,.nilIface]))
theorem find_at (w:World)(t:Nat)(p:Row)(most i:Nat)(g:Nat→Nat)(nd:Nat→Option Nod)(G:Int)(E:Value)(h:TabAt w t p most g nd)(hi:i < p.N)(hE:w.cell? ⟨10,0,none⟩=some E):
  Calls Tryz.prog 244 #[.pointer (some ⟨t,0,none⟩),.agg #[.int .i64 i,.int .i64 G]] w fun e w'=>FoundAt ((nd i).isNone=true∨(g i:Int)≠G) E ((nd i).map (fun n=>⟨n.b,0,none⟩)) e∧Only [] w w':=by
 have ct:=h.tab;obtain ⟨b,hb,c0,c1,_,hlt⟩:=h.place_at hi;have hpt:b≠t:=fun e=>h.pt (by rw [hb,e]);clear h;obtain ⟨a,most,cap⟩:=p;simp only at hb hi;subst hb;simp only [Row.v,Option.map_some] at ct;have htl:t < w.heap.size:=lt_of_cell ct;generalize hpa:(nd i).map (fun n=>(⟨n.b,0,none⟩:Addr))=pa at c1 ⊢
 have hn:(nd i).isNone=pa.isNone:=by subst hpa;cases nd i<;>rfl
 rw [hn];clear hpa hn nd;generalize g i=gi at c0 ⊢;clear g;have hd1:decide ((i:Int) < 0)=false:=decide_eq_false (by omega);have hd2:decide ((most:Int)≤(i:Int))=false:=decide_eq_false (by omega)
 go_enter Tryz.func244,Tryz.ntmps244
 go_wp2
 go_big_quiet (fail)
 go_wp2
 go_region
 have hcall:=isFree_any ((((w.alloc (.cells #[.int .i64 (i:Int),.int .i64 G] 94)).drewN (nq+1)).alloc (.cells #[.int .i64 (gi:Nat),.pointer pa] 180))) gi pa;have HO:Hid (Only [] w (((w.alloc (.cells #[.int .i64 (i:Int),.int .i64 G] 94)).drewN (nq+1)).alloc (.cells #[.int .i64 (gi:Nat),.pointer pa] 180))):=(((Only.refl _ _).alloc _).drewN _).alloc _
 have e0:(((w.alloc (.cells #[.int .i64 (i:Int),.int .i64 G] 94)).drewN (nq+1)).alloc (.cells #[.int .i64 (gi:Nat),.pointer pa] 180)).cell? ⟨w.heap.size,1,none⟩=some (.int .i64 G):=by
  rw [World.cell?_alloc_lt _ _ _ (by simp)];exact cell_of_row _ _ 1 _ _ _ (heap_alloc_last w _)
 have e1:(((w.alloc (.cells #[.int .i64 (i:Int),.int .i64 G] 94)).drewN (nq+1)).alloc (.cells #[.int .i64 (gi:Nat),.pointer pa] 180)).cell? ⟨w.heap.size+1,0,none⟩=some (.int .i64 gi):=by
  have:=heap_alloc_last ((w.alloc (.cells #[.int .i64 (i:Int),.int .i64 G] 94)).drewN (nq+1)) (.cells #[.int .i64 (gi:Nat),.pointer pa] 180);simp only [World.drewN,World.size_alloc] at this;exact cell_of_row _ _ 0 _ _ _ this
 have e2:(((w.alloc (.cells #[.int .i64 (i:Int),.int .i64 G] 94)).drewN (nq+1)).alloc (.cells #[.int .i64 (gi:Nat),.pointer pa] 180)).cell? ⟨w.heap.size+1,1,none⟩=some (.pointer pa):=by
  have:=heap_alloc_last ((w.alloc (.cells #[.int .i64 (i:Int),.int .i64 G] 94)).drewN (nq+1)) (.cells #[.int .i64 (gi:Nat),.pointer pa] 180);simp only [World.drewN,World.size_alloc] at this;exact cell_of_row _ _ 1 _ _ _ this
 have HE:Hid (w.cell? ⟨10,0,none⟩=some E):=hE;clear c0 c1 ct hE;generalize (((w.alloc (.cells #[.int .i64 (i:Int),.int .i64 G] 94)).drewN (nq+1)).alloc (.cells #[.int .i64 (gi:Nat),.pointer pa] 180))=wb at hcall HO e0 e1 e2 ⊢;have hl0:w.heap.size < wb.heap.size:=lt_of_cell e0;have hl1:w.heap.size+1 < wb.heap.size:=lt_of_cell e1;have hEl:10 < w.heap.size:=lt_of_cell HE.out
 cases pa with
 | none =>
  go_wp2_with (go_at_call 64;go_must (refine hcall.mono ?_);rintro e w2 ⟨rfl,ho2⟩;have HO2:Hid (Only [] w w2):=HO.out.trans ho2 (fun _ hk=>by cases hk);have cE:w2.cell? ⟨10,0,none⟩=some E:=(HO2.out.cell (p:=⟨10,0,none⟩) hEl (by simp)).trans HE.out)
  go_region
  go_wp2
  exact bodyPost_ret (v := .tuple #[.pointer none,E]) (by simp [results,Tryz.results244,go_sem]) rfl ⟨Or.inl ⟨Or.inl rfl,rfl⟩,HO2.out.drew⟩
 | some a =>
  by_cases hG:(gi:Int)=G
  · subst hG
    go_wp2_with (go_at_call 64;go_must (refine hcall.mono ?_);rintro e w2 ⟨rfl,ho2⟩;have HO2:Hid (Only [] w w2):=HO.out.trans ho2 (fun _ hk=>by cases hk);have x0:=(ho2.cell (p:=⟨w.heap.size,1,none⟩) hl0 (by simp)).trans e0;have x1:=(ho2.cell (p:=⟨w.heap.size+1,0,none⟩) hl1 (by simp)).trans e1;have x2:=(ho2.cell (p:=⟨w.heap.size+1,1,none⟩) hl1 (by simp)).trans e2)
    exact bodyPost_ret (v := .tuple #[.pointer (some a),.nilIface]) (by simp [results,Tryz.results244,go_sem]) rfl ⟨Or.inr ⟨by simp,rfl⟩,HO2.out⟩
  · go_wp2_with (go_at_call 64;go_must (refine hcall.mono ?_);rintro e w2 ⟨rfl,ho2⟩;have HO2:Hid (Only [] w w2):=HO.out.trans ho2 (fun _ hk=>by cases hk);have x0:=(ho2.cell (p:=⟨w.heap.size,1,none⟩) hl0 (by simp)).trans e0;have x1:=(ho2.cell (p:=⟨w.heap.size+1,0,none⟩) hl1 (by simp)).trans e1;have cE:w2.cell? ⟨10,0,none⟩=some E:=(HO2.out.cell (p:=⟨10,0,none⟩) hEl (by simp)).trans HE.out)
    go_region
    go_wp2
    exact bodyPost_ret (v := .tuple #[.pointer none,E]) (by simp [results,Tryz.results244,go_sem]) rfl ⟨Or.inl ⟨Or.inr hG,rfl⟩,HO2.out.drew⟩
theorem find_ok (w:World)(t:Nat)(p:Row)(most i:Nat)(g:Nat→Nat)(nd:Nat→Option Nod)(n:Nod)(h:TabAt w t p most g nd)(hn:nd i=some n):
  Calls Tryz.prog 244 #[.pointer (some ⟨t,0,none⟩),.agg #[.int .i64 i,.int .i64 (g i:Nat)]] w fun e w'=>e = .returned (.tuple #[.pointer (some ⟨n.b,0,none⟩),.nilIface])∧Only [] w w':=by
 have hi:=h.lt hn;have ct:=h.tab;obtain ⟨b,hb,c0,c1,_,hlt⟩:=h.place_at hi;have hpt:b≠t:=fun e=>h.pt (by rw [hb,e]);clear h;obtain ⟨a,most,cap⟩:=p;simp only at hb hi;subst hb;simp only [Row.v,Option.map_some] at ct;have htl:t < w.heap.size:=lt_of_cell ct;rw [hn,Option.map_some] at c1;clear hn nd;generalize n.b=nb at c1 ⊢;obtain ⟨pa,hpa⟩:∃ pa:Option Addr,pa=some ⟨nb,0,none⟩:=⟨_,rfl⟩;rw [← hpa] at c1;have HPA:Hid (pa=some ⟨nb,0,none⟩):=hpa;clear hpa;generalize g i=gi at c0 ⊢;clear g;have hd1:decide ((i:Int) < 0)=false:=decide_eq_false (by omega);have hd2:decide ((most:Int)≤(i:Int))=false:=decide_eq_false (by omega)
 go_enter Tryz.func244,Tryz.ntmps244
 go_wp2
 go_big_quiet (fail)
 go_wp2
 go_region
 have hcall:=isFree_any ((((w.alloc (.cells #[.int .i64 (i:Int),.int .i64 (gi:Nat)] 94)).drewN (nq+1)).alloc (.cells #[.int .i64 (gi:Nat),.pointer pa] 180))) gi pa;have HO:Hid (Only [] w (((w.alloc (.cells #[.int .i64 (i:Int),.int .i64 (gi:Nat)] 94)).drewN (nq+1)).alloc (.cells #[.int .i64 (gi:Nat),.pointer pa] 180))):=(((Only.refl _ _).alloc _).drewN _).alloc _
 have e0:(((w.alloc (.cells #[.int .i64 (i:Int),.int .i64 (gi:Nat)] 94)).drewN (nq+1)).alloc (.cells #[.int .i64 (gi:Nat),.pointer pa] 180)).cell? ⟨w.heap.size,1,none⟩=some (.int .i64 (gi:Nat)):=by
  rw [World.cell?_alloc_lt _ _ _ (by simp)];exact cell_of_row _ _ 1 _ _ _ (heap_alloc_last w _)
 have e1:(((w.alloc (.cells #[.int .i64 (i:Int),.int .i64 (gi:Nat)] 94)).drewN (nq+1)).alloc (.cells #[.int .i64 (gi:Nat),.pointer pa] 180)).cell? ⟨w.heap.size+1,0,none⟩=some (.int .i64 gi):=by
  have:=heap_alloc_last ((w.alloc (.cells #[.int .i64 (i:Int),.int .i64 (gi:Nat)] 94)).drewN (nq+1)) (.cells #[.int .i64 (gi:Nat),.pointer pa] 180);simp only [World.drewN,World.size_alloc] at this;exact cell_of_row _ _ 0 _ _ _ this
 have e2:(((w.alloc (.cells #[.int .i64 (i:Int),.int .i64 (gi:Nat)] 94)).drewN (nq+1)).alloc (.cells #[.int .i64 (gi:Nat),.pointer pa] 180)).cell? ⟨w.heap.size+1,1,none⟩=some (.pointer pa):=by
  have:=heap_alloc_last ((w.alloc (.cells #[.int .i64 (i:Int),.int .i64 (gi:Nat)] 94)).drewN (nq+1)) (.cells #[.int .i64 (gi:Nat),.pointer pa] 180);simp only [World.drewN,World.size_alloc] at this;exact cell_of_row _ _ 1 _ _ _ this
 clear c0 c1 ct;generalize (((w.alloc (.cells #[.int .i64 (i:Int),.int .i64 (gi:Nat)] 94)).drewN (nq+1)).alloc (.cells #[.int .i64 (gi:Nat),.pointer pa] 180))=wb at hcall HO e0 e1 e2 ⊢;have hl0:w.heap.size < wb.heap.size:=lt_of_cell e0;have hl1:w.heap.size+1 < wb.heap.size:=lt_of_cell e1;obtain rfl:=HPA.out;clear HPA
 go_wp2_with (go_at_call 64;go_must (refine hcall.mono ?_);rintro e w2 ⟨rfl,ho2⟩;have HO2:Hid (Only [] w w2):=HO.out.trans ho2 (fun _ hk=>by cases hk);have x0:=(ho2.cell (p:=⟨w.heap.size,1,none⟩) hl0 (by simp)).trans e0;have x1:=(ho2.cell (p:=⟨w.heap.size+1,0,none⟩) hl1 (by simp)).trans e1;have x2:=(ho2.cell (p:=⟨w.heap.size+1,1,none⟩) hl1 (by simp)).trans e2)
 exact bodyPost_ret (v := .tuple #[.pointer (some ⟨nb,0,none⟩),.nilIface]) (by simp [results,Tryz.results244,go_sem]) rfl ⟨rfl,HO2.out⟩
theorem placeInfo:(Tryz.prog.info? 180).map (fun i=>(i.zero,i.size,i.bytes))=some (some (.agg #[.int .i64 0,.pointer none]),2,16):=by kernel_rfl
theorem placesUnd:Tryz.prog.underlying 175=some (.slice 180):=by kernel_rfl
theorem tnew_bound (w:World)(most:Int)(E:Value)(hE:w.cell? ⟨0,0,none⟩=some E)(h:most < 1∨300 < most):
   Calls Tryz.prog 89 #[.int .i64 most] w fun e w'=>e = .returned (.tuple #[.pointer none,E])∧Only [] w w':=by
 by_cases h1:most < 1
 · have hd:decide (most < 1)=true:=decide_eq_true h1
   go_enter Tryz.func89,Tryz.ntmps89
   go_wp2
   go_region
   go_wp2
   exact bodyPost_ret (v := .tuple #[.pointer none,E]) (by simp [results,Tryz.results89,go_sem]) rfl ⟨rfl,(Only.refl _ _).drew⟩
 · have hd:decide (most < 1)=false:=decide_eq_false h1
   have hd2:decide (300 < most)=true:=decide_eq_true (by omega)
   go_enter Tryz.func89,Tryz.ntmps89
   go_wp2
   go_region
   go_wp2
   exact bodyPost_ret (v := .tuple #[.pointer none,E]) (by simp [results,Tryz.results89,go_sem]) rfl ⟨rfl,(Only.refl _ _).drew⟩
def noRow:Row:=⟨none,0,0⟩
theorem tnew (w:World)(most:Nat)(h1:1≤most)(h2:most≤300):
  Calls Tryz.prog 89 #[.int .i64 most] w fun e w'=>∃ t,e = .returned (.tuple #[.pointer (some ⟨t,0,none⟩),.nilIface])∧TabAt w' t noRow most (fun _=>0) (fun _=>none)∧Only [] w w'∧w.heap.size≤t:=by
 have hd:decide ((most:Int) < 1)=false:=decide_eq_false (by omega);have hd2:decide (300 < (most:Int))=false:=decide_eq_false (by omega)
 go_enter Tryz.func89,Tryz.ntmps89
 go_wp2
 refine bodyPost_ret (v := .tuple #[.pointer (some ⟨w.heap.size,0,none⟩),.nilIface]) (by simp [results,Tryz.results89,go_sem]) rfl ⟨w.heap.size,rfl,?_,(Only.refl _ _).alloc _,Nat.le_refl _⟩;have hh:=heap_alloc_last w (.cells #[.int .i64 (most:Nat),.slice none 0 0] 177);refine ⟨cell_of_row _ _ 0 _ _ _ hh,cell_of_row _ _ 1 _ _ _ hh,fun o=>frozen_of_row _ _ _ _ _ hh,⟨_,_,hh⟩,World.ownsRow_nil _ _ _ _,fun _ _=>⟨rfl,rfl⟩,by simp [noRow],(fun i n hn=>by cases hn),(fun i j n n' hn=>by cases hn),(fun i n hn=>by cases hn)⟩
theorem own_pair {w w2:World}{a b:Int}{ty:TypeId}(h:Only [] (w.alloc (.cells #[.int .i64 a,.int .i64 b] ty)) w2):
  w2.cell? ⟨w.heap.size,0,none⟩=some (.int .i64 a)∧w2.cell? ⟨w.heap.size,1,none⟩=some (.int .i64 b)∧(∀ o,w2.frozen? ⟨w.heap.size,o,none⟩=false)∧w.heap.size < w2.heap.size:=by
 have hh:=heap_alloc_last w (.cells #[.int .i64 a,.int .i64 b] ty)
 have hlt:w.heap.size < (w.alloc (.cells #[.int .i64 a,.int .i64 b] ty)).heap.size:=by simp
 refine ⟨(h.cell (p:=⟨w.heap.size,0,none⟩) hlt (by simp)).trans (cell_of_row _ _ 0 _ _ _ hh),(h.cell (p:=⟨w.heap.size,1,none⟩) hlt (by simp)).trans (cell_of_row _ _ 1 _ _ _ hh),fun o=>?_,Nat.lt_of_lt_of_le hlt h.size⟩;rw [h.frozen (p:=⟨w.heap.size,o,none⟩) hlt (by simp)];unfold World.frozen?;rw [hh];simp
theorem Only.of_drew {L:List Nat}{w w':World}(h:Only L w.drew w'):Only L w w':=⟨h.os,h.tape,h.output,h.size,h.block⟩
theorem free_none {N:Nat}{nd:Nat→Option Nod}{r:Int}(hf:∀ j,j < N→(nd j).isSome=true)(hr:leastFree N nd r):r = -1:=by
 rcases hr with ⟨h1,_⟩ | ⟨i,_,hi,hn,_⟩
 · exact h1
 · have:=hf i hi
   rw [hn] at this
   cases this
theorem free_some {most:Nat}{nd:Nat→Option Nod}{r:Int}{i:Nat}(hi:i < most)(hn:nd i=none)(hb:∀ j,j < i→(nd j).isSome=true)(hr:leastFree most nd r):r=(i:Int):=by
 rcases hr with ⟨_,h1⟩ | ⟨j,rfl,hj,hjn,hjb⟩
 · have:=h1 i hi
   rw [hn] at this
   cases this
 · rcases Nat.lt_trichotomy i j with h | h | h
   · have:=hjb i h
     rw [hn] at this
     cases this
   · rw [h]
   · have:=hb j h
     rw [hjn] at this
     cases this
def newNod (b:Nat)(K:Int):Nod:=⟨b,K,0,0,0,0,0,⟨#[]⟩,[],none⟩
def nodeCells (K:Int):Array Value:=#[.int .i64 K,.int .i64 0,.int .i64 0,.int .i64 0,.int .i64 0,.int .i64 0,.int .i64 0,.map none]
theorem newNod_at (w:World)(K:Int):NodAt (w.alloc (.cells (nodeCells K) 375)) (newNod w.heap.size K):=by
 have hh:=heap_alloc_last w (.cells (nodeCells K) 375);refine ⟨cell_of_row _ _ 0 _ _ _ hh,cell_of_row _ _ 1 _ _ _ hh,cell_of_row _ _ 2 _ _ _ hh,cell_of_row _ _ 3 _ _ _ hh,cell_of_row _ _ 4 _ _ _ hh,cell_of_row _ _ 5 _ _ _ hh,cell_of_row _ _ 6 _ _ _ hh,cell_of_row _ _ 7 _ _ _ hh,fun k=>?_,⟨_,_,hh⟩,_,Same.start,rfl⟩;show World.frozen? _ ⟨w.heap.size,k,none⟩=false;unfold World.frozen?;rw [hh];simp
theorem rowOf_single {α:Type}(c:α→List Value)(x:α):rowOf c [x]=c x:=by simp [rowOf]
theorem places_more (N:Nat)(g:Nat→Nat)(nd:Nat→Option Nod):places (N+1) g nd=places N g nd++[(g N,nd N)]:=by simp [places,List.range_succ]
theorem TabAt.more {w w1:World}{t most b cap:Nat}{p:Row}{g:Nat→Nat}{nd:Nat→Option Nod}(h:TabAt w t p most g nd)(ho:Only p.a.toList w w1)(hr:w1.ownsRow 0 180 2 (.slice (some ⟨b,0,none⟩) (p.N+1) cap) (p.N+1) (rowOf placeCells (places p.N g nd)++[.int .i64 0,.pointer none]))
   (hb:p.a=some b∨w.heap.size≤b):TabAt (w1.setCell ⟨t,1,none⟩ (.slice (some ⟨b,0,none⟩) (p.N+1) cap)) t ⟨some b,p.N+1,cap⟩ most g nd∧Only (t::p.a.toList) w (w1.setCell ⟨t,1,none⟩ (.slice (some ⟨b,0,none⟩) (p.N+1) cap)):=by
 have ht:=h.tlt;have htp:t∉p.a.toList:=fun hm=>h.pt (by simpa using hm)
 have hbt:b≠t:=by
   rcases hb with h1 | h1
   · exact fun e=>h.pt (by rw [h1,e])
   · omega
 have o2:Only (t::p.a.toList) w (w1.setCell ⟨t,1,none⟩ (.slice (some ⟨b,0,none⟩) (p.N+1) cap)):=(ho.mono (L':=t::p.a.toList) (fun i hi=>Or.inl (List.mem_cons_of_mem _ hi))).setCell (Or.inl (by simp)) _;have c1:=(ho.cell (p:=⟨t,1,none⟩) ht htp).trans h.tab
 have hfoot:∀ i n,nd i=some n→∀ k∈n.foot,k∉t::p.a.toList:=fun i n hn k hk hm=>by
   obtain ⟨o1,o2⟩:=h.own i n hn;rcases List.mem_cons.1 hm with rfl | hm
   · exact o1 hk
   · exact o2 k (by simpa using hm) hk
 refine ⟨⟨?_,World.cell?_setCell_same _ _ _ c1,fun o=>?_,(h.ty.only ho htp).set _ _,?_,fun i hi=>h.out i (by simp only at hi;omega),by simpa using hbt,fun i n hn=>(h.node i n hn).kept o2 (hfoot i n hn),h.apart,fun i n hn=>⟨(h.own i n hn).1,fun b' hb' hk=>?_⟩⟩,o2⟩
 · rw [World.cell?_setCell_other _ _ _ _ (by simp)]
   exact (ho.cell (p:=⟨t,0,none⟩) ht htp).trans h.most
 · rw [World.frozen?_setCell]
   exact (ho.frozen (p:=⟨t,o,none⟩) ht htp).trans (h.tfz o)
 · rw [places_more,rowOf_append,rowOf_single,(h.out p.N (Nat.le_refl _)).1,(h.out p.N (Nat.le_refl _)).2]
   exact (Only.refl [t] w1).setCell (p:=⟨t,1,none⟩) (Or.inl (by simp)) _ |>.owns hr (fun k hk=>by have e:b=k:=Option.some.inj ((Row.own ⟨some b,p.N+1,cap⟩).symm.trans hk);subst e;simpa using hbt)
 · simp only [Option.some.injEq] at hb'
   subst hb';rcases hb with h1 | h1
   · exact (h.own i n hn).2 b h1 hk
   · have:=(h.node i n hn).foot_lt b hk
     omega
theorem two_news (w:World)(a b:Value)(ty:TypeId):∀ j u,[a,b][j]?=some u→(w.alloc (.cells #[a,b] ty)).cell? ((⟨w.heap.size,0,none⟩:Addr).add j)=some u:=by
 intro j u hu;have hh:=heap_alloc_last w (.cells #[a,b] ty)
 have hadd:(⟨w.heap.size,0,none⟩:Addr).add j=⟨w.heap.size,j,none⟩:=by unfold Addr.add;split<;>simp_all
 rw [hadd,cell_of_row _ _ _ _ _ _ hh]
 simpa using hu
def Roomed (w w':World)(t:Nat)(p p':Row)(i:Nat):Prop:=p'.N=max p.N (i+1)∧Only (t::p.a.toList) w w'∧(p'.a=p.a∨∃ k,p'.a=some k∧w.heap.size≤k)
theorem troom (w:World)(t:Nat)(p:Row)(most i:Nat)(g:Nat→Nat)(nd:Nat→Option Nod)(h:TabAt w t p most g nd)(hm:p.N≤1000)(hn:nd i=none)(hb:∀ j,j < i→(nd j).isSome=true):
   Calls Tryz.prog 238 #[.pointer (some ⟨t,0,none⟩)] w fun e w'=>e = .returned (.int .i64 i)∧∃ p',TabAt w' t p' most g nd∧Roomed w w' t p p' i:=by
 have hle:i≤p.N:=by
   rcases Nat.lt_or_ge p.N i with h1 | h1
   · have:=hb p.N h1
     rw [(h.out p.N (Nat.le_refl _)).2] at this
     cases this
   · exact h1
 have hcall:=indexFree w t p most g nd h hm;have ct:=h.tab;have htl:t < w.heap.size:=h.tlt;have H:Hid (TabAt w t p most g nd):=h;rcases Nat.lt_or_ge i p.N with hi | hi
 · have HB:Hid (∀ r,leastFree p.N nd r→r=(i:Int)):=fun r hr=>free_some hi hn hb hr
   clear h hb hn;generalize p.v=pv at hcall ct
   go_enter Tryz.func238,Tryz.ntmps238
   go_wp2_with (go_at_call 320;go_must (refine hcall.mono ?_);rintro e w2 ⟨⟨r,rfl,hr⟩,ho2⟩;obtain rfl:r=(i:Int):=HB.out r hr;clear hr)
   go_ret
   exact ⟨rfl,p,H.out.kept ho2 (fun _ _=>by simp),by omega,ho2.mono (fun _ hk=>by cases hk),Or.inl rfl⟩
 · obtain rfl:i=p.N:=by omega
   have HB:Hid (∀ r,leastFree p.N nd r→r = -1):=fun r hr=>free_none hb hr;obtain ⟨i0,hi0,hz⟩:=Option.map_eq_some_iff.1 placeInfo;simp only [Prod.mk.injEq] at hz;obtain ⟨hz0,hz1,hz2⟩:=hz;have hv:p.v = .slice (p.a.map (fun b=>⟨b,0,none⟩)) p.N p.cap:=rfl;clear h hb hn hle hi;obtain ⟨ad,had⟩:∃ ad,ad=p.a.map (fun b=>(⟨b,0,none⟩:Addr)):=⟨_,rfl⟩;rw [← had] at hv;rw [hv] at hcall ct;have HV:Hid (p.v = .slice ad p.N p.cap):=hv;clear hv had
   go_enter Tryz.func238,Tryz.ntmps238
   go_wp2_with (first
     | (go_at_call 320;go_must (refine hcall.mono ?_);rintro e w2 ⟨⟨r,rfl,hr⟩,ho2⟩;obtain rfl:r = -1:=HB.out r hr;clear hr;have HT2:Hid (TabAt w2 t p most g nd):=H.out.kept ho2 (fun _ _=>by simp);have ct2:=HT2.out.tab;rw [HV.out] at ct2;have ft2:=HT2.out.tfz;have htl2:=HT2.out.tlt)
     | (at_builtin;go_must (refine wpList_append_lies _ rfl (.tmp 20) (.tmp 22) 175 rfl 0 180 i0 _ 2 16 placesUnd hi0 hz0 hz1 hz2 rfl (by decide) _ p.N (rowOf placeCells (places p.N g nd)) rfl ((show w2.ownsRow 0 180 2 (.slice ad p.N p.cap) p.N (rowOf placeCells (places p.N g nd)) from by have:=HT2.out.row;rw [HV.out] at this;exact this).alloc _) ⟨w2.heap.size,0,none⟩ 1 1 [.int .i64 0,.pointer none] rfl rfl (two_news w2 _ _ _) (by intro u hu;simp at hu;rcases hu with rfl | rfl<;>rfl) (by decide) (by unfold maxLen;omega) (by omega) (Nat.zero_le _) _ rfl ?_);intro gl cp w4 hown4 hgr4 hat4 hlt4;have HO4:Hid (Only p.a.toList w2 w4):=((Only.refl _ w2).alloc _).grown hgr4 (fun k hk=>Or.inl (by have hk2:(Value.slice ad p.N p.cap).ownBlock=some k:=hk;rw [← HV.out,p.own] at hk2;rw [hk2];simp));have htp:t∉p.a.toList:=(fun hm=>H.out.pt (by simpa using hm));have ct4:=(HO4.out.cell (p:=⟨t,1,none⟩) htl2 htp).trans ct2;have ft4:=(HO4.out.frozen (p:=⟨t,1,none⟩) htl2 htp).trans (ft2 1);have HOWN:Hid (w4.ownsRow 0 180 2 (.slice (some ⟨gl,0,none⟩) (p.N+1) cp) (p.N+1) (rowOf placeCells (places p.N g nd)++[.int .i64 0,.pointer none])):=hown4;have HAT:Hid (p.a=some gl∨w2.heap.size≤gl):=(show p.a=some gl∨w2.heap.size≤gl from by have hat5:(Value.slice ad p.N p.cap).ownBlock=some gl∨_:=hat4;rw [← HV.out,p.own] at hat5;rcases hat5 with h | h;exact Or.inl h;exact Or.inr (by rw [h];simp));clear hown4 hgr4 hat4 hlt4)
     | go_in)
   go_ret
   obtain ⟨hT5,ho5⟩:=HT2.out.more HO4.out HOWN.out HAT.out;refine ⟨rfl,_,hT5,by simp,(ho2.mono (L':=t::p.a.toList) (fun _ hk=>by cases hk)).trans ho5 (fun _ hk=>Or.inl hk),?_⟩;rcases HAT.out with h | h
   · exact Or.inl h.symm
   · exact Or.inr ⟨gl,rfl,Nat.le_trans ho2.size h⟩
theorem added {w:World}{t most i b B:Nat}{p:Row}{g:Nat→Nat}{nd:Nat→Option Nod}{K x y:Int}(h:TabAt w t p most g nd)(hb:p.a=some b)(hi:i < p.N)(hB:¬ InFoot t p most nd B)(hBl:B < w.heap.size):
   TabAt ((((w.setCell ⟨b,i*2+1,none⟩ (.pointer (some ⟨w.heap.size,0,none⟩))).setCell ⟨B,0,none⟩ (.int .i64 x)).setCell ⟨B,1,none⟩ (.int .i64 y)).alloc (.cells (nodeCells K) 375)) t p most g (setN nd i (some (newNod w.heap.size K))) ∧
   Only [b,B] w ((((w.setCell ⟨b,i*2+1,none⟩ (.pointer (some ⟨w.heap.size,0,none⟩))).setCell ⟨B,0,none⟩ (.int .i64 x)).setCell ⟨B,1,none⟩ (.int .i64 y)).alloc (.cells (nodeCells K) 375)):=by
 have hbl:=h.plt hb;have hBt:t≠B:=fun e=>hB (Or.inl e.symm);have hBb:b≠B:=fun e=>hB (Or.inr (Or.inl (by rw [hb,e])))
 have e:((((w.setCell ⟨b,i*2+1,none⟩ (.pointer (some ⟨w.heap.size,0,none⟩))).setCell ⟨B,0,none⟩ (.int .i64 x)).setCell ⟨B,1,none⟩ (.int .i64 y)).alloc (.cells (nodeCells K) 375))=((((w.alloc (.cells (nodeCells K) 375)).setCell ⟨b,i*2+1,none⟩ (.pointer (some ⟨w.heap.size,0,none⟩))).setCell ⟨B,0,none⟩ (.int .i64 x)).setCell ⟨B,1,none⟩ (.int .i64 y)):=by
   rw [World.setCell_alloc_past (w:=w) _ b _ _ hbl,World.setCell_alloc_past (w:=w.setCell _ _) _ B _ _ (by simpa using hBl),World.setCell_alloc_past (w:=(w.setCell _ _).setCell _ _) _ B _ _ (by simpa using hBl)]
 rw [e];clear e;have hal:Only [] w (w.alloc (.cells (nodeCells K) 375)):=(Only.refl _ _).alloc _;have hrow:=(h.kept hal (fun _ _=>by simp)).row;have cn:=newNod_at w K;generalize w.alloc (.cells (nodeCells K) 375)=wa at hal hrow cn ⊢;have o1:Only [b] w (wa.setCell ⟨b,i*2+1,none⟩ (.pointer (some ⟨w.heap.size,0,none⟩))):=(hal.mono (L':=[b]) (by simp)).setCell (Or.inl (by simp)) _
 have hT1:TabAt (wa.setCell ⟨b,i*2+1,none⟩ (.pointer (some ⟨w.heap.size,0,none⟩))) t p most g (setN nd i (some (newNod w.heap.size K))):=by
   refine h.place (i:=i) hb hi o1 ?_ (fun _ _=>rfl) (fun j hj=>setN_other _ _ hj) ?_
   · have hv:p.v = .slice (some ⟨b,0,none⟩) p.N p.cap:=by simp [Row.v,hb]
     rw [hv] at hrow ⊢;have:=(hrow.stored (i*2+1) (.pointer (some ⟨w.heap.size,0,none⟩))).1;rw [rowOf_set placeCells_len (places p.N g nd) i 1 (g i,nd i) (g i,setN nd i (some (newNod w.heap.size K)) i) _ (by decide) (places_get g nd hi) (by simp [placeCells,setN_same,newNod])] at this;exact this
   · intro n hn
     rw [setN_same] at hn
     cases hn
     have hfoot:∀ k,k∈(newNod w.heap.size K).foot→k=w.heap.size:=fun k hk=>by simpa [newNod,Nod.foot,footD] using hk
     refine ⟨cn.kept ((Only.refl [b] wa).setCell (Or.inl (by simp)) _) (fun k hk hm=>?_),fun k hk=>by have:=hfoot k hk;omega⟩;have:=hfoot k hk;simp at hm;omega
 have o2:Only [B] (wa.setCell ⟨b,i*2+1,none⟩ (.pointer (some ⟨w.heap.size,0,none⟩))) (((wa.setCell ⟨b,i*2+1,none⟩ (.pointer (some ⟨w.heap.size,0,none⟩))).setCell ⟨B,0,none⟩ (.int .i64 x)).setCell ⟨B,1,none⟩ (.int .i64 y)):=((Only.refl [B] _).setCell (Or.inl (by simp)) _).setCell (Or.inl (by simp)) _;refine ⟨hT1.kept o2 (fun k hk hm=>?_),(o1.mono (L':=[b,B]) (fun i hi=>Or.inl (by simp at hi;simp [hi]))).trans o2 (fun i hi=>Or.inl (by simp at hi;simp [hi]))⟩;simp at hm;subst hm;rcases hk with h1 | h1 | ⟨j,n,hn,hk⟩
 · exact hBt h1.symm
 · exact hB (Or.inr (Or.inl h1))
 · by_cases hji:j=i
   · subst hji
     rw [setN_same] at hn
     cases hn
     have:k=w.heap.size:=by simpa [newNod,Nod.foot,footD] using hk
     omega
   · rw [setN_other _ _ hji] at hn
     exact hB (.node hn hk)
theorem own_not_foot {w w2:World}{t most:Nat}{p p':Row}{g:Nat→Nat}{nd:Nat→Option Nod}(h:TabAt w t p most g nd)(hp:p'.a=p.a∨∃ k,p'.a=some k∧w2.heap.size≤k)(hl:w.heap.size < w2.heap.size):¬ InFoot t p' most nd w.heap.size:=by
 rintro (h1 | h1 | ⟨j,n,hn,hk⟩)
 · have:=h.tlt;omega
 · rcases hp with h2 | ⟨k,h2,h3⟩
   · have:=h.plt (h2.symm.trans h1);omega
   · rw [h2] at h1;cases h1;omega
 · have:=(h.node j n hn).foot_lt _ hk;omega
def AddedAt (w w':World)(t:Nat)(p:Row)(most i:Nat)(g:Nat→Nat)(nd:Nat→Option Nod)(K:Int):Prop:=∃ p' b,TabAt w' t p' most g (setN nd i (some (newNod b K)))∧Roomed w w' t p p' i∧w.heap.size≤b
theorem tadd_ok (w:World)(t:Nat)(p:Row)(most i:Nat)(g:Nat→Nat)(nd:Nat→Option Nod)(K:Int)(h:TabAt w t p most g nd)(hm:p.N≤1000)(hK:K=1∨K=2)(hc:countTo nd p.N < most)(hn:nd i=none)(hb:∀ j,j < i→(nd j).isSome=true):
  Calls Tryz.prog 144 #[.pointer (some ⟨t,0,none⟩),.int .i64 K] w fun e w'=>e = .returned (.tuple #[.agg #[.int .i64 i,.int .i64 (g i:Nat)],.nilIface])∧AddedAt w w' t p most i g nd K:=by
 have htl:t < w.heap.size:=h.tlt;have hal:Only [] w (w.alloc (.cells #[.int .i64 0,.int .i64 0] 94)).drew:=((Only.refl _ _).alloc _).drew;have hcall:=tcount _ t p most g nd (h.kept hal (fun _ _=>by simp)) hm;have HR:Hid (∀ w2,Only [] w w2→_):=fun w2 (ho:Only [] w w2)=>troom w2 t p most i g nd (h.kept ho (fun _ _=>by simp)) hm hn hb;have H:Hid (TabAt w t p most g nd):=h;have HA:Hid (Only [] w (w.alloc (.cells #[.int .i64 0,.int .i64 0] 94)).drew):=hal;have hS0:=(hal.cell (p:=⟨t,0,none⟩) htl (by simp)).trans h.most;have hle:=countTo_le nd p.N;generalize countTo nd p.N=cn at hcall hc hle;clear h hn hb hal;rcases hK with rfl | rfl
 all_goals go_enter Tryz.func144,Tryz.ntmps144
 all_goals go_wp2
 all_goals go_region_held3 (fun W=>W.cell? ⟨t,0,none⟩=some (.int .i64 most)) (first | exact hS0 | exact hS2)
  (first | (go_at_call 36;refine hcall.mono ?_;rintro e w2 ⟨rfl,ho2⟩;have HO:Hid (Only [] w w2):=HA.out.trans ho2 (fun _ hk=>by cases hk);have hS2:=(H.out.kept HO.out (fun _ _=>by simp)).most;obtain ⟨r0,r1,f0,hl0⟩:=own_pair ho2.of_drew))
 all_goals have hroom:=HR.out w2 HO.out
 all_goals have hpw:∀ q,p.a=some q→q < w.heap.size:=fun q hq=>H.out.plt hq
 all_goals have HPW:Hid (∀ q,p.a=some q→q < w.heap.size):=hpw
 all_goals clear hpw hS0 hS2 hcall
 all_goals go_wp2_with (go_at_call 238;go_must (refine hroom.mono ?_);rintro e w3 ⟨rfl,p',hT3,hN3,ho3,hp3⟩;obtain ⟨b,hb,c0,c1,fb,hbl⟩:=hT3.place_at (i:=i) (by omega);have ct3:=hT3.tab;rw [show p'.v = .slice (some ⟨b,0,none⟩) p'.N p'.cap by simp [Row.v,hb]] at ct3;have hnB:w.heap.size∉t::p.a.toList:=(fun hm=>by rcases List.mem_cons.1 hm with h | h;omega;have:=HPW.out w.heap.size (by simpa using h);omega);have r3:=(ho3.cell (p:=⟨w.heap.size,0,none⟩) hl0 hnB).trans r0;have r4:=(ho3.cell (p:=⟨w.heap.size,1,none⟩) hl0 hnB).trans r1;have f3:∀ o,w3.frozen? ⟨w.heap.size,o,none⟩=false:=(fun o=>(ho3.frozen (p:=⟨w.heap.size,o,none⟩) hl0 hnB).trans (f0 o));have hl3:w.heap.size < w3.heap.size:=Nat.lt_of_lt_of_le hl0 ho3.size;have hi3:i < p'.N:=(by omega);have hbt:b≠t:=(fun e=>hT3.pt (by rw [hb,e]));have htl3:=hT3.tlt;have HT3:Hid (TabAt w3 t p' most g nd):=hT3;have HN3:Hid (p'.N=max p.N (i+1)):=hN3;have HO3:Hid (Only (t::p.a.toList) w2 w3):=ho3;have HP3:Hid (p'.a=p.a∨∃ k,p'.a=some k∧w2.heap.size≤k):=hp3;have HB:Hid (p'.a=some b):=hb;have hbB:b≠w.heap.size:=(fun e=>by rcases hp3 with h | ⟨k,h,hk⟩;have:=HPW.out b (by rw [← h];exact hb);omega;rw [h] at hb;cases hb;omega);clear hT3 hN3 ho3 hp3 hb hroom r0 r1 f0)
 all_goals have hnF:¬ InFoot t p' most nd w.heap.size:=own_not_foot H.out HP3.out hl0
 all_goals refine bodyPost_ret (v := .tuple #[.agg #[.int .i64 i,.int .i64 (g i:Nat)],.nilIface]) (by simp [results,Tryz.results144,go_sem,r3,r4,hl3]) rfl ⟨rfl,p',w3.heap.size,(added HT3.out HB.out hi3 hnF hl3).1,⟨HN3.out,?_,?_⟩,by omega⟩
 all_goals first
  | (refine ((HO.out.mono (L':=t::p.a.toList) (fun _ hk=>by cases hk)).trans HO3.out (fun _ hk=>Or.inl hk)).trans (added HT3.out HB.out hi3 hnF hl3).2 (fun k hk=>?_)
     simp only [List.mem_cons,List.not_mem_nil,or_false] at hk;rcases hk with rfl | rfl
     · rcases HP3.out with h | ⟨q,h,hq⟩
       · exact Or.inl (List.mem_cons_of_mem _ (by rw [← h,HB.out];simp))
       · rw [HB.out] at h;cases h;exact Or.inr (Nat.le_trans HO.out.size hq)
     · exact Or.inr (Nat.le_refl _))
  | (rcases HP3.out with h | ⟨q,h,hq⟩
     · exact Or.inl h
     · exact Or.inr ⟨q,h,Nat.le_trans HO.out.size hq⟩)
theorem dsizeO (w:World)(g o:Nat)(S:ByteArray)(H:List Bool)(m:Option Nat)(hD:DataO w g o S H m):
  Calls Tryz.prog 155 #[.pointer (some ⟨g,o,none⟩)] w fun e w'=>e = .returned (.int .i64 (S.size:Nat))∧w=w':=by
 have hc:=hD.size;clear hD
 go_enter Tryz.func155,Tryz.ntmps155
 go_wp2
 go_ret
 exact ⟨rfl,rfl⟩
theorem writeInZO (w:World)(g o b:Nat)(f:Nat→Option (List UInt8))(q:Nat)(s:ByteArray)(hc:w.cell? ⟨g,o+1,none⟩=some (.map (some b)))(hM:MapAt w (some b) f)(hq:q < 4096)(z:Int)(hz:z=(q:Int))(n:Nat)(hn:min s.size (64 - q % 64)=n):
  Calls Tryz.prog 313 #[.pointer (some ⟨g,o,none⟩),.int .i64 z,.string s] w fun e w'=>e = .returned (.int .i64 (n:Int)) ∧
   MapAt w' (some b) (upd f (q / 64) (over ((f (q / 64)).getD zero64) (q % 64) (partS s 0 n)))∧Only [b] w w':=by
 subst hz hn;obtain ⟨D,h1,h2⟩:=hM;exact (writeInO w g o b f D q s hc h1 h2 hq).mono fun e w' ⟨he,ho,hw⟩=>⟨he,ho,hw⟩
structure MidO (w wx:World)(g o b:Nat)(m:Option Nat)(S:ByteArray)(f:Nat→Option (List UInt8)):Prop where
 size:wx.cell? ⟨g,o,none⟩=some (.int .i64 (S.size:Nat))
 map:wx.cell? ⟨g,o+1,none⟩=some (.map (some b))
 fz:∀ k,wx.frozen? ⟨g,k,none⟩=false
 ty:Ty wx g 375
 at_:MapAt wx (some b) f
 only:Only (footD g m) w wx
 mine:b∈footD g m∨w.heap.size≤b
 rest:∀ k,k≠o→k≠o+1→wx.cell? ⟨g,k,none⟩=w.cell? ⟨g,k,none⟩
theorem MidO.step {w wx wy:World}{g o b:Nat}{m:Option Nat}{S:ByteArray}{f f':Nat→Option (List UInt8)}(h:MidO w wx g o b m S f)(ho:Only [b] wx wy)(hm:MapAt wy (some b) f'):MidO w wy g o b m S f':=by
 have hne:b≠g:=by
  obtain ⟨D,h1,_⟩:=h.at_;exact own_ne h1 h.map
 have hg:g < wx.heap.size:=lt_of_cell h.map
 have hn:g∉[b]:=by simpa using Ne.symm hne
 exact ⟨(ho.cell (p:=⟨g,o,none⟩) hg hn).trans h.size,(ho.cell (p:=⟨g,o+1,none⟩) hg hn).trans h.map,fun k=>(ho.frozen (p:=⟨g,k,none⟩) hg hn).trans (h.fz k),h.ty.only ho hn,hm,
  h.only.trans ho (fun i hi=>by rw [List.mem_singleton] at hi;subst hi;exact h.mine),h.mine,fun k h1 h2=>(ho.cell (p:=⟨g,k,none⟩) hg hn).trans (h.rest k h1 h2)⟩
theorem MidO.done {w wx:World}{g o b:Nat}{m:Option Nat}{S S':ByteArray}{H':List Bool}{f:Nat→Option (List UInt8)}(h:MidO w wx g o b m S f)(hs:Same f S' H')(z:Int)(hz:z=(S'.size:Nat)):
   DataO (wx.setCell ⟨g,o,none⟩ (.int .i64 z)) g o S' H' (some b)∧Only (footD g m) w (wx.setCell ⟨g,o,none⟩ (.int .i64 z))∧(∀ k,some b=some k→k∈footD g m∨w.heap.size≤k)∧∀ k,k≠o→k≠o+1→(wx.setCell ⟨g,o,none⟩ (.int .i64 z)).cell? ⟨g,k,none⟩=w.cell? ⟨g,k,none⟩:=by
 subst hz;refine ⟨⟨World.cell?_setCell_same _ _ _ h.size,?_,fun k=>?_,h.ty.set _ _,f,hs,?_⟩,h.only.setCell (Or.inl (by simp [footD])) _,fun k e=>by cases e;exact h.mine,fun k h1 h2=>by rw [World.cell?_setCell_other _ _ _ _ (by simp)];exact h.rest k h1 h2⟩
 · rw [World.cell?_setCell_other _ _ _ _ (by simp)];exact h.map
 · rw [World.frozen?_setCell];exact h.fz k
 · obtain ⟨D,h1,h2⟩:=h.at_
   exact ⟨D,h1.setCell (own_ne h1 h.map) _,h2⟩
theorem dwriteO (w:World)(g o:Nat)(S s:ByteArray)(H:List Bool)(m:Option Nat)(a:Nat)(hD:DataO w g o S H m)(hs1:1≤s.size)(hle:a+s.size≤4096):
  Calls Tryz.prog 230 #[.pointer (some ⟨g,o,none⟩),.int .i64 a,.string s] w fun e w'=>e = .returned .nilIface ∧
   ∃ m',DataO w' g o (writeS S a s) (marksH H (a / 64) ((a+s.size - 1) / 64+1 - a / 64)) m'∧Only (footD g m) w w'∧(∀ k,m'=some k→k∈footD g m∨w.heap.size≤k)∧∀ k,k≠o→k≠o+1→w'.cell? ⟨g,k,none⟩=w.cell? ⟨g,k,none⟩:=by
 obtain ⟨f,hsame,hmap⟩:=hD.holds;have hd:decide ((a:Int) < 0)=false:=decide_eq_false (by omega);have hd3:decide (4096 - (s.size:Int) < (a:Int))=false:=decide_eq_false (by omega)
 have hse:(s.toList==[])=false:=by
  rw [Lib.toList_data,beq_eq_false_iff_ne];intro k;have:s.data.toList.length=s.size:=rfl;rw [k] at this;simp at this;omega
 have hc:=hD.map;have hf1:=hD.fz (o+1);have hq:=fun w=>run_eql_map_nil_sl (P:=Tryz.prog) w 371 _ _ m undMap;have HD:Hid (DataO w g o S H m):=hD;have HM:Hid (MapAt w m f):=hmap;have HS:Hid (Same f S H):=hsame;clear hD hmap hsame
 go_enter Tryz.func230,Tryz.ntmps230
 go_upto_if 24 with fail
 go_cut [] (fun wx=>∃ b,MidO w wx g o b m S f)
 case first =>
  cases m with
  | none =>
   have hmk:=run_makeMap (P:=Tryz.prog) 371 w;have hlt:g < w.heap.size:=lt_of_cell hc
   have hM0:Hid (MidO w ((w.alloc (.map #[] 0)).setCell ⟨g,o+1,none⟩ (.map (some w.heap.size))) g o w.heap.size none S f):=by
     have hc0:(w.alloc (.map #[] 0)).cell? ⟨g,o,none⟩=some (.int .i64 (S.size:Nat)):=by rw [World.cell?_alloc_lt _ _ _ hlt];exact HD.out.size
     have hc1:(w.alloc (.map #[] 0)).cell? ⟨g,o+1,none⟩=some (.map none):=by rw [World.cell?_alloc_lt _ _ _ hlt];exact hc
     have hmm:MidO w ((w.alloc (.map #[] 0)).setCell ⟨g,o+1,none⟩ (.map (some w.heap.size))) g o w.heap.size none S f:=by
       refine ⟨?_,World.cell?_setCell_same _ _ _ hc1,fun k=>?_,(HD.out.ty.only ((Only.refl [] w).alloc _) (by simp)).set _ _,⟨.map [],?_,?_⟩,?_,Or.inr (Nat.le_refl _),fun k h1 h2=>by rw [World.cell?_setCell_other _ _ _ _ (by simp),World.cell?_alloc_lt _ _ _ hlt]⟩
       · rw [World.cell?_setCell_other _ _ _ _ (by simp)];exact hc0
       · rw [World.frozen?_setCell]
         exact (Only.of_below ((Below.refl _ _).alloc (Nat.le_refl _) _) [] |>.frozen (p:=⟨g,k,none⟩) hlt (by simp)).trans (HD.out.fz k)
       · exact ((World.ownsMap_made w Tryz.prog 3 blkElem).mono (Nat.zero_le _)).setCell (by simp;omega) _
       · rw [show f=_ from HM.out];exact Holds.empty
       · exact ((Only.refl _ w).alloc _).setCell (Or.inl (by simp [footD])) _
     exact hmm
   go_wp2
   go_meet
   exact ⟨w.heap.size,(World.setCell_alloc_past (w:=w) (.map #[] 0) g (o+1) _ hlt) ▸ hM0.out⟩
  | some b =>
   go_wp2
   go_meet
   exact ⟨b,HD.out.size,HD.out.map,HD.out.fz,HD.out.ty,HM.out,Only.refl _ _,Or.inl (by simp [footD]),fun _ _ _=>rfl⟩
 case rest =>
  obtain ⟨b,hmid⟩:=hcut;clear hc hf1 hq HM HD
  go_wp2
  go_loopw [7] (fun i wr=>∃ (d:Nat) (f':Nat→Option (List UInt8)),d≤s.size∧i = .int .i64 d∧Wrote f a s d f'∧MidO w wr g o b m S f') (fun i _=>s.size - (intOf i).toNat)
  case atStart=>exact ⟨0,f,Nat.zero_le _,rfl,Wrote.start f a s,hmid⟩
  case round =>
   obtain ⟨d,f',hdle,rfl,hW,hmid'⟩:=hrel
   by_cases hlt:d < s.size
   · obtain ⟨n,hn⟩:∃ n,min (s.extract d s.size).size (64 - (a+d) % 64)=n:=⟨_,rfl⟩
     have hz:(s.extract d s.size).size=s.size - d:=by rw [ByteArray.size_extract];omega
     have hn':n=min (64 - (a+d) % 64) (s.size - d):=by rw [hz] at hn;omega
     have hcall:=writeInZO wr g o b f' (a+d) (s.extract d s.size) hmid'.map hmid'.at_ (by omega) ((a:Int)+(d:Int)) (by omega) n hn;rw [part_tail] at hcall;have HW:Hid (Wrote f a s (d+n) (upd f' ((a+d) / 64) (over ((f' ((a+d) / 64)).getD zero64) ((a+d) % 64) (partS s d n)))):=hW.step hlt (hmid'.at_.getLen _) hn';have HM:Hid (MidO w wr g o b m S f'):=hmid'
     have hn1:1≤n:=by omega
     have hn2:d+n≤s.size:=by omega
     clear hmid' hW hn hn' hz hmid
     go_wp2_with (go_at_call 313;go_must (refine hcall.mono ?_);rintro e w2 ⟨rfl,hm2,ho2⟩)
     go_roundw
     case rel=>exact ⟨d+n,_,hn2,by go_num,HW.out,HM.out.step ho2 hm2⟩
     case measure=>simp [intOf];omega
   · obtain rfl:d=s.size:=by omega
     have c0:=hmid'.size;have f0:=hmid'.fz o;clear hmid;have HSm:Hid (Same f' (writeS S a s) (marksH H (a / 64) ((a+s.size - 1) / 64+1 - a / 64))):=hW.same HS.out hs1 hle;have HM:Hid (MidO w wr g o b m S f'):=hmid';have hwz:Hid ((writeS S a s).size=max S.size (a+s.size)):=writeS_size S a s;clear hmid' hW
     by_cases hmx:S.size≤a+s.size
     · go_wp2
       all_goals (go_ret;exact ⟨rfl,_,HM.out.done HSm.out _ (by rw [hwz.out];omega)⟩)
     · go_wp2
       all_goals (go_ret;exact ⟨rfl,_,HM.out.done HSm.out _ (by rw [hwz.out];omega)⟩)
end
end Go.Proofs.YtmnidbnaneagjaaGreatDoor
