import Derived.Test.YtbdfjbmocifhmaaGreatDoorK5
import Derived.Laws.OwnMore
import Derived.BigQuiet
import Derived.Deep.QuietTactic
import Derived.OwnWalk
set_option maxHeartbeats 8000000
namespace Go.Proofs.YtbdfjbmocifhmaaGreatDoor
section
open Go Go.RowKit Go.Deep Go.Maps
structure NodAt (w:World)(n:Nod):Prop where
 c0:w.cell? ⟨n.b,0,none⟩=some (.int .i64 n.K)
 c1:w.cell? ⟨n.b,1,none⟩=some (.int .i64 n.Z)
 c2:w.cell? ⟨n.b,2,none⟩=some (.int .i64 n.L)
 c3:w.cell? ⟨n.b,3,none⟩=some (.int .i64 n.C)
 c4:w.cell? ⟨n.b,4,none⟩=some (.int .i64 n.UN)
 c5:w.cell? ⟨n.b,5,none⟩=some (.int .i64 n.UG)
 d:DataO w n.b 6 n.S n.H n.m
def Nod.foot (n:Nod):List Nat:=footD n.b n.m
theorem Nod.b_foot (n:Nod):n.b∈n.foot:=List.mem_cons_self ..
theorem NodAt.foot_lt {w:World}{n:Nod}(h:NodAt w n):∀ k∈n.foot,k < w.heap.size:=h.d.foot_lt
theorem NodAt.kept {w w':World}{n:Nod}{L:List Nat}(h:NodAt w n)(ho:Only L w w')(hd:∀ k∈n.foot,k∉L):NodAt w' n:=by
 have hb:n.b < w.heap.size:=lt_of_cell h.c0;have hn:n.b∉L:=hd _ n.b_foot
 exact ⟨(ho.cell (p:=⟨n.b,0,none⟩) hb hn).trans h.c0,(ho.cell (p:=⟨n.b,1,none⟩) hb hn).trans h.c1,(ho.cell (p:=⟨n.b,2,none⟩) hb hn).trans h.c2,(ho.cell (p:=⟨n.b,3,none⟩) hb hn).trans h.c3,
  (ho.cell (p:=⟨n.b,4,none⟩) hb hn).trans h.c4,(ho.cell (p:=⟨n.b,5,none⟩) hb hn).trans h.c5,h.d.kept ho hd⟩
structure Row where
 a:Option Nat
 N:Nat
 cap:Nat
def Row.v (p:Row):Value := .slice (p.a.map (fun b=>⟨b,0,none⟩)) p.N p.cap
theorem Row.own (p:Row):p.v.ownBlock=p.a:=by obtain ⟨a,N,cap⟩:=p;cases a<;>rfl
def placeCells (x:Nat×Option Nod):List Value:=[.int .i64 (x.1:Nat),.pointer (x.2.map (fun n=>⟨n.b,0,none⟩))]
theorem placeCells_len (x:Nat×Option Nod):(placeCells x).length=2:=rfl
def places (N:Nat)(g:Nat→Nat)(nd:Nat→Option Nod):List (Nat×Option Nod):=(List.range N).map (fun i=>(g i,nd i))
theorem places_len (N:Nat)(g:Nat→Nat)(nd:Nat→Option Nod):(places N g nd).length=N:=by simp [places]
theorem places_get {N i:Nat}(g:Nat→Nat)(nd:Nat→Option Nod)(h:i < N):(places N g nd)[i]?=some (g i,nd i):=by simp [places,h]
theorem places_congr {N:Nat}{g g':Nat→Nat}{nd nd':Nat→Option Nod}(hg:∀ i,i < N→g i=g' i)(hn:∀ i,i < N→nd i=nd' i):places N g nd=places N g' nd':=by
 unfold places;refine List.map_congr_left fun i hi=>?_;rw [List.mem_range] at hi;rw [hg i hi,hn i hi]
theorem places_set {N i:Nat}{g g':Nat→Nat}{nd nd':Nat→Option Nod}(hg:∀ j,j≠i→g' j=g j)(hn:∀ j,j≠i→nd' j=nd j):(places N g nd).set i (g' i,nd' i)=places N g' nd':=by
 apply List.ext_getElem?;intro j;rw [List.getElem?_set]
 by_cases hj:i=j
 · subst hj
   rw [if_pos rfl,places_len]
   by_cases h:i < N
   · rw [if_pos h,places_get _ _ h]
   · rw [if_neg h,List.getElem?_eq_none (by rw [places_len];omega)]
 · rw [if_neg hj]
   by_cases h:j < N
   · rw [places_get _ _ h,places_get _ _ h,hg j (Ne.symm hj),hn j (Ne.symm hj)]
   · rw [List.getElem?_eq_none (by rw [places_len];omega),List.getElem?_eq_none (by rw [places_len];omega)]
structure TabAt (w:World)(t:Nat)(p:Row)(most:Nat)(g:Nat→Nat)(nd:Nat→Option Nod):Prop where
 most:w.cell? ⟨t,0,none⟩=some (.int .i64 most)
 tab:w.cell? ⟨t,1,none⟩=some p.v
 tfz:∀ o,w.frozen? ⟨t,o,none⟩=false
 ty:Ty w t 140
 row:w.ownsRow 0 196 2 p.v p.N (rowOf placeCells (places p.N g nd))
 out:∀ i,p.N≤i→g i=0∧nd i=none
 pt:p.a≠some t
 node:∀ i n,nd i=some n→NodAt w n
 apart:∀ i j n n',nd i=some n→nd j=some n'→i≠j→∀ k∈n.foot,k∉n'.foot
 own:∀ i n,nd i=some n→t∉n.foot∧∀ b,p.a=some b→b∉n.foot
def InFoot (t:Nat)(p:Row)(_most:Nat)(nd:Nat→Option Nod)(k:Nat):Prop:=k=t∨p.a=some k∨∃ i n,nd i=some n∧k∈n.foot
section
variable {w w':World}{t most:Nat}{p p':Row}{g:Nat→Nat}{nd:Nat→Option Nod}
theorem InFoot.node {i:Nat}{n:Nod}(h:nd i=some n){k:Nat}(hk:k∈n.foot):InFoot t p most nd k:=Or.inr (Or.inr ⟨i,n,h,hk⟩)
theorem TabAt.tlt (h:TabAt w t p most g nd):t < w.heap.size:=lt_of_cell h.tab
theorem TabAt.plt (h:TabAt w t p most g nd){b:Nat}(hb:p.a=some b):b < w.heap.size:=(h.row.lt b (by rw [p.own,hb])).2
theorem TabAt.lt (h:TabAt w t p most g nd){i:Nat}{n:Nod}(hn:nd i=some n):i < p.N:=by
 rcases Nat.lt_or_ge i p.N with h1 | h1
 · exact h1
 · rw [(h.out i h1).2] at hn;cases hn
theorem TabAt.place_at (h:TabAt w t p most g nd){i:Nat}(hi:i < p.N):∃ b,p.a=some b∧w.cell? ⟨b,i*2,none⟩=some (.int .i64 (g i:Nat))∧w.cell? ⟨b,i*2+1,none⟩=some (.pointer ((nd i).map (fun n=>⟨n.b,0,none⟩)))∧(∀ o,w.frozen? ⟨b,o,none⟩=false)∧b < w.heap.size:=by
 have hr:=h.row;have hl:=fun b=>h.plt (b:=b);obtain ⟨a,N,cap⟩:=p;simp only [Row.v] at hr hi hl
 cases a with
 | none =>
  rcases hr.2 with ⟨h1,h2⟩ | ⟨b,cap',cur,h1,_⟩
  · omega
  · simp at h1
 | some b =>
  simp only [Option.map_some] at hr;refine ⟨b,rfl,?_,?_,fun o=>hr.frozenAt o,hl b rfl⟩
  · rw [hr.cellAt _ (by omega)]
    have:=rowOf_get placeCells_len _ i 0 _ (by decide) (places_get g nd hi)
    simpa [placeCells] using this
  · rw [hr.cellAt _ (by omega),rowOf_get placeCells_len _ i 1 _ (by decide) (places_get g nd hi)]
    rfl
theorem TabAt.foot_lt (h:TabAt w t p most g nd):∀ k,InFoot t p most nd k→k < w.heap.size:=by
 rintro k (rfl | hk | ⟨i,n,hn,hk⟩)
 · exact h.tlt
 · exact h.plt hk
 · exact (h.node i n hn).foot_lt k hk
theorem TabAt.kept {L:List Nat}(h:TabAt w t p most g nd)(ho:Only L w w')(hd:∀ k,InFoot t p most nd k→k∉L):TabAt w' t p most g nd:=by
 have htl:t∉L:=hd t (Or.inl rfl)
 exact ⟨(ho.cell (p:=⟨t,0,none⟩) h.tlt htl).trans h.most,(ho.cell (p:=⟨t,1,none⟩) h.tlt htl).trans h.tab,fun o=>(ho.frozen (p:=⟨t,o,none⟩) h.tlt htl).trans (h.tfz o),h.ty.only ho htl,
  ho.owns h.row (fun k hk=>hd k (Or.inr (Or.inl (by rw [← p.own];exact hk)))),h.out,h.pt,fun i n hn=>(h.node i n hn).kept ho (fun k hk=>hd k (.node hn hk)),h.apart,h.own⟩
theorem TabAt.place {g':Nat→Nat}{nd':Nat→Option Nod}{i b:Nat}(h:TabAt w t p most g nd)(hb:p.a=some b)(hi:i < p.N)(ho:Only [b] w w')(hr:w'.ownsRow 0 196 2 p.v p.N (rowOf placeCells ((places p.N g nd).set i (g' i,nd' i))))(hg:∀ j,j≠i→g' j=g j)(hn:∀ j,j≠i→nd' j=nd j)
   (hnew:∀ n,nd' i=some n→NodAt w' n∧∀ k∈n.foot,w.heap.size≤k):TabAt w' t p most g' nd':=by
 have ht:t < w.heap.size:=h.tlt
 have htb:t∉[b]:=by
   have:=h.pt;rw [hb] at this
   simpa using fun e:t=b=>this (by rw [e])
 have old:∀ j n,j≠i→nd' j=some n→nd j=some n:=fun j n hne e=>by rw [hn j hne] at e;exact e
 have hlt:∀ j n,j≠i→nd' j=some n→∀ k∈n.foot,k < w.heap.size:=fun j n hne e=>(h.node j n (old j n hne e)).foot_lt;rw [places_set hg hn] at hr;refine ⟨(ho.cell (p:=⟨t,0,none⟩) ht htb).trans h.most,(ho.cell (p:=⟨t,1,none⟩) ht htb).trans h.tab,fun o=>(ho.frozen (p:=⟨t,o,none⟩) ht htb).trans (h.tfz o),h.ty.only ho htb,hr,fun j hj=>?_,h.pt,fun j n e=>?_,fun j j' n n' e e' hne=>?_,fun j n e=>?_⟩
 · rw [hg j (by omega),hn j (by omega)]
   exact h.out j hj
 · by_cases hji:j=i
   · subst hji;exact (hnew n e).1
   · exact (h.node j n (old j n hji e)).kept ho (fun k hk hm=>by simp at hm;subst hm;exact (h.own j n (old j n hji e)).2 k hb hk)
 · by_cases hji:j=i
   · subst hji
     intro k hk hk';have h1:=(hnew n e).2 k hk;have h2:=hlt j' n' (Ne.symm hne) e' k hk';omega
   · by_cases hji':j'=i
     · subst hji'
       intro k hk hk';have h1:=(hnew n' e').2 k hk';have h2:=hlt j n hji e k hk;omega
     · exact h.apart j j' n n' (old j n hji e) (old j' n' hji' e') hne
 · by_cases hji:j=i
   · subst hji
     have h1:=(hnew n e).2;exact ⟨fun hk=>by have:=h1 t hk;omega,fun b' hb' hk=>by have:=h1 b' hk;have:=h.plt hb';omega⟩
   · exact h.own j n (old j n hji e)
theorem TabAt.turn {i:Nat}{n n':Nod}(h:TabAt w t p most g nd)(hnd:nd i=some n)(hb:n'.b=n.b)(hn:NodAt w' n')(ho:Only n.foot w w')(hsub:∀ k∈n'.foot,k∈n.foot∨w.heap.size≤k):TabAt w' t p most g (setN nd i (some n')):=by
 have ht:t < w.heap.size:=h.tlt;obtain ⟨ot,op⟩:=h.own i n hnd;have hi:=h.lt hnd
 have old:∀ j m,j≠i→setN nd i (some n') j=some m→nd j=some m:=fun j m hne e=>by rw [setN_other _ _ hne] at e;exact e
 refine ⟨(ho.cell (p:=⟨t,0,none⟩) ht ot).trans h.most,(ho.cell (p:=⟨t,1,none⟩) ht ot).trans h.tab,fun o=>(ho.frozen (p:=⟨t,o,none⟩) ht ot).trans (h.tfz o),h.ty.only ho ot,?_,fun j hj=>?_,h.pt,fun j m e=>?_,fun j j' m m' e e' hne=>?_,fun j m e=>?_⟩
 · have hr:=ho.owns h.row (fun k hk=>op k (by rw [← p.own];exact hk))
   have e:rowOf placeCells (places p.N g nd)=rowOf placeCells (places p.N g (setN nd i (some n'))):=by
     rw [← places_set (g:=g) (g':=g) (nd:=nd) (nd':=setN nd i (some n')) (i:=i) (fun _ _=>rfl) (fun j hj=>setN_other _ _ hj)];have hs:=rowOf_set placeCells_len (places p.N g nd) i 0 (g i,nd i) (g i,setN nd i (some n') i) (.int .i64 (g i:Nat)) (by decide) (places_get g nd hi) (by simp [placeCells,setN_same,hnd,hb]);rw [← hs]
     symm
     apply List.ext_getElem?;intro k;rw [List.getElem?_set]
     split
     · rename_i hk
       subst hk;rw [rowOf_get placeCells_len _ i 0 _ (by decide) (places_get g nd hi)]
       split
       · rfl
       · rename_i hk
         rw [rowOf_len placeCells_len,places_len] at hk;omega
     · rfl
   rw [← e];exact hr
 · rw [setN_other _ _ (by omega)]
   exact h.out j hj
 · by_cases hji:j=i
   · subst hji;rw [setN_same] at e;cases e;exact hn
   · exact (h.node j m (old j m hji e)).kept ho (fun k hk=>h.apart j i m n (old j m hji e) hnd hji k hk)
 · by_cases hji:j=i
   · subst hji
     rw [setN_same] at e;cases e;intro k hk hk';rcases hsub k hk with h1 | h1
     · exact h.apart j j' n m' hnd (old j' m' (Ne.symm hne) e') hne k h1 hk'
     · have:=(h.node j' m' (old j' m' (Ne.symm hne) e')).foot_lt k hk'
       omega
   · by_cases hji':j'=i
     · subst hji'
       rw [setN_same] at e';cases e';intro k hk hk';rcases hsub k hk' with h1 | h1
       · exact h.apart j j' m n (old j m hji e) hnd hne k hk h1
       · have:=(h.node j m (old j m hji e)).foot_lt k hk
         omega
     · exact h.apart j j' m m' (old j m hji e) (old j' m' hji' e') hne
 · by_cases hji:j=i
   · subst hji
     rw [setN_same] at e;cases e;refine ⟨fun hk=>?_,fun b hb' hk=>?_⟩
     · rcases hsub t hk with h1 | h1
       · exact ot h1
       · omega
     · rcases hsub b hk with h1 | h1
       · exact op b hb' h1
       · have:=h.plt hb';omega
   · exact h.own j m (old j m hji e)
end
theorem isFree_any (w:World)(z:Int)(a:Option Addr):Calls Tryz.prog 119 #[.agg #[.int .i64 z,.pointer a]] w fun e w'=>e = .returned (.bool a.isNone)∧Only [] w w':=by
 cases a with
 | none =>
  go_enter Tryz.func119,Tryz.ntmps119
  go_wp2
  go_ret
  exact ⟨rfl,(Only.refl _ _).alloc _⟩
 | some a =>
  go_enter Tryz.func119,Tryz.ntmps119
  go_wp2
  go_ret
  exact ⟨rfl,(Only.refl _ _).alloc _⟩
theorem ptr_none (nd:Nat→Option Nod)(i:Nat):((nd i).map (fun n=>(⟨n.b,0,none⟩:Addr))).isNone=(nd i).isNone:=by cases nd i<;>rfl
def leastFree (most:Nat)(nd:Nat→Option Nod)(r:Int):Prop :=
 (r = -1∧∀ j:Nat,j < most→(nd j).isSome=true)∨∃ i:Nat,r=(i:Int)∧i < most∧nd i=none∧∀ j:Nat,j < i→(nd j).isSome=true
theorem Row.open (p:Row):∃ ad,p.v = .slice ad p.N p.cap∧∀ b,p.a=some b→ad=some ⟨b,0,none⟩:=⟨_,rfl,fun b hb=>by rw [hb];rfl⟩
theorem indexFree (w:World)(t:Nat)(p:Row)(most:Nat)(g:Nat→Nat)(nd:Nat→Option Nod)(h:TabAt w t p most g nd)(hm:p.N≤1000):
  Calls Tryz.prog 153 #[p.v,.func (.func 119) #[] #[]] w fun e w'=>(∃ r,e = .returned (.int .i64 r)∧leastFree p.N nd r)∧Only [] w w':=by
 have H:Hid (TabAt w t p most g nd):=h;clear h;obtain ⟨ad,hv,had⟩:=p.open;rw [hv];clear hv;have HAD:Hid (∀ b,p.a=some b→ad=some ⟨b,0,none⟩):=had;clear had;obtain ⟨N,hN⟩:∃ N,p.N=N:=⟨_,rfl⟩;have HN:Hid (p.N=N):=hN;rw [hN] at hm ⊢;clear hN;generalize p.cap=cap
 go_enter Tryz.func153,Tryz.ntmps153
 go_wp2
 go_loopw [5,8] (fun _ i wr=>∃ j:Nat,i = .int .i64 j∧j≤N∧(∀ q,q < j→(nd q).isSome=true)∧Only [] w wr) (fun _ i _=>N - (intOf i).toNat)
 case atStart=>exact ⟨0,rfl,Nat.zero_le _,fun q hq=>by omega,Only.refl _ _⟩
 case round =>
  obtain ⟨j,rfl,hj,hall,ho⟩:=hrel;have HA:Hid (∀ q,q < j→(nd q).isSome=true):=hall;clear hall
  by_cases hlt:j < N
  · have hT:=H.out.kept ho (fun _ _=>by simp)
    obtain ⟨b,hb,c0,c1,_,_⟩:=hT.place_at (by rw [HN.out];exact hlt);obtain rfl:=HAD.out b hb;have hcall:=isFree_any wr (g j) ((nd j).map (fun n=>(⟨n.b,0,none⟩:Addr)));rw [ptr_none] at hcall;clear hT hb
    cases hn:(nd j).isNone with
    | true =>
     rw [hn] at hcall
     go_wp2_with (go_at_call 119;go_must (refine hcall.mono ?_);rintro e w2 ⟨rfl,ho2⟩)
     go_ret
     exact ⟨⟨j,rfl,Or.inr ⟨j,rfl,hlt,by simpa using hn,HA.out⟩⟩,ho.trans ho2 (fun _ hk=>by cases hk)⟩
    | false =>
     rw [hn] at hcall
     go_wp2_with (go_at_call 119;go_must (refine hcall.mono ?_);rintro e w2 ⟨rfl,ho2⟩)
     go_roundw
     case rel=>exact ⟨j+1,by go_num,by omega,fun q hq=>by
      rcases Nat.lt_or_ge q j with h1 | h1
      · exact HA.out q h1
      · obtain rfl:q=j:=by omega
        cases hh:nd q with
        | none=>rw [hh] at hn;cases hn
        | some n=>rfl,ho.trans ho2 (fun _ hk=>by cases hk)⟩
     case measure=>simp [intOf];omega
  · obtain rfl:j=N:=by omega
    go_wp2
    go_ret
    exact ⟨⟨-1,rfl,Or.inl ⟨rfl,HA.out⟩⟩,ho⟩
def countTo (nd:Nat→Option Nod)(j:Nat):Nat:=((List.range j).filter (fun i=>(nd i).isSome)).length
theorem countTo_succ (nd:Nat→Option Nod)(j:Nat):countTo nd (j+1)=countTo nd j+if (nd j).isSome then 1 else 0:=by
 unfold countTo;rw [List.range_succ,List.filter_append,List.length_append]
 cases h:nd j<;>simp [h]
theorem countTo_le (nd:Nat→Option Nod)(j:Nat):countTo nd j≤j:=by
 have:=List.length_filter_le (fun i=>(nd i).isSome) (List.range j);rw [List.length_range] at this;exact this
theorem tcount (w:World)(t:Nat)(p:Row)(most:Nat)(g:Nat→Nat)(nd:Nat→Option Nod)(h:TabAt w t p most g nd)(hm:p.N≤1000):
  Calls Tryz.prog 64 #[.pointer (some ⟨t,0,none⟩)] w fun e w'=>e = .returned (.int .i64 (countTo nd p.N:Nat))∧Only [] w w':=by
 have H:Hid (TabAt w t p most g nd):=h;have ct:=h.tab;clear h;obtain ⟨ad,hv,had⟩:=p.open;rw [hv] at ct;clear hv;have HAD:Hid (∀ b,p.a=some b→ad=some ⟨b,0,none⟩):=had;clear had;obtain ⟨N,hN⟩:∃ N,p.N=N:=⟨_,rfl⟩;have HN:Hid (p.N=N):=hN;rw [hN] at hm ct ⊢;clear hN;generalize p.cap=cap at ct
 go_enter Tryz.func64,Tryz.ntmps64
 go_wp2
 clear ct
 go_loopw [3,5,11] (fun c _ i wr=>∃ j:Nat,i = .int .i64 j∧j≤N∧c = .int .i64 (countTo nd j:Nat)∧Only [] w wr) (fun _ _ i _=>N - (intOf i).toNat)
 case atStart=>exact ⟨0,rfl,Nat.zero_le _,rfl,Only.refl _ _⟩
 case round =>
  obtain ⟨j,rfl,hj,rfl,ho⟩:=hrel;have hle:=countTo_le nd j
  by_cases hlt:j < N
  · have hT:=H.out.kept ho (fun _ _=>by simp)
    obtain ⟨b,hb,c0,c1,_,_⟩:=hT.place_at (by rw [HN.out];exact hlt);obtain rfl:=HAD.out b hb;clear hb;have hs:=countTo_succ nd j;have HC:Hid (countTo nd (j+1)=countTo nd j+if (nd j).isSome then 1 else 0):=hs;clear hT hs;generalize hK:countTo nd j=K at hle HC ⊢;generalize hpa:(nd j).map (fun n=>(⟨n.b,0,none⟩:Addr))=pa at c1;have hcall:=isFree_any (wr.alloc (.cells #[.int .i64 (g j:Nat),.pointer pa] 196)) (g j) pa
    have HN:Hid (pa.isNone=!(nd j).isSome):=by subst hpa;cases nd j<;>rfl
    clear hpa hK
    cases hn:pa.isNone with
    | true =>
     rw [hn] at hcall
     go_wp2_with (go_at_call 119;go_must (refine hcall.mono ?_);rintro e w2 ⟨rfl,ho2⟩)
     go_roundw
     case rel =>
      have h1:=HN.out;rw [hn] at h1;have h2:=HC.out;rw [show (nd j).isSome=false by simpa using h1.symm] at h2;exact ⟨j+1,by go_num,by omega,by rw [h2];simp,(ho.alloc _).trans ho2 (fun _ hk=>by cases hk)⟩
     case measure=>simp [intOf];omega
    | false =>
     rw [hn] at hcall
     go_wp2_with (go_at_call 119;go_must (refine hcall.mono ?_);rintro e w2 ⟨rfl,ho2⟩)
     go_roundw
     case rel =>
      have h1:=HN.out;rw [hn] at h1;have h2:=HC.out;rw [show (nd j).isSome=true by simpa using h1.symm] at h2;exact ⟨j+1,by go_num,by omega,by rw [h2];simp,(ho.alloc _).trans ho2 (fun _ hk=>by cases hk)⟩
     case measure=>simp [intOf];omega
  · obtain rfl:j=N:=by omega
    go_wp2
    go_ret
    exact ⟨rfl,ho⟩
theorem Only.drewN {L:List Nat}{a w:World}(h:Only L a w)(n:Nat):Only L a (w.drewN n):=⟨h.os,h.tape,h.output,h.size,h.block⟩
def Stale0 (g:Nat→Nat)(nd:Nat→Option Nod)(N G:Int):Prop:=∀ (i:Nat) n,N=(i:Int)→nd i=some n→G≠(g i:Int)
theorem find_beyond (w:World)(t most cap:Nat)(ad:Option Addr)(N G:Int)(E:Value)(ct:w.cell? ⟨t,1,none⟩=some (.slice ad most cap))(hE:w.cell? ⟨10,0,none⟩=some E)(hs:N < 0∨(most:Int)≤N):
   Calls Tryz.prog 127 #[.pointer (some ⟨t,0,none⟩),.agg #[.int .i64 N,.int .i64 G]] w fun e w'=>e = .returned (.tuple #[.pointer none,E])∧Only [] w w':=by
 have hEl:10 < w.heap.size:=lt_of_cell hE;have htl:t < w.heap.size:=lt_of_cell ct
 by_cases h1:N < 0
 · have hd1:decide (N < 0)=true:=decide_eq_true h1
   go_enter Tryz.func127,Tryz.ntmps127
   go_wp2
   go_big_quiet (fail)
   go_wp2
   go_region
   go_wp2
   exact bodyPost_ret (v := .tuple #[.pointer none,E]) (by simp [results,Tryz.results127,go_sem]) rfl ⟨rfl,(((Only.refl _ _).alloc _).drewN _).drew⟩
 · have hd1:decide (N < 0)=false:=decide_eq_false h1
   have hd2:decide ((most:Int)≤N)=true:=decide_eq_true (by omega)
   go_enter Tryz.func127,Tryz.ntmps127
   go_wp2
   go_big_quiet (fail)
   go_wp2
   go_region
   go_wp2
   exact bodyPost_ret (v := .tuple #[.pointer none,E]) (by simp [results,Tryz.results127,go_sem]) rfl ⟨rfl,(((Only.refl _ _).alloc _).drewN _).drew⟩
def FoundAt (c:Prop)(E:Value)(pa:Option Addr)(e:Ending):Prop:=(c∧e = .returned (.tuple #[.pointer none,E]))∨(¬ c∧e = .returned (.tuple #[.pointer pa,.nilIface]))
theorem find_at (w:World)(t:Nat)(p:Row)(most i:Nat)(g:Nat→Nat)(nd:Nat→Option Nod)(G:Int)(E:Value)(h:TabAt w t p most g nd)(hi:i < p.N)(hE:w.cell? ⟨10,0,none⟩=some E):
  Calls Tryz.prog 127 #[.pointer (some ⟨t,0,none⟩),.agg #[.int .i64 i,.int .i64 G]] w fun e w'=>FoundAt ((nd i).isNone=true∨(g i:Int)≠G) E ((nd i).map (fun n=>⟨n.b,0,none⟩)) e∧Only [] w w':=by
 have ct:=h.tab;obtain ⟨b,hb,c0,c1,_,hlt⟩:=h.place_at hi;have hpt:b≠t:=fun e=>h.pt (by rw [hb,e]);clear h;obtain ⟨a,most,cap⟩:=p;simp only at hb hi;subst hb;simp only [Row.v,Option.map_some] at ct;have htl:t < w.heap.size:=lt_of_cell ct;generalize hpa:(nd i).map (fun n=>(⟨n.b,0,none⟩:Addr))=pa at c1 ⊢
 have hn:(nd i).isNone=pa.isNone:=by subst hpa;cases nd i<;>rfl
 rw [hn];clear hpa hn nd;generalize g i=gi at c0 ⊢;clear g;have hd1:decide ((i:Int) < 0)=false:=decide_eq_false (by omega);have hd2:decide ((most:Int)≤(i:Int))=false:=decide_eq_false (by omega)
 go_enter Tryz.func127,Tryz.ntmps127
 go_wp2
 go_big_quiet (fail)
 go_wp2
 go_region
 have hcall:=isFree_any ((((w.alloc (.cells #[.int .i64 (i:Int),.int .i64 G] 34)).drewN (nq+1)).alloc (.cells #[.int .i64 (gi:Nat),.pointer pa] 196))) gi pa;have HO:Hid (Only [] w (((w.alloc (.cells #[.int .i64 (i:Int),.int .i64 G] 34)).drewN (nq+1)).alloc (.cells #[.int .i64 (gi:Nat),.pointer pa] 196))):=(((Only.refl _ _).alloc _).drewN _).alloc _
 have e0:(((w.alloc (.cells #[.int .i64 (i:Int),.int .i64 G] 34)).drewN (nq+1)).alloc (.cells #[.int .i64 (gi:Nat),.pointer pa] 196)).cell? ⟨w.heap.size,1,none⟩=some (.int .i64 G):=by
  rw [World.cell?_alloc_lt _ _ _ (by simp)];exact cell_of_row _ _ 1 _ _ _ (heap_alloc_last w _)
 have e1:(((w.alloc (.cells #[.int .i64 (i:Int),.int .i64 G] 34)).drewN (nq+1)).alloc (.cells #[.int .i64 (gi:Nat),.pointer pa] 196)).cell? ⟨w.heap.size+1,0,none⟩=some (.int .i64 gi):=by
  have:=heap_alloc_last ((w.alloc (.cells #[.int .i64 (i:Int),.int .i64 G] 34)).drewN (nq+1)) (.cells #[.int .i64 (gi:Nat),.pointer pa] 196);simp only [World.drewN,World.size_alloc] at this;exact cell_of_row _ _ 0 _ _ _ this
 have e2:(((w.alloc (.cells #[.int .i64 (i:Int),.int .i64 G] 34)).drewN (nq+1)).alloc (.cells #[.int .i64 (gi:Nat),.pointer pa] 196)).cell? ⟨w.heap.size+1,1,none⟩=some (.pointer pa):=by
  have:=heap_alloc_last ((w.alloc (.cells #[.int .i64 (i:Int),.int .i64 G] 34)).drewN (nq+1)) (.cells #[.int .i64 (gi:Nat),.pointer pa] 196);simp only [World.drewN,World.size_alloc] at this;exact cell_of_row _ _ 1 _ _ _ this
 have HE:Hid (w.cell? ⟨10,0,none⟩=some E):=hE;clear c0 c1 ct hE;generalize (((w.alloc (.cells #[.int .i64 (i:Int),.int .i64 G] 34)).drewN (nq+1)).alloc (.cells #[.int .i64 (gi:Nat),.pointer pa] 196))=wb at hcall HO e0 e1 e2 ⊢;have hl0:w.heap.size < wb.heap.size:=lt_of_cell e0;have hl1:w.heap.size+1 < wb.heap.size:=lt_of_cell e1;have hEl:10 < w.heap.size:=lt_of_cell HE.out
 cases pa with
 | none =>
  go_wp2_with (go_at_call 119;go_must (refine hcall.mono ?_);rintro e w2 ⟨rfl,ho2⟩;have HO2:Hid (Only [] w w2):=HO.out.trans ho2 (fun _ hk=>by cases hk);have cE:w2.cell? ⟨10,0,none⟩=some E:=(HO2.out.cell (p:=⟨10,0,none⟩) hEl (by simp)).trans HE.out)
  go_region
  go_wp2
  exact bodyPost_ret (v := .tuple #[.pointer none,E]) (by simp [results,Tryz.results127,go_sem]) rfl ⟨Or.inl ⟨Or.inl rfl,rfl⟩,HO2.out.drew⟩
 | some a =>
  by_cases hG:(gi:Int)=G
  · subst hG
    go_wp2_with (go_at_call 119;go_must (refine hcall.mono ?_);rintro e w2 ⟨rfl,ho2⟩;have HO2:Hid (Only [] w w2):=HO.out.trans ho2 (fun _ hk=>by cases hk);have x0:=(ho2.cell (p:=⟨w.heap.size,1,none⟩) hl0 (by simp)).trans e0;have x1:=(ho2.cell (p:=⟨w.heap.size+1,0,none⟩) hl1 (by simp)).trans e1;have x2:=(ho2.cell (p:=⟨w.heap.size+1,1,none⟩) hl1 (by simp)).trans e2)
    exact bodyPost_ret (v := .tuple #[.pointer (some a),.nilIface]) (by simp [results,Tryz.results127,go_sem]) rfl ⟨Or.inr ⟨by simp,rfl⟩,HO2.out⟩
  · go_wp2_with (go_at_call 119;go_must (refine hcall.mono ?_);rintro e w2 ⟨rfl,ho2⟩;have HO2:Hid (Only [] w w2):=HO.out.trans ho2 (fun _ hk=>by cases hk);have x0:=(ho2.cell (p:=⟨w.heap.size,1,none⟩) hl0 (by simp)).trans e0;have x1:=(ho2.cell (p:=⟨w.heap.size+1,0,none⟩) hl1 (by simp)).trans e1;have cE:w2.cell? ⟨10,0,none⟩=some E:=(HO2.out.cell (p:=⟨10,0,none⟩) hEl (by simp)).trans HE.out)
    go_region
    go_wp2
    exact bodyPost_ret (v := .tuple #[.pointer none,E]) (by simp [results,Tryz.results127,go_sem]) rfl ⟨Or.inl ⟨Or.inr hG,rfl⟩,HO2.out.drew⟩
theorem find_stale (w:World)(t:Nat)(p:Row)(most:Nat)(g:Nat→Nat)(nd:Nat→Option Nod)(N G:Int)(E:Value)(h:TabAt w t p most g nd)(hE:w.cell? ⟨10,0,none⟩=some E)(hs:Stale0 g nd N G):
   Calls Tryz.prog 127 #[.pointer (some ⟨t,0,none⟩),.agg #[.int .i64 N,.int .i64 G]] w fun e w'=>e = .returned (.tuple #[.pointer none,E])∧Only [] w w':=by
 by_cases h1:N < 0∨(p.N:Int)≤N
 · exact find_beyond w t p.N p.cap _ N G E h.tab hE h1
 · obtain ⟨i,rfl⟩:∃ i:Nat,N=(i:Int):=⟨N.toNat,by omega⟩
   refine (find_at w t p most i g nd G E h (by omega) hE).mono fun e w' ⟨he,ho⟩=>⟨?_,ho⟩;rcases he with ⟨_,he⟩ | ⟨hc,_⟩
   · exact he
   · refine absurd ?_ hc
     cases hn:nd i with
     | none=>exact Or.inl rfl
     | some n=>exact Or.inr (fun e=>hs i n rfl hn e.symm)
theorem find_ok (w:World)(t:Nat)(p:Row)(most i:Nat)(g:Nat→Nat)(nd:Nat→Option Nod)(n:Nod)(h:TabAt w t p most g nd)(hn:nd i=some n):
  Calls Tryz.prog 127 #[.pointer (some ⟨t,0,none⟩),.agg #[.int .i64 i,.int .i64 (g i:Nat)]] w fun e w'=>e = .returned (.tuple #[.pointer (some ⟨n.b,0,none⟩),.nilIface])∧Only [] w w':=by
 have hi:=h.lt hn;have ct:=h.tab;obtain ⟨b,hb,c0,c1,_,hlt⟩:=h.place_at hi;have hpt:b≠t:=fun e=>h.pt (by rw [hb,e]);clear h;obtain ⟨a,most,cap⟩:=p;simp only at hb hi;subst hb;simp only [Row.v,Option.map_some] at ct;have htl:t < w.heap.size:=lt_of_cell ct;rw [hn,Option.map_some] at c1;clear hn nd;generalize n.b=nb at c1 ⊢;obtain ⟨pa,hpa⟩:∃ pa:Option Addr,pa=some ⟨nb,0,none⟩:=⟨_,rfl⟩;rw [← hpa] at c1;have HPA:Hid (pa=some ⟨nb,0,none⟩):=hpa;clear hpa;generalize g i=gi at c0 ⊢;clear g;have hd1:decide ((i:Int) < 0)=false:=decide_eq_false (by omega);have hd2:decide ((most:Int)≤(i:Int))=false:=decide_eq_false (by omega)
 go_enter Tryz.func127,Tryz.ntmps127
 go_wp2
 go_big_quiet (fail)
 go_wp2
 go_region
 have hcall:=isFree_any ((((w.alloc (.cells #[.int .i64 (i:Int),.int .i64 (gi:Nat)] 34)).drewN (nq+1)).alloc (.cells #[.int .i64 (gi:Nat),.pointer pa] 196))) gi pa;have HO:Hid (Only [] w (((w.alloc (.cells #[.int .i64 (i:Int),.int .i64 (gi:Nat)] 34)).drewN (nq+1)).alloc (.cells #[.int .i64 (gi:Nat),.pointer pa] 196))):=(((Only.refl _ _).alloc _).drewN _).alloc _
 have e0:(((w.alloc (.cells #[.int .i64 (i:Int),.int .i64 (gi:Nat)] 34)).drewN (nq+1)).alloc (.cells #[.int .i64 (gi:Nat),.pointer pa] 196)).cell? ⟨w.heap.size,1,none⟩=some (.int .i64 (gi:Nat)):=by
  rw [World.cell?_alloc_lt _ _ _ (by simp)];exact cell_of_row _ _ 1 _ _ _ (heap_alloc_last w _)
 have e1:(((w.alloc (.cells #[.int .i64 (i:Int),.int .i64 (gi:Nat)] 34)).drewN (nq+1)).alloc (.cells #[.int .i64 (gi:Nat),.pointer pa] 196)).cell? ⟨w.heap.size+1,0,none⟩=some (.int .i64 gi):=by
  have:=heap_alloc_last ((w.alloc (.cells #[.int .i64 (i:Int),.int .i64 (gi:Nat)] 34)).drewN (nq+1)) (.cells #[.int .i64 (gi:Nat),.pointer pa] 196);simp only [World.drewN,World.size_alloc] at this;exact cell_of_row _ _ 0 _ _ _ this
 have e2:(((w.alloc (.cells #[.int .i64 (i:Int),.int .i64 (gi:Nat)] 34)).drewN (nq+1)).alloc (.cells #[.int .i64 (gi:Nat),.pointer pa] 196)).cell? ⟨w.heap.size+1,1,none⟩=some (.pointer pa):=by
  have:=heap_alloc_last ((w.alloc (.cells #[.int .i64 (i:Int),.int .i64 (gi:Nat)] 34)).drewN (nq+1)) (.cells #[.int .i64 (gi:Nat),.pointer pa] 196);simp only [World.drewN,World.size_alloc] at this;exact cell_of_row _ _ 1 _ _ _ this
 clear c0 c1 ct;generalize (((w.alloc (.cells #[.int .i64 (i:Int),.int .i64 (gi:Nat)] 34)).drewN (nq+1)).alloc (.cells #[.int .i64 (gi:Nat),.pointer pa] 196))=wb at hcall HO e0 e1 e2 ⊢;have hl0:w.heap.size < wb.heap.size:=lt_of_cell e0;have hl1:w.heap.size+1 < wb.heap.size:=lt_of_cell e1;obtain rfl:=HPA.out;clear HPA
 go_wp2_with (go_at_call 119;go_must (refine hcall.mono ?_);rintro e w2 ⟨rfl,ho2⟩;have HO2:Hid (Only [] w w2):=HO.out.trans ho2 (fun _ hk=>by cases hk);have x0:=(ho2.cell (p:=⟨w.heap.size,1,none⟩) hl0 (by simp)).trans e0;have x1:=(ho2.cell (p:=⟨w.heap.size+1,0,none⟩) hl1 (by simp)).trans e1;have x2:=(ho2.cell (p:=⟨w.heap.size+1,1,none⟩) hl1 (by simp)).trans e2)
 exact bodyPost_ret (v := .tuple #[.pointer (some ⟨nb,0,none⟩),.nilIface]) (by simp [results,Tryz.results127,go_sem]) rfl ⟨rfl,HO2.out⟩
theorem placeInfo:(Tryz.prog.info? 196).map (fun i=>(i.zero,i.size,i.bytes))=some (some (.agg #[.int .i64 0,.pointer none]),2,16):=by kernel_rfl
theorem placesUnd:Tryz.prog.underlying 138=some (.slice 196):=by kernel_rfl
def noRow:Row:=⟨none,0,0⟩
theorem tnew (w:World)(most:Nat)(h1:1≤most)(h2:most≤300):
  Calls Tryz.prog 21 #[.int .i64 most] w fun e w'=>∃ t,e = .returned (.tuple #[.pointer (some ⟨t,0,none⟩),.nilIface])∧TabAt w' t noRow most (fun _=>0) (fun _=>none)∧Only [] w w'∧w.heap.size≤t:=by
 have hd:decide ((most:Int) < 1)=false:=decide_eq_false (by omega);have hd2:decide (300 < (most:Int))=false:=decide_eq_false (by omega)
 go_enter Tryz.func21,Tryz.ntmps21
 go_wp2
 refine bodyPost_ret (v := .tuple #[.pointer (some ⟨w.heap.size,0,none⟩),.nilIface]) (by simp [results,Tryz.results21,go_sem]) rfl ⟨w.heap.size,rfl,?_,(Only.refl _ _).alloc _,Nat.le_refl _⟩;have hh:=heap_alloc_last w (.cells #[.int .i64 (most:Nat),.slice none 0 0] 140);refine ⟨cell_of_row _ _ 0 _ _ _ hh,cell_of_row _ _ 1 _ _ _ hh,fun o=>frozen_of_row _ _ _ _ _ hh,⟨_,_,hh⟩,World.ownsRow_nil _ _ _ _,fun _ _=>⟨rfl,rfl⟩,by simp [noRow],(fun i n hn=>by cases hn),(fun i j n n' hn=>by cases hn),(fun i n hn=>by cases hn)⟩
theorem own_pair {w w2:World}{a b:Int}{ty:TypeId}(h:Only [] (w.alloc (.cells #[.int .i64 a,.int .i64 b] ty)) w2):
  w2.cell? ⟨w.heap.size,0,none⟩=some (.int .i64 a)∧w2.cell? ⟨w.heap.size,1,none⟩=some (.int .i64 b)∧(∀ o,w2.frozen? ⟨w.heap.size,o,none⟩=false)∧w.heap.size < w2.heap.size:=by
 have hh:=heap_alloc_last w (.cells #[.int .i64 a,.int .i64 b] ty)
 have hlt:w.heap.size < (w.alloc (.cells #[.int .i64 a,.int .i64 b] ty)).heap.size:=by simp
 refine ⟨(h.cell (p:=⟨w.heap.size,0,none⟩) hlt (by simp)).trans (cell_of_row _ _ 0 _ _ _ hh),(h.cell (p:=⟨w.heap.size,1,none⟩) hlt (by simp)).trans (cell_of_row _ _ 1 _ _ _ hh),fun o=>?_,Nat.lt_of_lt_of_le hlt h.size⟩;rw [h.frozen (p:=⟨w.heap.size,o,none⟩) hlt (by simp)];unfold World.frozen?;rw [hh];simp
theorem Only.of_drew {L:List Nat}{w w':World}(h:Only L w.drew w'):Only L w w':=⟨h.os,h.tape,h.output,h.size,h.block⟩
theorem tadd_full (w:World)(t:Nat)(p:Row)(most:Nat)(g:Nat→Nat)(nd:Nat→Option Nod)(K:Int)(E:Value)(h:TabAt w t p most g nd)(hm:p.N≤1000)(hE:w.cell? ⟨4,0,none⟩=some E)(hK:K=1∨K=2)(hf:most≤countTo nd p.N):
  Calls Tryz.prog 73 #[.pointer (some ⟨t,0,none⟩),.int .i64 K] w fun e w'=>e = .returned (.tuple #[.agg #[.int .i64 0,.int .i64 0],E])∧Only [] w w':=by
 have ct:=h.most;have htl:t < w.heap.size:=lt_of_cell ct;have hal:Only [] w (w.alloc (.cells #[.int .i64 0,.int .i64 0] 34)).drew:=((Only.refl _ _).alloc _).drew;have hcall:=tcount _ t p most g nd (h.kept hal (fun _ _=>by simp)) hm;have HE:Hid (w.cell? ⟨4,0,none⟩=some E):=hE;have hEl:4 < w.heap.size:=lt_of_cell hE;have HA:Hid (Only [] w (w.alloc (.cells #[.int .i64 0,.int .i64 0] 34)).drew):=hal;have hS0:=(hal.cell (p:=⟨t,0,none⟩) htl (by simp)).trans ct;have HCT:Hid (w.cell? ⟨t,0,none⟩=some (.int .i64 most)):=ct;have hle:=countTo_le nd p.N;generalize countTo nd p.N=cn at hcall hf hle;clear h hE hal ct;rcases hK with rfl | rfl
 all_goals go_enter Tryz.func73,Tryz.ntmps73
 all_goals go_wp2
 all_goals go_region_held3 (fun W=>W.cell? ⟨t,0,none⟩=some (.int .i64 most)) (first | exact hS0 | exact hS2)
  (first | (go_at_call 64;refine hcall.mono ?_;rintro e w2 ⟨rfl,ho2⟩;have HO:Hid (Only [] w w2):=HA.out.trans ho2 (fun _ hk=>by cases hk);have cE:w2.cell? ⟨4,0,none⟩=some E:=(HO.out.cell (p:=⟨4,0,none⟩) hEl (by simp)).trans HE.out;have hS2:=(HO.out.cell (p:=⟨t,0,none⟩) htl (by simp)).trans HCT.out;obtain ⟨c0,c1,f0,hl0⟩:=own_pair ho2.of_drew))
 all_goals go_wp2
 all_goals go_region
 all_goals go_wp2
 all_goals exact bodyPost_ret (v := .tuple #[.agg #[.int .i64 0,.int .i64 0],E]) (by simp [results,Tryz.results73,go_sem,c0,c1]) rfl ⟨rfl,((HO.out.setCell (Or.inr (Nat.le_refl _)) _).setCell (Or.inr (Nat.le_refl _)) _).drew⟩
end
end Go.Proofs.YtbdfjbmocifhmaaGreatDoor
