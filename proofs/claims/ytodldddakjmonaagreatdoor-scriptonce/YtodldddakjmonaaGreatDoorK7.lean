import Derived.Test.YtodldddakjmonaaGreatDoorK5
import Derived.Test.YtodldddakjmonaaGreatDoorK6
import Derived.Laws.OwnMore
import Derived.BigQuiet
import Derived.Deep.QuietTactic
import Derived.OwnWalk
import Derived.Deep.AppendLies
import Derived.Carry
set_option maxRecDepth 100000
set_option maxHeartbeats 8000000
namespace Go.Proofs.YtodldddakjmonaaGreatDoor
section
open Go Go.RowKit Go.Deep Go.Maps
structure NodAt (w:World)(n:Nod):Prop where
 c0:w.cell? ⟨n.b,0,none⟩=some (.int .i64 n.K)
 c1:w.cell? ⟨n.b,1,none⟩=some (.int .i64 n.Z)
 c2:w.cell? ⟨n.b,2,none⟩=some (.int .i64 n.L)
 c3:w.cell? ⟨n.b,3,none⟩=some (.int .i64 n.C)
 c4:w.cell? ⟨n.b,4,none⟩=some (.int .i64 n.UN)
 c5:w.cell? ⟨n.b,5,none⟩=some (.int .i64 n.UG)
 d:DataO w n.b 6 n.S n.H n.m
def Nod.foot (n:Nod):List Nat:=footD n.b n.m
theorem Nod.b_foot (n:Nod):n.b∈n.foot:=List.mem_cons_self ..
theorem NodAt.foot_lt {w:World}{n:Nod}(h:NodAt w n):∀ k∈n.foot,k < w.heap.size:=h.d.foot_lt
theorem NodAt.kept {w w':World}{n:Nod}{L:List Nat}(h:NodAt w n)(ho:Only L w w')(hd:∀ k∈n.foot,k∉L):NodAt w' n:=by
 have hb:n.b < w.heap.size:=lt_of_cell h.c0;have hn:n.b∉L:=hd _ n.b_foot
 exact ⟨(ho.cell (p:=⟨n.b,0,none⟩) hb hn).trans h.c0,(ho.cell (p:=⟨n.b,1,none⟩) hb hn).trans h.c1,(ho.cell (p:=⟨n.b,2,none⟩) hb hn).trans h.c2,(ho.cell (p:=⟨n.b,3,none⟩) hb hn).trans h.c3,
  (ho.cell (p:=⟨n.b,4,none⟩) hb hn).trans h.c4,(ho.cell (p:=⟨n.b,5,none⟩) hb hn).trans h.c5,h.d.kept ho hd⟩
structure Row where
 a:Option Nat
 N:Nat
 cap:Nat
def Row.v (p:Row):Value := .slice (p.a.map (fun b=>⟨b,0,none⟩)) p.N p.cap
theorem Row.own (p:Row):p.v.ownBlock=p.a:=by obtain ⟨a,N,cap⟩:=p;cases a<;>rfl
def placeCells (x:Nat×Option Nod):List Value:=[.int .i64 (x.1:Nat),.pointer (x.2.map (fun n=>⟨n.b,0,none⟩))]
theorem placeCells_len (x:Nat×Option Nod):(placeCells x).length=2:=rfl
def places (N:Nat)(g:Nat→Nat)(nd:Nat→Option Nod):List (Nat×Option Nod):=(List.range N).map (fun i=>(g i,nd i))
theorem places_len (N:Nat)(g:Nat→Nat)(nd:Nat→Option Nod):(places N g nd).length=N:=by simp [places]
theorem places_get {N i:Nat}(g:Nat→Nat)(nd:Nat→Option Nod)(h:i < N):(places N g nd)[i]?=some (g i,nd i):=by simp [places,h]
theorem places_set {N i:Nat}{g g':Nat→Nat}{nd nd':Nat→Option Nod}(hg:∀ j,j≠i→g' j=g j)(hn:∀ j,j≠i→nd' j=nd j):(places N g nd).set i (g' i,nd' i)=places N g' nd':=by
 apply List.ext_getElem?;intro j;rw [List.getElem?_set]
 by_cases hj:i=j
 · subst hj
   rw [if_pos rfl,places_len]
   by_cases h:i < N
   · rw [if_pos h,places_get _ _ h]
   · rw [if_neg h,List.getElem?_eq_none (by rw [places_len];omega)]
 · rw [if_neg hj]
   by_cases h:j < N
   · rw [places_get _ _ h,places_get _ _ h,hg j (Ne.symm hj),hn j (Ne.symm hj)]
   · rw [List.getElem?_eq_none (by rw [places_len];omega),List.getElem?_eq_none (by rw [places_len];omega)]
structure TabAt (w:World)(t:Nat)(p:Row)(most:Nat)(g:Nat→Nat)(nd:Nat→Option Nod):Prop where
 most:w.cell? ⟨t,0,none⟩=some (.int .i64 most)
 tab:w.cell? ⟨t,1,none⟩=some p.v
 tfz:∀ o,w.frozen? ⟨t,o,none⟩=false
 ty:Ty w t 199
 row:w.ownsRow 0 267 2 p.v p.N (rowOf placeCells (places p.N g nd))
 out:∀ i,p.N≤i→g i=0∧nd i=none
 pt:p.a≠some t
 node:∀ i n,nd i=some n→NodAt w n
 apart:∀ i j n n',nd i=some n→nd j=some n'→i≠j→∀ k∈n.foot,k∉n'.foot
 own:∀ i n,nd i=some n→t∉n.foot∧∀ b,p.a=some b→b∉n.foot
def InFoot (t:Nat)(p:Row)(_most:Nat)(nd:Nat→Option Nod)(k:Nat):Prop:=k=t∨p.a=some k∨∃ i n,nd i=some n∧k∈n.foot
section
variable {w w':World}{t most:Nat}{p p':Row}{g:Nat→Nat}{nd:Nat→Option Nod}
theorem InFoot.node {i:Nat}{n:Nod}(h:nd i=some n){k:Nat}(hk:k∈n.foot):InFoot t p most nd k:=Or.inr (Or.inr ⟨i,n,h,hk⟩)
theorem TabAt.tlt (h:TabAt w t p most g nd):t < w.heap.size:=lt_of_cell h.tab
theorem TabAt.plt (h:TabAt w t p most g nd){b:Nat}(hb:p.a=some b):b < w.heap.size:=(h.row.lt b (by rw [p.own,hb])).2
theorem TabAt.lt (h:TabAt w t p most g nd){i:Nat}{n:Nod}(hn:nd i=some n):i < p.N:=by
 rcases Nat.lt_or_ge i p.N with h1 | h1
 · exact h1
 · rw [(h.out i h1).2] at hn;cases hn
theorem TabAt.place_at (h:TabAt w t p most g nd){i:Nat}(hi:i < p.N):∃ b,p.a=some b∧w.cell? ⟨b,i*2,none⟩=some (.int .i64 (g i:Nat))∧w.cell? ⟨b,i*2+1,none⟩=some (.pointer ((nd i).map (fun n=>⟨n.b,0,none⟩)))∧(∀ o,w.frozen? ⟨b,o,none⟩=false)∧b < w.heap.size:=by
 have hr:=h.row;have hl:=fun b=>h.plt (b:=b);obtain ⟨a,N,cap⟩:=p;simp only [Row.v] at hr hi hl
 cases a with
 | none =>
  rcases hr.2 with ⟨h1,h2⟩ | ⟨b,cap',cur,h1,_⟩
  · omega
  · simp at h1
 | some b =>
  simp only [Option.map_some] at hr;refine ⟨b,rfl,?_,?_,fun o=>hr.frozenAt o,hl b rfl⟩
  · rw [hr.cellAt _ (by omega)]
    have:=rowOf_get placeCells_len _ i 0 _ (by decide) (places_get g nd hi)
    simpa [placeCells] using this
  · rw [hr.cellAt _ (by omega),rowOf_get placeCells_len _ i 1 _ (by decide) (places_get g nd hi)]
    rfl
theorem TabAt.foot_lt (h:TabAt w t p most g nd):∀ k,InFoot t p most nd k→k < w.heap.size:=by
 rintro k (rfl | hk | ⟨i,n,hn,hk⟩)
 · exact h.tlt
 · exact h.plt hk
 · exact (h.node i n hn).foot_lt k hk
theorem TabAt.kept {L:List Nat}(h:TabAt w t p most g nd)(ho:Only L w w')(hd:∀ k,InFoot t p most nd k→k∉L):TabAt w' t p most g nd:=by
 have htl:t∉L:=hd t (Or.inl rfl)
 exact ⟨(ho.cell (p:=⟨t,0,none⟩) h.tlt htl).trans h.most,(ho.cell (p:=⟨t,1,none⟩) h.tlt htl).trans h.tab,fun o=>(ho.frozen (p:=⟨t,o,none⟩) h.tlt htl).trans (h.tfz o),h.ty.only ho htl,
  ho.owns h.row (fun k hk=>hd k (Or.inr (Or.inl (by rw [← p.own];exact hk)))),h.out,h.pt,fun i n hn=>(h.node i n hn).kept ho (fun k hk=>hd k (.node hn hk)),h.apart,h.own⟩
theorem TabAt.place {g':Nat→Nat}{nd':Nat→Option Nod}{i b:Nat}(h:TabAt w t p most g nd)(hb:p.a=some b)(hi:i < p.N)(ho:Only [b] w w')(hr:w'.ownsRow 0 267 2 p.v p.N (rowOf placeCells ((places p.N g nd).set i (g' i,nd' i))))(hg:∀ j,j≠i→g' j=g j)(hn:∀ j,j≠i→nd' j=nd j)
   (hnew:∀ n,nd' i=some n→NodAt w' n∧∀ k∈n.foot,w.heap.size≤k):TabAt w' t p most g' nd':=by
 have ht:t < w.heap.size:=h.tlt
 have htb:t∉[b]:=by
   have:=h.pt;rw [hb] at this
   simpa using fun e:t=b=>this (by rw [e])
 have old:∀ j n,j≠i→nd' j=some n→nd j=some n:=fun j n hne e=>by rw [hn j hne] at e;exact e
 have hlt:∀ j n,j≠i→nd' j=some n→∀ k∈n.foot,k < w.heap.size:=fun j n hne e=>(h.node j n (old j n hne e)).foot_lt;rw [places_set hg hn] at hr;refine ⟨(ho.cell (p:=⟨t,0,none⟩) ht htb).trans h.most,(ho.cell (p:=⟨t,1,none⟩) ht htb).trans h.tab,fun o=>(ho.frozen (p:=⟨t,o,none⟩) ht htb).trans (h.tfz o),h.ty.only ho htb,hr,fun j hj=>?_,h.pt,fun j n e=>?_,fun j j' n n' e e' hne=>?_,fun j n e=>?_⟩
 · rw [hg j (by omega),hn j (by omega)]
   exact h.out j hj
 · by_cases hji:j=i
   · subst hji;exact (hnew n e).1
   · exact (h.node j n (old j n hji e)).kept ho (fun k hk hm=>by simp at hm;subst hm;exact (h.own j n (old j n hji e)).2 k hb hk)
 · by_cases hji:j=i
   · subst hji
     intro k hk hk';have h1:=(hnew n e).2 k hk;have h2:=hlt j' n' (Ne.symm hne) e' k hk';omega
   · by_cases hji':j'=i
     · subst hji'
       intro k hk hk';have h1:=(hnew n' e').2 k hk';have h2:=hlt j n hji e k hk;omega
     · exact h.apart j j' n n' (old j n hji e) (old j' n' hji' e') hne
 · by_cases hji:j=i
   · subst hji
     have h1:=(hnew n e).2;exact ⟨fun hk=>by have:=h1 t hk;omega,fun b' hb' hk=>by have:=h1 b' hk;have:=h.plt hb';omega⟩
   · exact h.own j n (old j n hji e)
theorem TabAt.turn {i:Nat}{n n':Nod}(h:TabAt w t p most g nd)(hnd:nd i=some n)(hb:n'.b=n.b)(hn:NodAt w' n')(ho:Only n.foot w w')(hsub:∀ k∈n'.foot,k∈n.foot∨w.heap.size≤k):TabAt w' t p most g (setN nd i (some n')):=by
 have ht:t < w.heap.size:=h.tlt;obtain ⟨ot,op⟩:=h.own i n hnd;have hi:=h.lt hnd
 have old:∀ j m,j≠i→setN nd i (some n') j=some m→nd j=some m:=fun j m hne e=>by rw [setN_other _ _ hne] at e;exact e
 refine ⟨(ho.cell (p:=⟨t,0,none⟩) ht ot).trans h.most,(ho.cell (p:=⟨t,1,none⟩) ht ot).trans h.tab,fun o=>(ho.frozen (p:=⟨t,o,none⟩) ht ot).trans (h.tfz o),h.ty.only ho ot,?_,fun j hj=>?_,h.pt,fun j m e=>?_,fun j j' m m' e e' hne=>?_,fun j m e=>?_⟩
 · have hr:=ho.owns h.row (fun k hk=>op k (by rw [← p.own];exact hk))
   have e:rowOf placeCells (places p.N g nd)=rowOf placeCells (places p.N g (setN nd i (some n'))):=by
     rw [← places_set (g:=g) (g':=g) (nd:=nd) (nd':=setN nd i (some n')) (i:=i) (fun _ _=>rfl) (fun j hj=>setN_other _ _ hj)];have hs:=rowOf_set placeCells_len (places p.N g nd) i 0 (g i,nd i) (g i,setN nd i (some n') i) (.int .i64 (g i:Nat)) (by decide) (places_get g nd hi) (by simp [placeCells,setN_same,hnd,hb]);rw [← hs]
     symm
     apply List.ext_getElem?;intro k;rw [List.getElem?_set]
     split
     · rename_i hk
       subst hk;rw [rowOf_get placeCells_len _ i 0 _ (by decide) (places_get g nd hi)]
       split
       · rfl
       · rename_i hk
         rw [rowOf_len placeCells_len,places_len] at hk;omega
     · rfl
   rw [← e];exact hr
 · rw [setN_other _ _ (by omega)]
   exact h.out j hj
 · by_cases hji:j=i
   · subst hji;rw [setN_same] at e;cases e;exact hn
   · exact (h.node j m (old j m hji e)).kept ho (fun k hk=>h.apart j i m n (old j m hji e) hnd hji k hk)
 · by_cases hji:j=i
   · subst hji
     rw [setN_same] at e;cases e;intro k hk hk';rcases hsub k hk with h1 | h1
     · exact h.apart j j' n m' hnd (old j' m' (Ne.symm hne) e') hne k h1 hk'
     · have:=(h.node j' m' (old j' m' (Ne.symm hne) e')).foot_lt k hk'
       omega
   · by_cases hji':j'=i
     · subst hji'
       rw [setN_same] at e';cases e';intro k hk hk';rcases hsub k hk' with h1 | h1
       · exact h.apart j j' m n (old j m hji e) hnd hne k hk h1
       · have:=(h.node j m (old j m hji e)).foot_lt k hk
         omega
     · exact h.apart j j' m m' (old j m hji e) (old j' m' hji' e') hne
 · by_cases hji:j=i
   · subst hji
     rw [setN_same] at e;cases e;refine ⟨fun hk=>?_,fun b hb' hk=>?_⟩
     · rcases hsub t hk with h1 | h1
       · exact ot h1
       · omega
     · rcases hsub b hk with h1 | h1
       · exact op b hb' h1
       · have:=h.plt hb';omega
   · exact h.own j m (old j m hji e)
end
theorem isFree_any (w:World)(z:Int)(a:Option Addr):Calls Tryz.prog 184 #[.agg #[.int .i64 z,.pointer a]] w fun e w'=>e = .returned (.bool a.isNone)∧Only [] w w':=by
 cases a with
 | none =>
  go_enter Tryz.func184,Tryz.ntmps184
  go_wp2
  go_ret
  exact ⟨rfl,(Only.refl _ _).alloc _⟩
 | some a =>
  go_enter Tryz.func184,Tryz.ntmps184
  go_wp2
  go_ret
  exact ⟨rfl,(Only.refl _ _).alloc _⟩
theorem ptr_none (nd:Nat→Option Nod)(i:Nat):((nd i).map (fun n=>(⟨n.b,0,none⟩:Addr))).isNone=(nd i).isNone:=by cases nd i<;>rfl
def leastFree (most:Nat)(nd:Nat→Option Nod)(r:Int):Prop :=
 (r = -1∧∀ j:Nat,j < most→(nd j).isSome=true)∨∃ i:Nat,r=(i:Int)∧i < most∧nd i=none∧∀ j:Nat,j < i→(nd j).isSome=true
theorem Row.open (p:Row):∃ ad,p.v = .slice ad p.N p.cap∧∀ b,p.a=some b→ad=some ⟨b,0,none⟩:=⟨_,rfl,fun b hb=>by rw [hb];rfl⟩
theorem indexFree (w:World)(t:Nat)(p:Row)(most:Nat)(g:Nat→Nat)(nd:Nat→Option Nod)(h:TabAt w t p most g nd)(hm:p.N≤1000):
  Calls Tryz.prog 185 #[p.v,.func (.func 184) #[] #[]] w fun e w'=>(∃ r,e = .returned (.int .i64 r)∧leastFree p.N nd r)∧Only [] w w':=by
 have H:Hid (TabAt w t p most g nd):=h;clear h;obtain ⟨ad,hv,had⟩:=p.open;rw [hv];clear hv;have HAD:Hid (∀ b,p.a=some b→ad=some ⟨b,0,none⟩):=had;clear had;obtain ⟨N,hN⟩:∃ N,p.N=N:=⟨_,rfl⟩;have HN:Hid (p.N=N):=hN;rw [hN] at hm ⊢;clear hN;generalize p.cap=cap
 go_enter Tryz.func185,Tryz.ntmps185
 go_wp2
 go_loopw [5,8] (fun _ i wr=>∃ j:Nat,i = .int .i64 j∧j≤N∧(∀ q,q < j→(nd q).isSome=true)∧Only [] w wr) (fun _ i _=>N - (intOf i).toNat)
 case atStart=>exact ⟨0,rfl,Nat.zero_le _,fun q hq=>by omega,Only.refl _ _⟩
 case round =>
  obtain ⟨j,rfl,hj,hall,ho⟩:=hrel;have HA:Hid (∀ q,q < j→(nd q).isSome=true):=hall;clear hall
  by_cases hlt:j < N
  · have hT:=H.out.kept ho (fun _ _=>by simp)
    obtain ⟨b,hb,c0,c1,_,_⟩:=hT.place_at (by rw [HN.out];exact hlt);obtain rfl:=HAD.out b hb;have hcall:=isFree_any wr (g j) ((nd j).map (fun n=>(⟨n.b,0,none⟩:Addr)));rw [ptr_none] at hcall;clear hT hb
    cases hn:(nd j).isNone with
    | true =>
     rw [hn] at hcall
     go_wp2_with (go_at_call 184;go_must (refine hcall.mono ?_);rintro e w2 ⟨rfl,ho2⟩)
     go_ret
     exact ⟨⟨j,rfl,Or.inr ⟨j,rfl,hlt,by simpa using hn,HA.out⟩⟩,ho.trans ho2 (fun _ hk=>by cases hk)⟩
    | false =>
     rw [hn] at hcall
     go_wp2_with (go_at_call 184;go_must (refine hcall.mono ?_);rintro e w2 ⟨rfl,ho2⟩)
     go_roundw
     case rel=>exact ⟨j+1,by go_num,by omega,fun q hq=>by
      rcases Nat.lt_or_ge q j with h1 | h1
      · exact HA.out q h1
      · obtain rfl:q=j:=by omega
        cases hh:nd q with
        | none=>rw [hh] at hn;cases hn
        | some n=>rfl,ho.trans ho2 (fun _ hk=>by cases hk)⟩
     case measure=>simp [intOf];omega
  · obtain rfl:j=N:=by omega
    go_wp2
    go_ret
    exact ⟨⟨-1,rfl,Or.inl ⟨rfl,HA.out⟩⟩,ho⟩
def countTo (nd:Nat→Option Nod)(j:Nat):Nat:=((List.range j).filter (fun i=>(nd i).isSome)).length
theorem countTo_succ (nd:Nat→Option Nod)(j:Nat):countTo nd (j+1)=countTo nd j+if (nd j).isSome then 1 else 0:=by
 unfold countTo;rw [List.range_succ,List.filter_append,List.length_append]
 cases h:nd j<;>simp [h]
theorem countTo_le (nd:Nat→Option Nod)(j:Nat):countTo nd j≤j:=by
 have:=List.length_filter_le (fun i=>(nd i).isSome) (List.range j);rw [List.length_range] at this;exact this
theorem tcount (w:World)(t:Nat)(p:Row)(most:Nat)(g:Nat→Nat)(nd:Nat→Option Nod)(h:TabAt w t p most g nd)(hm:p.N≤1000):
  Calls Tryz.prog 131 #[.pointer (some ⟨t,0,none⟩)] w fun e w'=>e = .returned (.int .i64 (countTo nd p.N:Nat))∧Only [] w w':=by
 have H:Hid (TabAt w t p most g nd):=h;have ct:=h.tab;clear h;obtain ⟨ad,hv,had⟩:=p.open;rw [hv] at ct;clear hv;have HAD:Hid (∀ b,p.a=some b→ad=some ⟨b,0,none⟩):=had;clear had;obtain ⟨N,hN⟩:∃ N,p.N=N:=⟨_,rfl⟩;have HN:Hid (p.N=N):=hN;rw [hN] at hm ct ⊢;clear hN;generalize p.cap=cap at ct
 go_enter Tryz.func131,Tryz.ntmps131
 go_wp2
 clear ct
 go_loopw [3,5,11] (fun c _ i wr=>∃ j:Nat,i = .int .i64 j∧j≤N∧c = .int .i64 (countTo nd j:Nat)∧Only [] w wr) (fun _ _ i _=>N - (intOf i).toNat)
 case atStart=>exact ⟨0,rfl,Nat.zero_le _,rfl,Only.refl _ _⟩
 case round =>
  obtain ⟨j,rfl,hj,rfl,ho⟩:=hrel;have hle:=countTo_le nd j
  by_cases hlt:j < N
  · have hT:=H.out.kept ho (fun _ _=>by simp)
    obtain ⟨b,hb,c0,c1,_,_⟩:=hT.place_at (by rw [HN.out];exact hlt);obtain rfl:=HAD.out b hb;clear hb;have hs:=countTo_succ nd j;have HC:Hid (countTo nd (j+1)=countTo nd j+if (nd j).isSome then 1 else 0):=hs;clear hT hs;generalize hK:countTo nd j=K at hle HC ⊢;generalize hpa:(nd j).map (fun n=>(⟨n.b,0,none⟩:Addr))=pa at c1;have hcall:=isFree_any (wr.alloc (.cells #[.int .i64 (g j:Nat),.pointer pa] 267)) (g j) pa
    have HN:Hid (pa.isNone=!(nd j).isSome):=by subst hpa;cases nd j<;>rfl
    clear hpa hK
    cases hn:pa.isNone with
    | true =>
     rw [hn] at hcall
     go_wp2_with (go_at_call 184;go_must (refine hcall.mono ?_);rintro e w2 ⟨rfl,ho2⟩)
     go_roundw
     case rel =>
      have h1:=HN.out;rw [hn] at h1;have h2:=HC.out;rw [show (nd j).isSome=false by simpa using h1.symm] at h2;exact ⟨j+1,by go_num,by omega,by rw [h2];simp,(ho.alloc _).trans ho2 (fun _ hk=>by cases hk)⟩
     case measure=>simp [intOf];omega
    | false =>
     rw [hn] at hcall
     go_wp2_with (go_at_call 184;go_must (refine hcall.mono ?_);rintro e w2 ⟨rfl,ho2⟩)
     go_roundw
     case rel =>
      have h1:=HN.out;rw [hn] at h1;have h2:=HC.out;rw [show (nd j).isSome=true by simpa using h1.symm] at h2;exact ⟨j+1,by go_num,by omega,by rw [h2];simp,(ho.alloc _).trans ho2 (fun _ hk=>by cases hk)⟩
     case measure=>simp [intOf];omega
  · obtain rfl:j=N:=by omega
    go_wp2
    go_ret
    exact ⟨rfl,ho⟩
theorem Only.drewN {L:List Nat}{a w:World}(h:Only L a w)(n:Nat):Only L a (w.drewN n):=⟨h.os,h.tape,h.output,h.size,h.block⟩
def Stale (most:Nat)(g:Nat→Nat)(nd:Nat→Option Nod)(N G:Int):Prop:=∀ i n,i < most→N=(i:Int)→nd i=some n→G≠(g i:Int)
def Stale0 (g:Nat→Nat)(nd:Nat→Option Nod)(N G:Int):Prop:=∀ (i:Nat) n,N=(i:Int)→nd i=some n→G≠(g i:Int)
theorem Stale.all {w:World}{t:Nat}{p:Row}{most:Nat}{g:Nat→Nat}{nd:Nat→Option Nod}{N G:Int}(hs:Stale most g nd N G)(h:TabAt w t p most g nd)(hN:p.N≤most):Stale0 g nd N G:=fun i n e hn=>hs i n (Nat.lt_of_lt_of_le (h.lt hn) hN) e hn
theorem find_beyond (w:World)(t most cap:Nat)(ad:Option Addr)(N G:Int)(E:Value)(ct:w.cell? ⟨t,1,none⟩=some (.slice ad most cap))(hE:w.cell? ⟨12,0,none⟩=some E)(hs:N < 0∨(most:Int)≤N):
   Calls Tryz.prog 237 #[.pointer (some ⟨t,0,none⟩),.agg #[.int .i64 N,.int .i64 G]] w fun e w'=>e = .returned (.tuple #[.pointer none,E])∧Only [] w w':=by
 have hEl:12 < w.heap.size:=lt_of_cell hE;have htl:t < w.heap.size:=lt_of_cell ct
 by_cases h1:N < 0
 · have hd1:decide (N < 0)=true:=decide_eq_true h1
   go_enter Tryz.func237,Tryz.ntmps237
   go_wp2
   go_big_quiet (fail)
   go_wp2
   go_region
   go_wp2
   exact bodyPost_ret (v := .tuple #[.pointer none,E]) (by simp [results,Tryz.results237,go_sem]) rfl ⟨rfl,(((Only.refl _ _).alloc _).drewN _).drew⟩
 · have hd1:decide (N < 0)=false:=decide_eq_false h1
   have hd2:decide ((most:Int)≤N)=true:=decide_eq_true (by omega)
   go_enter Tryz.func237,Tryz.ntmps237
   go_wp2
   go_big_quiet (fail)
   go_wp2
   go_region
   go_wp2
   exact bodyPost_ret (v := .tuple #[.pointer none,E]) (by simp [results,Tryz.results237,go_sem]) rfl ⟨rfl,(((Only.refl _ _).alloc _).drewN _).drew⟩
def FoundAt (c:Prop)(E:Value)(pa:Option Addr)(e:Ending):Prop:=(c∧e = .returned (.tuple #[.pointer none,E]))∨(¬ c∧e = .returned (.tuple #[.pointer pa,.nilIface]))
theorem find_at (w:World)(t:Nat)(p:Row)(most i:Nat)(g:Nat→Nat)(nd:Nat→Option Nod)(G:Int)(E:Value)(h:TabAt w t p most g nd)(hi:i < p.N)(hE:w.cell? ⟨12,0,none⟩=some E):
  Calls Tryz.prog 237 #[.pointer (some ⟨t,0,none⟩),.agg #[.int .i64 i,.int .i64 G]] w fun e w'=>FoundAt ((nd i).isNone=true∨(g i:Int)≠G) E ((nd i).map (fun n=>⟨n.b,0,none⟩)) e∧Only [] w w':=by
 have ct:=h.tab;obtain ⟨b,hb,c0,c1,_,hlt⟩:=h.place_at hi;have hpt:b≠t:=fun e=>h.pt (by rw [hb,e]);clear h;obtain ⟨a,most,cap⟩:=p;simp only at hb hi;subst hb;simp only [Row.v,Option.map_some] at ct;have htl:t < w.heap.size:=lt_of_cell ct;generalize hpa:(nd i).map (fun n=>(⟨n.b,0,none⟩:Addr))=pa at c1 ⊢
 have hn:(nd i).isNone=pa.isNone:=by subst hpa;cases nd i<;>rfl
 rw [hn];clear hpa hn nd;generalize g i=gi at c0 ⊢;clear g;have hd1:decide ((i:Int) < 0)=false:=decide_eq_false (by omega);have hd2:decide ((most:Int)≤(i:Int))=false:=decide_eq_false (by omega)
 go_enter Tryz.func237,Tryz.ntmps237
 go_wp2
 go_big_quiet (fail)
 go_wp2
 go_region
 have hcall:=isFree_any ((((w.alloc (.cells #[.int .i64 (i:Int),.int .i64 G] 116)).drewN (nq+1)).alloc (.cells #[.int .i64 (gi:Nat),.pointer pa] 267))) gi pa;have HO:Hid (Only [] w (((w.alloc (.cells #[.int .i64 (i:Int),.int .i64 G] 116)).drewN (nq+1)).alloc (.cells #[.int .i64 (gi:Nat),.pointer pa] 267))):=(((Only.refl _ _).alloc _).drewN _).alloc _
 have e0:(((w.alloc (.cells #[.int .i64 (i:Int),.int .i64 G] 116)).drewN (nq+1)).alloc (.cells #[.int .i64 (gi:Nat),.pointer pa] 267)).cell? ⟨w.heap.size,1,none⟩=some (.int .i64 G):=by
  rw [World.cell?_alloc_lt _ _ _ (by simp)];exact cell_of_row _ _ 1 _ _ _ (heap_alloc_last w _)
 have e1:(((w.alloc (.cells #[.int .i64 (i:Int),.int .i64 G] 116)).drewN (nq+1)).alloc (.cells #[.int .i64 (gi:Nat),.pointer pa] 267)).cell? ⟨w.heap.size+1,0,none⟩=some (.int .i64 gi):=by
  have:=heap_alloc_last ((w.alloc (.cells #[.int .i64 (i:Int),.int .i64 G] 116)).drewN (nq+1)) (.cells #[.int .i64 (gi:Nat),.pointer pa] 267);simp only [World.drewN,World.size_alloc] at this;exact cell_of_row _ _ 0 _ _ _ this
 have e2:(((w.alloc (.cells #[.int .i64 (i:Int),.int .i64 G] 116)).drewN (nq+1)).alloc (.cells #[.int .i64 (gi:Nat),.pointer pa] 267)).cell? ⟨w.heap.size+1,1,none⟩=some (.pointer pa):=by
  have:=heap_alloc_last ((w.alloc (.cells #[.int .i64 (i:Int),.int .i64 G] 116)).drewN (nq+1)) (.cells #[.int .i64 (gi:Nat),.pointer pa] 267);simp only [World.drewN,World.size_alloc] at this;exact cell_of_row _ _ 1 _ _ _ this
 have HE:Hid (w.cell? ⟨12,0,none⟩=some E):=hE;clear c0 c1 ct hE;generalize (((w.alloc (.cells #[.int .i64 (i:Int),.int .i64 G] 116)).drewN (nq+1)).alloc (.cells #[.int .i64 (gi:Nat),.pointer pa] 267))=wb at hcall HO e0 e1 e2 ⊢;have hl0:w.heap.size < wb.heap.size:=lt_of_cell e0;have hl1:w.heap.size+1 < wb.heap.size:=lt_of_cell e1;have hEl:12 < w.heap.size:=lt_of_cell HE.out
 cases pa with
 | none =>
  go_wp2_with (go_at_call 184;go_must (refine hcall.mono ?_);rintro e w2 ⟨rfl,ho2⟩;have HO2:Hid (Only [] w w2):=HO.out.trans ho2 (fun _ hk=>by cases hk);have cE:w2.cell? ⟨12,0,none⟩=some E:=(HO2.out.cell (p:=⟨12,0,none⟩) hEl (by simp)).trans HE.out)
  go_region
  go_wp2
  exact bodyPost_ret (v := .tuple #[.pointer none,E]) (by simp [results,Tryz.results237,go_sem]) rfl ⟨Or.inl ⟨Or.inl rfl,rfl⟩,HO2.out.drew⟩
 | some a =>
  by_cases hG:(gi:Int)=G
  · subst hG
    go_wp2_with (go_at_call 184;go_must (refine hcall.mono ?_);rintro e w2 ⟨rfl,ho2⟩;have HO2:Hid (Only [] w w2):=HO.out.trans ho2 (fun _ hk=>by cases hk);have x0:=(ho2.cell (p:=⟨w.heap.size,1,none⟩) hl0 (by simp)).trans e0;have x1:=(ho2.cell (p:=⟨w.heap.size+1,0,none⟩) hl1 (by simp)).trans e1;have x2:=(ho2.cell (p:=⟨w.heap.size+1,1,none⟩) hl1 (by simp)).trans e2)
    exact bodyPost_ret (v := .tuple #[.pointer (some a),.nilIface]) (by simp [results,Tryz.results237,go_sem]) rfl ⟨Or.inr ⟨by simp,rfl⟩,HO2.out⟩
  · go_wp2_with (go_at_call 184;go_must (refine hcall.mono ?_);rintro e w2 ⟨rfl,ho2⟩;have HO2:Hid (Only [] w w2):=HO.out.trans ho2 (fun _ hk=>by cases hk);have x0:=(ho2.cell (p:=⟨w.heap.size,1,none⟩) hl0 (by simp)).trans e0;have x1:=(ho2.cell (p:=⟨w.heap.size+1,0,none⟩) hl1 (by simp)).trans e1;have cE:w2.cell? ⟨12,0,none⟩=some E:=(HO2.out.cell (p:=⟨12,0,none⟩) hEl (by simp)).trans HE.out)
    go_region
    go_wp2
    exact bodyPost_ret (v := .tuple #[.pointer none,E]) (by simp [results,Tryz.results237,go_sem]) rfl ⟨Or.inl ⟨Or.inr hG,rfl⟩,HO2.out.drew⟩
theorem find_stale (w:World)(t:Nat)(p:Row)(most:Nat)(g:Nat→Nat)(nd:Nat→Option Nod)(N G:Int)(E:Value)(h:TabAt w t p most g nd)(hE:w.cell? ⟨12,0,none⟩=some E)(hs:Stale0 g nd N G):
   Calls Tryz.prog 237 #[.pointer (some ⟨t,0,none⟩),.agg #[.int .i64 N,.int .i64 G]] w fun e w'=>e = .returned (.tuple #[.pointer none,E])∧Only [] w w':=by
 by_cases h1:N < 0∨(p.N:Int)≤N
 · exact find_beyond w t p.N p.cap _ N G E h.tab hE h1
 · obtain ⟨i,rfl⟩:∃ i:Nat,N=(i:Int):=⟨N.toNat,by omega⟩
   refine (find_at w t p most i g nd G E h (by omega) hE).mono fun e w' ⟨he,ho⟩=>⟨?_,ho⟩;rcases he with ⟨_,he⟩ | ⟨hc,_⟩
   · exact he
   · refine absurd ?_ hc
     cases hn:nd i with
     | none=>exact Or.inl rfl
     | some n=>exact Or.inr (fun e=>hs i n rfl hn e.symm)
theorem find_ok (w:World)(t:Nat)(p:Row)(most i:Nat)(g:Nat→Nat)(nd:Nat→Option Nod)(n:Nod)(h:TabAt w t p most g nd)(hn:nd i=some n):
  Calls Tryz.prog 237 #[.pointer (some ⟨t,0,none⟩),.agg #[.int .i64 i,.int .i64 (g i:Nat)]] w fun e w'=>e = .returned (.tuple #[.pointer (some ⟨n.b,0,none⟩),.nilIface])∧Only [] w w':=by
 have hi:=h.lt hn;have ct:=h.tab;obtain ⟨b,hb,c0,c1,_,hlt⟩:=h.place_at hi;have hpt:b≠t:=fun e=>h.pt (by rw [hb,e]);clear h;obtain ⟨a,most,cap⟩:=p;simp only at hb hi;subst hb;simp only [Row.v,Option.map_some] at ct;have htl:t < w.heap.size:=lt_of_cell ct;rw [hn,Option.map_some] at c1;clear hn nd;generalize n.b=nb at c1 ⊢;obtain ⟨pa,hpa⟩:∃ pa:Option Addr,pa=some ⟨nb,0,none⟩:=⟨_,rfl⟩;rw [← hpa] at c1;have HPA:Hid (pa=some ⟨nb,0,none⟩):=hpa;clear hpa;generalize g i=gi at c0 ⊢;clear g;have hd1:decide ((i:Int) < 0)=false:=decide_eq_false (by omega);have hd2:decide ((most:Int)≤(i:Int))=false:=decide_eq_false (by omega)
 go_enter Tryz.func237,Tryz.ntmps237
 go_wp2
 go_big_quiet (fail)
 go_wp2
 go_region
 have hcall:=isFree_any ((((w.alloc (.cells #[.int .i64 (i:Int),.int .i64 (gi:Nat)] 116)).drewN (nq+1)).alloc (.cells #[.int .i64 (gi:Nat),.pointer pa] 267))) gi pa;have HO:Hid (Only [] w (((w.alloc (.cells #[.int .i64 (i:Int),.int .i64 (gi:Nat)] 116)).drewN (nq+1)).alloc (.cells #[.int .i64 (gi:Nat),.pointer pa] 267))):=(((Only.refl _ _).alloc _).drewN _).alloc _
 have e0:(((w.alloc (.cells #[.int .i64 (i:Int),.int .i64 (gi:Nat)] 116)).drewN (nq+1)).alloc (.cells #[.int .i64 (gi:Nat),.pointer pa] 267)).cell? ⟨w.heap.size,1,none⟩=some (.int .i64 (gi:Nat)):=by
  rw [World.cell?_alloc_lt _ _ _ (by simp)];exact cell_of_row _ _ 1 _ _ _ (heap_alloc_last w _)
 have e1:(((w.alloc (.cells #[.int .i64 (i:Int),.int .i64 (gi:Nat)] 116)).drewN (nq+1)).alloc (.cells #[.int .i64 (gi:Nat),.pointer pa] 267)).cell? ⟨w.heap.size+1,0,none⟩=some (.int .i64 gi):=by
  have:=heap_alloc_last ((w.alloc (.cells #[.int .i64 (i:Int),.int .i64 (gi:Nat)] 116)).drewN (nq+1)) (.cells #[.int .i64 (gi:Nat),.pointer pa] 267);simp only [World.drewN,World.size_alloc] at this;exact cell_of_row _ _ 0 _ _ _ this
 have e2:(((w.alloc (.cells #[.int .i64 (i:Int),.int .i64 (gi:Nat)] 116)).drewN (nq+1)).alloc (.cells #[.int .i64 (gi:Nat),.pointer pa] 267)).cell? ⟨w.heap.size+1,1,none⟩=some (.pointer pa):=by
  have:=heap_alloc_last ((w.alloc (.cells #[.int .i64 (i:Int),.int .i64 (gi:Nat)] 116)).drewN (nq+1)) (.cells #[.int .i64 (gi:Nat),.pointer pa] 267);simp only [World.drewN,World.size_alloc] at this;exact cell_of_row _ _ 1 _ _ _ this
 clear c0 c1 ct;generalize (((w.alloc (.cells #[.int .i64 (i:Int),.int .i64 (gi:Nat)] 116)).drewN (nq+1)).alloc (.cells #[.int .i64 (gi:Nat),.pointer pa] 267))=wb at hcall HO e0 e1 e2 ⊢;have hl0:w.heap.size < wb.heap.size:=lt_of_cell e0;have hl1:w.heap.size+1 < wb.heap.size:=lt_of_cell e1;obtain rfl:=HPA.out;clear HPA
 go_wp2_with (go_at_call 184;go_must (refine hcall.mono ?_);rintro e w2 ⟨rfl,ho2⟩;have HO2:Hid (Only [] w w2):=HO.out.trans ho2 (fun _ hk=>by cases hk);have x0:=(ho2.cell (p:=⟨w.heap.size,1,none⟩) hl0 (by simp)).trans e0;have x1:=(ho2.cell (p:=⟨w.heap.size+1,0,none⟩) hl1 (by simp)).trans e1;have x2:=(ho2.cell (p:=⟨w.heap.size+1,1,none⟩) hl1 (by simp)).trans e2)
 exact bodyPost_ret (v := .tuple #[.pointer (some ⟨nb,0,none⟩),.nilIface]) (by simp [results,Tryz.results237,go_sem]) rfl ⟨rfl,HO2.out⟩
theorem placeInfo:(Tryz.prog.info? 267).map (fun i=>(i.zero,i.size,i.bytes))=some (some (.agg #[.int .i64 0,.pointer none]),2,16):=by kernel_rfl
theorem placesUnd:Tryz.prog.underlying 197=some (.slice 267):=by kernel_rfl
def noRow:Row:=⟨none,0,0⟩
theorem tnew (w:World)(most:Nat)(h1:1≤most)(h2:most≤300):
  Calls Tryz.prog 54 #[.int .i64 most] w fun e w'=>∃ t,e = .returned (.tuple #[.pointer (some ⟨t,0,none⟩),.nilIface])∧TabAt w' t noRow most (fun _=>0) (fun _=>none)∧Only [] w w'∧w.heap.size≤t:=by
 have hd:decide ((most:Int) < 1)=false:=decide_eq_false (by omega);have hd2:decide (300 < (most:Int))=false:=decide_eq_false (by omega)
 go_enter Tryz.func54,Tryz.ntmps54
 go_wp2
 refine bodyPost_ret (v := .tuple #[.pointer (some ⟨w.heap.size,0,none⟩),.nilIface]) (by simp [results,Tryz.results54,go_sem]) rfl ⟨w.heap.size,rfl,?_,(Only.refl _ _).alloc _,Nat.le_refl _⟩;have hh:=heap_alloc_last w (.cells #[.int .i64 (most:Nat),.slice none 0 0] 199);refine ⟨cell_of_row _ _ 0 _ _ _ hh,cell_of_row _ _ 1 _ _ _ hh,fun o=>frozen_of_row _ _ _ _ _ hh,⟨_,_,hh⟩,World.ownsRow_nil _ _ _ _,fun _ _=>⟨rfl,rfl⟩,by simp [noRow],(fun i n hn=>by cases hn),(fun i j n n' hn=>by cases hn),(fun i n hn=>by cases hn)⟩
theorem own_pair {w w2:World}{a b:Int}{ty:TypeId}(h:Only [] (w.alloc (.cells #[.int .i64 a,.int .i64 b] ty)) w2):
  w2.cell? ⟨w.heap.size,0,none⟩=some (.int .i64 a)∧w2.cell? ⟨w.heap.size,1,none⟩=some (.int .i64 b)∧(∀ o,w2.frozen? ⟨w.heap.size,o,none⟩=false)∧w.heap.size < w2.heap.size:=by
 have hh:=heap_alloc_last w (.cells #[.int .i64 a,.int .i64 b] ty)
 have hlt:w.heap.size < (w.alloc (.cells #[.int .i64 a,.int .i64 b] ty)).heap.size:=by simp
 refine ⟨(h.cell (p:=⟨w.heap.size,0,none⟩) hlt (by simp)).trans (cell_of_row _ _ 0 _ _ _ hh),(h.cell (p:=⟨w.heap.size,1,none⟩) hlt (by simp)).trans (cell_of_row _ _ 1 _ _ _ hh),fun o=>?_,Nat.lt_of_lt_of_le hlt h.size⟩;rw [h.frozen (p:=⟨w.heap.size,o,none⟩) hlt (by simp)];unfold World.frozen?;rw [hh];simp
theorem Only.of_drew {L:List Nat}{w w':World}(h:Only L w.drew w'):Only L w w':=⟨h.os,h.tape,h.output,h.size,h.block⟩
theorem free_none {N:Nat}{nd:Nat→Option Nod}{r:Int}(hf:∀ j,j < N→(nd j).isSome=true)(hr:leastFree N nd r):r = -1:=by
 rcases hr with ⟨h1,_⟩ | ⟨i,_,hi,hn,_⟩
 · exact h1
 · have:=hf i hi
   rw [hn] at this
   cases this
theorem free_some {most:Nat}{nd:Nat→Option Nod}{r:Int}{i:Nat}(hi:i < most)(hn:nd i=none)(hb:∀ j,j < i→(nd j).isSome=true)(hr:leastFree most nd r):r=(i:Int):=by
 rcases hr with ⟨_,h1⟩ | ⟨j,rfl,hj,hjn,hjb⟩
 · have:=h1 i hi
   rw [hn] at this
   cases this
 · rcases Nat.lt_trichotomy i j with h | h | h
   · have:=hjb i h
     rw [hn] at this
     cases this
   · rw [h]
   · have:=hb j h
     rw [hjn] at this
     cases this
def newNod (b:Nat)(K:Int):Nod:=⟨b,K,0,0,0,0,0,⟨#[]⟩,[],none⟩
def nodeCells (K:Int):Array Value:=#[.int .i64 K,.int .i64 0,.int .i64 0,.int .i64 0,.int .i64 0,.int .i64 0,.int .i64 0,.map none]
theorem newNod_at (w:World)(K:Int):NodAt (w.alloc (.cells (nodeCells K) 265)) (newNod w.heap.size K):=by
 have hh:=heap_alloc_last w (.cells (nodeCells K) 265);refine ⟨cell_of_row _ _ 0 _ _ _ hh,cell_of_row _ _ 1 _ _ _ hh,cell_of_row _ _ 2 _ _ _ hh,cell_of_row _ _ 3 _ _ _ hh,cell_of_row _ _ 4 _ _ _ hh,cell_of_row _ _ 5 _ _ _ hh,cell_of_row _ _ 6 _ _ _ hh,cell_of_row _ _ 7 _ _ _ hh,fun k=>?_,⟨_,_,hh⟩,_,Same.start,rfl⟩;show World.frozen? _ ⟨w.heap.size,k,none⟩=false;unfold World.frozen?;rw [hh];simp
theorem rowOf_single {α:Type}(c:α→List Value)(x:α):rowOf c [x]=c x:=by simp [rowOf]
theorem places_more (N:Nat)(g:Nat→Nat)(nd:Nat→Option Nod):places (N+1) g nd=places N g nd++[(g N,nd N)]:=by simp [places,List.range_succ]
theorem TabAt.more {w w1:World}{t most b cap:Nat}{p:Row}{g:Nat→Nat}{nd:Nat→Option Nod}(h:TabAt w t p most g nd)(ho:Only p.a.toList w w1)(hr:w1.ownsRow 0 267 2 (.slice (some ⟨b,0,none⟩) (p.N+1) cap) (p.N+1) (rowOf placeCells (places p.N g nd)++[.int .i64 0,.pointer none]))
   (hb:p.a=some b∨w.heap.size≤b):TabAt (w1.setCell ⟨t,1,none⟩ (.slice (some ⟨b,0,none⟩) (p.N+1) cap)) t ⟨some b,p.N+1,cap⟩ most g nd∧Only (t::p.a.toList) w (w1.setCell ⟨t,1,none⟩ (.slice (some ⟨b,0,none⟩) (p.N+1) cap)):=by
 have ht:=h.tlt;have htp:t∉p.a.toList:=fun hm=>h.pt (by simpa using hm)
 have hbt:b≠t:=by
   rcases hb with h1 | h1
   · exact fun e=>h.pt (by rw [h1,e])
   · omega
 have o2:Only (t::p.a.toList) w (w1.setCell ⟨t,1,none⟩ (.slice (some ⟨b,0,none⟩) (p.N+1) cap)):=(ho.mono (L':=t::p.a.toList) (fun i hi=>Or.inl (List.mem_cons_of_mem _ hi))).setCell (Or.inl (by simp)) _;have c1:=(ho.cell (p:=⟨t,1,none⟩) ht htp).trans h.tab
 have hfoot:∀ i n,nd i=some n→∀ k∈n.foot,k∉t::p.a.toList:=fun i n hn k hk hm=>by
   obtain ⟨o1,o2⟩:=h.own i n hn;rcases List.mem_cons.1 hm with rfl | hm
   · exact o1 hk
   · exact o2 k (by simpa using hm) hk
 refine ⟨⟨?_,World.cell?_setCell_same _ _ _ c1,fun o=>?_,(h.ty.only ho htp).set _ _,?_,fun i hi=>h.out i (by simp only at hi;omega),by simpa using hbt,fun i n hn=>(h.node i n hn).kept o2 (hfoot i n hn),h.apart,fun i n hn=>⟨(h.own i n hn).1,fun b' hb' hk=>?_⟩⟩,o2⟩
 · rw [World.cell?_setCell_other _ _ _ _ (by simp)]
   exact (ho.cell (p:=⟨t,0,none⟩) ht htp).trans h.most
 · rw [World.frozen?_setCell]
   exact (ho.frozen (p:=⟨t,o,none⟩) ht htp).trans (h.tfz o)
 · rw [places_more,rowOf_append,rowOf_single,(h.out p.N (Nat.le_refl _)).1,(h.out p.N (Nat.le_refl _)).2]
   exact (Only.refl [t] w1).setCell (p:=⟨t,1,none⟩) (Or.inl (by simp)) _ |>.owns hr (fun k hk=>by have e:b=k:=Option.some.inj ((Row.own ⟨some b,p.N+1,cap⟩).symm.trans hk);subst e;simpa using hbt)
 · simp only [Option.some.injEq] at hb'
   subst hb';rcases hb with h1 | h1
   · exact (h.own i n hn).2 b h1 hk
   · have:=(h.node i n hn).foot_lt b hk
     omega
theorem two_news (w:World)(a b:Value)(ty:TypeId):∀ j u,[a,b][j]?=some u→(w.alloc (.cells #[a,b] ty)).cell? ((⟨w.heap.size,0,none⟩:Addr).add j)=some u:=by
 intro j u hu;have hh:=heap_alloc_last w (.cells #[a,b] ty)
 have hadd:(⟨w.heap.size,0,none⟩:Addr).add j=⟨w.heap.size,j,none⟩:=by unfold Addr.add;split<;>simp_all
 rw [hadd,cell_of_row _ _ _ _ _ _ hh]
 simpa using hu
def Roomed (w w':World)(t:Nat)(p p':Row)(i:Nat):Prop:=p'.N=max p.N (i+1)∧Only (t::p.a.toList) w w'∧(p'.a=p.a∨∃ k,p'.a=some k∧w.heap.size≤k)
theorem troom (w:World)(t:Nat)(p:Row)(most i:Nat)(g:Nat→Nat)(nd:Nat→Option Nod)(h:TabAt w t p most g nd)(hm:p.N≤1000)(hn:nd i=none)(hb:∀ j,j < i→(nd j).isSome=true):
   Calls Tryz.prog 132 #[.pointer (some ⟨t,0,none⟩)] w fun e w'=>e = .returned (.int .i64 i)∧∃ p',TabAt w' t p' most g nd∧Roomed w w' t p p' i:=by
 have hle:i≤p.N:=by
   rcases Nat.lt_or_ge p.N i with h1 | h1
   · have:=hb p.N h1
     rw [(h.out p.N (Nat.le_refl _)).2] at this
     cases this
   · exact h1
 have hcall:=indexFree w t p most g nd h hm;have ct:=h.tab;have htl:t < w.heap.size:=h.tlt;have H:Hid (TabAt w t p most g nd):=h;rcases Nat.lt_or_ge i p.N with hi | hi
 · have HB:Hid (∀ r,leastFree p.N nd r→r=(i:Int)):=fun r hr=>free_some hi hn hb hr
   clear h hb hn;generalize p.v=pv at hcall ct
   go_enter Tryz.func132,Tryz.ntmps132
   go_wp2_with (go_at_call 185;go_must (refine hcall.mono ?_);rintro e w2 ⟨⟨r,rfl,hr⟩,ho2⟩;obtain rfl:r=(i:Int):=HB.out r hr;clear hr)
   go_ret
   exact ⟨rfl,p,H.out.kept ho2 (fun _ _=>by simp),by omega,ho2.mono (fun _ hk=>by cases hk),Or.inl rfl⟩
 · obtain rfl:i=p.N:=by omega
   have HB:Hid (∀ r,leastFree p.N nd r→r = -1):=fun r hr=>free_none hb hr;obtain ⟨i0,hi0,hz⟩:=Option.map_eq_some_iff.1 placeInfo;simp only [Prod.mk.injEq] at hz;obtain ⟨hz0,hz1,hz2⟩:=hz;have hv:p.v = .slice (p.a.map (fun b=>⟨b,0,none⟩)) p.N p.cap:=rfl;clear h hb hn hle hi;obtain ⟨ad,had⟩:∃ ad,ad=p.a.map (fun b=>(⟨b,0,none⟩:Addr)):=⟨_,rfl⟩;rw [← had] at hv;rw [hv] at hcall ct;have HV:Hid (p.v = .slice ad p.N p.cap):=hv;clear hv had
   go_enter Tryz.func132,Tryz.ntmps132
   go_wp2_with (first
     | (go_at_call 185;go_must (refine hcall.mono ?_);rintro e w2 ⟨⟨r,rfl,hr⟩,ho2⟩;obtain rfl:r = -1:=HB.out r hr;clear hr;have HT2:Hid (TabAt w2 t p most g nd):=H.out.kept ho2 (fun _ _=>by simp);have ct2:=HT2.out.tab;rw [HV.out] at ct2;have ft2:=HT2.out.tfz;have htl2:=HT2.out.tlt)
     | (at_builtin;go_must (refine wpList_append_lies _ rfl (.tmp 20) (.tmp 22) 197 rfl 0 267 i0 _ 2 16 placesUnd hi0 hz0 hz1 hz2 rfl (by decide) _ p.N (rowOf placeCells (places p.N g nd)) rfl ((show w2.ownsRow 0 267 2 (.slice ad p.N p.cap) p.N (rowOf placeCells (places p.N g nd)) from by have:=HT2.out.row;rw [HV.out] at this;exact this).alloc _) ⟨w2.heap.size,0,none⟩ 1 1 [.int .i64 0,.pointer none] rfl rfl (two_news w2 _ _ _) (by intro u hu;simp at hu;rcases hu with rfl | rfl<;>rfl) (by decide) (by unfold maxLen;omega) (by omega) (Nat.zero_le _) _ rfl ?_);intro gl cp w4 hown4 hgr4 hat4 hlt4;have HO4:Hid (Only p.a.toList w2 w4):=((Only.refl _ w2).alloc _).grown hgr4 (fun k hk=>Or.inl (by have hk2:(Value.slice ad p.N p.cap).ownBlock=some k:=hk;rw [← HV.out,p.own] at hk2;rw [hk2];simp));have htp:t∉p.a.toList:=(fun hm=>H.out.pt (by simpa using hm));have ct4:=(HO4.out.cell (p:=⟨t,1,none⟩) htl2 htp).trans ct2;have ft4:=(HO4.out.frozen (p:=⟨t,1,none⟩) htl2 htp).trans (ft2 1);have HOWN:Hid (w4.ownsRow 0 267 2 (.slice (some ⟨gl,0,none⟩) (p.N+1) cp) (p.N+1) (rowOf placeCells (places p.N g nd)++[.int .i64 0,.pointer none])):=hown4;have HAT:Hid (p.a=some gl∨w2.heap.size≤gl):=(show p.a=some gl∨w2.heap.size≤gl from by have hat5:(Value.slice ad p.N p.cap).ownBlock=some gl∨_:=hat4;rw [← HV.out,p.own] at hat5;rcases hat5 with h | h;exact Or.inl h;exact Or.inr (by rw [h];simp));clear hown4 hgr4 hat4 hlt4)
     | go_in)
   go_ret
   obtain ⟨hT5,ho5⟩:=HT2.out.more HO4.out HOWN.out HAT.out;refine ⟨rfl,_,hT5,by simp,(ho2.mono (L':=t::p.a.toList) (fun _ hk=>by cases hk)).trans ho5 (fun _ hk=>Or.inl hk),?_⟩;rcases HAT.out with h | h
   · exact Or.inl h.symm
   · exact Or.inr ⟨gl,rfl,Nat.le_trans ho2.size h⟩
theorem added {w:World}{t most i b B:Nat}{p:Row}{g:Nat→Nat}{nd:Nat→Option Nod}{K x y:Int}(h:TabAt w t p most g nd)(hb:p.a=some b)(hi:i < p.N)(hB:¬ InFoot t p most nd B)(hBl:B < w.heap.size):
   TabAt ((((w.setCell ⟨b,i*2+1,none⟩ (.pointer (some ⟨w.heap.size,0,none⟩))).setCell ⟨B,0,none⟩ (.int .i64 x)).setCell ⟨B,1,none⟩ (.int .i64 y)).alloc (.cells (nodeCells K) 265)) t p most g (setN nd i (some (newNod w.heap.size K))) ∧
   Only [b,B] w ((((w.setCell ⟨b,i*2+1,none⟩ (.pointer (some ⟨w.heap.size,0,none⟩))).setCell ⟨B,0,none⟩ (.int .i64 x)).setCell ⟨B,1,none⟩ (.int .i64 y)).alloc (.cells (nodeCells K) 265)):=by
 have hbl:=h.plt hb;have hBt:t≠B:=fun e=>hB (Or.inl e.symm);have hBb:b≠B:=fun e=>hB (Or.inr (Or.inl (by rw [hb,e])))
 have e:((((w.setCell ⟨b,i*2+1,none⟩ (.pointer (some ⟨w.heap.size,0,none⟩))).setCell ⟨B,0,none⟩ (.int .i64 x)).setCell ⟨B,1,none⟩ (.int .i64 y)).alloc (.cells (nodeCells K) 265))=((((w.alloc (.cells (nodeCells K) 265)).setCell ⟨b,i*2+1,none⟩ (.pointer (some ⟨w.heap.size,0,none⟩))).setCell ⟨B,0,none⟩ (.int .i64 x)).setCell ⟨B,1,none⟩ (.int .i64 y)):=by
   rw [World.setCell_alloc_past (w:=w) _ b _ _ hbl,World.setCell_alloc_past (w:=w.setCell _ _) _ B _ _ (by simpa using hBl),World.setCell_alloc_past (w:=(w.setCell _ _).setCell _ _) _ B _ _ (by simpa using hBl)]
 rw [e];clear e;have hal:Only [] w (w.alloc (.cells (nodeCells K) 265)):=(Only.refl _ _).alloc _;have hrow:=(h.kept hal (fun _ _=>by simp)).row;have cn:=newNod_at w K;generalize w.alloc (.cells (nodeCells K) 265)=wa at hal hrow cn ⊢;have o1:Only [b] w (wa.setCell ⟨b,i*2+1,none⟩ (.pointer (some ⟨w.heap.size,0,none⟩))):=(hal.mono (L':=[b]) (by simp)).setCell (Or.inl (by simp)) _
 have hT1:TabAt (wa.setCell ⟨b,i*2+1,none⟩ (.pointer (some ⟨w.heap.size,0,none⟩))) t p most g (setN nd i (some (newNod w.heap.size K))):=by
   refine h.place (i:=i) hb hi o1 ?_ (fun _ _=>rfl) (fun j hj=>setN_other _ _ hj) ?_
   · have hv:p.v = .slice (some ⟨b,0,none⟩) p.N p.cap:=by simp [Row.v,hb]
     rw [hv] at hrow ⊢;have:=(hrow.stored (i*2+1) (.pointer (some ⟨w.heap.size,0,none⟩))).1;rw [rowOf_set placeCells_len (places p.N g nd) i 1 (g i,nd i) (g i,setN nd i (some (newNod w.heap.size K)) i) _ (by decide) (places_get g nd hi) (by simp [placeCells,setN_same,newNod])] at this;exact this
   · intro n hn
     rw [setN_same] at hn
     cases hn
     have hfoot:∀ k,k∈(newNod w.heap.size K).foot→k=w.heap.size:=fun k hk=>by simpa [newNod,Nod.foot,footD] using hk
     refine ⟨cn.kept ((Only.refl [b] wa).setCell (Or.inl (by simp)) _) (fun k hk hm=>?_),fun k hk=>by have:=hfoot k hk;omega⟩;have:=hfoot k hk;simp at hm;omega
 have o2:Only [B] (wa.setCell ⟨b,i*2+1,none⟩ (.pointer (some ⟨w.heap.size,0,none⟩))) (((wa.setCell ⟨b,i*2+1,none⟩ (.pointer (some ⟨w.heap.size,0,none⟩))).setCell ⟨B,0,none⟩ (.int .i64 x)).setCell ⟨B,1,none⟩ (.int .i64 y)):=((Only.refl [B] _).setCell (Or.inl (by simp)) _).setCell (Or.inl (by simp)) _;refine ⟨hT1.kept o2 (fun k hk hm=>?_),(o1.mono (L':=[b,B]) (fun i hi=>Or.inl (by simp at hi;simp [hi]))).trans o2 (fun i hi=>Or.inl (by simp at hi;simp [hi]))⟩;simp at hm;subst hm;rcases hk with h1 | h1 | ⟨j,n,hn,hk⟩
 · exact hBt h1.symm
 · exact hB (Or.inr (Or.inl h1))
 · by_cases hji:j=i
   · subst hji
     rw [setN_same] at hn
     cases hn
     have:k=w.heap.size:=by simpa [newNod,Nod.foot,footD] using hk
     omega
   · rw [setN_other _ _ hji] at hn
     exact hB (.node hn hk)
theorem own_not_foot {w w2:World}{t most:Nat}{p p':Row}{g:Nat→Nat}{nd:Nat→Option Nod}(h:TabAt w t p most g nd)(hp:p'.a=p.a∨∃ k,p'.a=some k∧w2.heap.size≤k)(hl:w.heap.size < w2.heap.size):¬ InFoot t p' most nd w.heap.size:=by
 rintro (h1 | h1 | ⟨j,n,hn,hk⟩)
 · have:=h.tlt;omega
 · rcases hp with h2 | ⟨k,h2,h3⟩
   · have:=h.plt (h2.symm.trans h1);omega
   · rw [h2] at h1;cases h1;omega
 · have:=(h.node j n hn).foot_lt _ hk;omega
def AddedAt (w w':World)(t:Nat)(p:Row)(most i:Nat)(g:Nat→Nat)(nd:Nat→Option Nod)(K:Int):Prop:=∃ p' b,TabAt w' t p' most g (setN nd i (some (newNod b K)))∧Roomed w w' t p p' i∧w.heap.size≤b
theorem tadd_ok (w:World)(t:Nat)(p:Row)(most i:Nat)(g:Nat→Nat)(nd:Nat→Option Nod)(K:Int)(h:TabAt w t p most g nd)(hm:p.N≤1000)(hK:K=1∨K=2)(hc:countTo nd p.N < most)(hn:nd i=none)(hb:∀ j,j < i→(nd j).isSome=true):
  Calls Tryz.prog 87 #[.pointer (some ⟨t,0,none⟩),.int .i64 K] w fun e w'=>e = .returned (.tuple #[.agg #[.int .i64 i,.int .i64 (g i:Nat)],.nilIface])∧AddedAt w w' t p most i g nd K:=by
 have htl:t < w.heap.size:=h.tlt;have hal:Only [] w (w.alloc (.cells #[.int .i64 0,.int .i64 0] 116)).drew:=((Only.refl _ _).alloc _).drew;have hcall:=tcount _ t p most g nd (h.kept hal (fun _ _=>by simp)) hm;have HR:Hid (∀ w2,Only [] w w2→_):=fun w2 (ho:Only [] w w2)=>troom w2 t p most i g nd (h.kept ho (fun _ _=>by simp)) hm hn hb;have H:Hid (TabAt w t p most g nd):=h;have HA:Hid (Only [] w (w.alloc (.cells #[.int .i64 0,.int .i64 0] 116)).drew):=hal;have hS0:=(hal.cell (p:=⟨t,0,none⟩) htl (by simp)).trans h.most;have hle:=countTo_le nd p.N;generalize countTo nd p.N=cn at hcall hc hle;clear h hn hb hal;rcases hK with rfl | rfl
 all_goals go_enter Tryz.func87,Tryz.ntmps87
 all_goals go_wp2
 all_goals go_region_held3 (fun W=>W.cell? ⟨t,0,none⟩=some (.int .i64 most)) (first | exact hS0 | exact hS2)
  (first | (go_at_call 131;refine hcall.mono ?_;rintro e w2 ⟨rfl,ho2⟩;have HO:Hid (Only [] w w2):=HA.out.trans ho2 (fun _ hk=>by cases hk);have hS2:=(H.out.kept HO.out (fun _ _=>by simp)).most;obtain ⟨r0,r1,f0,hl0⟩:=own_pair ho2.of_drew))
 all_goals have hroom:=HR.out w2 HO.out
 all_goals have hpw:∀ q,p.a=some q→q < w.heap.size:=fun q hq=>H.out.plt hq
 all_goals have HPW:Hid (∀ q,p.a=some q→q < w.heap.size):=hpw
 all_goals clear hpw hS0 hS2 hcall
 all_goals go_wp2_with (go_at_call 132;go_must (refine hroom.mono ?_);rintro e w3 ⟨rfl,p',hT3,hN3,ho3,hp3⟩;obtain ⟨b,hb,c0,c1,fb,hbl⟩:=hT3.place_at (i:=i) (by omega);have ct3:=hT3.tab;rw [show p'.v = .slice (some ⟨b,0,none⟩) p'.N p'.cap by simp [Row.v,hb]] at ct3;have hnB:w.heap.size∉t::p.a.toList:=(fun hm=>by rcases List.mem_cons.1 hm with h | h;omega;have:=HPW.out w.heap.size (by simpa using h);omega);have r3:=(ho3.cell (p:=⟨w.heap.size,0,none⟩) hl0 hnB).trans r0;have r4:=(ho3.cell (p:=⟨w.heap.size,1,none⟩) hl0 hnB).trans r1;have f3:∀ o,w3.frozen? ⟨w.heap.size,o,none⟩=false:=(fun o=>(ho3.frozen (p:=⟨w.heap.size,o,none⟩) hl0 hnB).trans (f0 o));have hl3:w.heap.size < w3.heap.size:=Nat.lt_of_lt_of_le hl0 ho3.size;have hi3:i < p'.N:=(by omega);have hbt:b≠t:=(fun e=>hT3.pt (by rw [hb,e]));have htl3:=hT3.tlt;have HT3:Hid (TabAt w3 t p' most g nd):=hT3;have HN3:Hid (p'.N=max p.N (i+1)):=hN3;have HO3:Hid (Only (t::p.a.toList) w2 w3):=ho3;have HP3:Hid (p'.a=p.a∨∃ k,p'.a=some k∧w2.heap.size≤k):=hp3;have HB:Hid (p'.a=some b):=hb;have hbB:b≠w.heap.size:=(fun e=>by rcases hp3 with h | ⟨k,h,hk⟩;have:=HPW.out b (by rw [← h];exact hb);omega;rw [h] at hb;cases hb;omega);clear hT3 hN3 ho3 hp3 hb hroom r0 r1 f0)
 all_goals have hnF:¬ InFoot t p' most nd w.heap.size:=own_not_foot H.out HP3.out hl0
 all_goals refine bodyPost_ret (v := .tuple #[.agg #[.int .i64 i,.int .i64 (g i:Nat)],.nilIface]) (by simp [results,Tryz.results87,go_sem,r3,r4,hl3]) rfl ⟨rfl,p',w3.heap.size,(added HT3.out HB.out hi3 hnF hl3).1,⟨HN3.out,?_,?_⟩,by omega⟩
 all_goals first
  | (refine ((HO.out.mono (L':=t::p.a.toList) (fun _ hk=>by cases hk)).trans HO3.out (fun _ hk=>Or.inl hk)).trans (added HT3.out HB.out hi3 hnF hl3).2 (fun k hk=>?_)
     simp only [List.mem_cons,List.not_mem_nil,or_false] at hk;rcases hk with rfl | rfl
     · rcases HP3.out with h | ⟨q,h,hq⟩
       · exact Or.inl (List.mem_cons_of_mem _ (by rw [← h,HB.out];simp))
       · rw [HB.out] at h;cases h;exact Or.inr (Nat.le_trans HO.out.size hq)
     · exact Or.inr (Nat.le_refl _))
  | (rcases HP3.out with h | ⟨q,h,hq⟩
     · exact Or.inl h
     · exact Or.inr ⟨q,h,Nat.le_trans HO.out.size hq⟩)
theorem dsizeO (w:World)(g o:Nat)(S:ByteArray)(H:List Bool)(m:Option Nat)(hD:DataO w g o S H m):
  Calls Tryz.prog 238 #[.pointer (some ⟨g,o,none⟩)] w fun e w'=>e = .returned (.int .i64 (S.size:Nat))∧w=w':=by
 have hc:=hD.size;clear hD
 go_enter Tryz.func238,Tryz.ntmps238
 go_wp2
 go_ret
 exact ⟨rfl,rfl⟩
section
variable (w:World)(t:Nat)(p:Row)(most:Nat)(g:Nat→Nat)(nd:Nat→Option Nod)
theorem find_no (N G:Int)(E:Value)(h:TabAt w t p most g nd)(hE:w.cell? ⟨12,0,none⟩=some E)(hs:Stale0 g nd N G)(w1:World)(ho:Only [] w w1):
  Calls Tryz.prog 237 #[.pointer (some ⟨t,0,none⟩),.agg #[.int .i64 N,.int .i64 G]] w1 fun e w'=>e = .returned (.tuple #[.pointer none,E])∧Only [] w1 w' :=
 find_stale w1 t p most g nd N G E (h.kept ho (fun _ _=>by simp)) ((ho.cell (p:=⟨12,0,none⟩) (lt_of_cell hE) (by simp)).trans hE) hs
theorem find_yes (i:Nat)(n:Nod)(h:TabAt w t p most g nd)(hn:nd i=some n)(w1:World)(ho:Only [] w w1):
  Calls Tryz.prog 237 #[.pointer (some ⟨t,0,none⟩),.agg #[.int .i64 i,.int .i64 (g i:Nat)]] w1 fun e w'=>e = .returned (.tuple #[.pointer (some ⟨n.b,0,none⟩),.nilIface])∧Only [] w1 w' :=
 find_ok w1 t p most i g nd n (h.kept ho (fun _ _=>by simp)) hn
end
theorem own_six {w w2:World}{B:Nat}{a b c d e f:Value}{ty:TypeId}(h:Only [] (w.alloc (.cells #[a,b,c,d,e,f] ty)) w2)(hB:w.heap.size=B):
  w2.cell? ⟨B,0,none⟩=some a∧w2.cell? ⟨B,1,none⟩=some b∧w2.cell? ⟨B,2,none⟩=some c∧w2.cell? ⟨B,3,none⟩=some d∧w2.cell? ⟨B,4,none⟩=some e∧w2.cell? ⟨B,5,none⟩=some f∧(∀ o,w2.frozen? ⟨B,o,none⟩=false)∧B < w2.heap.size:=by
 subst hB;have hh:=heap_alloc_last w (.cells #[a,b,c,d,e,f] ty)
 have hlt:w.heap.size < (w.alloc (.cells #[a,b,c,d,e,f] ty)).heap.size:=by simp
 refine ⟨(h.cell (p:=⟨w.heap.size,0,none⟩) hlt (by simp)).trans (cell_of_row _ _ 0 _ _ _ hh),(h.cell (p:=⟨w.heap.size,1,none⟩) hlt (by simp)).trans (cell_of_row _ _ 1 _ _ _ hh),(h.cell (p:=⟨w.heap.size,2,none⟩) hlt (by simp)).trans (cell_of_row _ _ 2 _ _ _ hh),
  (h.cell (p:=⟨w.heap.size,3,none⟩) hlt (by simp)).trans (cell_of_row _ _ 3 _ _ _ hh),(h.cell (p:=⟨w.heap.size,4,none⟩) hlt (by simp)).trans (cell_of_row _ _ 4 _ _ _ hh),(h.cell (p:=⟨w.heap.size,5,none⟩) hlt (by simp)).trans (cell_of_row _ _ 5 _ _ _ hh),fun o=>?_,Nat.lt_of_lt_of_le hlt h.size⟩
 rw [h.frozen (p:=⟨w.heap.size,o,none⟩) hlt (by simp)];unfold World.frozen?;rw [hh];simp
theorem own_pairB {w w2:World}{B:Nat}{a b:Int}{ty:TypeId}(h:Only [] (w.alloc (.cells #[.int .i64 a,.int .i64 b] ty)) w2)(hB:w.heap.size=B):
  w2.cell? ⟨B,0,none⟩=some (.int .i64 a)∧w2.cell? ⟨B,1,none⟩=some (.int .i64 b)∧(∀ o,w2.frozen? ⟨B,o,none⟩=false)∧B < w2.heap.size:=by
 subst hB;exact own_pair h
def attrV (K Z L C UN UG:Int):Value := .agg #[.int .i64 K,.int .i64 Z,.int .i64 L,.int .i64 C,.int .i64 UN,.int .i64 UG]
def errV (a:Addr):Value := .iface 416 (.pointer (some a))
theorem tattr_stale (w:World)(t:Nat)(p:Row)(most:Nat)(g:Nat→Nat)(nd:Nat→Option Nod)(N G:Int)(ad:Addr)(h:TabAt w t p most g nd)(hE:w.cell? ⟨12,0,none⟩=some (errV ad))(hs:Stale0 g nd N G):
  Calls Tryz.prog 183 #[.pointer (some ⟨t,0,none⟩),.agg #[.int .i64 N,.int .i64 G]] w fun e w'=>e = .returned (.tuple #[attrV 0 0 0 0 0 0,errV ad])∧Only [] w w':=by
 have HC:Hid (∀ w1,Only [] w w1→_):=find_no w t p most g nd N G (errV ad) h hE hs;clear h hE hs;unfold errV at HC ⊢
 go_enter Tryz.func183,Tryz.ntmps183
 go_wp2_with (go_at_call 237;go_must (refine (HC.out _ (((Only.refl _ _).alloc _).alloc _)).mono ?_);rintro e w2 ⟨rfl,ho2⟩;have HO:Hid (Only [] w w2):=(((Only.refl _ _).alloc _).alloc _).trans ho2 (fun _ hk=>by cases hk);obtain ⟨r0,r1,r2,r3,r4,r5,f0,hl0⟩:=own_six (B:=w.heap.size+1) ho2 (by simp))
 have hle:w.heap.size≤w.heap.size+1:=Nat.le_succ _;refine bodyPost_ret (v := .tuple #[attrV 0 0 0 0 0 0,.iface 416 (.pointer (some ad))]) (by simp [results,Tryz.results183,go_sem,r0,r1,r2,r3,r4,r5,attrV]) rfl ⟨rfl,?_⟩;exact (((((HO.out.setCell (Or.inr hle) _).setCell (Or.inr hle) _).setCell (Or.inr hle) _).setCell (Or.inr hle) _).setCell (Or.inr hle) _).setCell (Or.inr hle) _
theorem tattr_ok (w:World)(t:Nat)(p:Row)(most i:Nat)(g:Nat→Nat)(nd:Nat→Option Nod)(n:Nod)(z:Int)(h:TabAt w t p most g nd)(hn:nd i=some n)(hz:n.K=1∧z=(n.S.size:Int)∨n.K=2∧z=n.Z):
   Calls Tryz.prog 183 #[.pointer (some ⟨t,0,none⟩),.agg #[.int .i64 i,.int .i64 (g i:Nat)]] w fun e w'=>e = .returned (.tuple #[attrV n.K z n.L n.C n.UN n.UG,.nilIface])∧Only [] w w':=by
 have HC:Hid (∀ w1,Only [] w w1→_):=find_yes w t p most g nd i n h hn;have hN:=h.node i n hn;have HN:Hid (NodAt w n):=hN;have hbl:n.b < w.heap.size:=lt_of_cell hN.c0;clear h hn hN;obtain ⟨nb,K,Z,L,C,UN,UG,S,H,m⟩:=n;simp only at HC hbl hz ⊢;have hle:w.heap.size≤w.heap.size+1:=Nat.le_succ _;rcases hz with ⟨rfl,hz⟩ | ⟨rfl,hz⟩
 all_goals rw [hz]
 all_goals clear hz
 · go_enter Tryz.func183,Tryz.ntmps183
   go_wp2_with (first
    | (go_at_call 237;go_must (refine (HC.out _ (((Only.refl _ _).alloc _).alloc _)).mono ?_);rintro e w2 ⟨rfl,ho2⟩;have HO:Hid (Only [] w w2):=(((Only.refl _ _).alloc _).alloc _).trans ho2 (fun _ hk=>by cases hk);obtain ⟨r0,r1,r2,r3,r4,r5,f0,hl0⟩:=own_six (B:=w.heap.size+1) ho2 (by simp);have HN2:Hid (NodAt w2 ⟨nb,1,Z,L,C,UN,UG,S,H,m⟩):=HN.out.kept HO.out (fun _ _=>by simp);obtain ⟨c0,c1,c2,c3,c4,c5,_⟩:=HN2.out;have hb2:nb < w2.heap.size:=lt_of_cell c0)
    | (go_at_call 238;go_must (refine (dsizeO _ nb 6 S H m (HN2.out.d.kept ((Only.refl [] _).alloc _) (fun _ _=>by simp))).mono ?_);rintro e w3 ⟨rfl,rfl⟩)
    | go_in)
   refine bodyPost_ret (v := .tuple #[attrV 1 (S.size:Nat) L C UN UG,.nilIface]) (by simp [results,Tryz.results183,go_sem,r0,r1,r2,r3,r4,r5,hl0,attrV]) rfl ⟨rfl,?_⟩;exact ((((((HO.out.setCell (Or.inr hle) _).setCell (Or.inr hle) _).setCell (Or.inr hle) _).setCell (Or.inr hle) _).setCell (Or.inr hle) _).setCell (Or.inr hle) _).alloc _
 · go_enter Tryz.func183,Tryz.ntmps183
   go_wp2_with (first
    | (go_at_call 237;go_must (refine (HC.out _ (((Only.refl _ _).alloc _).alloc _)).mono ?_);rintro e w2 ⟨rfl,ho2⟩;have HO:Hid (Only [] w w2):=(((Only.refl _ _).alloc _).alloc _).trans ho2 (fun _ hk=>by cases hk);obtain ⟨r0,r1,r2,r3,r4,r5,f0,hl0⟩:=own_six (B:=w.heap.size+1) ho2 (by simp);have HN2:Hid (NodAt w2 ⟨nb,2,Z,L,C,UN,UG,S,H,m⟩):=HN.out.kept HO.out (fun _ _=>by simp);obtain ⟨c0,c1,c2,c3,c4,c5,_⟩:=HN2.out;have hb2:nb < w2.heap.size:=lt_of_cell c0)
    | go_in)
   refine bodyPost_ret (v := .tuple #[attrV 2 Z L C UN UG,.nilIface]) (by simp [results,Tryz.results183,go_sem,r0,r1,r2,r3,r4,r5,hl0,attrV]) rfl ⟨rfl,?_⟩;exact ((((((HO.out.setCell (Or.inr hle) _).setCell (Or.inr hle) _).setCell (Or.inr hle) _).setCell (Or.inr hle) _).setCell (Or.inr hle) _).setCell (Or.inr hle) _).alloc _
theorem DataO.put {w:World}{g o k:Nat}{S:ByteArray}{H:List Bool}{m:Option Nat}(h:DataO w g o S H m)(h0:k≠o)(h1:k≠o+1)(v:Value):DataO (w.setCell ⟨g,k,none⟩ v) g o S H m:=by
 obtain ⟨f,hs,hm⟩:=h.holds;refine ⟨?_,?_,fun j=>?_,h.ty.set _ _,f,hs,?_⟩
 · rw [World.cell?_setCell_other _ _ _ _ (by simp)];exact h.size
 · rw [World.cell?_setCell_other _ _ _ _ (by simp)];exact h.map
 · rw [World.frozen?_setCell];exact h.fz j
 · cases m with
   | none=>exact hm
   | some b =>
    obtain ⟨D,d1,d2⟩:=hm;exact ⟨D,d1.setCell (own_ne d1 h.size) _,d2⟩
theorem NodAt.putZ {w:World}{n:Nod}(h:NodAt w n)(z:Int):NodAt (w.setCell ⟨n.b,1,none⟩ (.int .i64 z)) { n with Z:=z }:=⟨(World.cell?_setCell_other _ _ _ _ (by simp)).trans h.c0,World.cell?_setCell_same _ _ _ h.c1,(World.cell?_setCell_other _ _ _ _ (by simp)).trans h.c2,(World.cell?_setCell_other _ _ _ _ (by simp)).trans h.c3,(World.cell?_setCell_other _ _ _ _ (by simp)).trans h.c4,(World.cell?_setCell_other _ _ _ _ (by simp)).trans h.c5,h.d.put (by omega) (by omega) _⟩
theorem NodAt.putL {w:World}{n:Nod}(h:NodAt w n)(z:Int):NodAt (w.setCell ⟨n.b,2,none⟩ (.int .i64 z)) { n with L:=z }:=⟨(World.cell?_setCell_other _ _ _ _ (by simp)).trans h.c0,(World.cell?_setCell_other _ _ _ _ (by simp)).trans h.c1,World.cell?_setCell_same _ _ _ h.c2,(World.cell?_setCell_other _ _ _ _ (by simp)).trans h.c3,(World.cell?_setCell_other _ _ _ _ (by simp)).trans h.c4,(World.cell?_setCell_other _ _ _ _ (by simp)).trans h.c5,h.d.put (by omega) (by omega) _⟩
theorem NodAt.putC {w:World}{n:Nod}(h:NodAt w n)(z:Int):NodAt (w.setCell ⟨n.b,3,none⟩ (.int .i64 z)) { n with C:=z }:=⟨(World.cell?_setCell_other _ _ _ _ (by simp)).trans h.c0,(World.cell?_setCell_other _ _ _ _ (by simp)).trans h.c1,(World.cell?_setCell_other _ _ _ _ (by simp)).trans h.c2,World.cell?_setCell_same _ _ _ h.c3,(World.cell?_setCell_other _ _ _ _ (by simp)).trans h.c4,(World.cell?_setCell_other _ _ _ _ (by simp)).trans h.c5,h.d.put (by omega) (by omega) _⟩
theorem NodAt.putUN {w:World}{n:Nod}(h:NodAt w n)(z:Int):NodAt (w.setCell ⟨n.b,4,none⟩ (.int .i64 z)) { n with UN:=z }:=⟨(World.cell?_setCell_other _ _ _ _ (by simp)).trans h.c0,(World.cell?_setCell_other _ _ _ _ (by simp)).trans h.c1,(World.cell?_setCell_other _ _ _ _ (by simp)).trans h.c2,(World.cell?_setCell_other _ _ _ _ (by simp)).trans h.c3,World.cell?_setCell_same _ _ _ h.c4,(World.cell?_setCell_other _ _ _ _ (by simp)).trans h.c5,h.d.put (by omega) (by omega) _⟩
theorem NodAt.putUG {w:World}{n:Nod}(h:NodAt w n)(z:Int):NodAt (w.setCell ⟨n.b,5,none⟩ (.int .i64 z)) { n with UG:=z }:=⟨(World.cell?_setCell_other _ _ _ _ (by simp)).trans h.c0,(World.cell?_setCell_other _ _ _ _ (by simp)).trans h.c1,(World.cell?_setCell_other _ _ _ _ (by simp)).trans h.c2,(World.cell?_setCell_other _ _ _ _ (by simp)).trans h.c3,(World.cell?_setCell_other _ _ _ _ (by simp)).trans h.c4,World.cell?_setCell_same _ _ _ h.c5,h.d.put (by omega) (by omega) _⟩
theorem TabAt.put {w w2 w':World}{t most i:Nat}{p:Row}{g:Nat→Nat}{nd:Nat→Option Nod}{n n':Nod}(h:TabAt w t p most g nd)(ho:Only [] w w2)(hn:nd i=some n)(hb:n'.b=n.b)(hm:n'.m=n.m)(hN:NodAt w' n')(hw:Only [n.b] w2 w'):
  TabAt w' t p most g (setN nd i (some n'))∧Only [n.b] w w':=by
 have o:Only [n.b] w w':=(ho.mono (L':=[n.b]) (by simp)).trans hw (fun i hi=>Or.inl hi);refine ⟨h.turn hn hb hN (o.mono (fun k hk=>Or.inl (by simp at hk;subst hk;exact n.b_foot))) (fun k hk=>Or.inl ?_),o⟩;unfold Nod.foot at hk ⊢;rw [hb,hm] at hk;exact hk
theorem ttouch_ok (w:World)(t:Nat)(p:Row)(most i:Nat)(g:Nat→Nat)(nd:Nat→Option Nod)(n:Nod)(h:TabAt w t p most g nd)(hn:nd i=some n)(hC:0≤n.C∧n.C≤9000000000000000000):
  Calls Tryz.prog 410 #[.pointer (some ⟨t,0,none⟩),.agg #[.int .i64 i,.int .i64 (g i:Nat)]] w fun e w'=>e = .returned .nilIface∧TabAt w' t p most g (setN nd i (some { n with C:=n.C+1 }))∧Only [n.b] w w':=by
 have HC:Hid (∀ w1,Only [] w w1→_):=find_yes w t p most g nd i n h hn;have HN:Hid (NodAt w n):=h.node i n hn;have HT:Hid (TabAt w t p most g nd):=h;have HI:Hid (nd i=some n):=hn;clear h hn;obtain ⟨hC0,hC1⟩:=hC
 go_enter Tryz.func410,Tryz.ntmps410
 go_wp2_with (go_at_call 237;go_must (refine (HC.out _ ((Only.refl _ _).alloc _)).mono ?_);rintro e w2 ⟨rfl,ho2⟩;have HO:Hid (Only [] w w2):=((Only.refl _ _).alloc _).trans ho2 (fun _ hk=>by cases hk);have HN2:Hid (NodAt w2 n):=HN.out.kept HO.out (fun _ _=>by simp);have c3:=HN2.out.c3;have f3:=HN2.out.d.fz 3)
 go_ret
 exact ⟨rfl,HT.out.put HO.out HI.out rfl rfl (HN2.out.putC _) ((Only.refl _ _).setCell (Or.inl (by simp)) _)⟩
theorem tadj_file (w:World)(t:Nat)(p:Row)(most i:Nat)(g:Nat→Nat)(nd:Nat→Option Nod)(n:Nod)(a b c d:Int)(h:TabAt w t p most g nd)(hn:nd i=some n)(hab:0≤a∧0≤b)(hK:n.K=1):
  Calls Tryz.prog 187 #[.pointer (some ⟨t,0,none⟩),.agg #[.int .i64 i,.int .i64 (g i:Nat)],.int .i64 a,.int .i64 b,.agg #[.int .i64 c,.int .i64 d]] w fun e w'=>e = .returned .nilIface∧TabAt w' t p most g (setN nd i (some { n with L:=b }))∧Only [n.b] w w':=by
 have HC:Hid (∀ w1,Only [] w w1→_):=find_yes w t p most g nd i n h hn;have HN:Hid (NodAt w n):=h.node i n hn;have HT:Hid (TabAt w t p most g nd):=h;have HI:Hid (nd i=some n):=hn;clear h hn;have hd1:decide (a < 0)=false:=decide_eq_false (by omega);have hd2:decide (b < 0)=false:=decide_eq_false (by omega)
 go_enter Tryz.func187,Tryz.ntmps187
 go_wp2_with (go_at_call 237;go_must (refine (HC.out _ (((Only.refl _ _).alloc _).alloc _)).mono ?_);rintro e w2 ⟨rfl,ho2⟩;have HO:Hid (Only [] w w2):=(((Only.refl _ _).alloc _).alloc _).trans ho2 (fun _ hk=>by cases hk);have HN2:Hid (NodAt w2 n):=HN.out.kept HO.out (fun _ _=>by simp);have c0:=HN2.out.c0;rw [hK] at c0;have c2:=HN2.out.c2;have f3:=HN2.out.d.fz)
 go_ret
 exact ⟨rfl,HT.out.put HO.out HI.out rfl rfl (HN2.out.putL b) ((Only.refl _ _).setCell (Or.inl (by simp)) _)⟩
theorem tadj_dir (w:World)(t:Nat)(p:Row)(most i:Nat)(g:Nat→Nat)(nd:Nat→Option Nod)(n:Nod)(a b c d:Int)(h:TabAt w t p most g nd)(hn:nd i=some n)(hab:0≤a∧0≤b)(hK:n.K=2):
  Calls Tryz.prog 187 #[.pointer (some ⟨t,0,none⟩),.agg #[.int .i64 i,.int .i64 (g i:Nat)],.int .i64 a,.int .i64 b,.agg #[.int .i64 c,.int .i64 d]] w fun e w'=>e = .returned .nilIface∧TabAt w' t p most g (setN nd i (some { n with Z:=a,UN:=c,UG:=d,L:=b }))∧Only [n.b] w w':=by
 have HC:Hid (∀ w1,Only [] w w1→_):=find_yes w t p most g nd i n h hn;have HN:Hid (NodAt w n):=h.node i n hn;have HT:Hid (TabAt w t p most g nd):=h;have HI:Hid (nd i=some n):=hn;clear h hn;have hd1:decide (a < 0)=false:=decide_eq_false (by omega);have hd2:decide (b < 0)=false:=decide_eq_false (by omega)
 go_enter Tryz.func187,Tryz.ntmps187
 go_wp2_with (go_at_call 237;go_must (refine (HC.out _ (((Only.refl _ _).alloc _).alloc _)).mono ?_);rintro e w2 ⟨rfl,ho2⟩;have HO:Hid (Only [] w w2):=(((Only.refl _ _).alloc _).alloc _).trans ho2 (fun _ hk=>by cases hk);have HN2:Hid (NodAt w2 n):=HN.out.kept HO.out (fun _ _=>by simp);have c0:=HN2.out.c0;rw [hK] at c0;have c1:=HN2.out.c1;have c2:=HN2.out.c2;have c4:=HN2.out.c4;have c5:=HN2.out.c5;have f3:=HN2.out.d.fz;obtain ⟨u0,u1,fu,hlu⟩:=own_pairB (B:=w.heap.size+1) ho2 (by simp);have hbl:=lt_of_cell c0;have hbw:=lt_of_cell HN.out.c0)
 go_region
 go_wp2
 go_ret
 have o5:Only [n.b] w2 ((((w2.setCell ⟨n.b,1,none⟩ (.int .i64 a)).setCell ⟨n.b,4,none⟩ (.int .i64 c)).setCell ⟨n.b,5,none⟩ (.int .i64 d)).setCell ⟨n.b,2,none⟩ (.int .i64 b)) :=
  ((((Only.refl [n.b] w2).setCell (Or.inl (by simp)) _).setCell (Or.inl (by simp)) _).setCell (Or.inl (by simp)) _).setCell (Or.inl (by simp)) _
 have hN5:=(((HN2.out.putZ a).putUN c).putUG d).putL b;exact ⟨rfl,HT.out.put (n':={ n with Z:=a,UN:=c,UG:=d,L:=b }) HO.out HI.out rfl rfl (hN5.kept ((Only.refl [] _).drew) (fun _ _=>by simp)) o5.drew⟩
theorem setN_again {α:Type}(f:Nat→α)(i:Nat)(a b:α):setN (setN f i a) i b=setN f i b:=by
 funext j
 by_cases h:j=i
 · subst h;rw [setN_same,setN_same]
 · rw [setN_other _ _ h,setN_other _ _ h,setN_other _ _ h]
structure DirM where
 b:Nat
 l:List Ent
structure Tr where
 t:Nat
 p:Row
 most:Nat
 g:Nat→Nat
 nd:Nat→Option Nod
 db:Nat
 ds:Nat→Option DirM
 pb:Nat
 pn:Nat→Nat
def Tr.dirsF (T:Tr)(k:Nat×Nat):Option Nat:=if k.2=T.g k.1 then (T.ds k.1).map (·.b) else none
def Tr.pinsF (T:Tr)(k:Nat×Nat):Option Nat:=if k.2=T.g k.1∧0 < T.pn k.1 then some (T.pn k.1) else none
def numD (n:Nat):DataW Unit := .lit (.int .i64 n)
def DirsAt (w:World)(T:Tr):Prop:=∃ D n,w.ownsMap Tryz.prog 116 mapElem T.db n D∧n≤1000000∧Reads hkey numD D T.dirsF
def PinsAt (w:World)(T:Tr):Prop:=∃ D n,w.ownsMap Tryz.prog 116 (plainElem Tryz.prog 3) T.pb n D∧n≤1000000∧Reads hkey numD D T.pinsF
def DirAt (w:World)(d:DirM):Prop:=w.ownsMap Tryz.prog 9 handElem d.b d.l.length (entD d.l)
structure Small (T:Tr):Prop where
 N:T.p.N≤1000
 g:∀ i,T.g i≤5000000000000000000
structure TreeAt (w:World)(tr:Nat)(T:Tr):Prop where
 c0:w.cell? ⟨tr,0,none⟩=some (.pointer (some ⟨T.t,0,none⟩))
 c1:w.cell? ⟨tr,1,none⟩=some (.map (some T.db))
 c2:w.cell? ⟨tr,2,none⟩=some (.map (some T.pb))
 tab:TabAt w T.t T.p T.most T.g T.nd
 dirs:DirsAt w T
 dir:∀ i d,T.ds i=some d→DirAt w d
 pins:PinsAt w T
 one:∀ i j d d',T.ds i=some d→T.ds j=some d'→d.b=d'.b→i=j
 small:Small T
 ftr:¬ InFoot T.t T.p T.most T.nd tr
 fdb:¬ InFoot T.t T.p T.most T.nd T.db
 fpb:¬ InFoot T.t T.p T.most T.nd T.pb
 fdir:∀ i d,T.ds i=some d→¬ InFoot T.t T.p T.most T.nd d.b∧d.b≠T.db∧d.b≠T.pb
 dp:T.db≠T.pb
 dlt:∀ i d,T.ds i=some d→i < T.p.N
 plt:∀ i,0 < T.pn i→i < T.p.N
def FootT (tr:Nat)(T:Tr)(k:Nat):Prop:=k=tr∨k=T.db∨k=T.pb∨(∃ i d,T.ds i=some d∧k=d.b)∨InFoot T.t T.p T.most T.nd k
section
variable {w w':World}{tr:Nat}{T:Tr}
theorem own_only {K:TypeId}{R:Value→Option (DataW Unit×List MemPlace)}{b n:Nat}{D:DataW Unit}{L:List Nat}(h:w.ownsMap Tryz.prog K R b n D)(ho:Only L w w')(hb:b∉L):w'.ownsMap Tryz.prog K R b n D:=by
 have hlt:=h.lt;obtain ⟨es,clock,h1,r⟩:=h;exact ⟨es,clock,(ho.block b hlt hb).trans h1,r⟩
theorem own_sized {K:TypeId}{R:Value→Option (DataW Unit×List MemPlace)}{b n:Nat}{D:DataW Unit}(h:w.ownsMap Tryz.prog K R b n D):w.ownsMap Tryz.prog K R b (Maps.size D) D:=by
 obtain ⟨es,clock,hb,F,_,rfl⟩:=h;exact ⟨es,clock,hb,F,by simp [Maps.size,length_sorted],rfl⟩
theorem own_ne_cell {K:TypeId}{R:Value→Option (DataW Unit×List MemPlace)}{b n g o:Nat}{D:DataW Unit}{v:Value}(h:w.ownsMap Tryz.prog K R b n D)(hc:w.cell? ⟨g,o,none⟩=some v):b≠g:=by
 obtain ⟨es,clock,hb,_⟩:=h;intro e;subst e;simp [World.cell?,hb] at hc
theorem TreeAt.foot_lt (h:TreeAt w tr T):∀ k,FootT tr T k→k < w.heap.size:=by
 rintro k (rfl | rfl | rfl | ⟨i,d,hd,rfl⟩ | hk)
 · exact lt_of_cell h.c0
 · obtain ⟨D,n,h1,_⟩:=h.dirs;exact h1.lt
 · obtain ⟨D,n,h1,_⟩:=h.pins;exact h1.lt
 · exact World.ownsMap.lt (h.dir i d hd)
 · exact h.tab.foot_lt k hk
theorem TreeAt.kept {L:List Nat}(h:TreeAt w tr T)(ho:Only L w w')(hd:∀ k,FootT tr T k→k∉L):TreeAt w' tr T:=by
 have htr:tr < w.heap.size:=lt_of_cell h.c0;have hl:=hd tr (Or.inl rfl);obtain ⟨D,n,d1,d2,d3⟩:=h.dirs;obtain ⟨P,m,p1,p2,p3⟩:=h.pins
 exact ⟨(ho.cell (p:=⟨tr,0,none⟩) htr hl).trans h.c0,(ho.cell (p:=⟨tr,1,none⟩) htr hl).trans h.c1,(ho.cell (p:=⟨tr,2,none⟩) htr hl).trans h.c2,
  h.tab.kept ho (fun k hk=>hd k (Or.inr (Or.inr (Or.inr (Or.inr hk))))),⟨D,n,own_only d1 ho (hd _ (Or.inr (Or.inl rfl))),d2,d3⟩,fun i d e=>own_only (h.dir i d e) ho (hd _ (Or.inr (Or.inr (Or.inr (Or.inl ⟨i,d,e,rfl⟩))))),
  ⟨P,m,own_only p1 ho (hd _ (Or.inr (Or.inr (Or.inl rfl)))),p2,p3⟩,h.one,h.small,h.ftr,h.fdb,h.fpb,h.fdir,h.dp,h.dlt,h.plt⟩
theorem TreeAt.only (h:TreeAt w tr T)(ho:Only [] w w'):TreeAt w' tr T:=h.kept ho (fun _ _=>by simp)
theorem TreeAt.table {p':Row}{g':Nat→Nat}{nd':Nat→Option Nod}{L:List Nat}(h:TreeAt w tr T)(ht:TabAt w' T.t p' T.most g' nd')(ho:Only L w w')(hL:∀ k∈L,InFoot T.t T.p T.most T.nd k)
  (hf:∀ k,InFoot T.t p' T.most nd' k→InFoot T.t T.p T.most T.nd k∨w.heap.size≤k) (hs:Small { T with p:=p',g:=g',nd:=nd' }) (hN:T.p.N≤p'.N) (hd:∀ k,Tr.dirsF { T with p:=p',g:=g',nd:=nd' } k=T.dirsF k) (hp:∀ k,Tr.pinsF { T with p:=p',g:=g',nd:=nd' } k=T.pinsF k) :
  TreeAt w' tr { T with p:=p',g:=g',nd:=nd' }:=by
 have htr:tr < w.heap.size:=lt_of_cell h.c0;have hl:tr∉L:=fun hm=>h.ftr (hL tr hm);obtain ⟨D,n,d1,d2,d3⟩:=h.dirs;obtain ⟨P,m,p1,p2,p3⟩:=h.pins
 have away:∀ k,k < w.heap.size→¬ InFoot T.t T.p T.most T.nd k→¬ InFoot T.t p' T.most nd' k:=fun k hk hn hm=>by
  rcases hf k hm with h1 | h1
  · exact hn h1
  · omega
 refine ⟨(ho.cell (p:=⟨tr,0,none⟩) htr hl).trans h.c0,(ho.cell (p:=⟨tr,1,none⟩) htr hl).trans h.c1,(ho.cell (p:=⟨tr,2,none⟩) htr hl).trans h.c2,ht,
  ⟨D,n,own_only d1 ho (fun hm=>h.fdb (hL _ hm)),d2,d3.congr hd⟩,fun i d e=>own_only (h.dir i d e) ho (fun hm=>(h.fdir i d e).1 (hL _ hm)),⟨P,m,own_only p1 ho (fun hm=>h.fpb (hL _ hm)),p2,p3.congr hp⟩,h.one,hs,
  away _ htr h.ftr,away _ d1.lt h.fdb,away _ p1.lt h.fpb,fun i d e=>⟨away _ (World.ownsMap.lt (h.dir i d e)) (h.fdir i d e).1,(h.fdir i d e).2⟩,h.dp,fun i d e=>Nat.lt_of_lt_of_le (h.dlt i d e) hN,fun i e=>Nat.lt_of_lt_of_le (h.plt i e) hN⟩
theorem TreeAt.node {i:Nat}{n n':Nod}(h:TreeAt w tr T)(hn:T.nd i=some n)(hb:n'.b=n.b)(hm:n'.m=n.m)(ht:TabAt w' T.t T.p T.most T.g (setN T.nd i (some n')))(ho:Only [n.b] w w'):TreeAt w' tr { T with nd:=setN T.nd i (some n') } :=
 h.table (p':=T.p) (g':=T.g) ht ho (fun k hk=>by simp at hk;subst hk;exact .node hn n.b_foot) (fun k hk=>Or.inl (by
  rcases hk with h1 | h1 | ⟨j,m,hj,hk⟩
  · exact Or.inl h1
  · exact Or.inr (Or.inl h1)
  · by_cases e:j=i
    · subst e
      rw [setN_same] at hj
      cases hj
      refine .node hn ?_;unfold Nod.foot at hk ⊢;rw [hb,hm] at hk;exact hk
    · rw [setN_other _ _ e] at hj
      exact .node hj hk)) ⟨h.small.N,h.small.g⟩ (Nat.le_refl _) (fun _=>rfl) (fun _=>rfl)
theorem hkey_inj {i c j e:Nat}(hi:i < 9223372036854775808)(hc:c < 9223372036854775808)(hj:j < 9223372036854775808)(he:e < 9223372036854775808)(h:hkey (i,c)=hkey (j,e)):i=j∧c=e:=by
 have h1:=keyOf_handle hi hc;rw [h] at h1;exact handV_inj (lawH.inj h1 (keyOf_handle hj he))
theorem hkey_only {i c:Nat}(hi:i < 9223372036854775808)(hc:c < 9223372036854775808)(j:Nat×Nat)(h:hkey j=hkey (i,c)):j=(i,c):=by
 obtain ⟨j1,j2⟩:=j
 by_cases hj:j1 < 9223372036854775808∧j2 < 9223372036854775808
 · obtain ⟨rfl,rfl⟩:=hkey_inj hj.1 hj.2 hi hc h
   rfl
 · unfold hkey at h
   rw [if_neg hj,if_pos ⟨hi,hc⟩] at h
   cases h
theorem reads_size {val:Nat→DataW Unit}{D:DataW Unit}{f:Nat×Nat→Option Nat}{g:Nat→Nat}{N:Nat}(ht:Tidy D)(hK:∀ es,D = .map es→∀ p∈es,WideAt.IsKeyLit p.1)(hr:Reads hkey val D f)(hk:∀ i c,f (i,c)≠none→c=g i∧i < N)(hN:N≤1000)(hg:∀ i,g i≤5000000000000000000):Maps.size D≤N:=by
 obtain ⟨es,rfl,hp⟩:=ht
 have n1:(es.map Prod.fst).Nodup:=by
  unfold List.Nodup;rw [List.pairwise_map];exact hp
 have n2:(((List.range N).filter (fun i=>(f (i,g i)).isSome)).map (fun i=>hkey (i,g i))).Nodup:=by
  unfold List.Nodup;rw [List.pairwise_map];refine (List.Pairwise.filter _ (List.nodup_range (n:=N))).imp_of_mem fun {i j} hi hj hne e=>?_;have h1:=List.mem_range.1 (List.mem_filter.1 hi).1;have h2:=List.mem_range.1 (List.mem_filter.1 hj).1;have h3:=hg i;have h4:=hg j;exact hne (hkey_inj (by omega) (by omega) (by omega) (by omega) e).1
 have hm:(es.map Prod.fst).Perm (((List.range N).filter (fun i=>(f (i,g i)).isSome)).map (fun i=>hkey (i,g i))):=by
  rw [List.perm_ext_iff_of_nodup n1 n2];intro kl
  constructor
  · intro hkl
    obtain ⟨p,hp1,rfl⟩:=List.mem_map.1 hkl;have hh:has (.map es) p.1=true:=List.any_eq_true.2 ⟨p,hp1,WideAt.sameKey_self (hK es rfl p hp1)⟩;obtain ⟨⟨i,c⟩,v,e,hf⟩:=hr.keys _ hh;obtain ⟨rfl,h2⟩:=hk i c (by rw [hf];simp);exact List.mem_map.2 ⟨i,List.mem_filter.2 ⟨List.mem_range.2 h2,by rw [hf];rfl⟩,e.symm⟩
  · intro hkl
    obtain ⟨i,hi,rfl⟩:=List.mem_map.1 hkl;have hs:=(List.mem_filter.1 hi).2;rw [← hr.isSome] at hs;obtain ⟨p,hp1,hp2⟩:=List.any_eq_true.1 hs;exact List.mem_map.2 ⟨p,hp1,WideAt.sameKey_eq hp2⟩
 have h1:=hm.length_eq;have h2:=List.length_filter_le (fun i=>(f (i,g i)).isSome) (List.range N);simp only [List.length_map,List.length_range] at h1 h2;show es.length≤N;omega
theorem own_keys {R:Value→Option (DataW Unit×List MemPlace)}{b n:Nat}{D:DataW Unit}(h:w.ownsMap Tryz.prog 116 R b n D):∀ es,D = .map es→∀ p∈es,WideAt.IsKeyLit p.1:=fun es e p hp=>by
 obtain ⟨es',e',_,hk⟩:=h.entries lawH;rw [e] at e'
 cases e'
 exact hk p hp
theorem dirsF_key (T:Tr)(hd:∀ i d,T.ds i=some d→i < T.p.N)(i c:Nat)(h:T.dirsF (i,c)≠none):c=T.g i∧i < T.p.N:=by
 unfold Tr.dirsF at h
 by_cases e:c=T.g i
 · refine ⟨e,?_⟩
   cases hx:T.ds i with
   | none=>simp [hx] at h
   | some d=>exact hd i d hx
 · simp [e] at h
theorem dirs_put {n:Nat}{D:DataW Unit}{T':Tr}(h1:w'.ownsMap Tryz.prog 116 mapElem T'.db n D)(h2:Reads hkey numD D T'.dirsF)(h3:∀ i d,T'.ds i=some d→i < T'.p.N)(hs:Small T'):DirsAt w' T' :=
 ⟨D,_,own_sized h1,by have:=reads_size (h1.tidy lawH) (own_keys h1) h2 (dirsF_key T' h3) hs.N hs.g;have:=hs.N;omega,h2⟩
theorem TreeAt.key (h:TreeAt w tr T){i:Nat}(hi:i < T.p.N):keyOf Tryz.prog 116 (handV i (T.g i))=some (hkey (i,T.g i)) :=
 keyOf_handle (by have:=h.small.N;omega) (by have:=h.small.g i;omega)
end
theorem own_six_drew {w w2:World}{B:Nat}{a b c d e f:Value}{ty:TypeId}(h:Only [] (w.alloc (.cells #[a,b,c,d,e,f] ty)).drew w2)(hB:w.heap.size=B):
 w2.cell? ⟨B,0,none⟩=some a∧w2.cell? ⟨B,1,none⟩=some b∧w2.cell? ⟨B,2,none⟩=some c∧w2.cell? ⟨B,3,none⟩=some d∧w2.cell? ⟨B,4,none⟩=some e∧w2.cell? ⟨B,5,none⟩=some f∧(∀ o,w2.frozen? ⟨B,o,none⟩=false)∧B < w2.heap.size:=own_six h.of_drew hB
def Held (tr t B:Nat)(i gi:Nat)(W:World):Prop:=W.cell? ⟨tr,0,none⟩=some (.pointer (some ⟨t,0,none⟩))∧W.cell? ⟨B,0,none⟩=some (.int .i64 i)∧W.cell? ⟨B,1,none⟩=some (.int .i64 (gi:Nat))
theorem Held.only {w W:World}{tr t B i gi:Nat}{L:List Nat}(h:Held tr t B i gi w)(ho:Only L w W)(h1:tr∉L)(h2:B∉L):Held tr t B i gi W :=
 ⟨(ho.cell (p:=⟨tr,0,none⟩) (lt_of_cell h.1) h1).trans h.1,(ho.cell (p:=⟨B,0,none⟩) (lt_of_cell h.2.1) h2).trans h.2.1,(ho.cell (p:=⟨B,1,none⟩) (lt_of_cell h.2.2) h2).trans h.2.2⟩
theorem Held.first {w:World}{tr t i gi:Nat}{ty:TypeId}(ct:w.cell? ⟨tr,0,none⟩=some (.pointer (some ⟨t,0,none⟩))):Held tr t w.heap.size i gi (w.alloc (.cells #[.int .i64 i,.int .i64 (gi:Nat)] ty)):=by
 have hh:=heap_alloc_last w (.cells #[.int .i64 i,.int .i64 (gi:Nat)] ty);exact ⟨(((Only.refl [] w).alloc _).cell (p:=⟨tr,0,none⟩) (lt_of_cell ct) (by simp)).trans ct,cell_of_row _ _ 0 _ _ _ hh,cell_of_row _ _ 1 _ _ _ hh⟩
theorem isDir_any (w:World)(tr:Nat)(T:Tr)(i:Nat)(h:TreeAt w tr T)(hi:i < T.p.N):
  Calls Tryz.prog 186 #[.pointer (some ⟨tr,0,none⟩),.agg #[.int .i64 i,.int .i64 (T.g i:Nat)]] w fun e w'=>e = .returned (.bool (T.ds i).isSome)∧Only [] w w':=by
 have ct:=h.c1;have htl:tr < w.heap.size:=lt_of_cell ct;obtain ⟨D,n,d1,_,d3⟩:=h.dirs;have d1':=own_only d1 (((Only.refl [] w).alloc (.cells #[.int .i64 i,.int .i64 (T.g i:Nat)] 116)).drew) (by simp)
 have hhas:has D (hkey (i,T.g i))=(T.ds i).isSome:=by
  rw [d3.isSome];unfold Tr.dirsF;rw [if_pos rfl]
  cases T.ds i<;>rfl
 obtain ⟨v,ps,hrun,_⟩:=d1'.look_ok lawH undDirs (zeroDir _) (zd := .lit (.int .i64 (-1))) (zp:=[]) rfl (h.key hi);rw [hhas] at hrun;unfold handV at hrun;clear h d1 d1' d3 hhas;generalize T.db=db at ct hrun;generalize T.g i=gi at hrun ⊢;generalize (T.ds i).isSome=x at hrun ⊢
 go_enter Tryz.func186,Tryz.ntmps186
 go_wp2
 go_region
 go_wp2
 go_ret
 exact ⟨rfl,((Only.refl _ _).alloc _).drew⟩
theorem touch_ok (w:World)(tr:Nat)(T:Tr)(i:Nat)(n:Nod)(h:TreeAt w tr T)(hn:T.nd i=some n)(hC:0≤n.C∧n.C≤9000000000000000000):
  Calls Tryz.prog 361 #[.pointer (some ⟨tr,0,none⟩),.agg #[.int .i64 i,.int .i64 (T.g i:Nat)]] w fun e w'=>e = .returned (.tuple #[])∧TreeAt w' tr { T with nd:=setN T.nd i (some { n with C:=n.C+1 }) }∧Only [n.b] w w':=by
 have HC:Hid (∀ w1,Only [] w w1→_):=fun w1 (ho:Only [] w w1)=>ttouch_ok w1 T.t T.p T.most i T.g T.nd n (h.tab.kept ho (fun _ _=>by simp)) hn hC;have H:Hid (TreeAt w tr T):=h;have HN:Hid (T.nd i=some n):=hn;have ct:=h.c0;have htl:tr < w.heap.size:=lt_of_cell ct;clear h hn hC;have HS0:Hid (Held tr T.t w.heap.size i (T.g i) (w.alloc (.cells #[.int .i64 i,.int .i64 (T.g i:Nat)] 116)).drew):=(Held.first ct).only ((Only.refl [] _).drew) (by simp) (by simp);have hnb:n.b < w.heap.size:=lt_of_cell (H.out.tab.node i n HN.out).c0
 have HNB:Hid (w.heap.size∉[n.b]):=show w.heap.size∉[n.b] from (fun hm=>by have e:w.heap.size=n.b:=(by simpa using hm);omega)
 have HNT:Hid (tr∉[n.b]):=show tr∉[n.b] from (fun hm=>by have e:tr=n.b:=(by simpa using hm);exact H.out.ftr (by rw [e];exact .node HN.out n.b_foot))
 clear ct;have HW1:Hid (Only [] w (w.alloc (.cells #[.int .i64 i,.int .i64 (T.g i:Nat)] 116)).drew):=((Only.refl [] _).alloc _).drew
 go_enter Tryz.func361,Tryz.ntmps361
 go_wp2
 go_region_held3 (fun W=>W.cell? ⟨tr,0,none⟩=some (.pointer (some ⟨T.t,0,none⟩))∧W.cell? ⟨w.heap.size,0,none⟩=some (.int .i64 i)∧W.cell? ⟨w.heap.size,1,none⟩=some (.int .i64 (T.g i:Nat))) (first | exact HS0.out | exact hS2)
  (first | (go_at_call 410;refine (HC.out _ HW1.out).mono ?_;rintro e w2 ⟨rfl,hT2,ho2⟩;have HT2:Hid (TabAt w2 T.t T.p T.most T.g (setN T.nd i (some { n with C:=n.C+1 }))):=hT2;have HO2:Hid (Only [n.b] (w.alloc (.cells #[.int .i64 i,.int .i64 (T.g i:Nat)] 116)).drew w2):=ho2;have hS2:Held tr T.t w.heap.size i (T.g i) w2:=HS0.out.only ho2 HNT.out HNB.out;clear hT2 ho2))
 all_goals go_wp2
 all_goals go_end0
 all_goals
  have ho:Only [n.b] w w2:=((Only.refl [n.b] w).alloc _).drew.trans HO2.out (fun _ hk=>Or.inl hk);exact ⟨rfl,H.out.node HN.out rfl rfl HT2.out ho,ho⟩
theorem keep_set {W:World}{tr t B blk o:Nat}{i gi:Nat}{u:Value}(h:W.cell? ⟨tr,0,none⟩=some (.pointer (some ⟨t,0,none⟩))∧W.cell? ⟨B,0,none⟩=some (.int .i64 i)∧W.cell? ⟨B,1,none⟩=some (.int .i64 (gi:Nat)))(h1:tr≠blk)(h2:B≠blk):(W.setCell ⟨blk,o,none⟩ u).cell? ⟨tr,0,none⟩=some (.pointer (some ⟨t,0,none⟩))∧(W.setCell ⟨blk,o,none⟩ u).cell? ⟨B,0,none⟩=some (.int .i64 i)∧(W.setCell ⟨blk,o,none⟩ u).cell? ⟨B,1,none⟩=some (.int .i64 (gi:Nat)) :=
 Held.only (t:=t) (i:=i) (gi:=gi) h ((Only.refl [blk] W).setCell (Or.inl (by simp)) _) (by simpa using h1) (by simpa using h2)
theorem Only.six {a w:World}(h:Only [] a w){b:Nat}(hb:a.heap.size≤b){v0 v1 v2 v3 v4 v5:Value}:Only [] a ((((((w.setCell ⟨b,0,none⟩ v0).setCell ⟨b,1,none⟩ v1).setCell ⟨b,2,none⟩ v2).setCell ⟨b,3,none⟩ v3).setCell ⟨b,4,none⟩ v4).setCell ⟨b,5,none⟩ v5) :=
 (((((h.setCell (Or.inr hb) _).setCell (Or.inr hb) _).setCell (Or.inr hb) _).setCell (Or.inr hb) _).setCell (Or.inr hb) _).setCell (Or.inr hb) _
theorem keep_alloc {W:World}{tr t B:Nat}{i gi:Nat}{o:Obj}(h:W.cell? ⟨tr,0,none⟩=some (.pointer (some ⟨t,0,none⟩))∧W.cell? ⟨B,0,none⟩=some (.int .i64 i)∧W.cell? ⟨B,1,none⟩=some (.int .i64 (gi:Nat))):(W.alloc o).cell? ⟨tr,0,none⟩=some (.pointer (some ⟨t,0,none⟩))∧(W.alloc o).cell? ⟨B,0,none⟩=some (.int .i64 i)∧(W.alloc o).cell? ⟨B,1,none⟩=some (.int .i64 (gi:Nat)) :=
 Held.only (t:=t) (i:=i) (gi:=gi) h ((Only.refl [] W).alloc _) (by simp) (by simp)
theorem told_ok (w:World)(tr:Nat)(T:Tr)(i:Nat)(n:Nod)(z:Int)(h:TreeAt w tr T)(hn:T.nd i=some n)(hz:n.K=1∧z=(n.S.size:Int)∨n.K=2∧z=n.Z):
   Calls Tryz.prog 188 #[.pointer (some ⟨tr,0,none⟩),.agg #[.int .i64 i,.int .i64 (T.g i:Nat)]] w fun e w'=>e = .returned (attrV n.K z n.L n.C n.UN n.UG)∧Only [] w w':=by
 have HC:Hid (∀ w1,Only [] w w1→_):=fun w1 (ho:Only [] w w1)=>tattr_ok w1 T.t T.p T.most i T.g T.nd n z (h.tab.kept ho (fun _ _=>by simp)) hn hz;have ct:=h.c0;have htl:tr < w.heap.size:=lt_of_cell ct;clear h hn hz;generalize T.t=t at HC ct;generalize T.g i=gi at HC ⊢;unfold attrV at HC ⊢;generalize n.K=K at HC ⊢;generalize n.L=L at HC ⊢;generalize n.C=C at HC ⊢;generalize n.UN=UN at HC ⊢;generalize n.UG=UG at HC ⊢;have H1:Hid (Held tr t w.heap.size i gi (w.alloc (.cells #[.int .i64 i,.int .i64 (gi:Nat)] 116))):=Held.first ct;have HW1:Hid (Only [] (w.alloc (.cells #[.int .i64 i,.int .i64 (gi:Nat)] 116)) ((w.alloc (.cells #[.int .i64 i,.int .i64 (gi:Nat)] 116)).alloc (.cells #[.int .i64 0,.int .i64 0,.int .i64 0,.int .i64 0,.int .i64 0,.int .i64 0] 179)).drew):=((Only.refl [] _).alloc _).drew;have HW2:Hid (Only [] (w.alloc (.cells #[.int .i64 i,.int .i64 (gi:Nat)] 116)) (((w.alloc (.cells #[.int .i64 i,.int .i64 (gi:Nat)] 116)).alloc (.cells #[.int .i64 0,.int .i64 0,.int .i64 0,.int .i64 0,.int .i64 0,.int .i64 0] 179)).alloc (.cells #[.int .i64 0,.int .i64 0,.int .i64 0,.int .i64 0,.int .i64 0,.int .i64 0] 179)).drew):=(((Only.refl [] _).alloc _).alloc _).drew;have HW3:Hid (Only [] ((w.alloc (.cells #[.int .i64 i,.int .i64 (gi:Nat)] 116)).alloc (.cells #[.int .i64 0,.int .i64 0,.int .i64 0,.int .i64 0,.int .i64 0,.int .i64 0] 179)) (((w.alloc (.cells #[.int .i64 i,.int .i64 (gi:Nat)] 116)).alloc (.cells #[.int .i64 0,.int .i64 0,.int .i64 0,.int .i64 0,.int .i64 0,.int .i64 0] 179)).alloc (.cells #[.int .i64 0,.int .i64 0,.int .i64 0,.int .i64 0,.int .i64 0,.int .i64 0] 179)).drew):=((Only.refl [] _).alloc _).drew;have HV1:Hid (Only [] w ((w.alloc (.cells #[.int .i64 i,.int .i64 (gi:Nat)] 116)).alloc (.cells #[.int .i64 0,.int .i64 0,.int .i64 0,.int .i64 0,.int .i64 0,.int .i64 0] 179)).drew):=(((Only.refl [] _).alloc _).alloc _).drew;have HV2:Hid (Only [] w (((w.alloc (.cells #[.int .i64 i,.int .i64 (gi:Nat)] 116)).alloc (.cells #[.int .i64 0,.int .i64 0,.int .i64 0,.int .i64 0,.int .i64 0,.int .i64 0] 179)).alloc (.cells #[.int .i64 0,.int .i64 0,.int .i64 0,.int .i64 0,.int .i64 0,.int .i64 0] 179)).drew):=((((Only.refl [] _).alloc _).alloc _).alloc _).drew;have K1:Hid (((w.alloc (.cells #[.int .i64 i,.int .i64 (gi:Nat)] 116)).alloc (.cells #[.int .i64 0,.int .i64 0,.int .i64 0,.int .i64 0,.int .i64 0,.int .i64 0] 179)).drew.cell? ⟨tr,0,none⟩=some (.pointer (some ⟨t,0,none⟩))∧((w.alloc (.cells #[.int .i64 i,.int .i64 (gi:Nat)] 116)).alloc (.cells #[.int .i64 0,.int .i64 0,.int .i64 0,.int .i64 0,.int .i64 0,.int .i64 0] 179)).drew.cell? ⟨w.heap.size,0,none⟩=some (.int .i64 i)∧((w.alloc (.cells #[.int .i64 i,.int .i64 (gi:Nat)] 116)).alloc (.cells #[.int .i64 0,.int .i64 0,.int .i64 0,.int .i64 0,.int .i64 0,.int .i64 0] 179)).drew.cell? ⟨w.heap.size,1,none⟩=some (.int .i64 (gi:Nat))):=H1.out.only HW1.out (by simp) (by simp);have K2:Hid ((((w.alloc (.cells #[.int .i64 i,.int .i64 (gi:Nat)] 116)).alloc (.cells #[.int .i64 0,.int .i64 0,.int .i64 0,.int .i64 0,.int .i64 0,.int .i64 0] 179)).alloc (.cells #[.int .i64 0,.int .i64 0,.int .i64 0,.int .i64 0,.int .i64 0,.int .i64 0] 179)).drew.cell? ⟨tr,0,none⟩=some (.pointer (some ⟨t,0,none⟩))∧(((w.alloc (.cells #[.int .i64 i,.int .i64 (gi:Nat)] 116)).alloc (.cells #[.int .i64 0,.int .i64 0,.int .i64 0,.int .i64 0,.int .i64 0,.int .i64 0] 179)).alloc (.cells #[.int .i64 0,.int .i64 0,.int .i64 0,.int .i64 0,.int .i64 0,.int .i64 0] 179)).drew.cell? ⟨w.heap.size,0,none⟩=some (.int .i64 i)∧(((w.alloc (.cells #[.int .i64 i,.int .i64 (gi:Nat)] 116)).alloc (.cells #[.int .i64 0,.int .i64 0,.int .i64 0,.int .i64 0,.int .i64 0,.int .i64 0] 179)).alloc (.cells #[.int .i64 0,.int .i64 0,.int .i64 0,.int .i64 0,.int .i64 0,.int .i64 0] 179)).drew.cell? ⟨w.heap.size,1,none⟩=some (.int .i64 (gi:Nat))):=H1.out.only HW2.out (by simp) (by simp)
 have HN2:Hid (tr≠w.heap.size+2):=show tr≠w.heap.size+2 from by omega
 have HB2:Hid (w.heap.size≠w.heap.size+2):=show w.heap.size≠w.heap.size+2 from by omega
 go_enter Tryz.func188,Tryz.ntmps188
 go_wp2
 go_region_held3 (fun W=>W.cell? ⟨tr,0,none⟩=some (.pointer (some ⟨t,0,none⟩))∧W.cell? ⟨w.heap.size,0,none⟩=some (.int .i64 i)∧W.cell? ⟨w.heap.size,1,none⟩=some (.int .i64 (gi:Nat)))
   (with_reducible first
    | exact K1.out
    | exact K2.out
    | exact HS2.out
    | exact keep_alloc HS2.out
    | exact keep_set (keep_set (keep_set (keep_set (keep_set (keep_set (HS2.out) HN2.out HB2.out) HN2.out HB2.out) HN2.out HB2.out) HN2.out HB2.out) HN2.out HB2.out) HN2.out HB2.out)
   (first
    | (go_at_call 183;refine (HC.out _ HV1.out).mono ?_;rintro e w2 ⟨rfl,ho2⟩;have HO2:Hid (Only [] (w.alloc (.cells #[.int .i64 i,.int .i64 (gi:Nat)] 116)) w2):=HW1.out.trans ho2 (fun _ hk=>by cases hk);have HS2:Hid (w2.cell? ⟨tr,0,none⟩=some (.pointer (some ⟨t,0,none⟩))∧w2.cell? ⟨w.heap.size,0,none⟩=some (.int .i64 i)∧w2.cell? ⟨w.heap.size,1,none⟩=some (.int .i64 (gi:Nat))):=H1.out.only HO2.out (by simp) (by simp);have HR:Hid (Only [] ((w.alloc (.cells #[.int .i64 i,.int .i64 (gi:Nat)] 116)).alloc (.cells #[.int .i64 0,.int .i64 0,.int .i64 0,.int .i64 0,.int .i64 0,.int .i64 0] 179)) w2):=ho2.of_drew;clear ho2)
    | (go_at_call 183;refine (HC.out _ HV2.out).mono ?_;rintro e w2 ⟨rfl,ho2⟩;have HO2:Hid (Only [] (w.alloc (.cells #[.int .i64 i,.int .i64 (gi:Nat)] 116)) w2):=HW2.out.trans ho2 (fun _ hk=>by cases hk);have HS2:Hid (w2.cell? ⟨tr,0,none⟩=some (.pointer (some ⟨t,0,none⟩))∧w2.cell? ⟨w.heap.size,0,none⟩=some (.int .i64 i)∧w2.cell? ⟨w.heap.size,1,none⟩=some (.int .i64 (gi:Nat))):=H1.out.only HO2.out (by simp) (by simp);obtain ⟨q0,q1,q2,q3,q4,q5,f1,hl1⟩:=own_six_drew (B:=w.heap.size+2) ho2 (by simp);have HR:Hid (Only [] ((w.alloc (.cells #[.int .i64 i,.int .i64 (gi:Nat)] 116)).alloc (.cells #[.int .i64 0,.int .i64 0,.int .i64 0,.int .i64 0,.int .i64 0,.int .i64 0] 179)) w2):=HW3.out.trans ho2 (fun _ hk=>by cases hk);clear ho2))
 all_goals obtain ⟨r0,r1,r2,r3,r4,r5,f0,hl0⟩:=own_six (B:=w.heap.size+1) HR.out (by simp)
 all_goals have hO:Only [] w w2:=((Only.refl [] w).alloc _).trans HO2.out (fun _ hk=>by cases hk)
 all_goals have HO:Hid (Only [] w w2):=hO
 all_goals clear hO
 all_goals go_wp2
 all_goals have hle1:w.heap.size≤w.heap.size+1:=Nat.le_succ _
 all_goals have hle2:w.heap.size≤w.heap.size+1+1:=by omega
 all_goals refine bodyPost_ret (v := .agg #[.int .i64 K,.int .i64 z,.int .i64 L,.int .i64 C,.int .i64 UN,.int .i64 UG]) (by simp [results,Tryz.results188,go_sem,r0,r1,r2,r3,r4,r5,hl0]) rfl ⟨rfl,?_⟩
 · exact (HO.out.six hle1).alloc _
 · exact (HO.out.six hle2).six hle1
theorem sizeHandle:(Tryz.prog.info? 116).map (·.size)=some 2:=(zero_of_info infoHand).2
theorem fieldUp (W:World)(a b c d e f:Value):(Instr.field 179 (.agg #[a,b,c,d,e,f]) 4).run Tryz.prog W = .ok (.agg #[e,f]) W:=by
 obtain ⟨i,hi,hs⟩:=Option.map_eq_some_iff.1 sizeHandle;unfold Instr.field;simp [run_underlying Tryz.underlying179,part,asAgg,isAgg,run_underlying Tryz.underlying116,sizeOf,typeInfo,hi,hs,go_sem]
def dirsIn (l:List Ent)(ds:Nat→Option DirM):Nat:=(l.filter (fun e=>(ds e.i).isSome)).length
def doneIn (l:List Ent)(ds:Nat→Option DirM)(left:Lit→Bool):Nat:=(l.filter (fun e=>!left (.string e.s)&&(ds e.i).isSome)).length
theorem dirsIn_le (l:List Ent)(ds:Nat→Option DirM):dirsIn l ds≤l.length:=List.length_filter_le _ _
theorem doneIn_le (l:List Ent)(ds:Nat→Option DirM)(left:Lit→Bool):doneIn l ds left≤l.length:=List.length_filter_le _ _
theorem done_start (l:List Ent)(ds:Nat→Option DirM):doneIn l ds (has (entD l))=0:=by
 unfold doneIn;rw [List.length_eq_zero_iff,List.filter_eq_nil_iff];intro e he
 have:has (entD l) (.string e.s)=true:=by
  rw [has_entD];unfold findE;rw [List.find?_isSome];exact ⟨e,he,by simp⟩
 rw [this];simp
theorem done_end (l:List Ent)(ds:Nat→Option DirM){left:Lit→Bool}(h:∀ kl,left kl=false):doneIn l ds left=dirsIn l ds:=by
 unfold doneIn dirsIn;congr 1;refine List.filter_congr fun e _=>?_;rw [h];rfl
theorem done_other (l:List Ent)(ds:Nat→Option DirM)(left:Lit→Bool)(s:List UInt8)(h:∀ e∈l,e.s≠s):doneIn l ds (fun z=>left z&&!z.sameKey (.string s))=doneIn l ds left:=by
 unfold doneIn;congr 1;refine List.filter_congr fun e he=>?_
 have:(Lit.string e.s).sameKey (.string s)=false:=by
  show (e.s==s)=false
  simpa using h e he
 simp only [this,Bool.not_false,Bool.and_true]
theorem done_step (l:List Ent)(ds:Nat→Option DirM)(left:Lit→Bool)(e:Ent)(hn:(l.map (·.s)).Nodup)(he:e∈l)(hl:left (.string e.s)=true):doneIn l ds (fun z=>left z&&!z.sameKey (.string e.s))=doneIn l ds left+if (ds e.i).isSome then 1 else 0:=by
 induction l with
 | nil=>cases he
 | cons x l ih =>
  rw [List.map_cons,List.nodup_cons] at hn;rcases List.mem_cons.1 he with rfl | he'
  · have ho:=done_other l ds left e.s (fun y hy hs=>hn.1 (hs ▸ List.mem_map_of_mem hy))
    have hk:(Lit.string e.s).sameKey (.string e.s)=true:=by
      show (e.s==e.s)=true;simp
    unfold doneIn at ho ⊢;simp only [List.filter_cons,hl,hk,Bool.not_true,Bool.and_false,Bool.not_false,Bool.true_and,Bool.false_and,Bool.false_eq_true,if_false]
    cases hd:(ds e.i).isSome
    · simp only [Bool.false_eq_true,if_false]
      rw [ho];rfl
    · simp only [if_true,List.length_cons]
      rw [ho]
  · have hne:x.s≠e.s:=fun hs=>hn.1 (hs ▸ List.mem_map_of_mem he')
    have hk:(Lit.string x.s).sameKey (.string e.s)=false:=by
      show (x.s==e.s)=false
      simpa using hne
    have:=ih hn.2 he';unfold doneIn at this ⊢;dsimp only at this;simp only [List.filter_cons,hk,Bool.not_false,Bool.and_true]
    split
    · simp only [List.length_cons]
      omega
    · exact this
theorem DirAt.nodup {w:World}{d:DirM}(h:DirAt w d):(d.l.map (·.s)).Nodup:=by
 obtain ⟨es,e,hp⟩:=World.ownsMap.tidy h lawS
 have:es=d.l.map entP:=by
  unfold entD at e;exact (DataW.map.inj e).symm
 subst this;rw [List.pairwise_map] at hp;unfold List.Nodup;rw [List.pairwise_map]
 exact hp.imp fun h e=>h (by rw [show ∀ x:Ent,(entP x).1 = .string x.s from fun _=>rfl,show ∀ x:Ent,(entP x).1 = .string x.s from fun _=>rfl,e])
theorem Only.toG {w w':World}(h:Only [] w w'):w.grownBy w' none:=⟨h.os,h.tape,h.output,h.size,fun k hk _=>h.block k hk (by simp)⟩
theorem look_dir {w:World}{tr:Nat}{T:Tr}(h:TreeAt w tr T){a:Nat}{d:DirM}(ha:a < T.p.N)(hd:T.ds a=some d):(Instr.lookup 200 (.map (some T.db)) (.agg #[.int .i64 a,.int .i64 (T.g a:Nat)]) false).run Tryz.prog w = .ok (.map (some d.b)) w:=by
 obtain ⟨D,n,d1,_,d3⟩:=h.dirs;obtain ⟨v,ps,hrun,hR⟩:=d1.lookup lawH undDirs (zeroDir _) (zd := .lit (.int .i64 (-1))) (zp:=[]) rfl (h.key ha)
 have e:T.dirsF (a,T.g a)=some d.b:=by
  unfold Tr.dirsF;rw [if_pos rfl,hd];rfl
 rw [d3.look,e] at hR;rw [mapElem_inv hR] at hrun;exact hrun
theorem len_dir {w:World}{d:DirM}(h:DirAt w d)(ty:TypeId):(Builtin.len_ #[268] ty #[.map (some d.b)]).run Tryz.prog w = .ok (.int .i64 (d.l.length:Nat)) w:=by
 have:=World.ownsMap.len h undNames ty;rw [size_entD] at this;exact this
theorem rec_held {w W:World}{tr:Nat}{T:Tr}{a:Nat}{d:DirM}(h:TreeAt W tr T)(ha:a < T.p.N)(hd:T.ds a=some d)(h0:W.cell? ⟨w.heap.size,0,none⟩=some (.int .i64 a))(h1:W.cell? ⟨w.heap.size,1,none⟩=some (.int .i64 (T.g a:Nat))):
 W.cell? ⟨tr,0,none⟩=some (.pointer (some ⟨T.t,0,none⟩))∧W.cell? ⟨tr,1,none⟩=some (.map (some T.db))∧W.cell? ⟨w.heap.size,0,none⟩=some (.int .i64 a)∧W.cell? ⟨w.heap.size,1,none⟩=some (.int .i64 (T.g a:Nat))∧(Instr.lookup 200 (.map (some T.db)) (.agg #[.int .i64 a,.int .i64 (T.g a:Nat)]) false).run Tryz.prog W = .ok (.map (some d.b)) W∧(Builtin.len_ #[268] 3 #[.map (some d.b)]).run Tryz.prog W = .ok (.int .i64 (d.l.length:Nat)) W:=⟨h.c0,h.c1,h0,h1,look_dir h ha hd,len_dir (h.dir a d hd) _⟩
theorem recount_ok (w:World)(tr:Nat)(T:Tr)(a:Nat)(n:Nod)(d:DirM)(h:TreeAt w tr T)(hd:T.ds a=some d)(hn:T.nd a=some n)(hK:n.K=2)(hl:d.l.length≤1000)(hlive:∀ e∈d.l,e.i < T.p.N∧e.c=T.g e.i):
  Calls Tryz.prog 133 #[.pointer (some ⟨tr,0,none⟩),.agg #[.int .i64 a,.int .i64 (T.g a:Nat)]] w fun e w'=>e = .returned (.tuple #[])∧TreeAt w' tr { T with nd:=setN T.nd a (some { n with Z:=(d.l.length:Nat),UN:=n.UN,UG:=n.UG,L:=2+(dirsIn d.l T.ds:Int) }) }∧Only [n.b] w w':=by
 have ha:=h.tab.lt hn;have ct:=h.c1;have htl:tr < w.heap.size:=lt_of_cell ct;have hO1:Only [] w (w.alloc (.cells #[.int .i64 a,.int .i64 (T.g a:Nat)] 116)).drew:=((Only.refl [] w).alloc _).drew;have hT1:=h.only hO1;have hlook:=look_dir hT1 ha hd
 have e1:((w.alloc (.cells #[.int .i64 a,.int .i64 (T.g a:Nat)] 116)).drew).heap.size=w.heap.size+1:=by simp
 obtain ⟨w0,hrange,hrg0,hg0,_⟩:=(hT1.dir a d hd).range lawS undNames;rw [e1] at hrange hrg0;have HN:Hid ((d.l.map (·.s)).Nodup):=(h.dir a d hd).nodup;have HO0:Hid (Only [] w w0):=hO1.grown hg0 (fun k hk=>by cases hk);have hh:=heap_alloc_last w (.cells #[.int .i64 a,.int .i64 (T.g a:Nat)] 116);have HB1:Hid (Only [] (w.alloc (.cells #[.int .i64 a,.int .i64 (T.g a:Nat)] 116)) w0):=((Only.refl [] (w.alloc (.cells #[.int .i64 a,.int .i64 (T.g a:Nat)] 116))).drew).grown hg0 (fun k hk=>by cases hk);have HH:Hid ((w.alloc (.cells #[.int .i64 a,.int .i64 (T.g a:Nat)] 116)).cell? ⟨w.heap.size,0,none⟩=some (.int .i64 a)∧(w.alloc (.cells #[.int .i64 a,.int .i64 (T.g a:Nat)] 116)).cell? ⟨w.heap.size,1,none⟩=some (.int .i64 (T.g a:Nat))):=⟨cell_of_row _ _ 0 _ _ _ hh,cell_of_row _ _ 1 _ _ _ hh⟩;have H:Hid (TreeAt w tr T):=h;have HF:Hid (T.ds a=some d∧T.nd a=some n∧n.K=2):=⟨hd,hn,hK⟩;have HL:Hid (∀ e∈d.l,e.i < T.p.N∧e.c=T.g e.i):=hlive;have HRG:Hid (w0.ranges Tryz.prog 9 handElem d.b (w.heap.size+1) d.l.length (entD d.l) (has (entD d.l)) (Maps.size (entD d.l))):=hrg0;clear h hd hn hK hlive hO1 hT1 e1 hg0 hh hrg0
 go_enter Tryz.func133,Tryz.ntmps133
 go_wp2
 go_region
 go_wp2
 clear hlook hrange
 go_loopw [4] (fun lk wr=>∃ (left:Lit→Bool) (cnt:Nat),lk = .int .i64 ((2+doneIn d.l T.ds left:Nat):Int)∧wr.ranges Tryz.prog 9 handElem d.b (w.heap.size+1) d.l.length (entD d.l) left cnt∧Only [] (w.alloc (.cells #[.int .i64 a,.int .i64 (T.g a:Nat)] 116)) wr∧∀ kl,left kl=true→has (entD d.l) kl=true)
  (fun _ wr=>wr.rangeLeft d.b (w.heap.size+1))
 case atStart=>exact ⟨_,_,by rw [done_start];rfl,HRG.out,HB1.out,fun _ h=>h⟩
 case round =>
  obtain ⟨left,cnt,rfl,hrg,hO,hleft⟩:=hrel;have hdl:=doneIn_le d.l T.ds left
  go_wp2_with (first
    | (at_next;refine wpList_next_ranges _ rfl _ rfl 9 lawS handElem id id (fun key _ _=>⟨key,rfl⟩) (fun v _ _=>⟨v,rfl⟩) d.b (w.heap.size+1) d.l.length _ _ _ rfl hrg ?_ ?_)
    | go_in)
  · intro _ hl0
    rw [done_end d.l T.ds hl0];have hdd:=dirsIn_le d.l T.ds;have hOw:Only [] w wr.drew:=(((Only.refl [] w).alloc _).trans hO (fun _ hk=>by cases hk)).drew;have hTr:=H.out.only hOw;have h0:=(hO.drew.cell (p:=⟨w.heap.size,0,none⟩) (lt_of_cell HH.out.1) (by simp)).trans HH.out.1;have h1:=(hO.drew.cell (p:=⟨w.heap.size,1,none⟩) (lt_of_cell HH.out.2) (by simp)).trans HH.out.2;have K0:Hid (wr.drew.cell? ⟨tr,0,none⟩=some (.pointer (some ⟨T.t,0,none⟩))∧wr.drew.cell? ⟨tr,1,none⟩=some (.map (some T.db))∧wr.drew.cell? ⟨w.heap.size,0,none⟩=some (.int .i64 a)∧wr.drew.cell? ⟨w.heap.size,1,none⟩=some (.int .i64 (T.g a:Nat))∧(Instr.lookup 200 (.map (some T.db)) (.agg #[.int .i64 a,.int .i64 (T.g a:Nat)]) false).run Tryz.prog wr.drew = .ok (.map (some d.b)) wr.drew∧(Builtin.len_ #[268] 3 #[.map (some d.b)]).run Tryz.prog wr.drew = .ok (.int .i64 (d.l.length:Nat)) wr.drew):=rec_held hTr ha HF.out.1 h0 h1;have htold:=told_ok wr.drew tr T a n n.Z hTr HF.out.2.1 (Or.inr ⟨HF.out.2.2,rfl⟩);unfold attrV at htold;have HOW:Hid (Only [] w wr.drew):=hOw;have HOB:Hid (Only [] (w.alloc (.cells #[.int .i64 a,.int .i64 (T.g a:Nat)] 116)) wr.drew):=hO.drew;have hnb:n.b < w.heap.size:=lt_of_cell (H.out.tab.node a n HF.out.2.1).c0
    have HNB:Hid (w.heap.size∉[n.b]):=show w.heap.size∉[n.b] from (fun hm=>by have e:w.heap.size=n.b:=(by simpa using hm);omega)
    have HND:Hid (∀ w4,TabAt w4 T.t T.p T.most T.g (setN T.nd a (some { n with Z:=(d.l.length:Nat),UN:=n.UN,UG:=n.UG,L:=2+(dirsIn d.l T.ds:Int) }))→Only [n.b] w w4→TreeAt w4 tr { T with nd:=setN T.nd a (some { n with Z:=(d.l.length:Nat),UN:=n.UN,UG:=n.UG,L:=2+(dirsIn d.l T.ds:Int) }) }):=fun w4 h4 o4=>TreeAt.node (n:=n) (n':={ n with Z:=(d.l.length:Nat),UN:=n.UN,UG:=n.UG,L:=2+(dirsIn d.l T.ds:Int) }) H.out HF.out.2.1 rfl rfl h4 o4
    have HK4:Hid (∀ w3 w4:World,(w3.cell? ⟨tr,0,none⟩=some (.pointer (some ⟨T.t,0,none⟩))∧w3.cell? ⟨tr,1,none⟩=some (.map (some T.db))∧w3.cell? ⟨w.heap.size,0,none⟩=some (.int .i64 a)∧w3.cell? ⟨w.heap.size,1,none⟩=some (.int .i64 (T.g a:Nat))∧(Instr.lookup 200 (.map (some T.db)) (.agg #[.int .i64 a,.int .i64 (T.g a:Nat)]) false).run Tryz.prog w3 = .ok (.map (some d.b)) w3∧(Builtin.len_ #[268] 3 #[.map (some d.b)]).run Tryz.prog w3 = .ok (.int .i64 (d.l.length:Nat)) w3)→Only [n.b] w3 w4→TreeAt w4 tr { T with nd:=setN T.nd a (some { n with Z:=(d.l.length:Nat),UN:=n.UN,UG:=n.UG,L:=2+(dirsIn d.l T.ds:Int) }) }→(w4.cell? ⟨tr,0,none⟩=some (.pointer (some ⟨T.t,0,none⟩))∧w4.cell? ⟨tr,1,none⟩=some (.map (some T.db))∧w4.cell? ⟨w.heap.size,0,none⟩=some (.int .i64 a)∧w4.cell? ⟨w.heap.size,1,none⟩=some (.int .i64 (T.g a:Nat))∧(Instr.lookup 200 (.map (some T.db)) (.agg #[.int .i64 a,.int .i64 (T.g a:Nat)]) false).run Tryz.prog w4 = .ok (.map (some d.b)) w4∧(Builtin.len_ #[268] 3 #[.map (some d.b)]).run Tryz.prog w4 = .ok (.int .i64 (d.l.length:Nat)) w4)):=fun w3 w4 k3 o4 t4=>by
     have k:=rec_held (w:=w) (T:={ T with nd:=setN T.nd a (some { n with Z:=(d.l.length:Nat),UN:=n.UN,UG:=n.UG,L:=2+(dirsIn d.l T.ds:Int) }) }) (d:=d) t4 ha HF.out.1 ((o4.cell (p:=⟨w.heap.size,0,none⟩) (lt_of_cell k3.2.2.1) HNB.out).trans k3.2.2.1) ((o4.cell (p:=⟨w.heap.size,1,none⟩) (lt_of_cell k3.2.2.2.1) HNB.out).trans k3.2.2.2.1);exact k
    clear hrg hO hleft hl0 hTr h0 h1 hOw;have hfu:∀ W:World,(Instr.field 179 (.agg #[.int .i64 n.K,.int .i64 n.Z,.int .i64 n.L,.int .i64 n.C,.int .i64 n.UN,.int .i64 n.UG]) 4).run Tryz.prog W = .ok (.agg #[.int .i64 n.UN,.int .i64 n.UG]) W:=fun W=>fieldUp W _ _ _ _ _ _
    go_wp2
    go_region_held3 (fun W=>W.cell? ⟨tr,0,none⟩=some (.pointer (some ⟨T.t,0,none⟩))∧W.cell? ⟨tr,1,none⟩=some (.map (some T.db))∧W.cell? ⟨w.heap.size,0,none⟩=some (.int .i64 a)∧W.cell? ⟨w.heap.size,1,none⟩=some (.int .i64 (T.g a:Nat))∧(Instr.lookup 200 (.map (some T.db)) (.agg #[.int .i64 a,.int .i64 (T.g a:Nat)]) false).run Tryz.prog W = .ok (.map (some d.b)) W∧(Builtin.len_ #[268] 3 #[.map (some d.b)]).run Tryz.prog W = .ok (.int .i64 (d.l.length:Nat)) W)
     ( with_reducible first
        | exact K0.out
        | exact K3.out
        | exact K4.out)
     ( first
        | (go_at_call 188;refine htold.mono ?_;rintro e w3 ⟨rfl,ho3⟩;have HT3:Hid (TreeAt w3 tr T):=H.out.only (HOW.out.trans ho3 (fun _ hk=>by cases hk));have HO3:Hid (Only [] (w.alloc (.cells #[.int .i64 a,.int .i64 (T.g a:Nat)] 116)) w3):=HOB.out.trans ho3 (fun _ hk=>by cases hk);have HW3:Hid (Only [] w w3):=HOW.out.trans ho3 (fun _ hk=>by cases hk);have K3:Hid (w3.cell? ⟨tr,0,none⟩=some (.pointer (some ⟨T.t,0,none⟩))∧w3.cell? ⟨tr,1,none⟩=some (.map (some T.db))∧w3.cell? ⟨w.heap.size,0,none⟩=some (.int .i64 a)∧w3.cell? ⟨w.heap.size,1,none⟩=some (.int .i64 (T.g a:Nat))∧(Instr.lookup 200 (.map (some T.db)) (.agg #[.int .i64 a,.int .i64 (T.g a:Nat)]) false).run Tryz.prog w3 = .ok (.map (some d.b)) w3∧(Builtin.len_ #[268] 3 #[.map (some d.b)]).run Tryz.prog w3 = .ok (.int .i64 (d.l.length:Nat)) w3):=rec_held HT3.out ha HF.out.1 ((HO3.out.cell (p:=⟨w.heap.size,0,none⟩) (lt_of_cell HH.out.1) (by simp)).trans HH.out.1) ((HO3.out.cell (p:=⟨w.heap.size,1,none⟩) (lt_of_cell HH.out.2) (by simp)).trans HH.out.2);have hadj:=tadj_dir w3 T.t T.p T.most a T.g T.nd n (d.l.length:Nat) (2+(dirsIn d.l T.ds:Int)) n.UN n.UG HT3.out.tab HF.out.2.1 (And.intro (by omega) (by omega)) HF.out.2.2;clear ho3 htold)
        | (go_at_call 187;refine hadj.mono ?_;rintro e w4 ⟨rfl,hT4,ho4⟩;have HW4:Hid (Only [n.b] w w4):=(HW3.out.mono (L':=[n.b]) (fun _ hk=>by cases hk)).trans ho4 (fun _ hk=>Or.inl hk);have HT4:Hid (TreeAt w4 tr { T with nd:=setN T.nd a (some { n with Z:=(d.l.length:Nat),UN:=n.UN,UG:=n.UG,L:=2+(dirsIn d.l T.ds:Int) }) }):=HND.out w4 hT4 HW4.out;have K4:Hid (w4.cell? ⟨tr,0,none⟩=some (.pointer (some ⟨T.t,0,none⟩))∧w4.cell? ⟨tr,1,none⟩=some (.map (some T.db))∧w4.cell? ⟨w.heap.size,0,none⟩=some (.int .i64 a)∧w4.cell? ⟨w.heap.size,1,none⟩=some (.int .i64 (T.g a:Nat))∧(Instr.lookup 200 (.map (some T.db)) (.agg #[.int .i64 a,.int .i64 (T.g a:Nat)]) false).run Tryz.prog w4 = .ok (.map (some d.b)) w4∧(Builtin.len_ #[268] 3 #[.map (some d.b)]).run Tryz.prog w4 = .ok (.int .i64 (d.l.length:Nat)) w4):=HK4.out w3 w4 K3.out ho4 HT4.out;clear hT4 ho4 hadj))
    all_goals go_wp2
    all_goals go_end0
    all_goals exact ⟨rfl,HT4.out,HW4.out⟩
  · intro x c kl yd yp w1 cnt1 hkey hlx hv hat hrg1 hlt hg1 hs1 hen
    obtain ⟨sx,rfl,rfl,_⟩:=WideMaps.string_of_keyOf Tryz.underlying9 hkey;have hhas:=hleft _ hlx;rw [has_entD] at hhas;obtain ⟨e,he⟩:=Option.isSome_iff_exists.1 hhas
    have hes:e.s=sx.data.toList:=by
     have:=List.find?_some he
     simpa using this
    have hem:e∈d.l:=List.mem_of_find?_eq_some he;have hy:=hat .nil;rw [at_entD,he] at hy;simp only at hy;subst hy;obtain rfl:=handElem_inv hv;obtain ⟨hei,hec⟩:=HL.out e hem;unfold handV at hen ⊢;rw [hec] at hen ⊢;have hO1:Only [] (w.alloc (.cells #[.int .i64 a,.int .i64 (T.g a:Nat)] 116)) w1:=hO.grown hg1 (fun k hk=>by cases hk;exact Or.inr (by simp));have hOw:Only [] w w1:=((Only.refl [] w).alloc _).trans hO1 (fun _ hk=>by cases hk);have hdir:=isDir_any (w1.alloc (.cells #[.int .i64 (e.i:Nat),.int .i64 (T.g e.i:Nat)] 116)) tr T e.i (H.out.only (hOw.alloc _)) hei;have hst:=done_step d.l T.ds left e HN.out hem (by rw [hes];exact hlx);rw [hes] at hst;have HST:Hid (doneIn d.l T.ds (fun z=>left z&&!z.sameKey (.string sx.data.toList))=doneIn d.l T.ds left+if (T.ds e.i).isSome then 1 else 0):=hst;have HR1:Hid (w1.ranges Tryz.prog 9 handElem d.b (w.heap.size+1) d.l.length (entD d.l) (fun z=>left z&&!z.sameKey (.string sx.data.toList)) cnt1):=hrg1;have HRO:Hid (wr.ranges Tryz.prog 9 handElem d.b (w.heap.size+1) d.l.length (entD d.l) left cnt):=hrg;have HO1:Hid (Only [] (w.alloc (.cells #[.int .i64 a,.int .i64 (T.g a:Nat)] 116)) w1):=hO1;have HLF:Hid (∀ kl,left kl=true→has (entD d.l) kl=true):=hleft;clear hst hrg1 hrg hO1 hOw hO hg1 hs1 hv hat hkey he hhas hes hem hec hleft hlx;generalize (T.ds e.i).isSome=bd at hdir HST
    cases bd with
    | true =>
     go_wp2_with (go_at_call 186;go_must (refine hdir.mono ?_);rintro e' w2 ⟨rfl,ho2⟩)
     have ho12:Only [] w1 w2:=((Only.refl [] w1).alloc _).trans ho2 (fun _ hk=>by cases hk);have hrg2:=HR1.out.kept ho12.toG (by simp) (by simp)
     go_roundw
     case rel=>exact ⟨_,cnt1,by rw [HST.out];go_num,hrg2,HO1.out.trans ho12 (fun _ hk=>by cases hk),fun kl h=>HLF.out kl (by simp at h;exact h.1)⟩
     case measure=>rw [hrg2.left_eq,HRO.out.left_eq];exact hlt
    | false =>
     go_wp2_with (go_at_call 186;go_must (refine hdir.mono ?_);rintro e' w2 ⟨rfl,ho2⟩)
     have ho12:Only [] w1 w2:=((Only.refl [] w1).alloc _).trans ho2 (fun _ hk=>by cases hk);have hrg2:=HR1.out.kept ho12.toG (by simp) (by simp)
     go_roundw
     case rel=>exact ⟨_,cnt1,by rw [HST.out];rfl,hrg2,HO1.out.trans ho12 (fun _ hk=>by cases hk),fun kl h=>HLF.out kl (by simp at h;exact h.1)⟩
     case measure=>rw [hrg2.left_eq,HRO.out.left_eq];exact hlt
theorem only_turned {w w':World}{b:Nat}(h:w.mapTurned w' b):Only [b] w w':=by
 have hg:=h.grown;exact ⟨hg.os,hg.tape,hg.output,hg.size,fun k hk hn=>hg.block k hk (fun e=>hn (by simp at e;simp [e]))⟩
def Tr.opened (T:Tr)(a B:Nat):Tr:={ T with ds:=setN T.ds a (some ⟨B,[]⟩) }
theorem TreeAt.opened {w w1 w2:World}{tr a B n:Nat}{T:Tr}{D:DataW Unit}(h:TreeAt w tr T)(ha:a < T.p.N)(h0:T.ds a=none)(ho1:Only [] w w1)(hB:w.heap.size≤B)(hBo:w1.ownsMap Tryz.prog 9 handElem B 0 (.map []))
   (hr:Reads hkey numD D T.dirsF) (hD:IsMap D) (hown:w2.ownsMap Tryz.prog 116 mapElem T.db n (D.put (hkey (a,T.g a)) (numD B))) (ho2:Only [T.db] w1 w2):TreeAt w2 tr (T.opened a B)∧Only [T.db] w w2:=by
 have ho:Only [T.db] w w2:=(ho1.mono (L':=[T.db]) (fun _ hk=>by cases hk)).trans ho2 (fun _ hk=>Or.inl hk);obtain ⟨D0,n0,d1,_,_⟩:=h.dirs;obtain ⟨P,m,p1,p2,p3⟩:=h.pins;have hdl:=d1.lt;have htr:tr < w.heap.size:=lt_of_cell h.c0
 have hne:tr∉[T.db]:=by simpa using (own_ne_cell d1 h.c0).symm
 have hBdb:B≠T.db:=by omega
 have hds:∀ i d,setN T.ds a (some ⟨B,[]⟩) i=some d→(i=a∧d=⟨B,[]⟩)∨(i≠a∧T.ds i=some d):=fun i d e=>by
   by_cases hi:i=a
   · subst hi
     rw [setN_same] at e
     cases e
     exact Or.inl ⟨rfl,rfl⟩
   · rw [setN_other _ _ hi] at e
     exact Or.inr ⟨hi,e⟩
 have hold:∀ i d,T.ds i=some d→d.b < w.heap.size:=fun i d e=>World.ownsMap.lt (h.dir i d e)
 have hdlt:∀ i d,(T.opened a B).ds i=some d→i < (T.opened a B).p.N:=fun i d e=>by
   rcases hds i d e with ⟨rfl,_⟩ | ⟨_,e'⟩
   · exact ha
   · exact h.dlt i d e'
 have hg:=h.small.g;have hNN:=h.small.N
 refine ⟨⟨(ho.cell (p:=⟨tr,0,none⟩) htr hne).trans h.c0,(ho.cell (p:=⟨tr,1,none⟩) htr hne).trans h.c1,(ho.cell (p:=⟨tr,2,none⟩) htr hne).trans h.c2,h.tab.kept ho (fun k hk hm=>by simp at hm;subst hm;exact h.fdb hk),
   dirs_put (T':=T.opened a B) hown (hr.put hD hkey_key (fun j e=>?_) ?_ (fun j hj=>?_)) hdlt ⟨h.small.N,h.small.g⟩,fun i d e=>?_,⟨P,m,own_only p1 ho (show T.pb∉[T.db] from by simpa using h.dp.symm),p2,p3⟩,fun i j d d' e e' hb=>?_,⟨h.small.N,h.small.g⟩,h.ftr,h.fdb,h.fpb,fun i d e=>?_,h.dp,hdlt,h.plt⟩,ho⟩
 · exact hkey_only (by omega) (by have:=hg a;omega) j e
 · show (if T.g a=T.g a then (setN T.ds a (some ⟨B,[]⟩) a).map (·.b) else none)=some B
   rw [if_pos rfl,setN_same];rfl
 · obtain ⟨j1,j2⟩:=j
   show (if j2=T.g j1 then (setN T.ds a (some ⟨B,[]⟩) j1).map (·.b) else none)=(if j2=T.g j1 then (T.ds j1).map (·.b) else none)
   by_cases hj1:j1=a
   · subst hj1
     have:j2≠T.g j1:=fun e=>hj (by rw [e]);rw [if_neg this,if_neg this]
   · rw [setN_other _ _ hj1]
 · rcases hds i d e with ⟨rfl,rfl⟩ | ⟨_,e'⟩
   · exact own_only hBo ho2 (by simpa using hBdb)
   · exact own_only (h.dir i d e') ho (by simpa using (h.fdir i d e').2.1)
 · rcases hds i d e with ⟨rfl,rfl⟩ | ⟨_,e1⟩
   · rcases hds j d' e' with ⟨rfl,_⟩ | ⟨_,e2⟩
     · rfl
     · have:=hold j d' e2
       simp only at hb;omega
   · rcases hds j d' e' with ⟨rfl,rfl⟩ | ⟨_,e2⟩
     · have:=hold i d e1
       simp only at hb;omega
     · exact h.one i j d d' e1 e2 hb
 · rcases hds i d e with ⟨rfl,rfl⟩ | ⟨_,e'⟩
   · refine ⟨fun hk=>?_,hBdb,?_⟩
     · have:=h.tab.foot_lt _ hk
       simp only at this;omega
     · have:=p1.lt
       show B≠T.pb;omega
   · exact h.fdir i d e'
theorem open_ok (w:World)(tr:Nat)(T:Tr)(a:Nat)(n:Nod)(h:TreeAt w tr T)(hn:T.nd a=some n)(hK:n.K=2)(h0:T.ds a=none):
  Calls Tryz.prog 88 #[.pointer (some ⟨tr,0,none⟩),.agg #[.int .i64 a,.int .i64 (T.g a:Nat)]] w fun e w'=>e = .returned (.tuple #[])∧∃ B,TreeAt w' tr { T.opened a B with nd:=setN T.nd a (some { n with Z:=0,L:=2 }) }∧Only [n.b,T.db] w w'∧w.heap.size≤B:=by
 have ha:=h.tab.lt hn;have ct:=h.c1;have htl:tr < w.heap.size:=lt_of_cell ct;have hO2:Only [] w ((w.alloc (.cells #[.int .i64 a,.int .i64 (T.g a:Nat)] 116)).alloc (.map #[] 0)).drew:=(((Only.refl [] w).alloc _).alloc _).drew
 have hBo:(((w.alloc (.cells #[.int .i64 a,.int .i64 (T.g a:Nat)] 116)).alloc (.map #[] 0)).drew).ownsMap Tryz.prog 9 handElem (w.heap.size+1) 0 (.map []):=by
  have:=World.ownsMap_made (H:=Unit) (w.alloc (.cells #[.int .i64 a,.int .i64 (T.g a:Nat)] 116)) Tryz.prog 9 handElem;rw [World.size_alloc] at this;exact this.drew
 obtain ⟨D,nn,d1,d2,d3⟩:=h.dirs;have d1':=own_only d1 hO2 (by simp)
 obtain ⟨w3,hst,hown3,hturn⟩:=d1'.store lawH undDirs (by unfold maxLen;omega) (h.key ha) (show mapElem (.map (some (w.heap.size+1)))=some (numD (w.heap.size+1),[]) from rfl)
 obtain ⟨hT3,hO3⟩:=h.opened ha h0 hO2 (Nat.le_succ _) hBo d3 d1.isMap hown3 (only_turned hturn);have hrec0:=recount_ok w3 tr (T.opened a (w.heap.size+1)) a n ⟨w.heap.size+1,[]⟩ hT3 (setN_same _ _ _) hn hK (by simp) (fun e he=>by cases he);have hrec:Calls Tryz.prog 133 #[.pointer (some ⟨tr,0,none⟩),.agg #[.int .i64 a,.int .i64 (T.g a:Nat)]] w3 fun e w'=>e = .returned (.tuple #[])∧TreeAt w' tr { T.opened a (w.heap.size+1) with nd:=setN T.nd a (some { n with Z:=0,L:=2 }) }∧Only [n.b] w3 w':=hrec0;unfold handV at hst;have HO3:Hid (Only [T.db] w w3):=hO3;have hh:=heap_alloc_last w (.cells #[.int .i64 a,.int .i64 (T.g a:Nat)] 116)
 have hnd:w.heap.size∉[T.db]:=fun hm=>by
  have e:w.heap.size=T.db:=by simpa using hm
  have:=d1.lt;omega
 have ho23:=only_turned hturn;have hO1:Only [] (w.alloc (.cells #[.int .i64 a,.int .i64 (T.g a:Nat)] 116)) (((w.alloc (.cells #[.int .i64 a,.int .i64 (T.g a:Nat)] 116)).alloc (.map #[] 0)).drew):=((Only.refl [] _).alloc _).drew;have c0:w3.cell? ⟨w.heap.size,0,none⟩=some (.int .i64 a):=(ho23.cell (p:=⟨w.heap.size,0,none⟩) (by simp;omega) hnd).trans ((hO1.cell (p:=⟨w.heap.size,0,none⟩) (by simp) (by simp)).trans (cell_of_row _ _ 0 _ _ _ hh));have c1:w3.cell? ⟨w.heap.size,1,none⟩=some (.int .i64 (T.g a:Nat)):=(ho23.cell (p:=⟨w.heap.size,1,none⟩) (by simp;omega) hnd).trans ((hO1.cell (p:=⟨w.heap.size,1,none⟩) (by simp) (by simp)).trans (cell_of_row _ _ 1 _ _ _ hh));have hmk:=run_makeMap (P:=Tryz.prog) 268 (w.alloc (.cells #[.int .i64 a,.int .i64 (T.g a:Nat)] 116)).drew;clear hrec0 hT3 hO3 hown3 hturn d1 d1' d3 hBo hO2 hO1 ho23 hh hnd h hn hK h0
 go_enter Tryz.func88,Tryz.ntmps88
 go_wp2
 go_region
 go_wp2_with (go_at_call 133;go_must (refine hrec.mono ?_);rintro e w4 ⟨rfl,hT4,ho4⟩)
 go_end0
 exact ⟨rfl,_,hT4,(HO3.out.mono (L':=[n.b,T.db]) (fun i hi=>Or.inl (by simp at hi;simp [hi]))).trans ho4 (fun i hi=>Or.inl (by simp at hi;simp [hi])),Nat.le_succ _⟩
end
end Go.Proofs.YtodldddakjmonaaGreatDoor
