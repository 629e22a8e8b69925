import Derived.Test.YtooblpbmcnmicaaGreatDoorK50
import Derived.Deep.Strs
import Derived.Deep.Slices
import Derived.OpenShut
import Derived.ChangeArms
import Derived.SizedLaws
set_option maxRecDepth 100000
set_option maxHeartbeats 8000000
namespace Go.Proofs.YtooblpbmcnmicaaGreatDoor
section
open Go Go.RowKit Go.Deep Go.Maps
section
variable {W w w':World}{base tr m hb B:Nat}{D D':Dt}{hl:List (Nat×Nat)}{A:Nat→Addr}
theorem EntV.only {v:Value}{l:List Ent}(h:EntV w v l)(ho:zQ w w'):EntV w' v l:=by
 obtain ⟨ad,cap,h1,h2⟩:=h;refine ⟨ad,cap,h1,fun j x hx=>?_⟩;obtain ⟨g,o,q1,q2,q3,q4,q5⟩:=h2 j x hx;exact ⟨g,o,q1,(ho.cell (p:=⟨g,_,none⟩) (zv q2) (by simp)).trans q2,(ho.cell (p:=⟨g,_,none⟩) (zv q3) (by simp)).trans q3,(ho.cell (p:=⟨g,_,none⟩) (zv q4) (by simp)).trans q4,q5.only ho (by simp)⟩
theorem coded_is (hE:Errs w A){c:Nat}(hc:c≤14):zO 10 #[codeE A c,zI ((c:Nat):Int)] w (.bool true):=by
 cases c with
 | zero=>exact (coded_nil w).mono fun e w' hh=>⟨hh.1,by rw [hh.2];exact Only.refl _ _⟩
 | succ c =>
  rw [code_some (Nat.succ_ne_zero _)];have:=coded_err A c (by omega) w hE;exact this.mono fun e w' hh=>⟨hh.1,Only.of_below hh.2 []⟩
end
end
section
open Go Go.RowKit Go.Deep Go.WideShapes
structure TActM.Ok (a:TActM):Prop where
 s:a.S.size≤140737488351232
 x:a.X.size≤140737488351232
 n1:a.N < 9223372036854775808
 n2 : -9223372036854775808≤a.N
def TActsAt6 (w:World)(ab ao len:Nat)(P:Nat→TActM):Prop :=
 ∀ i,i < len→w.cell? ⟨ab,ao+i*6,none⟩=some (.string (P i).K)∧w.cell? ⟨ab,ao+i*6+1,none⟩=some (zI (P i).A)∧w.cell? ⟨ab,ao+i*6+2,none⟩=some (zI (P i).B)∧w.cell? ⟨ab,ao+i*6+3,none⟩=some (.string (P i).S)∧w.cell? ⟨ab,ao+i*6+4,none⟩=some (.string (P i).X)∧w.cell? ⟨ab,ao+i*6+5,none⟩=some (zI (P i).N)∧(P i).Ok
def IsTActs6 (w:World)(a:Option Addr)(len:Nat):Prop:=len=0∨∃ ab ao P,a=some ⟨ab,ao,none⟩∧TActsAt6 w ab ao len P
theorem choose_lt6 {α:Type}[Inhabited α]{n:Nat}{p:Nat→α→Prop}(h:∀ i,i < n→∃ a,p i a):∃ f:Nat→α,∀ i,i < n→p i (f i) :=
 ⟨fun i=>if hi:i < n then (h i hi).choose else default,fun i hi=>by simp only [hi,dite_true];exact (h i hi).choose_spec⟩
theorem Tryz.cellsTAct6:Tryz.prog.cellsOf 43=6:=by kernel_rfl
theorem Tryz.cellsInt6:Tryz.prog.cellsOf 3=1:=by kernel_rfl
theorem Tryz.cellsStr6:Tryz.prog.cellsOf 9=1:=by kernel_rfl
theorem six_of6 {l:List Value}(h:l.length=6):∃ a b c d e f,l=[a,b,c,d,e,f]:=by
 match l,h with
 | [a,b,c,d,e,f],_=>exact ⟨a,b,c,d,e,f,rfl⟩
theorem weightsAll_mem6 {H:Type}{P:Program}{e:TypeId}:∀ {l:List (DataW H)} {d:DataW H},d∈l→∀ n∈d.weights P e,n∈DataW.weightsAll P e l
 | d0::l,d,hm,n,hn=>by
  simp only [DataW.weightsAll,List.mem_append];rcases List.mem_cons.1 hm with rfl | hm
  · exact Or.inl hn
  · exact Or.inr (weightsAll_mem6 hm n hn)
theorem act_fields6 {H:Type}{enc:TypeId×Value→H}{w:World}{base n:Nat}{sp:Nat→Bool}{held:Bool}{cs:List Value}{x:DataW H×List MemPlace}(h:DataW.trod enc Tryz.prog w base sp held n 43 cs=some x)(hw:∀ q∈x.1.weights Tryz.prog 43,q≤reachBytes):
  ∃ p:TActM,cs=[.string p.K,zI p.A,zI p.B,.string p.S,.string p.X,zI p.N]∧p.Ok:=by
 have hst:=DataW.trod_struct Tryz.underlying43 h;rw [Tryz.cellsTAct6] at hst;obtain ⟨xs,k,_,hxx,hcl,hlen,hx⟩:=hst;obtain ⟨c0,c1,c2,c3,c4,c5,rfl⟩:=six_of6 (l:=cs) (by simpa using hcl);have g:∀ i (hi:i < xs.length),xs[i]?=some xs[i]:=fun i hi=>List.getElem?_eq_getElem hi;have hl6:xs.length=6:=hlen;have y0:=(hx 0 _ rfl).trans (g 0 (by omega));have y1:=(hx 1 _ rfl).trans (g 1 (by omega));have y2:=(hx 2 _ rfl).trans (g 2 (by omega));have y3:=(hx 3 _ rfl).trans (g 3 (by omega));have y4:=(hx 4 _ rfl).trans (g 4 (by omega));have y5:=(hx 5 _ rfl).trans (g 5 (by omega));obtain ⟨s0,e0,_,_⟩:=DataW.trod_string Tryz.underlying9 y0;obtain ⟨n1,e1,_,_⟩:=DataW.trod_int Tryz.underlying3 y1;obtain ⟨n2,e2,_,_⟩:=DataW.trod_int Tryz.underlying3 y2;obtain ⟨s3,e3,d3,_⟩:=DataW.trod_string Tryz.underlying9 y3;obtain ⟨s4,e4,d4,_⟩:=DataW.trod_string Tryz.underlying9 y4;obtain ⟨n5,e5,_,r5⟩:=DataW.trod_int Tryz.underlying3 y5
 have wt:∀ (j:Nat) (s:ByteArray) (hj:j < xs.length),(xs[j]'hj).1 = .lit (.string s.data.toList)→∀ t,(Tryz.prog.underlying 43).bind (fun u=>match u with | .struct fs=>(fs.toList.map (·.type))[j]? | _=>none)=some t→s.size≤140737488351232:=fun j s hj hd t ht=>by
  have h1:s.data.toList.length∈x.1.weights Tryz.prog 43:=by
   rw [hxx];rw [Tryz.underlying43] at ht;simp only [DataW.weights,Tryz.underlying43];refine DataW.weights_mem_each (j:=j) ht (d := .lit (.string s.data.toList)) (by rw [List.getElem?_map,g j hj];simp [hd]) _ (by simp [DataW.weights])
  have h2:=hw _ h1
  have h3:s.data.toList.length=s.size:=by simp
  have h4:reachBytes=140737488351232:=rfl;omega
 have w3:=wt 3 s3 (by omega) (by rw [d3]) 9 (by rw [Tryz.underlying43];rfl);have w4:=wt 4 s4 (by omega) (by rw [d4]) 9 (by rw [Tryz.underlying43];rfl);simp [Tryz.cellsInt6,Tryz.cellsStr6] at e0 e1 e2 e3 e4 e5;subst e0 e1 e2 e3 e4 e5;exact ⟨⟨s0,n1,n2,s3,s4,n5⟩,rfl,⟨w3,w4,by have r:=r5;simp [Lit.wf,IntKind.min,IntKind.max,IntKind.signed,IntKind.bits] at r;show n5 < _;omega,by have r:=r5;simp [Lit.wf,IntKind.min,IntKind.max,IntKind.signed,IntKind.bits] at r;show _≤n5;omega⟩⟩
theorem isTActs6_of {H:Type}{enc:TypeId×Value→H}{w:World}{base n:Nat}{sp:Nat→Bool}{held:Bool}{a:Option Addr}{len cap:Nat}{x:DataW H×List MemPlace}(h:DataW.trod enc Tryz.prog w base sp held n 22 [.slice a len cap]=some x)(hw:∀ q∈x.1.weights Tryz.prog 22,q≤reachBytes):IsTActs6 w a len:=by
 rcases open_slice Tryz.underlying22 h with ⟨e,_⟩ | ⟨ad,len',cap',m,n',D,Pl,e,_,hl,hm,hmm,hxx,hx⟩
 · simp at e
   exact Or.inl e.2.1
 · simp at e
   obtain ⟨rfl,rfl,rfl⟩:=e;rcases Nat.eq_zero_or_pos len with h0 | h0
   · exact Or.inl h0
   right
   have hle:len≤m:=by rw [hmm];split<;>omega
   rw [Tryz.cellsTAct6] at hx
   have hwD:∀ i,i < len→∀ q∈(D i).weights Tryz.prog 43,q≤reachBytes:=fun i hi q hq=>by
     refine hw q ?_;rw [hxx];simp only [DataW.weights,Tryz.underlying22];exact List.mem_cons_of_mem _ (List.mem_append_left _ (weightsAll_mem6 (List.mem_map.2 ⟨i,List.mem_range.2 hi,rfl⟩) q hq))
   have inst:Inhabited TActM:=⟨⟨⟨#[]⟩,0,0,⟨#[]⟩,⟨#[]⟩,0⟩⟩
   obtain ⟨P,hP⟩:=choose_lt6 (α:=TActM) (n:=len) (p:=fun i p=>w.cells? base (ad.add (i*6)) 6=some [.string p.K,zI p.A,zI p.B,.string p.S,.string p.X,zI p.N]∧p.Ok) (fun i hi=>by
     obtain ⟨cs',c1,c2⟩:=hx i (by omega);obtain ⟨p,rfl,hok⟩:=act_fields6 c2 (hwD i hi)
     exact ⟨p,c1,hok⟩)
   obtain ⟨ab,ao,spot⟩:=ad;have cell:∀ i,i < len→∀ k,k < 6→w.cell? (((⟨ab,ao,spot⟩:Addr).add (i*6)).add k)=[Value.string (P i).K,zI (P i).A,zI (P i).B,.string (P i).S,.string (P i).X,zI (P i).N][k]?:=fun i hi k hk=>(World.cells?_some (hP i hi).1).2.2 k hk
   have hspot:spot=none:=by
     have:=cell 0 h0 0 (by decide);simp [Addr.add] at this;exact World.cell?_spot this
   subst hspot
   have hadd:∀ i k,((⟨ab,ao,none⟩:Addr).add (i*6)).add k=⟨ab,ao+i*6+k,none⟩:=fun i k=>by
     unfold Addr.add
     split<;>split<;>simp_all
   refine ⟨ab,ao,P,rfl,fun i hi=>?_⟩;have c0:=cell i hi 0 (by decide);have c1:=cell i hi 1 (by decide);have c2:=cell i hi 2 (by decide);have c3:=cell i hi 3 (by decide);have c4:=cell i hi 4 (by decide);have c5:=cell i hi 5 (by decide);rw [hadd] at c0 c1 c2 c3 c4 c5;exact ⟨c0,c1,c2,c3,c4,c5,(hP i hi).2⟩
def sumL (P:Nat→TActM):Nat→Nat
 | 0=>0
 | n+1=>sumL P n+(P n).S.size+(P n).X.size
theorem sumL_mem (P:Nat→TActM):∀ n i,i < n→(P i).S.size≤sumL P n∧(P i).X.size≤sumL P n
 | n+1,i,hi=>by
  show _≤sumL P n+(P n).S.size+(P n).X.size∧_≤sumL P n+(P n).S.size+(P n).X.size
  by_cases e:i=n
  · subst e;omega
  · have:=sumL_mem P n i (by omega)
    omega
theorem sumL_le (P:Nat→TActM)(m:Nat)(h:∀ i,i < m→(P i).S.size≤140737488351232∧(P i).X.size≤140737488351232):∀ n,n≤m→sumL P n≤n*281474976702464
 | 0,_=>Nat.zero_le _
 | n+1,hn=>by
  have h1:=sumL_le P m h n (by omega);have h2:=h n (by omega);show sumL P n+(P n).S.size+(P n).X.size≤_;omega
def FitL (w:World)(ad:Option Addr)(len:Nat):Prop:=len≤30∧(len=0∨∃ ab ao P,ad=some ⟨ab,ao,none⟩∧TActsAt6 w ab ao len P∧∀ i,i < len→(P i).S.size≤3000∧(P i).X.size≤3000)
theorem much_any (w:World)(ad:Option Addr)(len cap:Nat)(h:IsTActs6 w ad len):
   ∃ b,(b=false→FitL w ad len)∧zO 8 #[.slice ad len cap] w (.bool b):=by
 obtain ⟨P,hP⟩:∃ P:Nat→TActM,len=0∨∃ ab ao,ad=some ⟨ab,ao,none⟩∧TActsAt6 w ab ao len P:=by
   rcases h with h0 | ⟨ab,ao,P,h1,h2⟩
   · exact ⟨fun _=>⟨⟨#[]⟩,0,0,⟨#[]⟩,⟨#[]⟩,0⟩,Or.inl h0⟩
   · exact ⟨P,Or.inr ⟨ab,ao,h1,h2⟩⟩
 have HQ:Hid (len=0∨∃ ab ao,ad=some ⟨ab,ao,none⟩∧TActsAt6 w ab ao len P):=hP;refine ⟨decide (30 < len) || decide (3000 < sumL P len),fun hb=>?_,?_⟩
 · have h1:¬ 30 < len∧¬ 3000 < sumL P len:=by simpa using hb
   refine ⟨by omega,?_⟩;rcases HQ.out with h0 | ⟨ab,ao,q1,q2⟩
   · exact Or.inl h0
   · exact Or.inr ⟨ab,ao,P,q1,q2,fun i hi=>by have:=sumL_mem P len i hi;omega⟩
 clear h
 go_enter Tryz.func8,Tryz.ntmps8
 by_cases h30:30 < len
 · have d1:decide (30 < (len:Int))=true:=decide_eq_true (by omega)
   go_wp2
   go_ret
   exact ⟨by simp [h30],Only.refl _ _⟩
 · have d1:decide (30 < (len:Int))=false:=decide_eq_false (by omega)
   have hsum:∀ j,j≤len→sumL P j≤j*281474976702464:=by
     rcases hP with h0 | ⟨ab,ao,_,h2⟩
     · intro j hj
       obtain rfl:j=0:=by omega
       exact Nat.zero_le _
     · exact fun j hj=>sumL_le P len (fun i hi=>⟨(h2 i hi).2.2.2.2.2.2.s,(h2 i hi).2.2.2.2.2.2.x⟩) j hj
   have HSU:Hid (∀ j,j≤len→sumL P j≤j*281474976702464):=hsum;clear hP hsum
   go_wp2
   clear d1
   go_loopw [3,4] (fun q i wr=>∃ j:Nat,j≤len∧i=zI j∧q=zI (sumL P j:Nat)∧zQ w wr) (fun _ i _=>len - (intOf i).toNat)
   case atStart=>exact ⟨0,Nat.zero_le _,rfl,rfl,Only.refl _ _⟩
   case round =>
     obtain ⟨j,hj,rfl,rfl,hor⟩:=hrel;have HOR:Hid (zQ w wr):=hor;clear hor
     by_cases hlt:j < len
     · have hj2:(j:Int) < len:=by omega
       rcases HQ.out with h0 | ⟨ab,ao,hadx,hPP⟩
       · omega
       subst hadx;obtain ⟨_,_,_,p3,p4,_,hok⟩:=hPP j hlt;have c3:wr.cell? ⟨ab,ao+j*6+3,none⟩=some (.string (P j).S):=(HOR.out.cell (p:=⟨ab,ao+j*6+3,none⟩) (zv p3) (by simp)).trans p3;have c4:wr.cell? ⟨ab,ao+j*6+4,none⟩=some (.string (P j).X):=(HOR.out.cell (p:=⟨ab,ao+j*6+4,none⟩) (zv p4) (by simp)).trans p4;have hs1:=hok.s;have hs2:=hok.x;have hs0:=HSU.out j hj;have hs3:=HSU.out (j+1) hlt;have HSM:Hid (sumL P (j+1)=sumL P j+(P j).S.size+(P j).X.size):=rfl;have e1:IntKind.i64.wrap ((sumL P j:Int)+((P j).S.size:Int))=(sumL P j:Int)+((P j).S.size:Int):=wrap_small (by omega) (by omega);have e2:IntKind.i64.wrap ((sumL P j:Int)+((P j).S.size:Int)+((P j).X.size:Int))=(sumL P j:Int)+((P j).S.size:Int)+((P j).X.size:Int):=wrap_small (by omega) (by omega)
       go_upto_region 7 with fail
       go_quiet (fail)
       all_goals go_wp2
       all_goals go_roundw
       case rel=>exact ⟨j+1,hlt,by go_num,by rw [HSM.out];rfl,⟨HOR.out.os,HOR.out.tape,HOR.out.output,HOR.out.size,HOR.out.block⟩⟩
       case measure=>simp [intOf];omega
     · obtain rfl:len=j:=by omega
       by_cases hbig:3000 < sumL P len
       · have d2:decide (3000 < (sumL P len:Int))=true:=decide_eq_true (by omega)
         go_wp2
         go_ret
         exact ⟨by simp [hbig],HOR.out⟩
       · have d2:decide (3000 < (sumL P len:Int))=false:=decide_eq_false (by omega)
         go_wp2
         go_ret
         exact ⟨by simp [hbig,h30],HOR.out⟩
end
section
open Go Go.RowKit Go.Deep Go.Maps
theorem over_okT (w:World)(t:Nat)(p:Row)(most:Nat)(g:Nat→Nat)(nd:Nat→Option Nod)(h:TabAt w t p most g nd)(hN:p.N≤1000)(hg:∀ i,g i≤5000000000000000000):
   zK 30 #[zP t] w fun e w'=>∃ tr db pb,e = .returned (zP tr)∧TreeAt w' tr (Tr.bare t p most g nd db pb)∧zQ w w'∧w.heap.size≤tr∧w.heap.size≤db∧w.heap.size≤pb∧Ty w' tr 116∧tr≠t∧tr≠db:=by
 have hm1:=run_makeMap (P:=Tryz.prog) 113 w;have hm2:=run_makeMap (P:=Tryz.prog) 114 (w.alloc (.map #[] 0));have H:Hid (TabAt w t p most g nd):=h;clear h
 go_enter Tryz.func30,Tryz.ntmps30
 go_wp2
 go_ret
 have ho:zQ w (((w.alloc (.map #[] 0)).alloc (.map #[] 0)).alloc (.cells #[zP t,.map (some w.heap.size),.map (some (w.heap.size+1))] 116)):=(((Only.refl [] w).alloc _).alloc _).alloc _;refine ⟨w.heap.size+1+1,w.heap.size,w.heap.size+1,rfl,?_,ho,by omega,by omega,by omega,?tyy,by have:=H.out.tlt;omega,by omega⟩
 case tyy=>exact ⟨_,_,by have:=zh ((w.alloc (.map #[] 0)).alloc (.map #[] 0)) (.cells #[zP t,.map (some w.heap.size),.map (some (w.heap.size+1))] 116);simp only [World.size_alloc] at this;exact this⟩
 have hh:=zh ((w.alloc (.map #[] 0)).alloc (.map #[] 0)) (.cells #[zP t,.map (some w.heap.size),.map (some (w.heap.size+1))] 116);simp only [World.size_alloc] at hh
 have hno:∀ k,w.heap.size≤k→¬ InFoot t p most nd k:=fun k hk hf=>by have:=H.out.foot_lt k hf;omega
 have hd:(((w.alloc (.map #[] 0)).alloc (.map #[] 0)).alloc (.cells #[zP t,.map (some w.heap.size),.map (some (w.heap.size+1))] 116)).ownsMap Tryz.prog 32 mapElem w.heap.size 0 (.map []:DataW Unit):=((World.ownsMap_made (H:=Unit) w Tryz.prog 32 mapElem).alloc _).alloc _
 have hp:(((w.alloc (.map #[] 0)).alloc (.map #[] 0)).alloc (.cells #[zP t,.map (some w.heap.size),.map (some (w.heap.size+1))] 116)).ownsMap Tryz.prog 32 (plainElem Tryz.prog 3) (w.heap.size+1) 0 (.map []:DataW Unit):=by
   have:=World.ownsMap_made (H:=Unit) (w.alloc (.map #[] 0)) Tryz.prog 32 (plainElem Tryz.prog 3);rw [World.size_alloc] at this;exact this.alloc _
 refine ⟨cell_of_row _ _ 0 _ _ _ hh,cell_of_row _ _ 1 _ _ _ hh,cell_of_row _ _ 2 _ _ _ hh,H.out.kept ho (fun _ _=>by simp),⟨_,0,hd,by omega,Reads.empty.congr (fun k=>?_)⟩,(fun i d e=>by cases e),⟨_,0,hp,by omega,Reads.empty.congr (fun k=>?_)⟩,(fun i j d d' e=>by cases e),⟨hN,hg⟩,hno (w.heap.size+1+1) (by omega),hno w.heap.size (Nat.le_refl _),hno (w.heap.size+1) (by omega),(fun i d e=>by cases e),?_,(fun i d e=>by cases e),(fun i e=>by cases e)⟩
 · show (if k.2=g k.1 then (none:Option DirM).map (·.b) else none)=none
   split<;>rfl
 · simp [Tr.pinsF,Tr.bare]
 · show w.heap.size≠w.heap.size+1
   omega
theorem tree_newT (w:World)(most:Nat)(h1:1≤most)(h2:most≤300):
  zK 9 #[zI most] w fun e w'=>∃ tr t p b db B pb,e = .returned (.tuple #[zP tr,.nilIface])∧TreeAt w' tr (Tr.fresh t p most b db B pb)∧zQ w w'∧p.N=1∧w.heap.size≤tr∧w.heap.size≤t∧w.heap.size≤b∧w.heap.size≤db∧w.heap.size≤B∧w.heap.size≤pb∧(∀ k,p.a=some k→w.heap.size≤k)∧Ty w' tr 116:=by
 have hnew:=tnew w most h1 h2
 go_enter Tryz.func9,Tryz.ntmps9
 go_wp2_with (first
  | (go_at_call 29;go_must (refine hnew.mono ?_);rintro e w1 ⟨t,rfl,hT1,ho1,ht⟩;have hov:=over_okT w1 t noRow most (fun _=>0) (fun _=>none) hT1 (by decide) (fun _=>by omega);have HO1:Hid (zQ w w1):=ho1;have HTT:Hid (w.heap.size≤t):=ht;clear hT1 ho1 hnew ht)
  | (go_at_call 30;go_must (refine hov.mono ?_);rintro e w2 ⟨tr,db,pb,rfl,hT2,ho2,htr,hdb,hpb,hty,hnt,hnd⟩;have HTY:Hid (Ty w2 tr 116):=hty;have HNT:Hid (tr≠t):=hnt;have HND:Hid (tr≠db):=hnd;have hadd:=add_dir w2 tr (Tr.bare t noRow most (fun _=>0) (fun _=>none) db pb) 0 hT2 (by decide) (show countTo (fun _=>none) 0 < most from h1) rfl rfl (fun j hj=>by omega);have HO2:Hid (zQ w w2):=HO1.out.trans ho2 (fun _ hk=>by cases hk);have HS:Hid (w.heap.size≤tr∧w.heap.size≤db∧w.heap.size≤pb):=(show w.heap.size≤tr∧w.heap.size≤db∧w.heap.size≤pb from by have:=HO1.out.size;omega);clear hT2 ho2 hov htr hdb hpb hty hnt hnd)
  | (go_at_call 31;go_must (refine hadd.mono ?_);rintro e w3 ⟨rfl,p,b,B,hT3,ho3,hb3,hB3,hN3,hA3⟩;clear hadd)
  | go_in)
 have ho:zQ w w3:=HO2.out.trans ho3 (fun k hk=>Or.inr (by
  have h1:=HS.out;have h2:=HTT.out;rcases List.mem_cons.1 hk with e | e
  · rw [e];exact h1.2.1
  · rcases List.mem_cons.1 e with e | e
    · rw [e];exact h2
    · cases e))
 have hs2:=HO2.out.size;refine bodyPost_ret (v := .tuple #[zP tr,.nilIface]) (by simp [results,Tryz.results9,go_sem]) rfl ?_;exact ⟨tr,t,p,b,db,B,pb,rfl,TreeAt.only (T:=Tr.fresh t p most b db B pb) hT3 ((Only.refl [] w3).alloc _),ho.alloc _,by rw [hN3];rfl,HS.out.1,HTT.out,by omega,HS.out.2.1,by omega,HS.out.2.2,fun k hk=>(hA3 k hk).elim (fun e=>by cases e) (fun e=>by omega),(HTY.out.only ho3 (by show tr∉[db,t];simp only [List.mem_cons,List.not_mem_nil,or_false,not_or];exact ⟨HND.out,HNT.out⟩)).only ((Only.refl [] w3).alloc _) (by simp)⟩
theorem D0_bd (most:Nat):Bd (D0 most) 1:=by
 have hm:∀ x∈(D0 most).L,x=⟨0,0,2,0,⟨#[]⟩,[],[],0⟩:=fun x hx=>List.mem_singleton.1 hx;refine ⟨⟨fun x hx=>by rw [hm x hx];exact ⟨Int.le_refl _,by show (0:Int)≤_;omega,Nat.zero_le _⟩,fun i=>?_⟩,fun x hx=>by rw [hm x hx];exact ⟨Nat.zero_le _,Nat.zero_le _⟩⟩;show setN (fun _=>0) 0 1 i≤1
 by_cases e:i=0
 · rw [e,setN_same];exact Nat.le_refl _
 · rw [setN_other _ _ e];exact Nat.zero_le _
def NewT (w w':World)(tr most:Nat):Prop:=∃ T,Prg w.heap.size w' tr T∧Rep T (D0 most)∧zQ w w'
theorem new_tree (w:World)(most:Nat)(h1:1≤most)(h2:most≤300):zK 9 #[zI most] w fun e w'=>∃ tr,e = .returned (.tuple #[zP tr,.nilIface])∧NewT w w' tr most:=by
 refine (tree_newT w most h1 h2).mono fun e w' hh=>?_;obtain ⟨tr,t,p,b,db,B,pb,rfl,hT,ho,hN,q1,q2,q3,q4,q5,q6,q7,q8⟩:=hh;refine ⟨tr,rfl,_,⟨hT,fun k hk=>?_,q8,ho.size⟩,Rep.fresh t p most b db B pb,ho⟩;rcases mem_blocks.1 hk with e | e | e | e | ⟨i,_,⟨n,r1,r2⟩ | ⟨d,r1,r2⟩⟩
 · rw [e];exact q2
 · rw [e];exact q4
 · rw [e];exact q6
 · exact q7 k e
 · have r1':setN (fun _=>none) 0 (some { newNod b 2 with Z:=0,L:=2 }) i=some n:=r1
   by_cases e:i=0
   · rw [e,setN_same] at r1'
     cases r1'
     have:k=b:=by simpa [newNod,Nod.foot,footD] using r2
     rw [this];exact q3
   · rw [setN_other _ _ e] at r1'
     cases r1'
 · have r1':setN (fun _=>none) 0 (some (⟨B,[]⟩:DirM)) i=some d:=r1
   by_cases e:i=0
   · rw [e,setN_same] at r1'
     cases r1'
     rw [r2];exact q5
   · rw [setN_other _ _ e] at r1'
     cases r1'
theorem both_start {W w1 w2 w3:World}{tr m most:Nat}(hb1:Below W.heap.size W w1)(hn:NewT w1 w2 tr most)(hd:DM w3 w2.heap.size m (D0 most))(ho3:zQ w2 w3)(h1:1≤most)(h2:most≤300):Both W ((w3.alloc (zH 0 0)).alloc (.cells #[.slice (some ⟨w3.heap.size,0,none⟩) 1 1] 39)) w2.heap.size tr m (w3.heap.size+1) (D0 most) [(0,0)] 4:=by
 obtain ⟨T,P,R,ho2⟩:=hn;have hle:W.heap.size≤w1.heap.size:=hb1.size;have ho4:zQ w3 ((w3.alloc (zH 0 0)).alloc (.cells #[.slice (some ⟨w3.heap.size,0,none⟩) 1 1] 39)):=((Only.refl [] w3).alloc _).alloc _
 have hh:HandsAt ((w3.alloc (zH 0 0)).alloc (.cells #[.slice (some ⟨w3.heap.size,0,none⟩) 1 1] 39)) w2.heap.size (w3.heap.size+1) (.slice (some ⟨w3.heap.size,0,none⟩) 1 1) [(0,0)]:=by
  have e1:=zh (w3.alloc (zH 0 0)) (.cells #[.slice (some ⟨w3.heap.size,0,none⟩) 1 1] 39);rw [World.size_alloc] at e1;refine ⟨e1,World.ownsRow.alloc ?_ _⟩;have e2:=zh w3 (zH 0 0);exact ⟨rfl,Or.inr ⟨w3.heap.size,1,_,rfl,ho3.size,e2,Nat.le_refl _,by unfold maxLen;omega,rfl,rfl⟩⟩
 have ho:zQ w2 _:=zo ho3 ho4;have P':=P.only ho;refine ⟨⟨T,⟨P'.tree,fun k hk=>Nat.le_trans hle (P'.low k hk),P'.trt,Nat.le_trans hle P'.lo⟩,R⟩,hd.only ho4,D0_inv h1 h2,D0_inv h1 h2,(D0_bd most).mono (by omega),⟨_,hh⟩,?_,Nat.le_trans hle ho2.size,ho.size,Nat.le_trans hle (Nat.le_trans ho2.size (Nat.le_trans ho3.size (Nat.le_succ _)))⟩;exact hb1.trans ((zo ho2 ho).to_below hle (fun k hk=>by cases hk))
theorem IsTActs6.below {w w':World}{ad:Option Addr}{len:Nat}(h:IsTActs6 w ad len)(hb:Below w.heap.size w w'):IsTActs6 w' ad len:=by
 rcases h with h0 | ⟨ab,ao,P,h1,h2⟩
 · exact Or.inl h0
 · refine Or.inr ⟨ab,ao,P,h1,fun i hi=>?_⟩
   obtain ⟨p0,p1,p2,p3,p4,p5,p6⟩:=h2 i hi;have k:∀ (o:Nat) (u:Value),w.cell? ⟨ab,o,none⟩=some u→w'.cell? ⟨ab,o,none⟩=some u:=fun o u hc=>(hb.cell (p:=⟨ab,o,none⟩) (zv hc)).trans hc;exact ⟨k _ _ p0,k _ _ p1,k _ _ p2,k _ _ p3,k _ _ p4,k _ _ p5,p6⟩
theorem TActsAt6.below {w w':World}{ab ao len:Nat}{P:Nat→TActM}(h:TActsAt6 w ab ao len P)(hb:Below w.heap.size w w'):TActsAt6 w' ab ao len P:=fun i hi=>by
 obtain ⟨p0,p1,p2,p3,p4,p5,p6⟩:=h i hi;have k:∀ (o:Nat) (u:Value),w.cell? ⟨ab,o,none⟩=some u→w'.cell? ⟨ab,o,none⟩=some u:=fun o u hc=>(hb.cell (p:=⟨ab,o,none⟩) (zv hc)).trans hc;exact ⟨k _ _ p0,k _ _ p1,k _ _ p2,k _ _ p3,k _ _ p4,k _ _ p5,p6⟩
def Good6 (W w:World)(base tr m hb j:Nat):Prop:=∃ D hl,Both W w base tr m hb D hl (4+4*j)∧hl.length≤j+1
structure One6 (W w:World)(tr:Nat)(D:Dt)(B:Nat):Prop where
 prg:∃ T,Prg W.heap.size w tr T∧Rep T D
 I:DInv D
 bd:Bd D B
 below:Below W.heap.size W w
section
variable {W w w':World}{base tr m hb B:Nat}{D D':Dt}{hl:List (Nat×Nat)}{A:Nat→Addr}
theorem Pair6.one (h:Both W w base tr m hb D hl B):One6 W w tr D B:=⟨h.prg,h.I,h.bd,h.below⟩
theorem One6.only (h:One6 W w tr D B)(ho:zQ w w'):One6 W w' tr D B:=by
 obtain ⟨T,P,R⟩:=h.prg;exact ⟨⟨T,P.only ho,R⟩,h.I,h.bd,h.below.trans (ho.to_below h.below.size (fun k hk=>by cases hk))⟩
theorem One6.errs (h:One6 W w tr D B)(hE:Errs W A):Errs w A:=hE.below h.below (Nat.le_refl _)
theorem One6.look (h:One6 W w tr D B)(hE:Errs W A)(N G:Int)(s:ByteArray):∃ c i k,c≤14∧LookR D N G s c i k∧∀ W1,zQ w W1→zO 16 #[zP tr,zG N G,.string s] W1 (.tuple #[zG i k,codeE A c]):=by
 obtain ⟨T,P,R⟩:=h.prg;obtain ⟨c,i,k,hL⟩:=look_tot D N G s;exact ⟨c,i,k,look_le hL,hL,look_rep P R h.I (h.errs hE) hL⟩
theorem One6.list (h:One6 W w tr D B)(hE:Errs W A){N G:Int}{x:Dn}(hx:D.atZ N G=some x)(hK:x.K=2):∀ W1,zQ w W1→zK 18 #[zP tr,zG N G,zI 0,zI 60] W1 fun r w'=>∃ v,∃ n:Nat,r = .returned (.tuple #[v,zI n,.nilIface])∧EntV w' v x.es∧zQ W1 w':=fun W1 ho=>by
 obtain ⟨T,P,R⟩:=h.prg;refine (list_rep P R h.I (h.errs hE) (N:=N) (G:=G) (c:=0) (q:=60) (by decide) (by decide) W1 ho).mono fun r w' hh=>?_;obtain ⟨ho',h1 | ⟨_,h1,_⟩ | ⟨y,v,hy,_,_,_,h1,h2⟩⟩:=hh
 · exact absurd (dir_no hx hK) h1.1
 · omega
 · rw [hx] at hy
   cases hy
   have hl:=(h.I.rise x (atZ_some hx).1).2
   have e:((x.es.drop (min (0:Int).toNat x.es.length)).take (60:Int).toNat)=x.es:=by
    have e1:(0:Int).toNat=0:=rfl;have e2:(60:Int).toNat=60:=rfl;rw [e1,e2,Nat.zero_min,List.drop_zero,List.take_of_length_le hl]
   rw [e] at h1;exact ⟨v,_,h2,h1,ho'⟩
theorem One6.nodes (h:One6 W w tr D B):D.L.length≤300∧∀ W1,zQ w W1→zO 26 #[zP tr] W1 (zI D.L.length):=by
 obtain ⟨T,P,R⟩:=h.prg;refine ⟨?_,fun W1 ho=>?_⟩
 · have:=nos_len h.I.nos (fun x hx=>(h.I.lt x hx).1)
   have:=h.I.most;omega
 · have:=nodes_any W1 tr T (P.tree.only ho)
   rw [R.count h.I P.tree] at this;exact this
theorem One6.ren (h:One6 W w tr D B)(hE:Errs W A)(hB:B≤800){N1 G1 N2 G2:Int}{s1 s2:ByteArray}{c:Nat}(hR:RenR D N1 G1 N2 G2 s1 s2 c D'):DInv D'∧∀ W1,zQ w W1→zK 27 #[zP tr,zG N1 G1,.string s1,zG N2 G2,.string s2] W1 fun r w'=>r = .returned (codeE A c)∧One6 W w' tr D' (B+4)∧TreeW W.heap.size W1 w':=by
 obtain ⟨T,P,R⟩:=h.prg;refine ⟨(rename_rep P R h.I (h.errs hE) h.bd.db (by omega) hR).1,fun W1 ho=>?_⟩;have h1:=h.only ho;obtain ⟨T,P,R⟩:=h1.prg;obtain ⟨hI,hc⟩:=rename_rep P R h.I (h1.errs hE) h.bd.db (by omega) hR;unfold renArgs at hc;refine hc.mono fun r w' hh=>?_;obtain ⟨T',q1,q2,q3,q4⟩:=hh;exact ⟨q1,⟨⟨T',q2,q3⟩,hI,ren_bd h.bd hR,h1.below.trans (q4.below h1.below.size)⟩,q4⟩
theorem EntV.tree {v:Value}{l:List Ent}(h:EntV w v l)(hw:TreeW B w w'):EntV w' v l:=by
 obtain ⟨K,ho,hK⟩:=hw;obtain ⟨ad,cap,h1,h2⟩:=h;refine ⟨ad,cap,h1,fun j x hx=>?_⟩;obtain ⟨g,o,q1,q2,q3,q4,q5⟩:=h2 j x hx
 have hg:g∉K:=fun hm=>by
  obtain ⟨cs,fr,hc⟩:=q5;exact absurd ((hK g hm).2 _ _ _ hc) (by decide)
 exact ⟨g,o,q1,(ho.cell (p:=⟨g,_,none⟩) (zv q2) hg).trans q2,(ho.cell (p:=⟨g,_,none⟩) (zv q3) hg).trans q3,(ho.cell (p:=⟨g,_,none⟩) (zv q4) hg).trans q4,q5.only ho hg⟩
theorem coded_five (hE:Errs w A){c:Nat}(hc:c≤14):zO 10 #[codeE A c,zI 5] w (.bool (decide (c=5))):=by
 by_cases h5:c=5
 · subst h5
   exact coded_is hE (c:=5) (by decide)
 · rw [decide_eq_false h5]
   cases c with
   | zero =>
    show zK 10 #[.nilIface,zI 5] w _
    go_enter Tryz.func10,Tryz.ntmps10
    go_wp2_with (go_at_call 32;refine (code_nil _).mono ?_;rintro e w2 ⟨rfl,rfl⟩)
    go_ret
    exact ⟨rfl,Only.refl _ _⟩
   | succ c =>
    rw [code_some (Nat.succ_ne_zero _)];have H:Hid _:=hE;have d1:(((c:Nat):Int)+1==5)=false:=zb (by omega);clear hE h5;show zK 10 #[.iface 240 (.pointer (some (A c))),zI 5] w _
    go_enter Tryz.func10,Tryz.ntmps10
    go_wp2_with (go_at_call 32;refine (code_err A c (by omega) _ H.out).mono ?_;rintro e w2 ⟨rfl,hb⟩)
    go_ret
    exact ⟨rfl,Only.of_below hb []⟩
end
theorem look_five {D:Dt}{N G:Int}{s:ByteArray}{i k:Nat}(h:LookR D N G s 5 i k):LookR D N G s 5 0 0:=by
 have:i=0∧k=0:=by
  rcases h with ⟨_,_,q⟩ | ⟨_,_,_,q⟩ | ⟨x,_,_,_,(⟨_,_,q⟩ | ⟨e,_,q,_⟩)⟩
  · exact q
  · exact q
  · exact q
  · omega
 rw [this.1,this.2] at h;exact h
theorem look_zero {D:Dt}{N G:Int}{s:ByteArray}{i k:Nat}(h:LookR D N G s 0 i k):∃ a,D.atZ N G=some a∧a.K=2:=by
 rcases h with ⟨q1,q2,_⟩ | ⟨_,_,q2,_⟩ | ⟨x,q1,q2,_⟩
 · exact (q1 q2.symm).elim
 · omega
 · exact ⟨x,q1,q2⟩
theorem One6.lookR {W w:World}{tr B:Nat}{D:Dt}{A:Nat→Addr}(h:One6 W w tr D B)(hE:Errs W A){N G:Int}{s:ByteArray}{c i k:Nat}(hL:LookR D N G s c i k):∀ W1,zQ w W1→zO 16 #[zP tr,zG N G,.string s] W1 (.tuple #[zG i k,codeE A c]):=by
 obtain ⟨T,P,R⟩:=h.prg;exact look_rep P R h.I (h.errs hE) hL
theorem treeBack_walk (ad:Option Addr)(len cap:Nat)(f1:Int)(old:ByteArray)(f2:Int)(name:ByteArray)(A:Nat→Addr)(w:World)(hP:IsTActs6 w ad len)(hE:Errs w A)(hs1:old.size < 4611686018427387904)(hs2:name.size < 4611686018427387904):
  zK 6 #[.slice ad len cap,zI f1,.string old,zI f2,.string name] w fun e w'=>e = .returned (.bool true)∧Below w.heap.size w w':=by
 have HP:Hid (IsTActs6 w ad len):=hP;have HE:Hid (Errs w A):=hE;have hroot:=rooted_any A w hE;clear hP hE
 go_enter Tryz.func6,Tryz.ntmps6
 go_upto_region 2 with (first
  | (go_at_call 7;refine hroot.mono ?_;rintro e w1 ⟨rfl,hb1⟩;have HB1:Hid (Below w.heap.size w w1):=hb1;clear hroot hb1)
  | go_in)
 obtain ⟨b,hfit,hmu⟩:=much_any w1 ad len cap (HP.out.below HB1.out);have HMU:Hid (∀ _u:Unit,_):=fun _u=>hmu;have HFIT:Hid (b=false→FitL w1 ad len):=hfit;clear hmu hfit
 cases b with
 | true =>
  go_wp2_with (first
    | (go_at_call 8;refine (HMU.out ()).mono ?_;rintro e w2 ⟨rfl,ho2⟩;have HB2:Hid (Below w.heap.size w w2):=HB1.out.trans (ho2.to_below HB1.out.size (fun k hk=>by cases hk));clear ho2)
    | go_in)
  go_ret
  exact ⟨rfl,HB2.out⟩
 | false =>
  by_cases hbig:100 < ((old.size:Nat):Int)+((name.size:Nat):Int)
  · go_wp2_with (first
      | (go_at_call 8;refine (HMU.out ()).mono ?_;rintro e w2 ⟨rfl,ho2⟩;have HB2:Hid (Below w.heap.size w w2):=HB1.out.trans (ho2.to_below HB1.out.size (fun k hk=>by cases hk));clear ho2)
      | go_in)
    go_ret
    exact ⟨rfl,HB2.out⟩
  · obtain ⟨hl30,hacts⟩:=HFIT.out rfl
    have HAC:Hid (len=0∨∃ ab ao P,ad=some ⟨ab,ao,none⟩∧TActsAt6 w1 ab ao len P∧∀ i,i < len→(P i).S.size≤3000∧(P i).X.size≤3000):=hacts;clear hacts HFIT
    go_upto_region 4 with (first
      | (go_at_call 8;refine (HMU.out ()).mono ?_;rintro e w2 ⟨rfl,ho2⟩;have HB2:Hid (Below w.heap.size w w2):=HB1.out.trans (ho2.to_below HB1.out.size (fun k hk=>by cases hk));have HO2:Hid (zQ w1 w2):=ho2;clear ho2)
      | go_in)
    clear HMU hbig;have hnw:=new_tree w2 20 (by decide) (by decide)
    go_upto_region 7 with (first
      | (go_at_call 9;refine hnw.mono ?_;rintro e w4 ⟨tr,rfl,hn3⟩;have HN3:Hid (NewT w2 w4 tr 20):=hn3;clear hn3 hnw)
      | go_in)
    have hdn:=dnew_any w4 20 (by decide) (by decide)
    go_upto_region 8 with (first
      | (go_at_call 12;refine hdn.mono ?_;rintro e w5 ⟨m,rfl,hm5,hd5,ho5⟩;have HB5:Hid (Both w ((w5.alloc (zH 0 0)).alloc (.cells #[.slice (some ⟨w5.heap.size,0,none⟩) 1 1] 39)) w4.heap.size tr m (w5.heap.size+1) (D0 20) [(0,0)] 4):=both_start HB2.out HN3.out hd5 ho5 (by decide) (by decide);clear hd5 ho5 hm5 hdn)
      | go_in)
    clear HN3
    go_upto_region 9 with fail
    generalize ((w5.alloc (zH 0 0)).alloc (.cells #[.slice (some ⟨w5.heap.size,0,none⟩) 1 1] 39))=w6 at HB5 ⊢;generalize w5.heap.size+1=hb at HB5 ⊢;generalize w4.heap.size=base at HB5
    have HAW:Hid (len=0∨∃ ab ao P,ad=some ⟨ab,ao,none⟩∧(∀ W1,Below w.heap.size w W1→TActsAt6 W1 ab ao len P)∧∀ i,i < len→(P i).X.size≤3000):=by
      rcases HP.out with h0 | ⟨ab,ao,P,h1,h2⟩
      · exact Or.inl h0
      · rcases HAC.out with h0 | ⟨ab',ao',P',h1',h2',h3'⟩
        · exact Or.inl h0
        · rw [h1] at h1'
          cases h1'
          refine Or.inr ⟨ab,ao,P,h1,fun W1 hW=>?_,fun i hi=>?_⟩
          · rcases IsTActs6.below (Or.inr ⟨ab,ao,P,h1,h2⟩:IsTActs6 w ad len) hW with h0 | ⟨ab2,ao2,P2,q1,q2⟩
            · intro i hi;omega
            · exact TActsAt6.below h2 hW
          · have e1:=(TActsAt6.below h2 HB1.out i hi).2.2.2.2.1
            have e2:=(h2' i hi).2.2.2.2.1;rw [e1] at e2;have e3:(P i).X=(P' i).X:=Value.string.inj (Option.some.inj e2);rw [e3];exact (h3' i hi).2
    clear HAC HB1 HB2 HO2 HP
    go_wp2
    go_loopw [16] (fun i wr=>∃ j:Nat,j≤len∧i=zI j∧Good6 w wr base tr m hb j) (fun i _=>len - (intOf i).toNat)
    case atStart=>exact ⟨0,Nat.zero_le _,rfl,D0 20,_,HB5.out,Nat.le_refl _⟩
    case round =>
      obtain ⟨j,hj,rfl,D,hl,hB,hhl⟩:=hrel;have HBO:Hid (Both w wr base tr m hb D hl (4+4*j)):=hB;clear hB HB5
      by_cases hlt:j < len
      · have hj2:(j:Int) < len:=by omega
        rcases HAW.out with h0 | ⟨ab,ao,P,hadx,hPP,hXX⟩
        · omega
        subst hadx;obtain ⟨c0,c1,c2,c3,c4,c5,hok⟩:=hPP wr HBO.out.below j hlt;have hX3:=hXX j hlt;have hdo:=do_any w wr base tr m hb D hl (4+4*j) A (P j) (by omega) hok.n1 hok.n2 (by omega) HBO.out HE.out (by omega);generalize P j=a at c0 c1 c2 c3 c4 c5 hdo;clear hPP hXX hok hX3
        go_wp2_with (first
          | (go_at_call 13;refine hdo.mono ?_;rintro e w7 ⟨c,D7,hl7,rfl,hc,hb7,hn7⟩;have HB7:Hid (Both w w7 base tr m hb D7 hl7 (4+4*(j+1))):=hb7;clear hb7)
          | go_in)
        all_goals go_roundw
        all_goals first
          | exact ⟨j+1,by omega,by go_num,D7,hl7,HB7.out,by omega⟩
          | (simp [intOf];omega)
      · obtain rfl:len=j:=by omega
        have hbd:4+4*len≤200:=by omega
        generalize 4+4*len=BB at HBO hbd;clear HAW hhl;generalize hX1:(handOf hl f1).1=X1;generalize hX2:(handOf hl f1).2=X2;generalize hY1:(handOf hl f2).1=Y1;generalize hY2:(handOf hl f2).2=Y2;obtain ⟨v,hv⟩:=HBO.out.hands;have hA1:=hands_at wr base hb v hl f1 hv;rw [hX1,hX2] at hA1
        have HA2:Hid (∀ W1,Both w W1 base tr m hb D hl BB→zO 15 #[zP hb,zI f2] W1 (zG Y1 Y2)):=fun W1 h1=>by
          obtain ⟨v,hv⟩:=h1.hands;have:=hands_at W1 base hb v hl f2 hv;rw [hY1,hY2] at this;exact this
        clear hv hX1 hX2 hY1 hY2
        go_upto_region 14 with (first
          | (go_at_call 15;refine hA1.mono ?_;rintro e w1 ⟨rfl,ho1⟩;have HB1:Hid (Both w (w1.alloc (zH X1 X2)) base tr m hb D hl BB):=Pair6.only HBO.out (ho1.alloc _);clear ho1)
          | go_in)
        have HX1:Hid (BoxAt (w1.alloc (zH X1 X2)) w1.heap.size #[zI X1,zI X2] 32):=new_box w1 _ _;clear hA1 HBO;generalize w1.alloc (zH X1 X2)=w2 at HB1 HX1 ⊢;generalize w1.heap.size=bx at HX1 ⊢;have hA2:=HA2.out _ HB1.out
        go_upto_region 15 with (first
          | (go_at_call 15;refine hA2.mono ?_;rintro e w3 ⟨rfl,ho3⟩;have HON:Hid (One6 w (w3.alloc (zH Y1 Y2)) tr D BB):=Pair6.one (Pair6.only HB1.out (ho3.alloc _));have HX3:Hid (BoxAt (w3.alloc (zH Y1 Y2)) bx #[zI X1,zI X2] 32):=HX1.out.only (ho3.alloc _);clear ho3)
          | go_in)
        have HY3:Hid (BoxAt (w3.alloc (zH Y1 Y2)) w3.heap.size #[zI Y1,zI Y2] 32):=new_box w3 _ _;clear hA2 HA2 HB1 HX1;generalize w3.alloc (zH Y1 Y2)=w4 at HON HX3 HY3 ⊢;generalize w3.heap.size=bY at HY3 ⊢;obtain ⟨c1,i1,k1,hc1,hL1,hl1⟩:=HON.out.look HE.out X1 X2 old;obtain ⟨c2,i2,k2,hc2,hL2,hl2⟩:=HON.out.look HE.out Y1 Y2 name;have HLR:Hid (LookR D X1 X2 old c1 i1 k1∧LookR D Y1 Y2 name c2 i2 k2):=⟨hL1,hL2⟩;have HL1:Hid (∀ W1,zQ w4 W1→_):=hl1;have HL2:Hid (∀ W1,zQ w4 W1→_):=hl2;clear hL1 hL2 hl1 hl2;have x0:w4.cell? (zA bx 0)=some (zI X1):=HX3.out.cell 0 _ rfl;have x1:w4.cell? (zA bx 1)=some (zI X2):=HX3.out.cell 1 _ rfl;have HO:Hid (zQ w4 w4):=Only.refl _ _
        go_upto_region 16 with (first
          | (go_at_call 16;refine (HL1.out _ HO.out).mono ?_;rintro e w5 ⟨rfl,ho5⟩;have HO5:Hid (zQ w4 (w5.alloc (zH i1 k1))):=(zo HO.out ho5).alloc _;clear ho5)
          | go_in)
        have HI5:Hid (BoxAt (w5.alloc (zH i1 k1)) w5.heap.size #[zI i1,zI k1] 32):=new_box w5 _ _;clear x0 x1 HL1 HO;generalize w5.alloc (zH i1 k1)=w6 at HO5 HI5 ⊢;generalize w5.heap.size=b19 at HI5 ⊢;have y0:w6.cell? (zA bY 0)=some (zI Y1):=(HY3.out.only HO5.out).cell 0 _ rfl;have y1:w6.cell? (zA bY 1)=some (zI Y2):=(HY3.out.only HO5.out).cell 1 _ rfl
        go_upto_region 17 with (first
          | (go_at_call 16;refine (HL2.out _ HO5.out).mono ?_;rintro e w7 ⟨rfl,ho7⟩;have HO7:Hid (zQ w4 (w7.alloc (zH i2 k2))):=(zo HO5.out ho7).alloc _;have HI7:Hid (BoxAt (w7.alloc (zH i2 k2)) b19 #[zI i1,zI k1] 32):=HI5.out.only (ho7.alloc _);clear ho7)
          | go_in)
        clear y0 y1 HL2 HI5 HO5;have H8:Hid (One6 w (w7.alloc (zH i2 k2)) tr D BB):=HON.out.only HO7.out;have HX8:Hid (BoxAt (w7.alloc (zH i2 k2)) bx #[zI X1,zI X2] 32):=HX3.out.only HO7.out;have HY8:Hid (BoxAt (w7.alloc (zH i2 k2)) bY #[zI Y1,zI Y2] 32):=HY3.out.only HO7.out;clear HON HX3 HY3 HO7;generalize w7.alloc (zH i2 k2)=w8 at H8 HX8 HY8 HI7 ⊢
        by_cases h1:c1=0
        · subst h1
          have hco:=coded_five (A:=A) (w:=w8) (H8.out.errs HE.out) hc2
          rw [show codeE A 0=Value.nilIface from rfl]
          by_cases h5:c2=5
          · subst h5
            rw [decide_eq_true rfl] at hco;obtain ⟨a,ha,haK⟩:=look_zero HLR.out.1;have HA:Hid (D.atZ X1 X2=some a∧a.K=2):=⟨ha,haK⟩;obtain ⟨c3,D3,hR⟩:=ren_tot H8.out.I X1 X2 Y1 Y2 old name;have HR:Hid (RenR D X1 X2 Y1 Y2 old name c3 D3):=hR;have hc3:=ren_le hR;clear ha haK hR
            go_upto_region 19 with (first
              | (go_at_call 10;refine hco.mono ?_;rintro e w9 ⟨rfl,ho9⟩;have H9:Hid (One6 w w9 tr D BB):=H8.out.only ho9;have HX9:Hid (BoxAt w9 bx #[zI X1,zI X2] 32):=HX8.out.only ho9;have HY9:Hid (BoxAt w9 bY #[zI Y1,zI Y2] 32):=HY8.out.only ho9;have HI9:Hid (BoxAt w9 b19 #[zI i1,zI k1] 32):=HI7.out.only ho9;clear ho9 hco)
              | go_in)
            clear H8 HX8 HY8 HI7;have hls:=H9.out.list HE.out HA.out.1 HA.out.2 w9 (Only.refl _ _);have x0:w9.cell? (zA bx 0)=some (zI X1):=HX9.out.cell 0 _ rfl;have x1:w9.cell? (zA bx 1)=some (zI X2):=HX9.out.cell 1 _ rfl
            go_upto_region 20 with (first
              | (go_at_call 18;refine hls.mono ?_;rintro e w10 ⟨v10,n10,rfl,hv10,ho10⟩;have HV10:Hid (EntV w10 v10 a.es):=hv10;have H10:Hid (One6 w w10 tr D BB):=H9.out.only ho10;have HX10:Hid (BoxAt w10 bx #[zI X1,zI X2] 32):=HX9.out.only ho10;have HY10:Hid (BoxAt w10 bY #[zI Y1,zI Y2] 32):=HY9.out.only ho10;have HI10:Hid (BoxAt w10 b19 #[zI i1,zI k1] 32):=HI9.out.only ho10;clear ho10 hls hv10)
              | go_in)
            clear H9 HX9 HY9 HI9 x0 x1;obtain ⟨hn300,hno⟩:=H10.out.nodes;have hno:=hno w10 (Only.refl _ _)
            go_upto_region 21 with (first
              | (go_at_call 26;refine hno.mono ?_;rintro e w11 ⟨rfl,ho11⟩;have HV11:Hid (EntV w11 v10 a.es):=HV10.out.only ho11;have H11:Hid (One6 w w11 tr D BB):=H10.out.only ho11;have HX11:Hid (BoxAt w11 bx #[zI X1,zI X2] 32):=HX10.out.only ho11;have HY11:Hid (BoxAt w11 bY #[zI Y1,zI Y2] 32):=HY10.out.only ho11;have HI11:Hid (BoxAt w11 b19 #[zI i1,zI k1] 32):=HI10.out.only ho11;clear ho11 hno)
              | go_in)
            clear H10 HX10 HY10 HI10 HV10;obtain ⟨hI3,hrn⟩:=H11.out.ren HE.out (by omega) HR.out;have HI3:Hid (DInv D∧DInv D3):=⟨H11.out.I,hI3⟩;have hrn:=hrn w11 (Only.refl _ _);clear hI3;have x0:w11.cell? (zA bx 0)=some (zI X1):=HX11.out.cell 0 _ rfl;have x1:w11.cell? (zA bx 1)=some (zI X2):=HX11.out.cell 1 _ rfl;have y0:w11.cell? (zA bY 0)=some (zI Y1):=HY11.out.cell 0 _ rfl;have y1:w11.cell? (zA bY 1)=some (zI Y2):=HY11.out.cell 1 _ rfl
            go_upto_region 22 with (first
              | (go_at_call 27;refine hrn.mono ?_;rintro e w12 ⟨rfl,hp12,hw12⟩;have H12:Hid (One6 w w12 tr D3 (BB+4)):=hp12;have HV12:Hid (EntV w12 v10 a.es):=HV11.out.tree hw12;have HX12:Hid (BoxAt w12 bx #[zI X1,zI X2] 32):=HX11.out.tree hw12 (by decide);have HY12:Hid (BoxAt w12 bY #[zI Y1,zI Y2] 32):=HY11.out.tree hw12 (by decide);have HI12:Hid (BoxAt w12 b19 #[zI i1,zI k1] 32):=HI11.out.tree hw12 (by decide);clear hp12 hw12 hrn)
              | go_in)
            clear H11 HX11 HY11 HI11 HV11 x0 x1 y0 y1
            by_cases h3:c3=0
            · subst h3
              rw [show codeE A 0=Value.nilIface from rfl]
              obtain ⟨hlk,hlen,D4,a',a4,hR4,ha',haK',ham4,hi4,hc4,hK4,hes4⟩:=ren_back HI3.out.1 HI3.out.2 HLR.out.1 (look_five HLR.out.2) HR.out;obtain rfl:a'=a:=Option.some.inj (ha'.symm.trans HA.out.1);have HR4:Hid (RenR D3 Y1 Y2 X1 X2 name old 0 D4):=hR4;have HA4:Hid (a4∈D4.L∧(a4.i:Int)=X1∧(a4.c:Int)=X2∧a4.K=2∧a4.es=a'.es):=⟨ham4,hi4,hc4,hK4,hes4⟩;have HLE:Hid (D3.L.length=D.L.length∧a'.es.length≤1000):=⟨hlen,by have:=(HI3.out.1.rise a' (atZ_some ha').1).2;omega⟩;have hlk3:=H12.out.lookR HE.out hlk w12 (Only.refl _ _)
              rw [show codeE A 0=Value.nilIface from rfl] at hlk3
              clear hR4 ham4 hi4 hc4 hK4 hes4 hlen hlk ha' haK' HLR HR HA HI3;have y0:w12.cell? (zA bY 0)=some (zI Y1):=HY12.out.cell 0 _ rfl;have y1:w12.cell? (zA bY 1)=some (zI Y2):=HY12.out.cell 1 _ rfl
              go_upto_region 25 with (first
               | (go_at_call 16;refine hlk3.mono ?_;rintro e w13 ⟨rfl,ho13⟩;have H14:Hid (One6 w (w13.alloc (zH i1 k1)) tr D3 (BB+4)):=H12.out.only (ho13.alloc _);have HV14:Hid (EntV (w13.alloc (zH i1 k1)) v10 a'.es):=HV12.out.only (ho13.alloc _);have HX14:Hid (BoxAt (w13.alloc (zH i1 k1)) bx #[zI X1,zI X2] 32):=HX12.out.only (ho13.alloc _);have HY14:Hid (BoxAt (w13.alloc (zH i1 k1)) bY #[zI Y1,zI Y2] 32):=HY12.out.only (ho13.alloc _);have HI14:Hid (BoxAt (w13.alloc (zH i1 k1)) b19 #[zI i1,zI k1] 32):=HI12.out.only (ho13.alloc _);clear ho13 hlk3)
               | go_in)
              have HJ14:Hid (BoxAt (w13.alloc (zH i1 k1)) w13.heap.size #[zI i1,zI k1] 32):=new_box w13 _ _;clear H12 HV12 HX12 HY12 HI12 y0 y1;generalize w13.alloc (zH i1 k1)=w14 at H14 HV14 HX14 HY14 HI14 HJ14 ⊢;generalize w13.heap.size=b26 at HJ14 ⊢;have hno2:=H14.out.nodes.2 w14 (Only.refl _ _);rw [HLE.out.1] at hno2;have j0:w14.cell? (zA b26 0)=some (zI i1):=HJ14.out.cell 0 _ rfl;have j1:w14.cell? (zA b26 1)=some (zI k1):=HJ14.out.cell 1 _ rfl;have z0:w14.cell? (zA b19 0)=some (zI i1):=HI14.out.cell 0 _ rfl;have z1:w14.cell? (zA b19 1)=some (zI k1):=HI14.out.cell 1 _ rfl
              go_upto_region 27 with (first
               | (go_at_call 26;refine hno2.mono ?_;rintro e w15 ⟨rfl,ho15⟩;have H15:Hid (One6 w w15 tr D3 (BB+4)):=H14.out.only ho15;have HV15:Hid (EntV w15 v10 a'.es):=HV14.out.only ho15;have HX15:Hid (BoxAt w15 bx #[zI X1,zI X2] 32):=HX14.out.only ho15;have HY15:Hid (BoxAt w15 bY #[zI Y1,zI Y2] 32):=HY14.out.only ho15;clear ho15 hno2 j0 j1 z0 z1)
               | go_in)
              clear H14 HV14 HX14 HY14 HI14 HJ14;obtain ⟨_,hrn2⟩:=H15.out.ren HE.out (by omega) HR4.out;have hrn2:=hrn2 w15 (Only.refl _ _)
              rw [show codeE A 0=Value.nilIface from rfl] at hrn2
              have x0:w15.cell? (zA bx 0)=some (zI X1):=HX15.out.cell 0 _ rfl;have x1:w15.cell? (zA bx 1)=some (zI X2):=HX15.out.cell 1 _ rfl;have y0:w15.cell? (zA bY 0)=some (zI Y1):=HY15.out.cell 0 _ rfl;have y1:w15.cell? (zA bY 1)=some (zI Y2):=HY15.out.cell 1 _ rfl
              go_upto_region 29 with (first
               | (go_at_call 27;refine hrn2.mono ?_;rintro e w16 ⟨rfl,hp16,hw16⟩;have H16:Hid (One6 w w16 tr D4 (BB+4+4)):=hp16;have HV16:Hid (EntV w16 v10 a'.es):=HV15.out.tree hw16;have HX16:Hid (BoxAt w16 bx #[zI X1,zI X2] 32):=HX15.out.tree hw16 (by decide);clear hp16 hw16 hrn2)
               | go_in)
              clear H15 HV15 HX15 HY15 x0 x1 y0 y1;have hls2:=H16.out.list HE.out (atZ_of H16.out.I.nos HA4.out.1 (isB_iff.2 ⟨HA4.out.2.1,HA4.out.2.2.1⟩)) HA4.out.2.2.2.1 w16 (Only.refl _ _);rw [HA4.out.2.2.2.2] at hls2;have x0:w16.cell? (zA bx 0)=some (zI X1):=HX16.out.cell 0 _ rfl;have x1:w16.cell? (zA bx 1)=some (zI X2):=HX16.out.cell 1 _ rfl
              go_upto_region 30 with (first
               | (go_at_call 18;refine hls2.mono ?_;rintro e w17 ⟨v17,n17,rfl,hv17,ho17⟩;have hse:=same_ents w17 v10 v17 a'.es (HV16.out.only ho17) hv17 HLE.out.2;have H17:Hid (One6 w w17 tr D4 (BB+4+4)):=H16.out.only ho17;clear ho17 hls2 hv17)
               | go_in)
              clear H16 HV16 HX16 x0 x1
              go_wp2_with (first
               | (go_at_call 20;refine hse.mono ?_;rintro e w18 ⟨rfl,ho18⟩;have H18:Hid (One6 w w18 tr D4 (BB+4+4)):=H17.out.only ho18;clear ho18 hse)
               | go_in)
              go_ret
              exact ⟨rfl,H18.out.below⟩
            · rw [show codeE A c3 = .iface 240 (.pointer (some (A (c3 - 1)))) from code_some h3]
              go_wp2
              go_ret
              exact ⟨rfl,H12.out.below⟩
          · rw [decide_eq_false h5] at hco
            go_wp2_with (first
              | (go_at_call 10;refine hco.mono ?_;rintro e w9 ⟨rfl,ho9⟩;have H9:Hid (One6 w w9 tr D BB):=H8.out.only ho9;clear ho9 hco)
              | go_in)
            go_ret
            exact ⟨rfl,H9.out.below⟩
        · rw [show codeE A c1 = .iface 240 (.pointer (some (A (c1 - 1)))) from code_some h1]
          go_wp2
          go_ret
          exact ⟨rfl,H8.out.below⟩
end
end Go.Proofs.YtooblpbmcnmicaaGreatDoor
