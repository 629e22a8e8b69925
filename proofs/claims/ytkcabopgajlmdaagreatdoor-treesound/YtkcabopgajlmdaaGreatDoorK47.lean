import Derived.Test.YtkcabopgajlmdaaGreatDoorK46
import Derived.Deep.Strs
import Derived.Deep.Slices
import Derived.OpenShut
import Derived.ChangeArms
import Derived.SizedLaws
set_option maxRecDepth 100000
set_option maxHeartbeats 8000000
namespace Go.Proofs.YtkcabopgajlmdaaGreatDoor
section
open Go Go.RowKit Go.Deep Go.Maps

end
section
open Go Go.RowKit Go.Deep Go.WideShapes
structure TActM.Ok (a:TActM):Prop where
 s:a.S.size≤140737488351232
 x:a.X.size≤140737488351232
 n1:a.N < 9223372036854775808
 n2 : -9223372036854775808≤a.N
def TActsAt6 (w:World)(ab ao len:Nat)(P:Nat→TActM):Prop :=
 ∀ i,i < len→w.cell? ⟨ab,ao+i*6,none⟩=some (.string (P i).K)∧w.cell? ⟨ab,ao+i*6+1,none⟩=some (zI (P i).A)∧w.cell? ⟨ab,ao+i*6+2,none⟩=some (zI (P i).B)∧w.cell? ⟨ab,ao+i*6+3,none⟩=some (.string (P i).S)∧w.cell? ⟨ab,ao+i*6+4,none⟩=some (.string (P i).X)∧w.cell? ⟨ab,ao+i*6+5,none⟩=some (zI (P i).N)∧(P i).Ok
def IsTActs6 (w:World)(a:Option Addr)(len:Nat):Prop:=len=0∨∃ ab ao P,a=some ⟨ab,ao,none⟩∧TActsAt6 w ab ao len P
def sumL (P:Nat→TActM):Nat→Nat
 | 0=>0
 | n+1=>sumL P n+(P n).S.size+(P n).X.size
theorem sumL_mem (P:Nat→TActM):∀ n i,i < n→(P i).S.size≤sumL P n∧(P i).X.size≤sumL P n
 | n+1,i,hi=>by
  show _≤sumL P n+(P n).S.size+(P n).X.size∧_≤sumL P n+(P n).S.size+(P n).X.size
  by_cases e:i=n
  · subst e;omega
  · have:=sumL_mem P n i (by omega)
    omega
theorem sumL_le (P:Nat→TActM)(m:Nat)(h:∀ i,i < m→(P i).S.size≤140737488351232∧(P i).X.size≤140737488351232):∀ n,n≤m→sumL P n≤n*281474976702464
 | 0,_=>Nat.zero_le _
 | n+1,hn=>by
  have h1:=sumL_le P m h n (by omega);have h2:=h n (by omega);show sumL P n+(P n).S.size+(P n).X.size≤_;omega
def FitL (w:World)(ad:Option Addr)(len:Nat):Prop:=len≤30∧(len=0∨∃ ab ao P,ad=some ⟨ab,ao,none⟩∧TActsAt6 w ab ao len P∧∀ i,i < len→(P i).S.size≤3000∧(P i).X.size≤3000)
theorem much_any (w:World)(ad:Option Addr)(len cap:Nat)(h:IsTActs6 w ad len):
   ∃ b,(b=false→FitL w ad len)∧zO 6 #[.slice ad len cap] w (.bool b):=by
 obtain ⟨P,hP⟩:∃ P:Nat→TActM,len=0∨∃ ab ao,ad=some ⟨ab,ao,none⟩∧TActsAt6 w ab ao len P:=by
   rcases h with h0 | ⟨ab,ao,P,h1,h2⟩
   · exact ⟨fun _=>⟨⟨#[]⟩,0,0,⟨#[]⟩,⟨#[]⟩,0⟩,Or.inl h0⟩
   · exact ⟨P,Or.inr ⟨ab,ao,h1,h2⟩⟩
 have HQ:Hid (len=0∨∃ ab ao,ad=some ⟨ab,ao,none⟩∧TActsAt6 w ab ao len P):=hP;refine ⟨decide (30 < len) || decide (3000 < sumL P len),fun hb=>?_,?_⟩
 · have h1:¬ 30 < len∧¬ 3000 < sumL P len:=by simpa using hb
   refine ⟨by omega,?_⟩;rcases HQ.out with h0 | ⟨ab,ao,q1,q2⟩
   · exact Or.inl h0
   · exact Or.inr ⟨ab,ao,P,q1,q2,fun i hi=>by have:=sumL_mem P len i hi;omega⟩
 clear h
 go_enter Tryz.func6,Tryz.ntmps6
 by_cases h30:30 < len
 · have d1:decide (30 < (len:Int))=true:=decide_eq_true (by omega)
   go_wp2
   go_ret
   exact ⟨by simp [h30],Only.refl _ _⟩
 · have d1:decide (30 < (len:Int))=false:=decide_eq_false (by omega)
   have hsum:∀ j,j≤len→sumL P j≤j*281474976702464:=by
     rcases hP with h0 | ⟨ab,ao,_,h2⟩
     · intro j hj
       obtain rfl:j=0:=by omega
       exact Nat.zero_le _
     · exact fun j hj=>sumL_le P len (fun i hi=>⟨(h2 i hi).2.2.2.2.2.2.s,(h2 i hi).2.2.2.2.2.2.x⟩) j hj
   have HSU:Hid (∀ j,j≤len→sumL P j≤j*281474976702464):=hsum;clear hP hsum
   go_wp2
   clear d1
   go_loopw [3,4] (fun q i wr=>∃ j:Nat,j≤len∧i=zI j∧q=zI (sumL P j:Nat)∧zQ w wr) (fun _ i _=>len - (intOf i).toNat)
   case atStart=>exact ⟨0,Nat.zero_le _,rfl,rfl,Only.refl _ _⟩
   case round =>
     obtain ⟨j,hj,rfl,rfl,hor⟩:=hrel;have HOR:Hid (zQ w wr):=hor;clear hor
     by_cases hlt:j < len
     · have hj2:(j:Int) < len:=by omega
       rcases HQ.out with h0 | ⟨ab,ao,hadx,hPP⟩
       · omega
       subst hadx;obtain ⟨_,_,_,p3,p4,_,hok⟩:=hPP j hlt;have c3:wr.cell? ⟨ab,ao+j*6+3,none⟩=some (.string (P j).S):=(HOR.out.cell (p:=⟨ab,ao+j*6+3,none⟩) (zv p3) (by simp)).trans p3;have c4:wr.cell? ⟨ab,ao+j*6+4,none⟩=some (.string (P j).X):=(HOR.out.cell (p:=⟨ab,ao+j*6+4,none⟩) (zv p4) (by simp)).trans p4;have hs1:=hok.s;have hs2:=hok.x;have hs0:=HSU.out j hj;have hs3:=HSU.out (j+1) hlt;have HSM:Hid (sumL P (j+1)=sumL P j+(P j).S.size+(P j).X.size):=rfl;have e1:IntKind.i64.wrap ((sumL P j:Int)+((P j).S.size:Int))=(sumL P j:Int)+((P j).S.size:Int):=wrap_small (by omega) (by omega);have e2:IntKind.i64.wrap ((sumL P j:Int)+((P j).S.size:Int)+((P j).X.size:Int))=(sumL P j:Int)+((P j).S.size:Int)+((P j).X.size:Int):=wrap_small (by omega) (by omega)
       go_upto_region 7 with fail
       go_quiet (fail)
       all_goals go_wp2
       all_goals go_roundw
       case rel=>exact ⟨j+1,hlt,by go_num,by rw [HSM.out];rfl,⟨HOR.out.os,HOR.out.tape,HOR.out.output,HOR.out.size,HOR.out.block⟩⟩
       case measure=>simp [intOf];omega
     · obtain rfl:len=j:=by omega
       by_cases hbig:3000 < sumL P len
       · have d2:decide (3000 < (sumL P len:Int))=true:=decide_eq_true (by omega)
         go_wp2
         go_ret
         exact ⟨by simp [hbig],HOR.out⟩
       · have d2:decide (3000 < (sumL P len:Int))=false:=decide_eq_false (by omega)
         go_wp2
         go_ret
         exact ⟨by simp [hbig,h30],HOR.out⟩
end
section
open Go Go.RowKit Go.Deep Go.Maps
theorem over_okT (w:World)(t:Nat)(p:Row)(most:Nat)(g:Nat→Nat)(nd:Nat→Option Nod)(h:TabAt w t p most g nd)(hN:p.N≤1000)(hg:∀ i,g i≤5000000000000000000):
   zK 26 #[zP t] w fun e w'=>∃ tr db pb,e = .returned (zP tr)∧TreeAt w' tr (Tr.bare t p most g nd db pb)∧zQ w w'∧w.heap.size≤tr∧w.heap.size≤db∧w.heap.size≤pb∧Ty w' tr 105∧tr≠t∧tr≠db:=by
 have hm1:=run_makeMap (P:=Tryz.prog) 102 w;have hm2:=run_makeMap (P:=Tryz.prog) 103 (w.alloc (.map #[] 0));have H:Hid (TabAt w t p most g nd):=h;clear h
 go_enter Tryz.func26,Tryz.ntmps26
 go_wp2
 go_ret
 have ho:zQ w (((w.alloc (.map #[] 0)).alloc (.map #[] 0)).alloc (.cells #[zP t,.map (some w.heap.size),.map (some (w.heap.size+1))] 105)):=(((Only.refl [] w).alloc _).alloc _).alloc _;refine ⟨w.heap.size+1+1,w.heap.size,w.heap.size+1,rfl,?_,ho,by omega,by omega,by omega,?tyy,by have:=H.out.tlt;omega,by omega⟩
 case tyy=>exact ⟨_,_,by have:=zh ((w.alloc (.map #[] 0)).alloc (.map #[] 0)) (.cells #[zP t,.map (some w.heap.size),.map (some (w.heap.size+1))] 105);simp only [World.size_alloc] at this;exact this⟩
 have hh:=zh ((w.alloc (.map #[] 0)).alloc (.map #[] 0)) (.cells #[zP t,.map (some w.heap.size),.map (some (w.heap.size+1))] 105);simp only [World.size_alloc] at hh
 have hno:∀ k,w.heap.size≤k→¬ InFoot t p most nd k:=fun k hk hf=>by have:=H.out.foot_lt k hf;omega
 have hd:(((w.alloc (.map #[] 0)).alloc (.map #[] 0)).alloc (.cells #[zP t,.map (some w.heap.size),.map (some (w.heap.size+1))] 105)).ownsMap Tryz.prog 35 mapElem w.heap.size 0 (.map []:DataW Unit):=((World.ownsMap_made (H:=Unit) w Tryz.prog 35 mapElem).alloc _).alloc _
 have hp:(((w.alloc (.map #[] 0)).alloc (.map #[] 0)).alloc (.cells #[zP t,.map (some w.heap.size),.map (some (w.heap.size+1))] 105)).ownsMap Tryz.prog 35 (plainElem Tryz.prog 3) (w.heap.size+1) 0 (.map []:DataW Unit):=by
   have:=World.ownsMap_made (H:=Unit) (w.alloc (.map #[] 0)) Tryz.prog 35 (plainElem Tryz.prog 3);rw [World.size_alloc] at this;exact this.alloc _
 refine ⟨cell_of_row _ _ 0 _ _ _ hh,cell_of_row _ _ 1 _ _ _ hh,cell_of_row _ _ 2 _ _ _ hh,H.out.kept ho (fun _ _=>by simp),⟨_,0,hd,by omega,Reads.empty.congr (fun k=>?_)⟩,(fun i d e=>by cases e),⟨_,0,hp,by omega,Reads.empty.congr (fun k=>?_)⟩,(fun i j d d' e=>by cases e),⟨hN,hg⟩,hno (w.heap.size+1+1) (by omega),hno w.heap.size (Nat.le_refl _),hno (w.heap.size+1) (by omega),(fun i d e=>by cases e),?_,(fun i d e=>by cases e),(fun i e=>by cases e)⟩
 · show (if k.2=g k.1 then (none:Option DirM).map (·.b) else none)=none
   split<;>rfl
 · simp [Tr.pinsF,Tr.bare]
 · show w.heap.size≠w.heap.size+1
   omega
theorem tree_newT (w:World)(most:Nat)(h1:1≤most)(h2:most≤300):
  zK 7 #[zI most] w fun e w'=>∃ tr t p b db B pb,e = .returned (.tuple #[zP tr,.nilIface])∧TreeAt w' tr (Tr.fresh t p most b db B pb)∧zQ w w'∧p.N=1∧w.heap.size≤tr∧w.heap.size≤t∧w.heap.size≤b∧w.heap.size≤db∧w.heap.size≤B∧w.heap.size≤pb∧(∀ k,p.a=some k→w.heap.size≤k)∧Ty w' tr 105:=by
 have hnew:=tnew w most h1 h2
 go_enter Tryz.func7,Tryz.ntmps7
 go_wp2_with (first
  | (go_at_call 25;go_must (refine hnew.mono ?_);rintro e w1 ⟨t,rfl,hT1,ho1,ht⟩;have hov:=over_okT w1 t noRow most (fun _=>0) (fun _=>none) hT1 (by decide) (fun _=>by omega);have HO1:Hid (zQ w w1):=ho1;have HTT:Hid (w.heap.size≤t):=ht;clear hT1 ho1 hnew ht)
  | (go_at_call 26;go_must (refine hov.mono ?_);rintro e w2 ⟨tr,db,pb,rfl,hT2,ho2,htr,hdb,hpb,hty,hnt,hnd⟩;have HTY:Hid (Ty w2 tr 105):=hty;have HNT:Hid (tr≠t):=hnt;have HND:Hid (tr≠db):=hnd;have hadd:=add_dir w2 tr (Tr.bare t noRow most (fun _=>0) (fun _=>none) db pb) 0 hT2 (by decide) (show countTo (fun _=>none) 0 < most from h1) rfl rfl (fun j hj=>by omega);have HO2:Hid (zQ w w2):=HO1.out.trans ho2 (fun _ hk=>by cases hk);have HS:Hid (w.heap.size≤tr∧w.heap.size≤db∧w.heap.size≤pb):=(show w.heap.size≤tr∧w.heap.size≤db∧w.heap.size≤pb from by have:=HO1.out.size;omega);clear hT2 ho2 hov htr hdb hpb hty hnt hnd)
  | (go_at_call 27;go_must (refine hadd.mono ?_);rintro e w3 ⟨rfl,p,b,B,hT3,ho3,hb3,hB3,hN3,hA3⟩;clear hadd)
  | go_in)
 have ho:zQ w w3:=HO2.out.trans ho3 (fun k hk=>Or.inr (by
  have h1:=HS.out;have h2:=HTT.out;rcases List.mem_cons.1 hk with e | e
  · rw [e];exact h1.2.1
  · rcases List.mem_cons.1 e with e | e
    · rw [e];exact h2
    · cases e))
 have hs2:=HO2.out.size;refine bodyPost_ret (v := .tuple #[zP tr,.nilIface]) (by simp [results,Tryz.results7,go_sem]) rfl ?_;exact ⟨tr,t,p,b,db,B,pb,rfl,TreeAt.only (T:=Tr.fresh t p most b db B pb) hT3 ((Only.refl [] w3).alloc _),ho.alloc _,by rw [hN3];rfl,HS.out.1,HTT.out,by omega,HS.out.2.1,by omega,HS.out.2.2,fun k hk=>(hA3 k hk).elim (fun e=>by cases e) (fun e=>by omega),(HTY.out.only ho3 (by show tr∉[db,t];simp only [List.mem_cons,List.not_mem_nil,or_false,not_or];exact ⟨HND.out,HNT.out⟩)).only ((Only.refl [] w3).alloc _) (by simp)⟩
theorem D0_bd (most:Nat):Bd (D0 most) 1:=by
 have hm:∀ x∈(D0 most).L,x=⟨0,0,2,0,⟨#[]⟩,[],[],0⟩:=fun x hx=>List.mem_singleton.1 hx;refine ⟨⟨fun x hx=>by rw [hm x hx];exact ⟨Int.le_refl _,by show (0:Int)≤_;omega,Nat.zero_le _⟩,fun i=>?_⟩,fun x hx=>by rw [hm x hx];exact ⟨Nat.zero_le _,Nat.zero_le _⟩⟩;show setN (fun _=>0) 0 1 i≤1
 by_cases e:i=0
 · rw [e,setN_same];exact Nat.le_refl _
 · rw [setN_other _ _ e];exact Nat.zero_le _
def NewT (w w':World)(tr most:Nat):Prop:=∃ T,Prg w.heap.size w' tr T∧Rep T (D0 most)∧zQ w w'
theorem new_tree (w:World)(most:Nat)(h1:1≤most)(h2:most≤300):zK 7 #[zI most] w fun e w'=>∃ tr,e = .returned (.tuple #[zP tr,.nilIface])∧NewT w w' tr most:=by
 refine (tree_newT w most h1 h2).mono fun e w' hh=>?_;obtain ⟨tr,t,p,b,db,B,pb,rfl,hT,ho,hN,q1,q2,q3,q4,q5,q6,q7,q8⟩:=hh;refine ⟨tr,rfl,_,⟨hT,fun k hk=>?_,q8,ho.size⟩,Rep.fresh t p most b db B pb,ho⟩;rcases mem_blocks.1 hk with e | e | e | e | ⟨i,_,⟨n,r1,r2⟩ | ⟨d,r1,r2⟩⟩
 · rw [e];exact q2
 · rw [e];exact q4
 · rw [e];exact q6
 · exact q7 k e
 · have r1':setN (fun _=>none) 0 (some { newNod b 2 with Z:=0,L:=2 }) i=some n:=r1
   by_cases e:i=0
   · rw [e,setN_same] at r1'
     cases r1'
     have:k=b:=by simpa [newNod,Nod.foot,footD] using r2
     rw [this];exact q3
   · rw [setN_other _ _ e] at r1'
     cases r1'
 · have r1':setN (fun _=>none) 0 (some (⟨B,[]⟩:DirM)) i=some d:=r1
   by_cases e:i=0
   · rw [e,setN_same] at r1'
     cases r1'
     rw [r2];exact q5
   · rw [setN_other _ _ e] at r1'
     cases r1'
theorem both_start {W w1 w2 w3:World}{tr m most:Nat}(hb1:Below W.heap.size W w1)(hn:NewT w1 w2 tr most)(hd:DM w3 w2.heap.size m (D0 most))(ho3:zQ w2 w3)(h1:1≤most)(h2:most≤300):Both W ((w3.alloc (zH 0 0)).alloc (.cells #[.slice (some ⟨w3.heap.size,0,none⟩) 1 1] 38)) w2.heap.size tr m (w3.heap.size+1) (D0 most) [(0,0)] 4:=by
 obtain ⟨T,P,R,ho2⟩:=hn;have hle:W.heap.size≤w1.heap.size:=hb1.size;have ho4:zQ w3 ((w3.alloc (zH 0 0)).alloc (.cells #[.slice (some ⟨w3.heap.size,0,none⟩) 1 1] 38)):=((Only.refl [] w3).alloc _).alloc _
 have hh:HandsAt ((w3.alloc (zH 0 0)).alloc (.cells #[.slice (some ⟨w3.heap.size,0,none⟩) 1 1] 38)) w2.heap.size (w3.heap.size+1) (.slice (some ⟨w3.heap.size,0,none⟩) 1 1) [(0,0)]:=by
  have e1:=zh (w3.alloc (zH 0 0)) (.cells #[.slice (some ⟨w3.heap.size,0,none⟩) 1 1] 38);rw [World.size_alloc] at e1;refine ⟨e1,World.ownsRow.alloc ?_ _⟩;have e2:=zh w3 (zH 0 0);exact ⟨rfl,Or.inr ⟨w3.heap.size,1,_,rfl,ho3.size,e2,Nat.le_refl _,by unfold maxLen;omega,rfl,rfl⟩⟩
 have ho:zQ w2 _:=zo ho3 ho4;have P':=P.only ho;refine ⟨⟨T,⟨P'.tree,fun k hk=>Nat.le_trans hle (P'.low k hk),P'.trt,Nat.le_trans hle P'.lo⟩,R⟩,hd.only ho4,D0_inv h1 h2,D0_inv h1 h2,(D0_bd most).mono (by omega),⟨_,hh⟩,?_,Nat.le_trans hle ho2.size,ho.size,Nat.le_trans hle (Nat.le_trans ho2.size (Nat.le_trans ho3.size (Nat.le_succ _)))⟩;exact hb1.trans ((zo ho2 ho).to_below hle (fun k hk=>by cases hk))
theorem IsTActs6.below {w w':World}{ad:Option Addr}{len:Nat}(h:IsTActs6 w ad len)(hb:Below w.heap.size w w'):IsTActs6 w' ad len:=by
 rcases h with h0 | ⟨ab,ao,P,h1,h2⟩
 · exact Or.inl h0
 · refine Or.inr ⟨ab,ao,P,h1,fun i hi=>?_⟩
   obtain ⟨p0,p1,p2,p3,p4,p5,p6⟩:=h2 i hi;have k:∀ (o:Nat) (u:Value),w.cell? ⟨ab,o,none⟩=some u→w'.cell? ⟨ab,o,none⟩=some u:=fun o u hc=>(hb.cell (p:=⟨ab,o,none⟩) (zv hc)).trans hc;exact ⟨k _ _ p0,k _ _ p1,k _ _ p2,k _ _ p3,k _ _ p4,k _ _ p5,p6⟩
theorem TActsAt6.below {w w':World}{ab ao len:Nat}{P:Nat→TActM}(h:TActsAt6 w ab ao len P)(hb:Below w.heap.size w w'):TActsAt6 w' ab ao len P:=fun i hi=>by
 obtain ⟨p0,p1,p2,p3,p4,p5,p6⟩:=h i hi;have k:∀ (o:Nat) (u:Value),w.cell? ⟨ab,o,none⟩=some u→w'.cell? ⟨ab,o,none⟩=some u:=fun o u hc=>(hb.cell (p:=⟨ab,o,none⟩) (zv hc)).trans hc;exact ⟨k _ _ p0,k _ _ p1,k _ _ p2,k _ _ p3,k _ _ p4,k _ _ p5,p6⟩
structure One6 (W w:World)(tr:Nat)(D:Dt)(B:Nat):Prop where
 prg:∃ T,Prg W.heap.size w tr T∧Rep T D
 I:DInv D
 bd:Bd D B
 below:Below W.heap.size W w
section
variable {W w w':World}{base tr m hb B:Nat}{D D':Dt}{hl:List (Nat×Nat)}{A:Nat→Addr}
theorem Pair6.one (h:Both W w base tr m hb D hl B):One6 W w tr D B:=⟨h.prg,h.I,h.bd,h.below⟩
theorem One6.only (h:One6 W w tr D B)(ho:zQ w w'):One6 W w' tr D B:=by
 obtain ⟨T,P,R⟩:=h.prg;exact ⟨⟨T,P.only ho,R⟩,h.I,h.bd,h.below.trans (ho.to_below h.below.size (fun k hk=>by cases hk))⟩
theorem One6.errs (h:One6 W w tr D B)(hE:Errs W A):Errs w A:=hE.below h.below (Nat.le_refl _)
theorem One6.list (h:One6 W w tr D B)(hE:Errs W A){N G:Int}{x:Dn}(hx:D.atZ N G=some x)(hK:x.K=2):∀ W1,zQ w W1→zK 14 #[zP tr,zG N G,zI 0,zI 60] W1 fun r w'=>∃ v,∃ n:Nat,r = .returned (.tuple #[v,zI n,.nilIface])∧EntV w' v x.es∧zQ W1 w':=fun W1 ho=>by
 obtain ⟨T,P,R⟩:=h.prg;refine (list_rep P R h.I (h.errs hE) (N:=N) (G:=G) (c:=0) (q:=60) (by decide) (by decide) W1 ho).mono fun r w' hh=>?_;obtain ⟨ho',h1 | ⟨_,h1,_⟩ | ⟨y,v,hy,_,_,_,h1,h2⟩⟩:=hh
 · exact absurd (dir_no hx hK) h1.1
 · omega
 · rw [hx] at hy
   cases hy
   have hl:=(h.I.rise x (atZ_some hx).1).2
   have e:((x.es.drop (min (0:Int).toNat x.es.length)).take (60:Int).toNat)=x.es:=by
    have e1:(0:Int).toNat=0:=rfl;have e2:(60:Int).toNat=60:=rfl;rw [e1,e2,Nat.zero_min,List.drop_zero,List.take_of_length_le hl]
   rw [e] at h1;exact ⟨v,_,h2,h1,ho'⟩
theorem One6.nodes (h:One6 W w tr D B):D.L.length≤300∧∀ W1,zQ w W1→zO 23 #[zP tr] W1 (zI D.L.length):=by
 obtain ⟨T,P,R⟩:=h.prg;refine ⟨?_,fun W1 ho=>?_⟩
 · have:=nos_len h.I.nos (fun x hx=>(h.I.lt x hx).1)
   have:=h.I.most;omega
 · have:=nodes_any W1 tr T (P.tree.only ho)
   rw [R.count h.I P.tree] at this;exact this
end
end
end Go.Proofs.YtkcabopgajlmdaaGreatDoor
