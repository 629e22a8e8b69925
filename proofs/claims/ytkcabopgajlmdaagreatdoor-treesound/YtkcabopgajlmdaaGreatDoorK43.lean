import Derived.Test.YtkcabopgajlmdaaGreatDoorK42
namespace Go.Proofs.YtkcabopgajlmdaaGreatDoor
section
open Go Go.RowKit Go.Deep Go.Maps
section
variable {w:World}{B tr:Nat}{T:Tr}{D:Dt}{A:Nat→Addr}{Bd:Nat}
def renArgs (tr:Nat)(N1 G1:Int)(s1:ByteArray)(N2 G2:Int)(s2:ByteArray):Array Value:=#[zP tr,zG N1 G1,.string s1,zG N2 G2,.string s2]
theorem firstV_code {l r:List (Option Addr)}{c:Nat}(hl:∀ o∈l,o=none)(hc:c≠0):firstV (l++oc A c::r)=some (A (c - 1)):=by
 induction l with
 | nil=>rw [List.nil_append,oc_some hc];rfl
 | cons o l ih =>
  rw [hl o List.mem_cons_self];exact ih fun q hq=>hl q (List.mem_cons_of_mem _ hq)
theorem rename_bad (P:Prg B w tr T)(R:Rep T D)(I:DInv D)(hE:Errs w A){N1 G1 N2 G2:Int}{s1 s2:ByteArray}{c:Nat}(h:RenE D N1 G1 N2 G2 s1 s2 c):
   zK 33 (renArgs tr N1 G1 s1 N2 G2 s2) w (Acts B w tr A D c):=by
 unfold renArgs;obtain ⟨n3,h3,c3⟩:=nameAny hE s1;obtain ⟨n4,h4,c4⟩:=nameAny hE s2;have c1:=dirC P R I hE N1 G1;have c2:=dirC P R I hE N2 G2
 have fin:∀ {k:Nat},k≠0→firstV [oc A (dirN D N1 G1),oc A (dirN D N2 G2),oc A n3,oc A n4]=some (A (k - 1))→zK 33 #[zP tr,zG N1 G1,.string s1,zG N2 G2,.string s2] w (Acts B w tr A D k):=fun hk hf =>
   (rename_err w tr N1 G1 N2 G2 s1 s2 _ _ _ _ _ c1 c2 c3 c4 hf).mono fun r w' hh=>Acts.same P R (by rw [code_some hk];exact hh.1) hh.2
 rcases h with ⟨h,rfl⟩ | ⟨h1,h,rfl⟩ | ⟨h1,h2,h,rfl⟩ | ⟨x,hx,hK,h2,ho1,ho2,hf,rfl⟩
 · exact fin h (firstV_code (l:=[]) (fun _ hq=>by cases hq) h)
 · exact fin h (by rw [h1];exact firstV_code (l:=[oc A 0]) (fun q hq=>by rw [List.mem_singleton.1 hq];rfl) h)
 · refine fin (by decide) ?_
   rw [h1,h2];rcases h3 with ⟨k3,rfl⟩ | ⟨k3,rfl⟩
   · rcases h4 with ⟨k4,rfl⟩ | ⟨k4,rfl⟩
     · exact (h.elim (fun q=>absurd k3 q) (fun q=>absurd k4 q))
     · rfl
   · rfl
 · obtain ⟨hm,rfl,rfl⟩:=atZ_some hx
   obtain ⟨b0,hd⟩:=(R.ds x hm).1 hK;exact (rename_none w tr T.db b0 A x.i x.c N2 G2 s1 s2 hE (dirYes P R I hE (dir_no hx hK)) (dirYes P R I hE h2) (nameYes hE ho1) (nameYes hE ho2) (lookNo P R hm hd (okSize ho1).1 hf)).mono fun r w' hh=>Acts.same P R hh.1 hh.2
theorem int_ne {a b:Nat}(h:a≠b):(a:Int)≠(b:Int):=fun e=>h (Int.ofNat_inj.1 e)
theorem rename_free (P:Prg B w tr T)(R:Rep T D)(I:DInv D)(hE:Errs w A)(hb:DB D Bd)(hB:Bd≤999000){a b y:Dn}{s1 s2:ByteArray}(ha:a∈D.L)(hbm:b∈D.L)(hbK:b.K=2)(hab:a.i≠b.i)(he:(⟨s1.data.toList,y.i,y.c⟩:Ent)∈a.es)(hy:y∈D.L)(ho1:OkN s1)(ho2:OkN s2)(hf:findE b.es s2.data.toList=none)(hl:b.es.length < 60)(hout:¬ InD D b.i b.c y.i y.c):
  DInv (renFree D a b ⟨s1.data.toList,y.i,y.c⟩ s2.data.toList)∧zK 33 (renArgs tr a.i a.c s1 b.i b.c s2) w (Acts B w tr A (renFree D a b ⟨s1.data.toList,y.i,y.c⟩ s2.data.toList) 0):=by
 have haK:=I.has_es ha he;have hby:b.i≠y.i:=fun k=>hout (by rw [same_no I.nos hbm hy k];exact ⟨0,rfl⟩);obtain ⟨T1,T2,T3,T4,I',R',d1,d2,d3,d4⟩:=move_free (tr:=tr) R I ha hbm hbK hab he hy hby ho1 ho2 hf hl (fun _ k=>hout (under_in I hbm hbK hy k)) (hb.c hB ha) (hb.c hB hbm);obtain ⟨b1,hd1⟩:=(R.ds a ha).1 haK;obtain ⟨b2,hd2⟩:=(R.ds b hbm).1 hbK;have s2':∀ B,SubT B T T2:=fun B=>(d1.1 B).trans (d2.1 B);have s3':∀ B,SubT B T T3:=fun B=>(s2' B).trans (d3.1 B);refine ⟨I',?_⟩;unfold renArgs
 exact (rename_free_go w tr T.db b1 b2 a.i a.c b.i b.c s1 s2 y.i y.c 0 0 T.blocks (fun w'=>TreeAt w' tr T1) (fun w'=>TreeAt w' tr T2) (fun w'=>TreeAt w' tr T3) (fun w'=>TreeAt w' tr T4) b.es.length (fun _=>hl)
  (dirYes P R I hE (dir_no (atZ_of I.nos ha (isB_iff.2 ⟨rfl,rfl⟩)) haK)) (dirYes P R I hE (dir_no (atZ_of I.nos hbm (isB_iff.2 ⟨rfl,rfl⟩)) hbK)) (nameYes hE ho1) (nameYes hE ho2)
  (lookYes P R ha hd1 (okSize ho1).1 (find_is (I.rise a ha).1 he)) (isOutC P R I hbm hbK hy hout) (lookNo P R hbm hd2 (okSize ho2).1 hf) (Or.inr (int_ne hab)) (lenC P hd2)
  (fun W ho=>d1.2 W (P.tree.only ho)) (fun W hW=>d2.later d1.1 P.tree W hW) (fun W hW=>d3.later s2' P.tree W hW) (fun _ W hW=>d4.later s3' P.tree W hW) (fun e=>absurd e (int_ne hab)) P.tree.blocks_lt).mono fun r w' hh=>Acts.go P (fun B=>(s3' B).trans (d4.1 B)) R' hh.1 hh.2.1 hh.2.2
theorem rename_own (P:Prg B w tr T)(R:Rep T D)(I:DInv D)(hE:Errs w A)(hb:DB D Bd)(hB:Bd≤999000){a y:Dn}{s1 s2:ByteArray}(ha:a∈D.L)(he:(⟨s1.data.toList,y.i,y.c⟩:Ent)∈a.es)(hy:y∈D.L)(ho1:OkN s1)(ho2:OkN s2)(hf:findE a.es s2.data.toList=none)(hout:¬ InD D a.i a.c y.i y.c):
  DInv (renOwn D a ⟨s1.data.toList,y.i,y.c⟩ s2.data.toList)∧zK 33 (renArgs tr a.i a.c s1 a.i a.c s2) w (Acts B w tr A (renOwn D a ⟨s1.data.toList,y.i,y.c⟩ s2.data.toList) 0):=by
 have haK:=I.has_es ha he;obtain ⟨T1,T2,T3,I',R',d1,d2,d3⟩:=move_own (tr:=tr) R I ha he hy ho1 ho2 hf (fun _ k=>hout (under_in I ha haK hy k)) (hb.c hB ha);obtain ⟨b1,hd1⟩:=(R.ds a ha).1 haK;have s2':∀ B,SubT B T T2:=fun B=>(d1.1 B).trans (d2.1 B);refine ⟨I',?_⟩;unfold renArgs
 exact (rename_free_go w tr T.db b1 b1 a.i a.c a.i a.c s1 s2 y.i y.c 0 0 T.blocks (fun w'=>TreeAt w' tr T1) (fun w'=>TreeAt w' tr T2) (fun w'=>TreeAt w' tr T3) (fun w'=>TreeAt w' tr T3) a.es.length (fun k=>absurd rfl k)
  (dirYes P R I hE (dir_no (atZ_of I.nos ha (isB_iff.2 ⟨rfl,rfl⟩)) haK)) (dirYes P R I hE (dir_no (atZ_of I.nos ha (isB_iff.2 ⟨rfl,rfl⟩)) haK)) (nameYes hE ho1) (nameYes hE ho2)
  (lookYes P R ha hd1 (okSize ho1).1 (find_is (I.rise a ha).1 he)) (isOutC P R I ha haK hy hout) (lookNo P R ha hd1 (okSize ho2).1 hf) (Or.inl ⟨rfl,rfl⟩) (lenC P hd1)
  (fun W ho=>d1.2 W (P.tree.only ho)) (fun W hW=>d2.later d1.1 P.tree W hW) (fun W hW=>d3.later s2' P.tree W hW) (fun k=>absurd rfl k) (fun _ _ h=>h) P.tree.blocks_lt).mono fun r w' hh=>Acts.go P (fun B=>(s2' B).trans (d3.1 B)) R' hh.1 hh.2.1 hh.2.2
theorem over_none (R:Rep T D){y z:Dn}(hy:y∈D.L)(hz:z∈D.L)(hk:y.K=1∨y.K=2)(hK:y.K=z.K)(hes:z.es=[]):overE T A y.i z.i=none:=by
 unfold overE
 have hl:T.len z.i=0:=by
   unfold Tr.len;rcases hk with k | k
   · rw [(R.ds z hz).2 (hK ▸ k)];rfl
   · obtain ⟨b,hb⟩:=(R.ds z hz).1 (hK ▸ k)
     rw [hb,hes];rfl
 rcases hk with k | k
 · rw [(R.ds y hy).2 k,(R.ds z hz).2 (hK ▸ k),hl]
   rfl
 · obtain ⟨b,hb⟩:=(R.ds y hy).1 k
   obtain ⟨b',hb'⟩:=(R.ds z hz).1 (hK ▸ k);rw [hb,hb',hl];rfl
theorem overC (P:Prg B w tr T)(R:Rep T D)(hE:Errs w A){y z:Dn}(hy:y∈D.L)(hz:z∈D.L){o:Option Addr}(ho:overE T A y.i z.i=o):∀ W,zQ w W→zO 65 #[zP tr,zG y.i y.c,zG z.i z.c] W (errO o):=fun W hW=>by
 have h:=P.tree.only hW;obtain ⟨ny,hny,_⟩:=R.nd y hy;obtain ⟨nz,hnz,_⟩:=R.nd z hz;have:=over_any _ _ _ _ _ _ h (errs_only hE hW) (h.tab.lt hny) (h.tab.lt hnz);rw [ho,R.g y hy,R.g z hz] at this;exact this
theorem rename_overs (P:Prg B w tr T)(R:Rep T D)(I:DInv D)(hE:Errs w A)(hb:DB D Bd)(hB:Bd≤999000){a b y z:Dn}{s1 s2:ByteArray}(ha:a∈D.L)(hbm:b∈D.L)(he:(⟨s1.data.toList,y.i,y.c⟩:Ent)∈a.es)(hy:y∈D.L)(hf:(⟨s2.data.toList,z.i,z.c⟩:Ent)∈b.es)(hz:z∈D.L)(ho1:OkN s1)(ho2:OkN s2)(hzy:z≠y)(hK:y.K=z.K)(hes:z.es=[])(hout:¬ InD D b.i b.c y.i y.c):
   (a.i≠b.i→DInv (renOver D a b z ⟨s1.data.toList,y.i,y.c⟩ ⟨s2.data.toList,z.i,z.c⟩ s2.data.toList)∧zK 33 (renArgs tr a.i a.c s1 b.i b.c s2) w (Acts B w tr A (renOver D a b z ⟨s1.data.toList,y.i,y.c⟩ ⟨s2.data.toList,z.i,z.c⟩ s2.data.toList) 0)) ∧
   (a=b→DInv (renOverOwn D a z ⟨s1.data.toList,y.i,y.c⟩ ⟨s2.data.toList,z.i,z.c⟩ s2.data.toList)∧zK 33 (renArgs tr a.i a.c s1 a.i a.c s2) w (Acts B w tr A (renOverOwn D a z ⟨s1.data.toList,y.i,y.c⟩ ⟨s2.data.toList,z.i,z.c⟩ s2.data.toList) 0)):=by
 have haK:=I.has_es ha he;have hbK:=I.has_es hbm hf;have hby:b.i≠y.i:=fun k=>hout (by rw [same_no I.nos hbm hy k];exact ⟨0,rfl⟩);have hbz:=I.not_self (y:=z) hbm hbK hf rfl
 have hza:z.i≠a.i:=fun k=>by
   rw [same_no I.nos hz ha k] at hes;rw [hes] at he
   cases he
 have hzyi:z.i≠y.i:=fun k=>hzy (same_no I.nos hz hy k)
 have hkz:z.K=1∨z.K=2:=by rcases I.kind z hz with ⟨k,_⟩ | ⟨k,_⟩;exact Or.inl k;exact Or.inr k
 have hki:((z.i:Nat):Nat)≠y.i:=hzyi;obtain ⟨T0,R0,d0⟩:=R.loseC (tr:=tr) I hbm hf hz hes (okSize ho2).1 (hb.c hB hz) (hb.g hB I hz);have I0:DInv ((D.turn b.i b.c (Dn.drop s2.data.toList)).lost z):=I.lostD hbm hf hz rfl rfl hes;have M:DMid (D.turn b.i b.c (Dn.drop s2.data.toList)) z.i:=I.dropped hbm hf;have hzX:z∈(D.turn b.i b.c (Dn.drop s2.data.toList)).L:=mem_turn_other hz (Ne.symm hbz);have hy0:y∈((D.turn b.i b.c (Dn.drop s2.data.toList)).lost z).L:=lost_mem M.nos hzX hkz M.all_held (mem_turn_other hy (Ne.symm hby)) (Ne.symm hzyi);have hb0:Dn.drop s2.data.toList b∈((D.turn b.i b.c (Dn.drop s2.data.toList)).lost z).L:=lost_mem M.nos hzX hkz M.all_held (mem_turn_same (f:=Dn.drop s2.data.toList) hbm) hbz;have hf0:findE (Dn.drop s2.data.toList b).es s2.data.toList=none:=find_drop_self _ _
 have hl0:(Dn.drop s2.data.toList b).es.length < 60:=by
   have h1:(dropE b.es s2.data.toList).length+1=b.es.length:=length_dropE (I.rise b hbm).1 hf;have h2:=(I.rise b hbm).2;show (dropE b.es s2.data.toList).length < 60;omega
 have hu0:¬ ((D.turn b.i b.c (Dn.drop s2.data.toList)).lost z).under y.i b.i:=fun k=>hout (under_in I hbm hbK hy (under_sub (fun x hx=>by
   obtain ⟨u,hu,u1,u2,u3⟩:=lost_back z hx;obtain ⟨v,hv,v1,v2,v3⟩:=drop_sub I.nos hbm _ u hu
   exact ⟨v,hv,v1.trans u1,v2.trans u2,fun q hq=>v3 q (by rw [u3];exact hq)⟩) k))
 obtain ⟨b1,hd1⟩:=(R.ds a ha).1 haK;obtain ⟨b2,hd2⟩:=(R.ds b hbm).1 hbK;have hov:=overC P R hE hy hz (over_none (A:=A) R hy hz (by rw [hK];exact hkz) hK hes)
 constructor
 · intro hab
   have ha0:a∈((D.turn b.i b.c (Dn.drop s2.data.toList)).lost z).L:=lost_mem M.nos hzX hkz M.all_held (mem_turn_other ha hab) (Ne.symm hza)
   obtain ⟨T1,T2,T3,T4,I',R',d1,d2,d3,d4⟩:=move_free (tr:=tr) R0 I0 ha0 hb0 hbK hab he hy0 hby ho1 ho2 hf0 hl0 (fun _=>hu0) (hb.c hB ha) (show 0≤b.C∧b.C≤9000000 from hb.c hB hbm)
   have heq:renFree ((D.turn b.i b.c (Dn.drop s2.data.toList)).lost z) a (Dn.drop s2.data.toList b) ⟨s1.data.toList,y.i,y.c⟩ s2.data.toList=renOver D a b z ⟨s1.data.toList,y.i,y.c⟩ ⟨s2.data.toList,z.i,z.c⟩ s2.data.toList:=by
    have h:=lost_over (s:=s2.data.toList) I ha he hbm hf hy hz rfl hzy hza (fun k=>absurd (by rw [k]) hab);unfold renFree renOver;rw [h];rfl
   rw [heq] at I' R';have s1':∀ B,SubT B T T1:=fun B=>(d0.1 B).trans (d1.1 B);have s2':∀ B,SubT B T T2:=fun B=>(s1' B).trans (d2.1 B);have s3':∀ B,SubT B T T3:=fun B=>(s2' B).trans (d3.1 B);refine ⟨I',?_⟩;unfold renArgs
   exact (rename_over_go w tr T.db b1 b2 a.i a.c b.i b.c s1 s2 y.i y.c z.i z.c T.blocks (fun w'=>TreeAt w' tr T0) (fun w'=>TreeAt w' tr T1) (fun w'=>TreeAt w' tr T2) (fun w'=>TreeAt w' tr T3) (fun w'=>TreeAt w' tr T4)
    (dirYes P R I hE (dir_no (atZ_of I.nos ha (isB_iff.2 ⟨rfl,rfl⟩)) haK)) (dirYes P R I hE (dir_no (atZ_of I.nos hbm (isB_iff.2 ⟨rfl,rfl⟩)) hbK)) (nameYes hE ho1) (nameYes hE ho2)
    (lookYes P R ha hd1 (okSize ho1).1 (find_is (I.rise a ha).1 he)) (isOutC P R I hbm hbK hy hout) (lookYes P R hbm hd2 (okSize ho2).1 (find_is (I.rise b hbm).1 hf)) (Or.inr (int_ne hab)) hki hov
    (fun W ho=>d0.2 W (P.tree.only ho)) (fun W hW=>d1.later d0.1 P.tree W hW) (fun W hW=>d2.later s1' P.tree W hW) (fun W hW=>d3.later s2' P.tree W hW) (fun _ W hW=>d4.later s3' P.tree W hW) (fun e=>absurd e (int_ne hab)) P.tree.blocks_lt).mono fun r w' hh=>Acts.go P (fun B=>(s3' B).trans (d4.1 B)) R' hh.1 hh.2.1 hh.2.2
 · intro hab
   subst hab
   have hne:s1.data.toList≠s2.data.toList:=fun k=>by
    have h1:=find_is (I.rise a ha).1 he;have h2:=find_is (I.rise a ha).1 hf;rw [k,h2] at h1;have h3:=congrArg Ent.i (Option.some.inj h1);exact hzyi h3
   have he0:(⟨s1.data.toList,y.i,y.c⟩:Ent)∈(Dn.drop s2.data.toList a).es:=List.mem_filter.2 ⟨he,by simpa using hne⟩
   obtain ⟨T1,T2,T3,I',R',d1,d2,d3⟩:=move_own (tr:=tr) R0 I0 hb0 he0 hy0 ho1 ho2 hf0 (fun _=>hu0) (show 0≤a.C∧a.C≤9000000 from hb.c hB ha)
   have heq:renOwn ((D.turn a.i a.c (Dn.drop s2.data.toList)).lost z) (Dn.drop s2.data.toList a) ⟨s1.data.toList,y.i,y.c⟩ s2.data.toList=renOverOwn D a z ⟨s1.data.toList,y.i,y.c⟩ ⟨s2.data.toList,z.i,z.c⟩ s2.data.toList:=by
    have h:=lost_over (s:=s2.data.toList) I ha he hbm hf hy hz rfl hzy hza (fun _=>he0);unfold renOwn renOverOwn;rw [h];rfl
   rw [heq] at I' R';have s1':∀ B,SubT B T T1:=fun B=>(d0.1 B).trans (d1.1 B);have s2':∀ B,SubT B T T2:=fun B=>(s1' B).trans (d2.1 B);refine ⟨I',?_⟩;unfold renArgs
   exact (rename_over_go w tr T.db b1 b1 a.i a.c a.i a.c s1 s2 y.i y.c z.i z.c T.blocks (fun w'=>TreeAt w' tr T0) (fun w'=>TreeAt w' tr T1) (fun w'=>TreeAt w' tr T2) (fun w'=>TreeAt w' tr T3) (fun w'=>TreeAt w' tr T3)
    (dirYes P R I hE (dir_no (atZ_of I.nos ha (isB_iff.2 ⟨rfl,rfl⟩)) haK)) (dirYes P R I hE (dir_no (atZ_of I.nos ha (isB_iff.2 ⟨rfl,rfl⟩)) haK)) (nameYes hE ho1) (nameYes hE ho2)
    (lookYes P R ha hd1 (okSize ho1).1 (find_is (I.rise a ha).1 he)) (isOutC P R I ha haK hy hout) (lookYes P R ha hd1 (okSize ho2).1 (find_is (I.rise a ha).1 hf)) (Or.inl ⟨rfl,rfl⟩) hki hov
    (fun W ho=>d0.2 W (P.tree.only ho)) (fun W hW=>d1.later d0.1 P.tree W hW) (fun W hW=>d2.later s1' P.tree W hW) (fun W hW=>d3.later s2' P.tree W hW) (fun k=>absurd rfl k) (fun _ _ h=>h) P.tree.blocks_lt).mono fun r w' hh=>Acts.go P (fun B=>(s2' B).trans (d3.1 B)) R' hh.1 hh.2.1 hh.2.2
theorem found {l:List Ent}{s:ByteArray}{e:Ent}{y:Dn}(hf:findE l s.data.toList=some e)(hi:y.i=e.i)(hc:y.c=e.c):e=⟨s.data.toList,y.i,y.c⟩∧e∈l:=by
 obtain ⟨k,hk,hs⟩:=findE_idx hf;obtain ⟨es,ei,ec⟩:=e;simp only at hs hi hc;subst hs hi hc;exact ⟨rfl,List.mem_of_getElem? hk⟩
theorem rename_rep (P:Prg B w tr T)(R:Rep T D)(I:DInv D)(hE:Errs w A)(hb:DB D Bd)(hB:Bd≤999000){N1 G1 N2 G2:Int}{s1 s2:ByteArray}{c:Nat}{D':Dt}(h:RenR D N1 G1 N2 G2 s1 s2 c D'):
   DInv D'∧zK 33 (renArgs tr N1 G1 s1 N2 G2 s2) w (Acts B w tr A D' c):=by
 rcases h with ⟨h,rfl⟩ | ⟨a,b,e,y,ha,haK,hbz,hbK,ho1,ho2,hf,hy,hyi,hyc,h⟩
 · exact ⟨I,rename_bad P R I hE h⟩
 obtain ⟨ham,rfl,rfl⟩:=atZ_some ha;obtain ⟨hbm,rfl,rfl⟩:=atZ_some hbz;obtain ⟨rfl,he⟩:=found hf hyi hyc;clear hyi hyc;obtain ⟨b1,hd1⟩:=(R.ds a ham).1 haK;obtain ⟨b2,hd2⟩:=(R.ds b hbm).1 hbK;have k1:=dirYes P R I hE (dir_no ha haK);have k2:=dirYes P R I hE (dir_no hbz hbK);have k5:=lookYes P R ham hd1 (okSize ho1).1 hf;rcases h with ⟨_,hin,rfl,rfl⟩ | ⟨hout,h⟩
 · refine ⟨I,?_⟩
   unfold renArgs;exact (rename_in w tr T.db b1 A a.i a.c b.i b.c s1 s2 y.i y.c hE k1 k2 (nameYes hE ho1) (nameYes hE ho2) k5 (isInC P R I hbm hbK hy (v:=true) ⟨fun _=>hin,fun _=>rfl⟩)).mono fun r w' hh=>Acts.same P R hh.1 hh.2
 replace hout:¬ InD D b.i b.c y.i y.c:=fun k=>hout (in_dir I hbm hbK hy k) k;have k6:=isOutC P R I hbm hbK hy hout;rcases h with ⟨hf2,hab,h60,rfl,rfl⟩ | ⟨hf2,hab,h60,rfl,rfl⟩ | ⟨hf2,rfl,rfl,rfl⟩ | ⟨f,z,hf2,hz,hzi,hzc,h⟩
 · refine ⟨I,?_⟩
   unfold renArgs;exact (rename_full w tr T.db b1 b2 A a.i a.c b.i b.c s1 s2 y.i y.c 0 0 b.es.length h60 hE k1 k2 (nameYes hE ho1) (nameYes hE ho2) k5 k6 (lookNo P R hbm hd2 (okSize ho2).1 hf2) (int_ne fun k=>hab (same_no I.nos ham hbm k)) (lenC P hd2)).mono fun r w' hh=>Acts.same P R hh.1 hh.2
 · exact rename_free P R I hE hb hB ham hbm hbK (fun k=>hab (same_no I.nos ham hbm k)) he hy ho1 ho2 hf2 h60 hout
 · exact rename_own P R I hE hb hB ham he hy ho1 ho2 hf2 hout
 obtain ⟨rfl,hfm⟩:=found hf2 hzi hzc;clear hzi hzc;have k7:=lookYes P R hbm hd2 (okSize ho2).1 hf2;have hgo:=rename_overs (B:=B) (tr:=tr) P R I hE hb hB ham hbm he hy hfm hz ho1 ho2
 have hbad:∀ {k:Nat},k≠0→z≠y→overE T A y.i z.i=some (A (k - 1))→zK 33 (renArgs tr a.i a.c s1 b.i b.c s2) w (Acts B w tr A D k):=fun hk hzy ho=>by
   unfold renArgs;exact (rename_over w tr T.db b1 b2 a.i a.c b.i b.c s1 s2 y.i y.c z.i z.c _ k1 k2 (nameYes hE ho1) (nameYes hE ho2) k5 k6 k7 (fun e=>hzy (same_no I.nos hz hy e)) (overC P R hE hy hz ho)).mono fun r w' hh=>Acts.same P R (by rw [code_some hk];exact hh.1) hh.2
 rcases h with ⟨rfl,rfl,rfl⟩ | ⟨hzy,hy1,hz2,rfl,rfl⟩ | ⟨hzy,hy2,hz1,rfl,rfl⟩ | ⟨hzy,hy2,hz2,hes,rfl,rfl⟩ | ⟨hzy,hK,hes,hab,rfl,rfl⟩ | ⟨hzy,hK,hes,rfl,rfl,rfl⟩
 · refine ⟨I,?_⟩
   unfold renArgs;exact (rename_same w tr T.db b1 b2 a.i a.c b.i b.c s1 s2 z.i z.c z.i z.c k1 k2 (nameYes hE ho1) (nameYes hE ho2) k5 k6 k7 rfl rfl).mono fun r w' hh=>Acts.same P R hh.1 hh.2
 · refine ⟨I,hbad (by decide) hzy ?_⟩
   obtain ⟨bz,hbz'⟩:=(R.ds z hz).1 hz2;unfold overE;rw [(R.ds y hy).2 hy1,hbz'];rfl
 · refine ⟨I,hbad (by decide) hzy ?_⟩
   obtain ⟨by',hby'⟩:=(R.ds y hy).1 hy2;unfold overE;rw [(R.ds z hz).2 hz1,hby'];rfl
 · refine ⟨I,hbad (by decide) hzy ?_⟩
   obtain ⟨by',hby'⟩:=(R.ds y hy).1 hy2;obtain ⟨bz,hbz'⟩:=(R.ds z hz).1 hz2
   have hl:0 < T.len z.i:=by
    unfold Tr.len;rw [hbz'];exact List.length_pos_iff.2 hes
   unfold overE;rw [hby',hbz'];simp [hl]
 · exact (hgo hzy hK hes hout).1 fun k=>hab (same_no I.nos ham hbm k)
 · exact (hgo hzy hK hes hout).2 rfl
end
section
variable {w:World}{B tr:Nat}{T:Tr}{D:Dt}{A:Nat→Addr}{Bd:Nat}
theorem look_rep (P:Prg B w tr T)(R:Rep T D)(I:DInv D)(hE:Errs w A){N G:Int}{s:ByteArray}{c i k:Nat}(h:LookR D N G s c i k):∀ W,zQ w W→zO 11 #[zP tr,zG N G,.string s] W (.tuple #[zG i k,codeE A c]):=by
 obtain ⟨n,hn,cn⟩:=nameAny hE s;have c1:=dirC P R I hE N G
 have fin:∀ {c:Nat},c≠0→firstV [oc A (dirN D N G),oc A n]=some (A (c - 1))→∀ W,zQ w W→zO 11 #[zP tr,zG N G,.string s] W (.tuple #[zG 0 0,codeE A c]):=fun hc hf W ho=>by
   rw [code_some hc];exact lookup_err W tr N G s _ _ _ (fun W' ho'=>c1 W' (zo ho ho')) (fun W' ho'=>cn W' (zo ho ho')) hf
 rcases h with ⟨h,rfl,rfl,rfl⟩ | ⟨h0,hs,rfl,rfl,rfl⟩ | ⟨x,hx,hK,ho,h⟩
 · exact fin h (firstV_code (l:=[]) (fun _ hq=>by cases hq) h)
 · refine fin (by decide) ?_
   rw [h0];rcases hn with ⟨k,_⟩ | ⟨_,rfl⟩
   · exact absurd k hs
   · rfl
 · obtain ⟨hm,rfl,rfl⟩:=atZ_some hx
   obtain ⟨b0,hd⟩:=(R.ds x hm).1 hK;obtain ⟨nx,hnx,nx1,_⟩:=R.nd x hm;have hg:=R.g x hm;rcases h with ⟨hf,rfl,rfl,rfl⟩ | ⟨e,hf,rfl,rfl,rfl⟩
   · intro W hW
     have:=lookup_none W tr T A x.i nx ⟨b0,x.es⟩ s (P.tree.only hW) (errs_only hE hW) hd hnx (nx1.trans hK) ho (okSize ho).1 hf;rw [hg] at this;exact this
   · intro W hW
     have:=lookup_ok W tr T A x.i nx ⟨b0,x.es⟩ s e (P.tree.only hW) (errs_only hE hW) hd hnx (nx1.trans hK) ho (okSize ho).1 hf;rw [hg] at this;exact this
theorem sweep_touch (X:Dt)(i c:Nat):(X.turn i c Dn.touched).sweep=X.sweep.turn i c Dn.touched:=by
 have hct:∀ a b,(X.turn i c Dn.touched).cnt a b=X.cnt a b:=fun a b=>cntL_quiet (f:=Dn.touched) _ (fun _=>rfl) _;have hdE:(X.turn i c Dn.touched).dirE=X.dirE:=funext fun e=>Dt.dirE_turn (f:=Dn.touched) (fun _=>⟨rfl,rfl⟩) (fun _=>rfl) e
 have hheld:(X.turn i c Dn.touched).held=X.held:=funext fun x=>by
  unfold Dt.held Dt.links;rw [hdE,hct]
 unfold Dt.sweep;rw [hheld];unfold Dt.turn;congr 1;show (turnL i c Dn.touched X.L).filter _=turnL i c Dn.touched (X.L.filter _);unfold turnL;rw [List.filter_map];congr 1;apply List.filter_congr;intro x _;show X.held (if x.is i c=true then Dn.touched x else x)=X.held x
 split<;>rfl
theorem lost_touch (X:Dt){z:Dn}{i c:Nat}(h:i≠z.i):(X.turn i c Dn.touched).lost z=(X.lost z).turn i c Dn.touched:=by
 have kt:∀ x,(Dn.touched x).i=x.i∧(Dn.touched x).c=x.c:=fun _=>⟨rfl,rfl⟩;unfold Dt.lost
 split
 · exact gone_comm _ kt
 · rw [turn_comm kt kt h,sweep_touch]
theorem lost_left (D:Dt){x z:Dn}{s:List UInt8}(h:x.i≠z.i):(D.turn x.i x.c (Dn.left s)).lost z=((D.turn x.i x.c (Dn.drop s)).lost z).turn x.i x.c Dn.touched:=by
 have:D.turn x.i x.c (Dn.left s)=(D.turn x.i x.c (Dn.drop s)).turn x.i x.c Dn.touched:=(turn_turn (f:=Dn.drop s) (g:=Dn.touched) fun _=>⟨rfl,rfl⟩).symm;rw [this,lost_touch _ h]
theorem lenOfD (P:Prg B w tr T)(R:Rep T D){y:Dn}(hy:y∈D.L)(hk:y.K=1∧y.es=[]∨y.K=2):∃ o,∀ W,zQ w W→W.cell? (zA tr 1)=some (.map (some T.db))∧(Instr.lookup 102 (.map (some T.db)) (zG y.i y.c) false).run Tryz.prog W = .ok (.map o) W∧(Builtin.len_ #[101] 3 #[.map o]).run Tryz.prog W = .ok (zI y.es.length) W:=by
 obtain ⟨n,hn,_⟩:=R.nd y hy;obtain ⟨o,h⟩:=look_len P.tree (P.tree.tab.lt hn)
 have e:T.len y.i=y.es.length:=by
  unfold Tr.len;rcases hk with ⟨k,e⟩ | k
  · rw [(R.ds y hy).2 k,e];rfl
  · obtain ⟨b,hb⟩:=(R.ds y hy).1 k
    rw [hb];rfl
 rw [e,R.g y hy] at h;exact ⟨o,h⟩
def remArgs (tr:Nat)(N G:Int)(s:ByteArray):Array Value:=#[zP tr,zG N G,.string s]
theorem remove_rep (P:Prg B w tr T)(R:Rep T D)(I:DInv D)(hE:Errs w A)(hb:DB D Bd)(hB:Bd≤999000){N G:Int}{s:ByteArray}{c:Nat}{D':Dt}(h:RemR D N G s c D'):
   DInv D'∧zK 31 (remArgs tr N G s) w (Acts B w tr A D' c):=by
 unfold remArgs;rcases h with ⟨i,k,hl,hc,rfl⟩ | ⟨x,e,y,hx,hK,ho,hf,hy,hyi,hyc,h⟩
 · refine ⟨I,?_⟩
   have hlk:=look_rep P R I hE hl;rw [code_some hc] at hlk;exact (remove_err w tr N G s i k _ hlk).mono fun r w' hh=>Acts.same P R (by rw [code_some hc];exact hh.1) hh.2
 · obtain ⟨hm,rfl,rfl⟩:=atZ_some hx
   obtain ⟨rfl,he⟩:=found hf hyi hyc;clear hyi hyc;have hlk:=look_rep P R I hE (Or.inr (Or.inr ⟨x,hx,hK,ho,Or.inr ⟨_,hf,rfl,rfl,rfl⟩⟩):LookR D x.i x.c s 0 y.i y.c)
   have hky:y.K=1∧y.es=[]∨y.K=2:=by rcases I.kind y hy with k | ⟨k,_⟩;exact Or.inl k;exact Or.inr k
   obtain ⟨o,hlen⟩:=lenOfD P R hy hky;rcases h with ⟨hes,rfl,rfl⟩ | ⟨hes,rfl,rfl⟩
   · exact ⟨I,(remove_held w tr T.db x.i x.c s y.i y.c o _ _ (List.length_pos_iff.2 hes) (hE.cell 10 (by decide)) hlk hlen).mono fun r w' hh=>Acts.same P R hh.1 hh.2⟩
   · have hxy:=I.not_self (y:=y) hm hK he rfl
     have I':=I.removed hm he hy rfl rfl hes;have I0:DInv ((D.turn x.i x.c (Dn.drop s.data.toList)).lost y):=I.lostD hm he hy rfl rfl hes;obtain ⟨T0,R0,d0⟩:=R.loseC (tr:=tr) I hm he hy hes (okSize ho).1 (hb.c hB hy) (hb.g hB I hy);have M:DMid (D.turn x.i x.c (Dn.drop s.data.toList)) y.i:=I.dropped hm he;have hyX:y∈(D.turn x.i x.c (Dn.drop s.data.toList)).L:=mem_turn_other hy (Ne.symm hxy);have hx0:Dn.drop s.data.toList x∈((D.turn x.i x.c (Dn.drop s.data.toList)).lost y).L:=lost_mem M.nos hyX (by rcases I.kind y hy with ⟨k,_⟩ | ⟨k,_⟩;exact Or.inl k;exact Or.inr k) M.all_held (mem_turn_same (f:=Dn.drop s.data.toList) hm) hxy
     obtain ⟨T1,R1,d1⟩:=R0.touchC (tr:=tr) I0 hx0 (show 0≤x.C∧x.C≤9000000 from hb.c hB hm)
     have heq:(D.turn x.i x.c (Dn.left s.data.toList)).lost y=((D.turn x.i x.c (Dn.drop s.data.toList)).lost y).turn x.i x.c Dn.touched:=lost_left D hxy;refine ⟨I',?_⟩;have hlen0:=hlen;rw [hes] at hlen0;exact (remove_go w tr T.db x.i x.c s y.i y.c o T.blocks (fun w'=>TreeAt w' tr T0) (fun w'=>TreeAt w' tr T1) hlk hlen0 (fun W hW=>d0.2 W (P.tree.only hW)) (fun W hW=>d1.later d0.1 P.tree W hW) P.tree.blocks_lt).mono fun r w' hh=>Acts.go P (fun B=>(d0.1 B).trans (d1.1 B)) (by rw [heq];exact R1) hh.1 hh.2.1 hh.2.2
theorem attrC (P:Prg B w tr T)(R:Rep T D)(I:DInv D)(hE:Errs w A)(N G:Int):∃ K Z L C UN UG c,((D.atZ N G=none∧c=10)∨∃ y n,D.atZ N G=some y∧T.nd y.i=some n∧K=y.K∧L=n.L∧c=0)∧∀ W,zQ w W→zO 52 #[zP T.t,zG N G] W (.tuple #[.agg #[zI K,zI Z,zI L,zI C,zI UN,zI UG],errO (oc A c)]):=by
 obtain ⟨K,Z,L,C,UN,UG,o,h,hc⟩:=tattr_any P.tree hE (R.kinds I) N G
 cases ha:D.atZ N G with
 | none =>
  have hs:=R.at_none ha;rcases h with ⟨i,n,h1,h2,h3,_⟩ | ⟨_,rfl,_⟩
  · exact absurd h2 (hs i n h1 h3)
  · exact ⟨K,Z,L,C,UN,UG,10,Or.inl ⟨rfl,rfl⟩,hc⟩
 | some y =>
  obtain ⟨hy,h1,h2⟩:=R.at_some ha;obtain ⟨n',hn',hK,_⟩:=R.nd y hy;rcases h with ⟨i,n,e1,e2,e3,rfl,rfl,_,rfl,_⟩ | ⟨hs,_⟩
  · have:i=y.i:=Int.ofNat_inj.1 (e1.symm.trans h1)
    subst this;rw [hn'] at e3
    cases e3
    exact ⟨_,Z,_,C,UN,UG,0,Or.inr ⟨y,n',rfl,hn',hK,rfl,rfl⟩,hc⟩
  · exact absurd hs (R.not_stale ha)
def linkArgs (tr:Nat)(N G M F:Int)(s:ByteArray):Array Value:=#[zP tr,zG N G,zG M F,.string s]
theorem link_rep (P:Prg B w tr T)(R:Rep T D)(I:DInv D)(hE:Errs w A)(hb:DB D Bd)(hB:Bd≤999000){N G M F:Int}{s:ByteArray}{c:Nat}{D':Dt}(h:LinkR D N G M F s c D'):
   DInv D'∧zK 29 (linkArgs tr N G M F s) w (Acts B w tr A D' c):=by
 unfold linkArgs;obtain ⟨K,Z,L,C,UN,UG,ca,hat,hac⟩:=attrC P R I hE N G;obtain ⟨n,hn,cn⟩:=nameAny hE s;have c2:=dirC P R I hE M F
 have fin:∀ {c:Nat},c≠0→firstV [oc A ca,oc A (dirN D M F),oc A n]=some (A (c - 1))→zK 29 #[zP tr,zG N G,zG M F,.string s] w (Acts B w tr A D c):=fun hc hf =>
   (link_err w tr T.t N G M F K Z L C UN UG s _ _ _ _ P.tree.c0 hac c2 cn hf).mono fun r w' hh=>Acts.same P R (by rw [code_some hc];exact hh.1) hh.2
 rcases h with ⟨h0,rfl,rfl⟩ | ⟨y,hy,h⟩
 · refine ⟨I,fin (by decide) ?_⟩
   rcases hat with ⟨_,rfl⟩ | ⟨y,_,k,_⟩
   · rfl
   · rw [h0] at k;cases k
 · obtain ⟨ny,hny,hKy,hLy,rfl⟩:∃ n,T.nd y.i=some n∧K=y.K∧L=n.L∧ca=0:=by
     rcases hat with ⟨k,_⟩ | ⟨y',n,k,h1,h2,h3,h4⟩
     · rw [hy] at k;cases k
     · rw [hy] at k;cases k;exact ⟨n,h1,h2,h3,h4⟩
   obtain ⟨hym,rfl,rfl⟩:=atZ_some hy;rcases h with ⟨h,rfl,rfl⟩ | ⟨h0,hs,rfl,rfl⟩ | ⟨x,hx,hK,ho,h⟩
   · exact ⟨I,fin h (firstV_code (l:=[oc A 0]) (fun q hq=>by rw [List.mem_singleton.1 hq];rfl) h)⟩
   · refine ⟨I,fin (by decide) ?_⟩
     rw [h0];rcases hn with ⟨k,_⟩ | ⟨_,rfl⟩
     · exact absurd k hs
     · rfl
   · obtain ⟨hxm,rfl,rfl⟩:=atZ_some hx
     obtain ⟨b0,hd⟩:=(R.ds x hxm).1 hK;obtain ⟨nx,hnx,nx1,nx2,nx3,nx4,nx5,nx6⟩:=R.counted I hxm;have hgx:=R.g x hxm;have hgy:=R.g y hym;have k2:=dirYes P R I hE (dir_no hx hK);have k3:=nameYes hE ho
     have room:∀ {E:Nat},E < 15→(∀ W,zQ w W→zO 54 #[zP tr,zG x.i x.c,.string s] W (.iface 228 (.pointer (some (A E)))))→K=1→zK 29 #[zP tr,zG y.i y.c,zG x.i x.c,.string s] w (Acts B w tr A D (E+1)):=fun _ hr hK1 =>
       (link_room w tr T.t y.i y.c x.i x.c K Z L C UN UG s _ hK1 P.tree.c0 hac k2 k3 hr).mono fun r w' hh=>Acts.same P R (by rw [code_some (Nat.succ_ne_zero _)];exact hh.1) hh.2
     have kyn:y.K≠2→y.K=1:=fun q=>by rcases I.kind y hym with ⟨k,_⟩ | ⟨k,_⟩;exact k;exact absurd k q
     have links:y.K=1→D.links y=D.cnt y.i y.c:=fun q=>by unfold Dt.links;rw [if_neg (by omega)]
     have hl60:=(I.rise x hxm).2;rcases h with ⟨hy2,rfl,rfl⟩ | ⟨hy2,hf,rfl,rfl⟩ | ⟨hy2,hf,hfull,rfl,rfl⟩ | ⟨hy2,hf,hl,h8,rfl,rfl⟩
     · exact ⟨I,(link_dir w tr T.t y.i y.c x.i x.c K Z L C UN UG s A hE (hKy.trans hy2) P.tree.c0 hac k2 k3).mono fun r w' hh=>Acts.same P R hh.1 hh.2⟩
     · obtain ⟨e,he⟩:∃ e,findE x.es s.data.toList=some e:=by
         cases q:findE x.es s.data.toList with
         | none=>exact absurd q hf
         | some e=>exact ⟨e,rfl⟩
       refine ⟨I,room (E:=5) (by decide) (fun W hW=>?_) (hKy.trans (kyn hy2))⟩;have:=room_exist W tr T x.i ⟨b0,x.es⟩ s _ e (P.tree.only hW) hd (okSize ho).1 ((errs_only hE hW).cell 5 (by decide)) he;rw [hgx] at this;exact this
     · by_cases hx60:60≤x.es.length
       · refine ⟨I,room (E:=8) (by decide) (fun W hW=>?_) (hKy.trans (kyn hy2))⟩
         have:=room_full W tr T x.i ⟨b0,x.es⟩ s _ (P.tree.only hW) hd (okSize ho).1 ((errs_only hE hW).cell 8 (by decide)) hf hx60 (by show x.es.length≤1000;omega);rw [hgx] at this;exact this
       · have h8:=hfull.elim (fun q=>absurd q hx60) id
         rw [links (kyn hy2)] at h8;obtain ⟨n',n0,n1,n2,n3,n4,n5,n6⟩:=R.counted I hym;rw [hny] at n0
         cases n0
         have h8':=(I.files y hym (kyn hy2)).1;have:=link_full w tr T A x.i y.i nx ny ⟨b0,x.es⟩ s P.tree hE hd hnx (nx1.trans hK) hny (n1.trans (kyn hy2)) ho (okSize ho).1 hf (by show x.es.length < 60;omega) (by rw [(n5 (kyn hy2)).1];omega);rw [hgx,hgy] at this;exact ⟨I,this.mono fun r w' hh=>Acts.same P R hh.1 hh.2⟩
     · have h1:=kyn hy2
       rw [links h1] at h8;have hs24:=(okSize ho).2;have I':=I.linked hxm hym hK h1 hs24 (find_none_ne hf) hl (by omega);obtain ⟨n',n0,n1,n2,n3,n4,n5,n6⟩:=R.counted I hym;rw [hny] at n0
       cases n0
       have hCx:=hb.c hB hxm;have hCy:=hb.c hB hym;have:=link_ok w tr T A x.i y.i nx ny ⟨b0,x.es⟩ s P.tree hE hd hnx (nx1.trans hK) hny (n1.trans h1) ho (okSize ho).1 hf hl (by rw [nx2];omega) (by rw [n2];omega) (by rw [(n5 h1).1];omega) (R.live I P.tree hxm);simp only [hgx,hgy,dropE_none hf] at this;refine ⟨I',this.mono fun r w' hh=>?_⟩
       obtain ⟨p1,p2⟩:=P.go hh.2.1 hh.2.2 (fun k hk=>by
         simp only [List.mem_cons,List.not_mem_nil,or_false] at hk;rcases hk with rfl | rfl | rfl
         · exact P.tree.bd hd
         · exact P.tree.bn hny ny.b_foot
         · exact P.tree.bn hnx nx.b_foot) ⟨rfl,rfl,rfl,fun _ h=>Or.inl h,by refine NdS.put (NdS.put NdS.refl hnx ?_ ?_) hny ?_ ?_<;>rfl,by refine DsS.put DsS.refl hd ?_;rfl⟩
       refine ⟨_,hh.1,p1,?_,p2⟩;exact R.linked (b0:=b0) (na':={ nx with Z:=((insE ⟨s.data.toList,y.i,y.c⟩ x.es).length:Nat),L:=2+(dirsIn (insE ⟨s.data.toList,y.i,y.c⟩ x.es) (T.named x.i b0 (insE ⟨s.data.toList,y.i,y.c⟩ x.es)).ds:Int),C:=nx.C+1 }) (ny':={ ny with L:=ny.L+1,C:=ny.C+1 }) I hxm hym hK h1 I' hnx hny rfl rfl rfl (fun _=>rfl) (fun _=>rfl) rfl rfl rfl rfl rfl rfl rfl rfl rfl rfl rfl rfl rfl rfl rfl
end
def Makes (B:Nat)(w:World)(tr:Nat)(A:Nat→Addr)(D':Dt)(c i g:Nat)(r:Ending)(w':World):Prop:=∃ T',r = .returned (.tuple #[zG i g,codeE A c])∧Prg B w' tr T'∧Rep T' D'∧TreeW B w w'
section
variable {w:World}{B tr:Nat}{T:Tr}{D:Dt}{A:Nat→Addr}{Bd:Nat}
def makeArgs (tr:Nat)(N G:Int)(s:ByteArray)(K:Int):Array Value:=#[zP tr,zG N G,.string s,zI K]
theorem free_count (I:DInv D){i:Nat}(hi:i < D.most)(hfree:∀ y∈D.L,y.i≠i):D.L.length < D.most:=by
 have:=pig (l:=i::D.L.map (·.i)) (m:=List.range D.most) (List.nodup_cons.2 ⟨fun hm=>by
  obtain ⟨y,hy,e⟩:=List.mem_map.1 hm
  exact hfree y hy e,I.nos⟩) List.nodup_range (fun x hx=>List.mem_range.2 (by
  rcases List.mem_cons.1 hx with rfl | hx
  · exact hi
  · obtain ⟨y,hy,rfl⟩:=List.mem_map.1 hx
    exact (I.lt y hy).1))
 rw [List.length_cons,List.length_map,List.length_range] at this;omega
theorem all_count (h:∀ j,j < D.most→∃ y∈D.L,y.i=j)(I:DInv D):D.most≤D.L.length:=by
 have:=pig (l:=List.range D.most) (m:=D.L.map (·.i)) List.nodup_range I.nos (fun x hx=>by
  obtain ⟨y,hy,e⟩:=h x (List.mem_range.1 hx)
  exact List.mem_map.2 ⟨y,hy,e⟩)
 rw [List.length_map,List.length_range] at this;exact this
theorem make_rep (P:Prg B w tr T)(R:Rep T D)(I:DInv D)(hE:Errs w A)(hb:DB D Bd)(hB:Bd≤999000){N G:Int}{s:ByteArray}{K:Int}{c i g:Nat}{D':Dt}(h:MakeR D N G s K c i g D'):
   DInv D'∧zK 24 (makeArgs tr N G s K) w (Makes B w tr A D' c i g):=by
 unfold makeArgs;obtain ⟨n,hn,cn⟩:=nameAny hE s;have c1:=dirC P R I hE N G;have same:∀ {c:Nat} {r:Ending} {w':World},c≠0→r = .returned (.tuple #[zG 0 0,errV (A (c - 1))])→zQ w w'→Makes B w tr A D c 0 0 r w':=fun hc hr ho=>⟨T,by rw [code_some hc];exact hr,P.only ho,R,TreeW.none ho⟩
 have fin:∀ {c:Nat},c≠0→firstV [oc A (dirN D N G),oc A n]=some (A (c - 1))→zK 24 #[zP tr,zG N G,.string s,zI K] w (Makes B w tr A D c 0 0):=fun hc hf =>
   (create_err w tr N G K s _ _ _ c1 cn hf).mono fun r w' hh=>same hc hh.1 hh.2
 rcases h with ⟨h,rfl,rfl,rfl,rfl⟩ | ⟨h0,hs,rfl,rfl,rfl,rfl⟩ | ⟨x,hx,hKx,ho,h⟩
 · exact ⟨I,fin h (firstV_code (l:=[]) (fun _ hq=>by cases hq) h)⟩
 · refine ⟨I,fin (by decide) ?_⟩
   rw [h0];rcases hn with ⟨k,_⟩ | ⟨_,rfl⟩
   · exact absurd k hs
   · rfl
 · obtain ⟨hxm,rfl,rfl⟩:=atZ_some hx
   obtain ⟨b0,hd⟩:=(R.ds x hxm).1 hKx;obtain ⟨nx,hnx,nx1,nx2,nx3,nx4,nx5,nx6⟩:=R.counted I hxm;have hgx:=R.g x hxm;have k1:=dirYes P R I hE (dir_no hx hKx);have k2:=nameYes hE ho;have hl60:=(I.rise x hxm).2;have hCx:=hb.c hB hxm;rcases h with ⟨hK,rfl,rfl,rfl,rfl⟩ | ⟨hK,hf,rfl,rfl,rfl,rfl⟩ | ⟨hK,hf,hfull,rfl,rfl,rfl,rfl⟩ | ⟨hK,hf,hl,hi,hbelow,hfree,rfl,rfl,rfl⟩
   · exact ⟨I,(create_shape w tr x.i x.c K s A hE hK.1 hK.2 k1 k2).mono fun r w' hh=>same (c:=3) (by decide) hh.1 hh.2⟩
   · obtain ⟨e,he⟩:∃ e,findE x.es s.data.toList=some e:=by
       cases q:findE x.es s.data.toList with
       | none=>exact absurd q hf
       | some e=>exact ⟨e,rfl⟩
     refine ⟨I,(create_room w tr x.i x.c K s (A 5) hK k1 k2 fun W hW=>?_).mono fun r w' hh=>same (c:=6) (by decide) hh.1 hh.2⟩;have:=room_exist W tr T x.i ⟨b0,x.es⟩ s _ e (P.tree.only hW) hd (okSize ho).1 ((errs_only hE hW).cell 5 (by decide)) he;rw [hgx] at this;exact this
   · by_cases hx60:60≤x.es.length
     · refine ⟨I,(create_room w tr x.i x.c K s (A 8) hK k1 k2 fun W hW=>?_).mono fun r w' hh=>same (c:=9) (by decide) hh.1 hh.2⟩
       have:=room_full W tr T x.i ⟨b0,x.es⟩ s _ (P.tree.only hW) hd (okSize ho).1 ((errs_only hE hW).cell 8 (by decide)) hf hx60 (by show x.es.length≤1000;omega);rw [hgx] at this;exact this
     · have hall:=all_count (hfull.elim (fun q=>absurd q hx60) id) I
       refine ⟨I,(create_most w tr x.i x.c K s (A 8) hK k1 k2 (fun W hW=>?_) fun W hW=>add_most W tr T A K (P.tree.only hW) (errs_only hE hW) hK (by rw [R.count I P.tree,R.most];exact hall)).mono fun r w' hh=>same (c:=9) (by decide) hh.1 hh.2⟩;have:=room_free W tr T x.i ⟨b0,x.es⟩ s (P.tree.only hW) hd (okSize ho).1 hf (by show x.es.length < 60;omega);rw [hgx] at this;exact this
   · obtain ⟨gi,ndi,dsi,pni⟩:=R.t i hfree
     have hcnt:countTo T.nd T.p.N < T.most:=by rw [R.count I P.tree,R.most];exact free_count I hi hfree
     have hm:=I.most
     have hsome:∀ j,j < i→(T.nd j).isSome=true:=fun j hj=>by
       obtain ⟨y,hy,rfl⟩:=hbelow j hj;obtain ⟨ny,hny,_⟩:=R.nd y hy;rw [hny];rfl
     have I':=I.made hxm hKx (okSize ho).2 (find_none_ne hf) hl hi hfree hK;have hix:i≠x.i:=fun e=>hfree x hxm e.symm;refine ⟨I',?_⟩;rcases hK with rfl | rfl
     · have:=create_file w tr T A x.i i nx ⟨b0,x.es⟩ s P.tree hE hd hnx (nx1.trans hKx) (by rw [nx2];omega) ho (okSize ho).1 hf hl (R.live I P.tree hxm) (by omega) hcnt ndi hsome
       simp only [hgx,dropE_none hf,gi] at this;refine this.mono fun r w' hh=>?_;obtain ⟨hr,p',b,ht,hp1,hp2,hp3,hon⟩:=hh
       obtain ⟨q1,q2⟩:=P.go ht hon (fun k hk=>by
        simp only [List.mem_cons,Option.mem_toList] at hk;rcases hk with rfl | rfl | rfl | hk
        · exact P.tree.bd hd
        · exact P.tree.bn hnx nx.b_foot
        · exact bt
        · exact bp hk) ⟨rfl,rfl,rfl,hp3,by
          refine NdS.put (NdS.new NdS.refl fun k hk=>?_) hnx ?_ ?_
          · have e:k=b:=by simpa [newNod,Nod.foot,footD] using hk
            rw [e];exact hp2
          · rfl
          · rfl,by refine DsS.put DsS.refl hd ?_;rfl⟩
       refine ⟨_,hr,q1,?_,q2⟩
       exact R.made (b0:=b0) (B:=0) (nk:={ newNod b 1 with L:=1 }) (na':={ nx with Z:=((insE ⟨s.data.toList,i,D.t i⟩ x.es).length:Nat),L:=2+(dirsIn (insE ⟨s.data.toList,i,D.t i⟩ x.es) (T.named x.i b0 (insE ⟨s.data.toList,i,D.t i⟩ x.es)).ds:Int),C:=nx.C+1 }) I hxm hKx I' hfree hnx rfl rfl rfl (fun j=>by
          show setN T.ds x.i _ j=_
          by_cases e:j=x.i
          · rw [if_pos e,e,setN_same]
          · rw [if_neg e,setN_other _ _ e,if_neg (fun q=>by cases q.2)]) (fun j=>rfl) rfl rfl rfl rfl rfl rfl rfl rfl rfl rfl rfl rfl rfl (fun q=>by cases q) (fun _=>⟨rfl,rfl⟩)
     · have:=create_dir w tr T A x.i i nx ⟨b0,x.es⟩ s P.tree hE hd hnx (nx1.trans hKx) (by rw [nx2];omega) ho (okSize ho).1 hf hl (R.live I P.tree hxm) (by omega) hcnt ndi dsi hsome
       simp only [hgx,dropE_none hf,gi] at this;refine this.mono fun r w' hh=>?_;obtain ⟨hr,p',b,b3,ht,hp1,hp2,hp4,hp3,hon⟩:=hh
       obtain ⟨q1,q2⟩:=P.go ht hon (fun k hk=>by
        simp only [List.mem_cons,Option.mem_toList] at hk;rcases hk with rfl | rfl | rfl | rfl | hk
        · exact P.tree.bd hd
        · exact P.tree.bn hnx nx.b_foot
        · exact bdb
        · exact bt
        · exact bp hk) ⟨rfl,rfl,rfl,hp3,by
          refine NdS.put (NdS.new NdS.refl fun k hk=>?_) hnx ?_ ?_
          · have e:k=b:=by simpa [newNod,Nod.foot,footD] using hk
            rw [e];exact hp2
          · rfl
          · rfl,by refine DsS.put (DsS.new DsS.refl hp4) hd ?_;rfl⟩
       refine ⟨_,hr,q1,?_,q2⟩
       exact R.made (b0:=b0) (B:=b3) (nk:={ newNod b 2 with Z:=0,L:=2,UN:=(x.i:Int),UG:=(x.c:Int) }) (na':={ nx with Z:=((insE ⟨s.data.toList,i,D.t i⟩ x.es).length:Nat),L:=2+(dirsIn (insE ⟨s.data.toList,i,D.t i⟩ x.es) (setN (setN T.ds i (some ⟨b3,[]⟩)) x.i (some ⟨b0,insE ⟨s.data.toList,i,D.t i⟩ x.es⟩)):Int),C:=nx.C+1 }) I hxm hKx I' hfree hnx rfl rfl rfl (fun j=>by
          show setN (setN T.ds i _) x.i _ j=_
          by_cases e:j=x.i
          · rw [if_pos e,e,setN_same]
          · rw [if_neg e,setN_other _ _ e]
            by_cases e2:j=i
            · rw [if_pos ⟨e2,rfl⟩,e2,setN_same]
            · rw [if_neg (fun q=>e2 q.1),setN_other _ _ e2]) (fun j=>rfl) rfl rfl rfl rfl rfl rfl rfl rfl rfl rfl rfl rfl rfl (fun _=>⟨rfl,rfl,rfl⟩) (fun q=>by cases q)
theorem fileC (P:Prg B w tr T)(R:Rep T D)(I:DInv D)(hE:Errs w A)(N G:Int):∃ q,((fileN D N G≠0∧q=none)∨∃ y n,D.atZ N G=some y∧y.K=1∧fileN D N G=0∧T.nd y.i=some n∧q=some ⟨n.b,6,none⟩)∧∀ W,zQ w W→zO 68 #[zP T.t,zG N G] W (.tuple #[.pointer q,errO (oc A (fileN D N G))]):=by
 obtain ⟨o,q,h,hc⟩:=data_any P.tree hE (R.kinds I) N G
 cases ha:D.atZ N G with
 | none =>
  have hs:=R.at_none ha
  have e:fileN D N G=10:=by unfold fileN;rw [ha]
  rcases h with ⟨i,n,h1,h2,h3,_⟩ | ⟨i,n,h1,h2,h3,_⟩ | ⟨_,rfl,rfl⟩
  · exact absurd h2 (hs i n h1 h3)
  · exact absurd h2 (hs i n h1 h3)
  · rw [e]
    exact ⟨none,Or.inl ⟨by decide,rfl⟩,hc⟩
 | some y =>
  obtain ⟨hy,h1,h2⟩:=R.at_some ha;obtain ⟨n',hn',hK,_⟩:=R.nd y hy;rcases h with ⟨i,n,e1,e2,e3,e4,_,rfl,rfl⟩ | ⟨i,n,e1,e2,e3,e4,rfl,rfl⟩ | ⟨hs,_⟩
  · have:i=y.i:=Int.ofNat_inj.1 (e1.symm.trans h1)
    subst this;rw [hn'] at e3
    cases e3
    have k:y.K=1:=hK.symm.trans e4
    have e:fileN D N G=0:=by unfold fileN;rw [ha];exact if_pos k
    rw [e];exact ⟨_,Or.inr ⟨y,n',rfl,k,rfl,hn',rfl⟩,hc⟩
  · have:i=y.i:=Int.ofNat_inj.1 (e1.symm.trans h1)
    subst this;rw [hn'] at e3
    cases e3
    have k:y.K=2:=hK.symm.trans e4
    have e:fileN D N G=8:=by unfold fileN;rw [ha];exact if_neg (by omega)
    rw [e];exact ⟨_,Or.inl ⟨by decide,rfl⟩,hc⟩
  · exact absurd hs (R.not_stale ha)
theorem fileBad (P:Prg B w tr T)(R:Rep T D)(I:DInv D)(hE:Errs w A){N G:Int}(h:fileN D N G≠0):∀ W,zQ w W→zO 68 #[zP T.t,zG N G] W (.tuple #[.pointer none,errV (A (fileN D N G - 1))]):=by
 obtain ⟨q,hq,hc⟩:=fileC P R I hE N G;rcases hq with ⟨_,rfl⟩ | ⟨_,_,_,_,k,_⟩
 · rw [oc_some h] at hc
   exact hc
 · exact absurd k h
theorem fileYes (P:Prg B w tr T)(R:Rep T D)(I:DInv D)(hE:Errs w A){y:Dn}(hy:y∈D.L)(hK:y.K=1):∃ n,T.nd y.i=some n∧∀ W,zQ w W→zO 68 #[zP T.t,zG y.i y.c] W (.tuple #[.pointer (some ⟨n.b,6,none⟩),.nilIface]):=by
 have ha:=atZ_of I.nos hy (isB_iff.2 ⟨rfl,rfl⟩);obtain ⟨q,hq,hc⟩:=fileC P R I hE y.i y.c
 have e:fileN D y.i y.c=0:=by unfold fileN;rw [ha];exact if_pos hK
 rcases hq with ⟨k,_⟩ | ⟨y',n,h1,_,_,h2,rfl⟩
 · exact absurd e k
 · rw [ha] at h1
   cases h1
   rw [e] at hc;exact ⟨n,h2,hc⟩
theorem tree_writeF (w:World)(tr:Nat)(T:Tr)(i:Nat)(n:Nod)(a:Nat)(s:ByteArray)(h:TreeAt w tr T)(hn:T.nd i=some n)(hs:1≤s.size)(ha:a+s.size≤4096):
  zK 69 #[.pointer (some ⟨n.b,6,none⟩),zI a,.string s] w fun e w'=>e = .returned .nilIface∧(∃ m',TreeAt w' tr { T with nd:=setN T.nd i (some (n.wrote a s m')) }∧∀ k,k∈footD n.b m'→k∈n.foot∨w.heap.size≤k)∧Only n.foot w w':=by
 have hN:=h.tab.node i n hn;refine (dwriteO w n.b 6 n.S s n.H n.m a hN.d hs ha).mono ?_;rintro e w' ⟨he,m',hd,ho,hf,hr⟩
 have hsub:∀ k,k∈footD n.b m'→k∈n.foot∨w.heap.size≤k:=fun k hk=>by
  rcases List.mem_cons.1 hk with rfl | hk
  · exact Or.inl n.b_foot
  · exact hf k (by simpa using hk)
 exact ⟨he,⟨m',h.turn (n':=n.wrote a s m') hn rfl ⟨(hr 0 (by omega) (by omega)).trans hN.c0,(hr 1 (by omega) (by omega)).trans hN.c1,(hr 2 (by omega) (by omega)).trans hN.c2,(hr 3 (by omega) (by omega)).trans hN.c3,(hr 4 (by omega) (by omega)).trans hN.c4,(hr 5 (by omega) (by omega)).trans hN.c5,hd⟩ ho hsub,hsub⟩,ho⟩
theorem pn_same (R:Rep T D){x:Dn}(hx:x∈D.L):T.pn=setN T.pn x.i x.p:=by
 funext i
 by_cases e:i=x.i
 · rw [e,setN_same];exact R.pn x hx
 · rw [setN_other _ _ e]
def writeArgs (tr:Nat)(N G a:Int)(s:ByteArray):Array Value:=#[zP tr,zG N G,zI a,.string s]
theorem quietI (I:DInv D){f:Dn→Dn}(hf:∀ x,(f x).i=x.i∧(f x).c=x.c∧(f x).K=x.K∧(f x).es=x.es)(hp:∀ x,(f x).p=x.p)(i c:Nat):DInv (D.turn i c f):=I.quiet hf fun x hx _=>⟨fun k=>by
 rw [hp];rcases I.kind x hx with ⟨q,_⟩ | ⟨_,q⟩
 · omega
 · exact q,fun k=>by rw [hp];exact (I.files x hx k).2⟩
theorem write_rep (P:Prg B w tr T)(R:Rep T D)(I:DInv D)(hE:Errs w A)(hb:DB D Bd)(hB:Bd≤999000){N G a:Int}{s:ByteArray}(hs:s.size≤5000)(ha1:a < 9223372036854775808)(ha2 : -9223372036854775808≤a){c:Nat}{D':Dt}(h:WriteR D N G a s c D'):
   DInv D'∧zK 35 (writeArgs tr N G a s) w (Acts B w tr A D' c):=by
 unfold writeArgs;rcases h with ⟨h,rfl,rfl⟩ | ⟨y,hy,hK,h⟩
 · exact ⟨I,(fwrite_err w tr T.t N G _ none a s P.tree.c0 (fileBad P R I hE h)).mono fun r w' hh=>Acts.same P R (by rw [code_some h];exact hh.1) hh.2⟩
 · obtain ⟨hym,rfl,rfl⟩:=atZ_some hy
   obtain ⟨n,hn,hda⟩:=fileYes P R I hE hym hK;rcases h with ⟨hbad,rfl,rfl⟩ | ⟨h0,h1,hz,rfl,rfl⟩ | ⟨h0,h1,hz,rfl,rfl⟩
   · exact ⟨I,(fwrite_bad w tr T.t n.b y.i y.c (A 1) a s P.tree.c0 hda fun W hW=>(dwrite_boundO W n.b 6 s a _ ((errs_only hE hW).cell 1 (by decide)) hbad hs ha1 ha2).mono fun r w' hh=>⟨hh.1,by rw [← hh.2];exact Only.refl _ _⟩).mono fun r w' hh=>Acts.same P R hh.1 hh.2⟩
   · obtain rfl:=size0 hz
     obtain ⟨a',rfl⟩:=Int.eq_ofNat_of_zero_le h0;exact ⟨I,(fwrite_none w tr T.t n.b y.i y.c (a':Int) P.tree.c0 hda fun W _=>(dwrite_noneO W n.b 6 a' (by omega)).mono fun r w' hh=>⟨hh.1,by rw [← hh.2];exact Only.refl _ _⟩).mono fun r w' hh=>Acts.same P R hh.1 hh.2⟩
   · obtain ⟨a',rfl⟩:=Int.eq_ofNat_of_zero_le h0
     have hg:=R.g y hym;obtain ⟨n',n0,n1,n2,n3,n4,n5,n6⟩:=R.counted I hym;rw [hn] at n0
     cases n0
     have hC:=hb.c hB hym;have I':DInv (D.turn y.i y.c (Dn.wroteD a' s)):=quietI I (f:=Dn.wroteD a' s) (fun _=>⟨rfl,rfl,rfl,rfl⟩) (fun _=>rfl) _ _;refine ⟨I',?_⟩;refine (fwrite_go w tr T.t n.b y.i y.c (a':Int) s n.foot (fun w'=>∃ m',TreeAt w' tr { T with nd:=setN T.nd y.i (some (n.wrote a' s m')) }∧∀ k,k∈footD n.b m'→k∈n.foot∨w.heap.size≤k) (fun w'=>∃ m',TreeAt w' tr { T with nd:=setN T.nd y.i (some { n.wrote a' s m' with C:=n.C+1 }) }∧∀ k,k∈footD n.b m'→k∈n.foot∨w.heap.size≤k) hz P.tree.c0 hda (fun W hW=>?_) (fun W hW=>?_) (fun k hk hm=>P.tree.blocks_lt k hk (P.tree.bn hn hm))).mono fun r w' hh=>?_
     · refine (tree_writeF W tr T y.i n a' s (P.tree.only hW) hn hz (by omega)).mono fun r w' hh=>⟨hh.1,?_,hh.2.2⟩
       obtain ⟨m',h1,h2⟩:=hh.2.1;exact ⟨m',h1,fun k hk=>(h2 k hk).imp id fun q=>Nat.le_trans hW.size q⟩
     · obtain ⟨m',h1,h2⟩:=hW
       have:=touch_ok W tr _ y.i (n.wrote a' s m') h1 (setN_same _ _ _) (by show 0≤n.C∧n.C≤_;rw [n2];omega);have hg':({ T with nd:=setN T.nd y.i (some (n.wrote a' s m')) }:Tr).g y.i=y.c:=hg;rw [hg'] at this;refine this.mono fun r w' hh=>⟨hh.1,⟨m',?_,h2⟩,hh.2.2.mono fun i hi=>Or.inl (by rw [List.mem_singleton.1 hi];exact n.b_foot)⟩;have h3:=hh.2.1;simp only [setN_again] at h3;exact h3
     · obtain ⟨hr,⟨m',h1,h2⟩,ho⟩:=hh
       obtain ⟨q1,q2⟩:=P.go h1 ho (fun k hk=>P.tree.bn hn hk) ⟨rfl,rfl,rfl,fun _ h=>Or.inl h,fun q x hx=>by
        have hx':setN T.nd y.i (some { n.wrote a' s m' with C:=n.C+1 }) q=some x:=hx
        by_cases e:q=y.i
        · rw [e,setN_same] at hx'
          cases hx'
          exact Or.inl ⟨y.i,n,hn,h2⟩
        · rw [setN_other _ _ e] at hx'
          exact NdS.refl q x hx',DsS.refl⟩
       exact ⟨_,hr,q1,R.quiet (f:=Dn.wroteD a' s) (n':={ n.wrote a' s m' with C:=n.C+1 }) I hym (fun _=>⟨rfl,rfl⟩) (fun _=>rfl) (fun _=>rfl) hn rfl rfl rfl rfl (pn_same R hym) rfl (by show n.C+1=y.C+1;rw [n2]) (by show writeS n.S a' s=writeS y.S a' s;rw [n3]) (by show marksH n.H _ _=marksH y.H _ _;rw [n4]) rfl rfl rfl rfl,q2⟩
def sizeArgs (tr:Nat)(N G a:Int):Array Value:=#[zP tr,zG N G,zI a]
theorem resize_rep (P:Prg B w tr T)(R:Rep T D)(I:DInv D)(hE:Errs w A)(hb:DB D Bd)(hB:Bd≤999000){N G a:Int}{c:Nat}{D':Dt}(h:SizeR D N G a c D'):
   DInv D'∧zK 37 (sizeArgs tr N G a) w (Acts B w tr A D' c):=by
 unfold sizeArgs;rcases h with ⟨h,rfl,rfl⟩ | ⟨y,hy,hK,h⟩
 · exact ⟨I,(fresize_err w tr T.t N G _ none a P.tree.c0 (fileBad P R I hE h)).mono fun r w' hh=>Acts.same P R (by rw [code_some h];exact hh.1) hh.2⟩
 · obtain ⟨hym,rfl,rfl⟩:=atZ_some hy
   obtain ⟨n,hn,hda⟩:=fileYes P R I hE hym hK;rcases h with ⟨hbad,rfl,rfl⟩ | ⟨h0,h1,rfl,rfl⟩
   · exact ⟨I,(fresize_bad w tr T.t n.b y.i y.c (A 1) a P.tree.c0 hda fun W hW=>(dresize_boundO W n.b 6 a _ ((errs_only hE hW).cell 1 (by decide)) hbad).mono fun r w' hh=>⟨hh.1,by rw [← hh.2];exact Only.refl _ _⟩).mono fun r w' hh=>Acts.same P R hh.1 hh.2⟩
   · obtain ⟨a',rfl⟩:=Int.eq_ofNat_of_zero_le h0
     have hg:=R.g y hym;obtain ⟨n',n0,n1,n2,n3,n4,n5,n6⟩:=R.counted I hym;rw [hn] at n0
     cases n0
     have hC:=hb.c hB hym;have I':DInv (D.turn y.i y.c (Dn.sizedD a')):=quietI I (f:=Dn.sizedD a') (fun _=>⟨rfl,rfl,rfl,rfl⟩) (fun _=>rfl) _ _;refine ⟨I',?_⟩;refine (fresize_go w tr T.t n.b y.i y.c (a':Int) n.foot (fun w'=>TreeAt w' tr { T with nd:=setN T.nd y.i (some (n.sized a')) }) (fun w'=>TreeAt w' tr { T with nd:=setN T.nd y.i (some { n.sized a' with C:=n.C+1 }) }) P.tree.c0 hda (fun W hW=>tree_resize W tr T y.i n a' (P.tree.only hW) hn (by omega)) (fun W hW=>?_) (fun k hk hm=>P.tree.blocks_lt k hk (P.tree.bn hn hm))).mono fun r w' hh=>?_
     · have:=touch_ok W tr _ y.i (n.sized a') hW (setN_same _ _ _) (by show 0≤n.C∧n.C≤_;rw [n2];omega)
       have hg':({ T with nd:=setN T.nd y.i (some (n.sized a')) }:Tr).g y.i=y.c:=hg;rw [hg'] at this;refine this.mono fun r w' hh=>⟨hh.1,?_,hh.2.2.mono fun i hi=>Or.inl (by rw [List.mem_singleton.1 hi];exact n.b_foot)⟩;have h3:=hh.2.1;simp only [setN_again] at h3;exact h3
     · obtain ⟨hr,h1,ho⟩:=hh
       obtain ⟨q1,q2⟩:=P.go h1 ho (fun k hk=>P.tree.bn hn hk) ⟨rfl,rfl,rfl,fun _ h=>Or.inl h,by refine NdS.put NdS.refl hn ?_ ?_<;>rfl,DsS.refl⟩;exact ⟨_,hr,q1,R.quiet (f:=Dn.sizedD a') (n':={ n.sized a' with C:=n.C+1 }) I hym (fun _=>⟨rfl,rfl⟩) (fun _=>rfl) (fun _=>rfl) hn rfl rfl rfl rfl (pn_same R hym) rfl (by show n.C+1=y.C+1;rw [n2]) (by show resizeS n.S a'=resizeS y.S a';rw [n3]) (by show resizeH n.S n.H a'=resizeH y.S y.H a';rw [n3,n4]) rfl rfl rfl rfl,q2⟩
end
end
end Go.Proofs.YtkcabopgajlmdaaGreatDoor
