import Derived.Test.YtkcabopgajlmdaaGreatDoorK40
namespace Go.Proofs.YtkcabopgajlmdaaGreatDoor
section
open Go Go.RowKit Go.Deep Go.Maps
theorem cnt_drop (D:Dt){e:Ent}{x:Dn}(hn:(D.L.map (·.i)).Nodup)(hx:x∈D.L)(hr:RisingE x.es)(he:e∈x.es)(i c:Nat):(D.turn x.i x.c (Dn.drop e.s)).cnt i c+(if e.to i c then 1 else 0)=D.cnt i c:=by
 have h1:=cntL_turn (·.to i c) (Dn.drop e.s) hn hx;have h2:=filter_dropE (·.to i c) (rising_nodup hr) he;have h3:((Dn.drop e.s x).es.filter (·.to i c)).length=((dropE x.es e.s).filter (·.to i c)).length:=rfl;rw [h3] at h1;unfold Dt.cnt;show cntL _ (turnL _ _ _ _)+_=_;omega
theorem DInv.dropped {D:Dt}(h:DInv D){x:Dn}(hx:x∈D.L){e:Ent}(he:e∈x.es):DMid (D.turn x.i x.c (Dn.drop e.s)) e.i:=by
 have hm:∀ y∈(D.turn x.i x.c (Dn.drop e.s)).L,∃ z∈D.L,y.i=z.i∧y.c=z.c∧y.K=z.K∧y.p=z.p∧(y.es=z.es∨z=x∧y.es=dropE x.es e.s):=fun y hy=>by
   obtain ⟨z,hz,rfl⟩:=mem_turnL.1 hy;refine ⟨z,hz,?_⟩
   split
   · rename_i k
     have hzx:=same_no h.nos hz hx (is_iff.1 k).1;exact ⟨rfl,rfl,rfl,rfl,Or.inr ⟨hzx,by rw [hzx];rfl⟩⟩
   · exact ⟨rfl,rfl,rfl,rfl,Or.inl rfl⟩
 have hb:∀ z∈D.L,∃ y∈(D.turn x.i x.c (Dn.drop e.s)).L,y.i=z.i∧y.c=z.c∧y.K=z.K:=fun z hz=>by
   refine ⟨_,mem_turnL.2 ⟨z,hz,rfl⟩,?_⟩
   split<;>exact ⟨rfl,rfl,rfl⟩
 have hco:∀ i c,i≠e.i→(D.turn x.i x.c (Dn.drop e.s)).cnt i c=D.cnt i c:=fun i c hi=>by
   have:=cnt_drop D h.nos hx (h.rise x hx).1 he i c;rw [if_neg (fun q=>hi (to_iff.1 q).1.symm)] at this;exact this
 have hsub:∀ y∈(D.turn x.i x.c (Dn.drop e.s)).L,∀ z∈D.L,(y.es=z.es∨z=x∧y.es=dropE x.es e.s)→∀ q∈y.es,q∈z.es:=fun y _ z _ k q hq=>by
   rcases k with k | ⟨k1,k⟩
   · rw [k] at hq;exact hq
   · rw [k] at hq;rw [k1];exact mem_dropE hq
 refine ⟨h.most,by rw [show (D.turn x.i x.c (Dn.drop e.s)).L=turnL x.i x.c (Dn.drop e.s) D.L from rfl,turnL_nos (f:=Dn.drop e.s) (fun _=>rfl)];exact h.nos,fun y hy=>?_,?_,fun y hy=>?_,fun y hy=>?_,fun y hy q hq=>?_,fun y hy hk hY h0=>?_,fun y hy hk hY=>?_,?_⟩
 · obtain ⟨z,hz,e1,e2,_⟩:=hm y hy
   rw [e1,e2];exact h.lt z hz
 · obtain ⟨z,hz,e1,e2,e3⟩:=h.root
   obtain ⟨y,hy,d1,d2,d3⟩:=hb z hz;exact ⟨y,hy,d1.trans e1,d2.trans e2,d3.trans e3⟩
 · obtain ⟨z,hz,e1,e2,e3,e4,e5⟩:=hm y hy
   rw [e3,e4];rcases h.kind z hz with k | k
   · refine Or.inl ⟨k.1,?_⟩
     rcases e5 with e5 | ⟨e6,e5⟩
     · rw [e5];exact k.2
     · subst e6
       rw [k.2] at he
       cases he
   · exact Or.inr k
 · obtain ⟨z,hz,e1,e2,e3,e4,e5⟩:=hm y hy
   rcases e5 with e5 | ⟨e6,e5⟩
   · rw [e5];exact h.rise z hz
   · rw [e5]
     refine ⟨dropE_rising _ (h.rise x hx).1,Nat.le_trans (List.length_filter_le _ _) (h.rise x hx).2⟩
 · obtain ⟨z,hz,e1,e2,e3,e4,e5⟩:=hm y hy
   obtain ⟨k1,⟨v,hv,k2,k3⟩,k4⟩:=h.live z hz q (hsub y hy z hz e5 q hq);obtain ⟨v',hv',d1,d2,_⟩:=hb v hv;exact ⟨k1,⟨v',hv',d1.trans k2,d2.trans k3⟩,k4⟩
 · obtain ⟨z,hz,e1,e2,e3,e4,e5⟩:=hm y hy
   rw [e1] at hk h0;rw [e1,e2,hco _ _ hk];exact h.dirs z hz (e3 ▸ hY) h0
 · obtain ⟨z,hz,e1,e2,e3,e4,e5⟩:=hm y hy
   rw [e1] at hk;rw [e1,e2,e4,hco _ _ hk];exact h.files z hz (e3 ▸ hY)
 · obtain ⟨r,hr⟩:=h.rank
   refine ⟨r,fun y hy q hq ⟨v,hv,k1,k2⟩=>?_⟩;obtain ⟨z,hz,e1,e2,e3,e4,e5⟩:=hm y hy;obtain ⟨v',hv',d1,_,d3,_⟩:=hm v hv;rw [e1];exact hr z hz q (hsub y hy z hz e5 q hq) ⟨v',hv',d1.symm.trans k1,d3.symm.trans k2⟩
theorem cnt_ins (D:Dt)(e:Ent){x:Dn}(hn:(D.L.map (·.i)).Nodup)(hx:x∈D.L)(i c:Nat):cntL (·.to i c) (turnL x.i x.c (Dn.ins e) D.L)=D.cnt i c+if e.to i c then 1 else 0:=by
 have h1:=cntL_turn (·.to i c) (Dn.ins e) hn hx;have h2:=filter_insE (·.to i c) e x.es;have h3:((Dn.ins e x).es.filter (·.to i c)).length=((insE e x.es).filter (·.to i c)).length:=rfl;rw [h3,h2] at h1;unfold Dt.cnt;omega
theorem DMid.insd {D:Dt}{y:Dn}(h:DMid D y.i)(hy:y∈D.L)(hy0:y.i≠0){x:Dn}(hx:x∈D.L)(hK:x.K=2){s:List UInt8}(hs:s.length≤24)(hf:∀ e∈x.es,e.s≠s)(hl:x.es.length < 60)
   (hd:y.K=2→D.cnt y.i y.c=0∧¬ D.under y.i x.i) (hfl:y.K=1→D.cnt y.i y.c≤7):DInv (D.turn x.i x.c (Dn.ins ⟨s,y.i,y.c⟩)):=by
 have hm:∀ v∈(D.turn x.i x.c (Dn.ins ⟨s,y.i,y.c⟩)).L,∃ z∈D.L,v.i=z.i∧v.c=z.c∧v.K=z.K∧v.p=z.p∧(v.es=z.es∨z=x∧v.es=insE ⟨s,y.i,y.c⟩ x.es):=fun v hv=>by
   obtain ⟨z,hz,rfl⟩:=mem_turnL.1 hv;refine ⟨z,hz,?_⟩
   split
   · rename_i k
     have hzx:=same_no h.nos hz hx (is_iff.1 k).1;exact ⟨rfl,rfl,rfl,rfl,Or.inr ⟨hzx,by rw [hzx];rfl⟩⟩
   · exact ⟨rfl,rfl,rfl,rfl,Or.inl rfl⟩
 have hb:∀ z∈D.L,∃ v∈(D.turn x.i x.c (Dn.ins ⟨s,y.i,y.c⟩)).L,v.i=z.i∧v.c=z.c∧v.K=z.K:=fun z hz=>by
   refine ⟨_,mem_turnL.2 ⟨z,hz,rfl⟩,?_⟩
   split<;>exact ⟨rfl,rfl,rfl⟩
 have hc:∀ i c,(D.turn x.i x.c (Dn.ins ⟨s,y.i,y.c⟩)).cnt i c=D.cnt i c+if (⟨s,y.i,y.c⟩:Ent).to i c then 1 else 0:=fun i c=>cnt_ins D _ h.nos hx i c
 have hco:∀ i c,i≠y.i→(D.turn x.i x.c (Dn.ins ⟨s,y.i,y.c⟩)).cnt i c=D.cnt i c:=fun i c hi=>by
   rw [hc,if_neg (fun q=>hi (to_iff.1 q).1.symm)];rfl
 have hcy:(D.turn x.i x.c (Dn.ins ⟨s,y.i,y.c⟩)).cnt y.i y.c=D.cnt y.i y.c+1:=by rw [hc,if_pos (to_iff.2 ⟨rfl,rfl⟩)]
 refine ⟨h.most,by rw [show (D.turn x.i x.c (Dn.ins ⟨s,y.i,y.c⟩)).L=turnL x.i x.c (Dn.ins ⟨s,y.i,y.c⟩) D.L from rfl,turnL_nos (f:=Dn.ins ⟨s,y.i,y.c⟩) (fun _=>rfl)];exact h.nos,fun v hv=>?_,?_,fun v hv=>?_,fun v hv=>?_,fun v hv q hq=>?_,fun v hv hV h0=>?_,fun v hv hV=>?_,?_⟩
 · obtain ⟨z,hz,e1,e2,_⟩:=hm v hv
   rw [e1,e2];exact h.lt z hz
 · obtain ⟨z,hz,e1,e2,e3⟩:=h.root
   obtain ⟨v,hv,d1,d2,d3⟩:=hb z hz;exact ⟨v,hv,d1.trans e1,d2.trans e2,d3.trans e3⟩
 · obtain ⟨z,hz,e1,e2,e3,e4,e5⟩:=hm v hv
   rw [e3,e4];rcases e5 with e5 | ⟨e6,e5⟩
   · rw [e5];exact h.kind z hz
   · subst e6
     rcases h.kind z hz with k | k
     · omega
     · exact Or.inr k
 · obtain ⟨z,hz,e1,e2,e3,e4,e5⟩:=hm v hv
   rcases e5 with e5 | ⟨e6,e5⟩
   · rw [e5];exact h.rise z hz
   · rw [e5]
     exact ⟨insE_rising (h.rise x hx).1 hf,by rw [length_insE];omega⟩
 · obtain ⟨z,hz,e1,e2,e3,e4,e5⟩:=hm v hv
   have old:∀ z∈D.L,∀ q∈z.es,q.i≠0∧(∃ v∈(D.turn x.i x.c (Dn.ins ⟨s,y.i,y.c⟩)).L,v.i=q.i∧v.c=q.c)∧q.s.length≤24:=fun z hz q hq=>by
     obtain ⟨k1,⟨u,hu,k2,k3⟩,k4⟩:=h.live z hz q hq;obtain ⟨u',hu',d1,d2,_⟩:=hb u hu;exact ⟨k1,⟨u',hu',d1.trans k2,d2.trans k3⟩,k4⟩
   rcases e5 with e5 | ⟨e6,e5⟩
   · rw [e5] at hq
     exact old z hz q hq
   · rw [e5] at hq
     rcases mem_insE.1 hq with rfl | hq
     · obtain ⟨u',hu',d1,d2,_⟩:=hb y hy
       exact ⟨hy0,⟨u',hu',d1,d2⟩,hs⟩
     · exact old x hx q hq
 · obtain ⟨z,hz,e1,e2,e3,e4,e5⟩:=hm v hv
   rw [e1] at h0;rw [e1,e2]
   by_cases hi:z.i=y.i
   · obtain rfl:=same_no h.nos hz hy hi
     rw [hcy,(hd (e3 ▸ hV)).1]
   · rw [hco _ _ hi]
     exact h.dirs z hz hi (e3 ▸ hV) h0
 · obtain ⟨z,hz,e1,e2,e3,e4,e5⟩:=hm v hv
   rw [e1,e2,e4]
   by_cases hi:z.i=y.i
   · obtain rfl:=same_no h.nos hz hy hi
     have:=hfl (e3 ▸ hV);rw [hcy];exact ⟨by omega,Or.inl (by omega)⟩
   · rw [hco _ _ hi]
     exact h.files z hz hi (e3 ▸ hV)
 · obtain ⟨r,hr⟩:=h.rank
   rcases h.kind y hy with ⟨hk1,_⟩ | ⟨hk2,_⟩
   · refine ⟨r,fun v hv q hq ⟨u,hu,k1,k2⟩=>?_⟩
     obtain ⟨z,hz,e1,e2,e3,e4,e5⟩:=hm v hv;obtain ⟨u',hu',d1,_,d3,_⟩:=hm u hu;rw [e1];have old:∀ q∈z.es,q.i=u.i→r z.i < r q.i:=fun q hq k=>hr z hz q hq ⟨u',hu',d1.symm.trans k.symm,d3.symm.trans k2⟩;rcases e5 with e5 | ⟨e6,e5⟩
     · rw [e5] at hq
       exact old q hq k1.symm
     · rw [e5] at hq
       rcases mem_insE.1 hq with rfl | hq
       · have:=same_no h.nos hu' hy (d1.symm.trans k1)
         rw [this] at d3;omega
       · rw [e6] at old ⊢
         exact old q hq k1.symm
   · have hnu:=(hd hk2).2
     have hnew:∃ r':Nat→Nat,(∀ b,D.under y.i b→r' b=r b+r x.i+1)∧∀ b,¬ D.under y.i b→r' b=r b:=by
       classical
       exact ⟨fun b=>if D.under y.i b then r b+r x.i+1 else r b,fun b hb=>if_pos hb,fun b hb=>if_neg hb⟩
     obtain ⟨r',hy1,hy2⟩:=hnew
     have hge:∀ b,r b≤r' b:=fun b=>by
       by_cases hu:D.under y.i b
       · rw [hy1 b hu];omega
       · rw [hy2 b hu];omega
     refine ⟨r',fun v hv q hq ⟨u,hu,k1,k2⟩=>?_⟩;obtain ⟨z,hz,e1,e2,e3,e4,e5⟩:=hm v hv;obtain ⟨u',hu',d1,_,d3,_⟩:=hm u hu;rw [e1]
     have old:∀ z∈D.L,∀ q∈z.es,q.i=u.i→r' z.i < r' q.i:=fun z hz q hq k=>by
       have h1:=hr z hz q hq ⟨u',hu',d1.symm.trans k.symm,d3.symm.trans k2⟩
       by_cases hu2:D.under y.i z.i
       · have h3:D.under y.i q.i:=Dt.under_edge hu2 ⟨z,hz,rfl,q,hq,rfl,u',hu',d1.symm.trans k.symm,d3.symm.trans k2⟩
         rw [hy1 _ hu2,hy1 _ h3];omega
       · rw [hy2 _ hu2]
         have:=hge q.i;omega
     rcases e5 with e5 | ⟨e6,e5⟩
     · rw [e5] at hq
       exact old z hz q hq k1.symm
     · rw [e5] at hq
       rw [e6];rcases mem_insE.1 hq with rfl | hq
       · show r' x.i < r' y.i
         rw [hy2 _ hnu,hy1 _ (D.under_self y.i)];omega
       · exact old x hx q hq k1.symm
theorem DInv.lostD {D:Dt}(h:DInv D){x:Dn}(hx:x∈D.L){e:Ent}(he:e∈x.es){y:Dn}(hy:y∈D.L)(hi:y.i=e.i)(hc:y.c=e.c)(hes:y.es=[]):DInv ((D.turn x.i x.c (Dn.drop e.s)).lost y):=by
 have hM:=h.dropped hx he;rw [← hi] at hM
 have hyx:y.i≠x.i:=fun k=>by
   rw [same_no h.nos hy hx k] at hes;rw [hes] at he
   cases he
 have hy2:y∈(D.turn x.i x.c (Dn.drop e.s)).L:=mem_turn_other hy hyx
 have hy0:y.i≠0:=by rw [hi];exact (h.live x hx e he).1
 have hcnt:=cnt_drop D h.nos hx (h.rise x hx).1 he y.i y.c;rw [if_pos (to_iff.2 ⟨hi.symm,hc.symm⟩)] at hcnt;unfold Dt.lost
 split
 · rename_i hK
   refine hM.gone hy2 hy0 hes fun c=>?_
   by_cases e1:c=y.c
   · rw [e1]
     have:=h.dirs y hy hK hy0;omega
   · exact cnt_other_times hM hy2 e1
 · rename_i hK
   have hK1:y.K=1:=by
     rcases h.kind y hy with ⟨k,_⟩ | ⟨k,_⟩
     · exact k
     · exact absurd k hK
   have hT:=hM.touched (i:=y.i) (c:=y.c);have hty:Dn.touched y∈((D.turn x.i x.c (Dn.drop e.s)).turn y.i y.c Dn.touched).L:=mem_turn_same hy2;have hct:∀ a b,((D.turn x.i x.c (Dn.drop e.s)).turn y.i y.c Dn.touched).cnt a b=(D.turn x.i x.c (Dn.drop e.s)).cnt a b:=fun a b=>cntL_quiet (f:=Dn.touched) _ (fun _=>rfl) _;have h8:=(h.files y hy hK1).1
   by_cases hz:(D.turn x.i x.c (Dn.drop e.s)).cnt y.i y.c=0∧y.p=0
   · rw [DMid.swept (y:=Dn.touched y) hT hty hK1 hz.2 (by rw [hct];exact hz.1)]
     refine DMid.gone (x:=Dn.touched y) hT hty hy0 hes fun c=>?_;rw [hct]
     by_cases e1:c=y.c
     · rw [e1];exact hz.1
     · exact cnt_other_times hM hy2 e1
   · have hfull:DInv ((D.turn x.i x.c (Dn.drop e.s)).turn y.i y.c Dn.touched):=by
       refine hT.full (fun v hv k hV h0=>?_) (fun v hv k hV=>?_)
       · rw [same_no hT.nos hv hty k] at hV
         exact absurd hV hK
       · rw [same_no hT.nos hv hty k]
         show _∧(_∨0 < y.p)
         rw [show ((D.turn x.i x.c (Dn.drop e.s)).turn y.i y.c Dn.touched).cnt (Dn.touched y).i (Dn.touched y).c=(D.turn x.i x.c (Dn.drop e.s)).cnt y.i y.c from hct _ _]
         exact ⟨by omega,by omega⟩
     rw [hfull.swept];exact hfull
structure RepX (T:Tr)(D:Dt)(k:Nat):Prop where
 most:T.most=D.most
 g:∀ x∈D.L,T.g x.i=x.c
 t:∀ i,(∀ x∈D.L,x.i≠i)→T.g i=D.t i∧T.nd i=none∧T.ds i=none∧T.pn i=0
 ds:∀ x∈D.L,(x.K=2→∃ b,T.ds x.i=some ⟨b,x.es⟩)∧(x.K=1→T.ds x.i=none)
 pn:∀ x∈D.L,T.pn x.i=x.p
 nd:∀ x∈D.L,∃ n,T.nd x.i=some n∧n.K=x.K∧n.C=x.C∧n.S=x.S∧n.H=x.H∧(x.K=1→n.L=(D.cnt x.i x.c:Nat)∧n.UN=0∧n.UG=0)∧(x.K=2→n.L=2+(dirsIn x.es T.ds:Int)∧n.Z=(x.es.length:Nat)∧(x.i≠k→n.UN=((D.up x.i x.c).1:Nat)∧n.UG=((D.up x.i x.c).2:Nat)))
theorem RepX.rep {T:Tr}{D:Dt}{k:Nat}(h:RepX T D k)(hI:DInv D)(hk:∀ x∈D.L,x.i=k→x.K=2→∀ n,T.nd x.i=some n→n.UN=((D.up x.i x.c).1:Nat)∧n.UG=((D.up x.i x.c).2:Nat)):Rep T D :=
 Rep.build hI h.most h.g h.t h.ds h.pn fun x hx=>by
  obtain ⟨n,n0,n1,n2,n3,n4,n5,n6⟩:=h.nd x hx;refine ⟨n,n0,n1,n2,n3,n4,n5,fun q=>⟨(n6 q).1,(n6 q).2.1,?_⟩⟩
  by_cases e:x.i=k
  · exact hk x hx e q n n0
  · exact (n6 q).2.2 e
theorem mem_turn {D:Dt}(hn:(D.L.map (·.i)).Nodup){x:Dn}(hx:x∈D.L){f:Dn→Dn}{v:Dn}(hv:v∈(D.turn x.i x.c f).L):(v∈D.L∧v.i≠x.i)∨v=f x:=by
 obtain ⟨z,hz,rfl⟩:=mem_turnL.1 hv
 by_cases e:z.i=x.i
 · obtain rfl:=same_no hn hz hx e
   rw [if_pos (is_iff.2 ⟨rfl,rfl⟩)];exact Or.inr rfl
 · rw [if_neg (fun q=>e (is_iff.1 q).1)]
   exact Or.inl ⟨hz,e⟩
theorem up_turn {D:Dt}{a b i c:Nat}{f:Dn→Dn}(hf:∀ x,(f x).i=x.i∧(f x).c=x.c)(h:∀ x∈D.L,x.is a b=true→(f x).es.any (·.to i c)=x.es.any (·.to i c)):(D.turn a b f).up i c=D.up i c:=by
 have key:∀ L:List Dn,(∀ x∈L,x.is a b=true→(f x).es.any (·.to i c)=x.es.any (·.to i c))→((turnL a b f L).find? (fun x=>x.es.any (·.to i c))).map (fun x=>(x.i,x.c))=(L.find? (fun x=>x.es.any (·.to i c))).map (fun x=>(x.i,x.c)):=by
  intro L
  induction L with
  | nil=>intro _;rfl
  | cons x L ih =>
   intro hh
   have h0:(if x.is a b=true then f x else x).es.any (·.to i c)=x.es.any (·.to i c):=by
    split
    · rename_i e;exact hh x List.mem_cons_self e
    · rfl
   have h1:((if x.is a b=true then f x else x).i,(if x.is a b=true then f x else x).c)=(x.i,x.c):=by
    split
    · rw [(hf x).1,(hf x).2]
    · rfl
   show (((if x.is a b=true then f x else x)::turnL a b f L).find? _).map _=_;rw [List.find?_cons,List.find?_cons,h0]
   cases x.es.any (·.to i c) with
   | true=>exact congrArg some h1
   | false=>exact ih fun y hy=>hh y (List.mem_cons_of_mem _ hy)
 have hk:=key D.L h;unfold Dt.up;show (match (turnL a b f D.L).find? _ with | some x=>(x.i,x.c) | none=>(i,c))=_
 cases h1:(turnL a b f D.L).find? (fun x=>x.es.any (·.to i c)) with
 | none =>
  rw [h1] at hk
  cases h2:D.L.find? (fun x=>x.es.any (·.to i c)) with
  | none=>rfl
  | some y=>rw [h2] at hk;cases hk
 | some z =>
  rw [h1] at hk
  cases h2:D.L.find? (fun x=>x.es.any (·.to i c)) with
  | none=>rw [h2] at hk;cases hk
  | some y=>rw [h2] at hk;exact Option.some.inj hk
theorem any_drop {l:List Ent}{e:Ent}(hr:RisingE l)(he:e∈l){i c:Nat}(hne:¬ (e.i=i∧e.c=c)):(dropE l e.s).any (·.to i c)=l.any (·.to i c):=by
 rw [Bool.eq_iff_iff,any_to,any_to]
 constructor
 · rintro ⟨q,h1,h2⟩
   exact ⟨q,mem_dropE h1,h2⟩
 · rintro ⟨q,h1,h2⟩
   refine ⟨q,List.mem_filter.2 ⟨h1,?_⟩,h2⟩
   have hs:q.s≠e.s:=fun k=>by
    have f1:=find_mem (rising_nodup hr) h1;have f2:=find_mem (rising_nodup hr) he;rw [k,f2] at f1
    cases f1
    exact hne h2
   simpa using hs
theorem any_ins {l:List Ent}{e:Ent}{i c:Nat}(hne:¬ (e.i=i∧e.c=c)):(insE e l).any (·.to i c)=l.any (·.to i c):=by
 rw [Bool.eq_iff_iff,any_to,any_to]
 constructor
 · rintro ⟨q,h1,h2⟩
   rcases mem_insE.1 h1 with rfl | h1
   · exact absurd h2 hne
   · exact ⟨q,h1,h2⟩
 · rintro ⟨q,h1,h2⟩
   exact ⟨q,mem_insE.2 (Or.inr h1),h2⟩
theorem DInv.not_self {D:Dt}(h:DInv D){a y:Dn}{e:Ent}(ha:a∈D.L)(hK:a.K=2)(he:e∈a.es)(hyi:y.i=e.i):a.i≠y.i:=fun k=>by
 obtain ⟨r,hr⟩:=h.rank;have:=hr a ha e he ⟨a,ha,k.trans hyi,hK⟩;rw [← hyi,← k] at this;exact Nat.lt_irrefl _ this
theorem Rep.taken {T T':Tr}{D:Dt}(h:Rep T D)(hI:DInv D){a y:Dn}{e:Ent}(ha:a∈D.L)(hK:a.K=2)(he:e∈a.es)(hy:y∈D.L)(hyi:y.i=e.i)(hyc:y.c=e.c){b0:Nat}{na na' ny ny':Nod}(hna:T.nd a.i=some na)(hny:T.nd y.i=some ny)
   (hg:T'.g=T.g) (hm:T'.most=T.most) (hp:T'.pn=T.pn) (hds:T'.ds=setN T.ds a.i (some ⟨b0,dropE a.es e.s⟩)) (hnd:∀ i,i≠a.i→i≠y.i→T'.nd i=T.nd i) (hnda:T'.nd a.i=some na') (hndy:T'.nd y.i=some ny')
   (a1:na'.K=na.K) (a2:na'.C=na.C) (a3:na'.S=na.S) (a4:na'.H=na.H) (a5:na'.UN=na.UN) (a6:na'.UG=na.UG) (a7:na'.Z=((dropE a.es e.s).length:Nat)) (a8:na'.L=2+(dirsIn (dropE a.es e.s) T'.ds:Int))
   (b1:ny'.K=ny.K) (b2:ny'.C=ny.C) (b3:ny'.S=ny.S) (b4:ny'.H=ny.H) (b5:y.K=1→ny'.L=ny.L - 1∧ny'.UN=ny.UN∧ny'.UG=ny.UG) (b6:y.K=2→ny'.L=ny.L∧ny'.Z=ny.Z):RepX T' (D.turn a.i a.c (Dn.drop e.s)) y.i:=by
 have hay:=hI.not_self ha hK he hyi;have hr:=(hI.rise a ha).1;have hc:=cnt_drop D hI.nos ha hr he
 have hsome:∀ i,(T'.ds i).isSome=(T.ds i).isSome:=fun i=>by
   rw [hds]
   by_cases q:i=a.i
   · obtain ⟨b,hb⟩:=(h.ds a ha).1 hK
     rw [q,setN_same,hb];rfl
   · rw [setN_other _ _ q]
 have hup:∀ v∈D.L,v.i≠y.i→(D.turn a.i a.c (Dn.drop e.s)).up v.i v.c=D.up v.i v.c:=fun v _ hvi=>up_turn (f:=Dn.drop e.s) (fun _=>⟨rfl,rfl⟩) fun x hx k=>by
   obtain rfl:=same_no hI.nos hx ha (is_iff.1 k).1;exact any_drop hr he fun k=>hvi (k.1.symm.trans hyi.symm)
 refine ⟨hm.trans h.most,fun v hv=>?_,fun i hi=>?_,fun v hv=>?_,fun v hv=>?_,fun v hv=>?_⟩
 · rw [hg]
   rcases mem_turn hI.nos ha hv with ⟨h1,_⟩ | rfl
   · exact h.g v h1
   · exact h.g a ha
 · have hia:i≠a.i:=fun k=>hi _ (mem_turn_same (f:=Dn.drop e.s) ha) k.symm
   have hold:∀ x∈D.L,x.i≠i:=fun x hx k=>by
     by_cases e1:x.i=a.i
     · exact hia (k.symm.trans e1)
     · exact hi x (mem_turn_other hx e1) k
   rw [hg,hp,hds,setN_other _ _ hia,hnd i hia (fun k=>hold y hy k.symm)];exact h.t i hold
 · rcases mem_turn hI.nos ha hv with ⟨h1,h2⟩ | rfl
   · rw [hds,setN_other _ _ h2]
     exact h.ds v h1
   · refine ⟨fun _=>⟨b0,by rw [hds];exact setN_same _ _ _⟩,fun q=>?_⟩
     have q':a.K=1:=q;omega
 · rw [hp]
   rcases mem_turn hI.nos ha hv with ⟨h1,_⟩ | rfl
   · exact h.pn v h1
   · exact h.pn a ha
 · rcases mem_turn hI.nos ha hv with ⟨h1,h2⟩ | rfl
   · obtain ⟨n,n0,n1,n2,n3,n4,n5,n6⟩:=h.counted hI h1
     have hcv:=hc v.i v.c
     by_cases e1:v.i=y.i
     · obtain rfl:=same_no hI.nos h1 hy e1
       rw [if_pos (to_iff.2 ⟨hyi.symm,hyc.symm⟩)] at hcv;rw [hny] at n0
       cases n0
       refine ⟨ny',hndy,b1.trans n1,b2.trans n2,b3.trans n3,b4.trans n4,fun q=>⟨?_,(b5 q).2.1.trans (n5 q).2.1,(b5 q).2.2.trans (n5 q).2.2⟩,fun q=>⟨?_,(b6 q).2.trans (n6 q).2.1,fun k=>absurd rfl k⟩⟩
       · rw [(b5 q).1,(n5 q).1]
         omega
       · rw [(b6 q).1,(n6 q).1,dirsIn_same fun e _=>hsome e.i]
     · rw [if_neg (fun k=>e1 ((to_iff.1 k).1.symm.trans hyi.symm))] at hcv
       refine ⟨n,(hnd _ h2 e1).trans n0,n1,n2,n3,n4,fun q=>⟨?_,(n5 q).2⟩,fun q=>⟨?_,(n6 q).2.1,fun _=>?_⟩⟩
       · rw [(n5 q).1,← hcv];rfl
       · rw [(n6 q).1,dirsIn_same fun e _=>hsome e.i]
       · rw [hup v h1 e1];exact (n6 q).2.2
   · obtain ⟨n,n0,n1,n2,n3,n4,n5,n6⟩:=h.counted hI ha
     rw [hna] at n0
     cases n0
     refine ⟨na',hnda,a1.trans n1,a2.trans n2,a3.trans n3,a4.trans n4,fun q=>?_,fun _=>⟨a8,a7,fun _=>?_⟩⟩
     · have q':a.K=1:=q
       omega
     · show na'.UN=(((D.turn a.i a.c (Dn.drop e.s)).up a.i a.c).1:Nat)∧na'.UG=(((D.turn a.i a.c (Dn.drop e.s)).up a.i a.c).2:Nat)
       rw [hup a ha hay,a5,a6];exact (n6 hK).2.2
theorem RepX.put {T T':Tr}{D:Dt}{y b:Dn}{s:List UInt8}(h:RepX T D y.i)(hM:DMid D y.i)(hy:y∈D.L)(hb:b∈D.L)(hK:b.K=2)(hyb:b.i≠y.i)(hI':DInv (D.turn b.i b.c (Dn.ins ⟨s,y.i,y.c⟩))){b0:Nat}{nb nb' ny ny':Nod}(hnb:T.nd b.i=some nb)(hny:T.nd y.i=some ny)
   (hg:T'.g=T.g) (hm:T'.most=T.most) (hp:T'.pn=T.pn) (hds:T'.ds=setN T.ds b.i (some ⟨b0,insE ⟨s,y.i,y.c⟩ b.es⟩)) (hnd:∀ i,i≠b.i→i≠y.i→T'.nd i=T.nd i) (hndb:T'.nd b.i=some nb') (hndy:T'.nd y.i=some ny')
   (a1:nb'.K=nb.K) (a2:nb'.C=nb.C) (a3:nb'.S=nb.S) (a4:nb'.H=nb.H) (a5:nb'.UN=nb.UN) (a6:nb'.UG=nb.UG) (a7:nb'.Z=((insE ⟨s,y.i,y.c⟩ b.es).length:Nat)) (a8:nb'.L=2+(dirsIn (insE ⟨s,y.i,y.c⟩ b.es) T'.ds:Int))
   (b1:ny'.K=ny.K) (b2:ny'.C=ny.C) (b3:ny'.S=ny.S) (b4:ny'.H=ny.H) (b5:y.K=1→ny'.L=ny.L+1∧ny'.UN=ny.UN∧ny'.UG=ny.UG) (b6:y.K=2→ny'.L=ny.L∧ny'.Z=ny.Z∧ny'.UN=(b.i:Nat)∧ny'.UG=(b.c:Nat)):Rep T' (D.turn b.i b.c (Dn.ins ⟨s,y.i,y.c⟩)):=by
 have hc:=fun i c=>cnt_ins D ⟨s,y.i,y.c⟩ hM.nos hb i c
 have hsome:∀ i,(T'.ds i).isSome=(T.ds i).isSome:=fun i=>by
   rw [hds]
   by_cases q:i=b.i
   · obtain ⟨b,hb⟩:=(h.ds b hb).1 hK
     rw [q,setN_same,hb];rfl
   · rw [setN_other _ _ q]
 have hup:∀ v∈D.L,v.i≠y.i→(D.turn b.i b.c (Dn.ins ⟨s,y.i,y.c⟩)).up v.i v.c=D.up v.i v.c:=fun v _ hvi=>up_turn (f:=Dn.ins ⟨s,y.i,y.c⟩) (fun _=>⟨rfl,rfl⟩) fun x hx k=>any_ins fun k=>hvi k.1.symm;have hby:Dn.ins ⟨s,y.i,y.c⟩ b∈(D.turn b.i b.c (Dn.ins ⟨s,y.i,y.c⟩)).L:=mem_turn_same hb;refine RepX.rep (k:=y.i) ⟨hm.trans h.most,fun v hv=>?_,fun i hi=>?_,fun v hv=>?_,fun v hv=>?_,fun v hv=>?_⟩ hI' fun v hv e1 q n hn=>?_
 · rw [hg]
   rcases mem_turn hM.nos hb hv with ⟨h1,_⟩ | rfl
   · exact h.g v h1
   · exact h.g b hb
 · have hib:i≠b.i:=fun k=>hi _ hby k.symm
   have hold:∀ x∈D.L,x.i≠i:=fun x hx k=>by
     by_cases e1:x.i=b.i
     · exact hib (k.symm.trans e1)
     · exact hi x (mem_turn_other hx e1) k
   rw [hg,hp,hds,setN_other _ _ hib,hnd i hib (fun k=>hold y hy k.symm)];exact h.t i hold
 · rcases mem_turn hM.nos hb hv with ⟨h1,h2⟩ | rfl
   · rw [hds,setN_other _ _ h2]
     exact h.ds v h1
   · refine ⟨fun _=>⟨b0,by rw [hds];exact setN_same _ _ _⟩,fun q=>?_⟩
     have q':b.K=1:=q;omega
 · rw [hp]
   rcases mem_turn hM.nos hb hv with ⟨h1,_⟩ | rfl
   · exact h.pn v h1
   · exact h.pn b hb
 · rcases mem_turn hM.nos hb hv with ⟨h1,h2⟩ | rfl
   · obtain ⟨n,n0,n1,n2,n3,n4,n5,n6⟩:=h.nd v h1
     have hcv:(D.turn b.i b.c (Dn.ins ⟨s,y.i,y.c⟩)).cnt v.i v.c=_:=hc v.i v.c
     by_cases e1:v.i=y.i
     · obtain rfl:=same_no hM.nos h1 hy e1
       rw [if_pos (to_iff.2 ⟨rfl,rfl⟩)] at hcv;rw [hny] at n0
       cases n0
       refine ⟨ny',hndy,b1.trans n1,b2.trans n2,b3.trans n3,b4.trans n4,fun q=>⟨?_,(b5 q).2.1.trans (n5 q).2.1,(b5 q).2.2.trans (n5 q).2.2⟩,fun q=>⟨?_,(b6 q).2.1.trans (n6 q).2.1,fun k=>absurd rfl k⟩⟩
       · rw [(b5 q).1,(n5 q).1,hcv]
         rfl
       · rw [(b6 q).1,(n6 q).1,dirsIn_same fun e _=>hsome e.i]
     · rw [if_neg (fun k=>e1 (to_iff.1 k).1.symm)] at hcv
       refine ⟨n,(hnd _ h2 e1).trans n0,n1,n2,n3,n4,fun q=>⟨?_,(n5 q).2⟩,fun q=>⟨?_,(n6 q).2.1,fun _=>?_⟩⟩
       · rw [(n5 q).1,hcv];rfl
       · rw [(n6 q).1,dirsIn_same fun e _=>hsome e.i]
       · rw [hup v h1 e1];exact (n6 q).2.2 e1
   · obtain ⟨n,n0,n1,n2,n3,n4,n5,n6⟩:=h.nd b hb
     rw [hnb] at n0
     cases n0
     refine ⟨nb',hndb,a1.trans n1,a2.trans n2,a3.trans n3,a4.trans n4,fun q=>?_,fun _=>⟨a8,a7,fun _=>?_⟩⟩
     · have q':b.K=1:=q
       omega
     · show nb'.UN=(((D.turn b.i b.c (Dn.ins ⟨s,y.i,y.c⟩)).up b.i b.c).1:Nat)∧nb'.UG=(((D.turn b.i b.c (Dn.ins ⟨s,y.i,y.c⟩)).up b.i b.c).2:Nat)
       rw [hup b hb hyb,a5,a6];exact (n6 hK).2.2 hyb
 · rcases mem_turn hM.nos hb hv with ⟨h1,h2⟩ | rfl
   · obtain rfl:=same_no hM.nos h1 hy e1
     rw [hndy] at hn
     cases hn
     have hy0:v.i≠0:=(hI'.live _ hby ⟨s,v.i,v.c⟩ (mem_insE.2 (Or.inl rfl))).1;have h3:=hI'.up_is hv q hy0 hby (any_to.2 ⟨⟨s,v.i,v.c⟩,mem_insE.2 (Or.inl rfl),rfl,rfl⟩);rw [h3];exact (b6 q).2.2
   · exact absurd e1 hyb
theorem find_filter_same {l:List Dn}{p q:Dn→Bool}(h:∀ x∈l,q x=true→p x=true):(l.filter p).find? q=l.find? q:=by
 induction l with
 | nil=>rfl
 | cons x l ih =>
  have ih':=ih fun y hy=>h y (List.mem_cons_of_mem _ hy);rw [List.filter_cons,List.find?_cons]
  cases hq:q x with
  | true =>
   rw [if_pos (h x List.mem_cons_self hq),List.find?_cons,hq]
  | false =>
   split
   · rw [List.find?_cons,hq];exact ih'
   · exact ih'
theorem RepX.gone {T T':Tr}{D:Dt}{z:Dn}(h:RepX T D z.i)(hM:DMid D z.i)(hz:z∈D.L)(hes:z.es=[])(_hc:∀ c,D.cnt z.i c=0)(hI':DInv (D.gone z.i z.c))(hg:∀ i,T'.g i=if i=z.i then z.c+1 else T.g i)(hmost:T'.most=T.most)(hpn:∀ i,T'.pn i=if i=z.i then 0 else T.pn i)(hds:∀ i,T'.ds i=if i=z.i then none else T.ds i)(hnd:∀ i,T'.nd i=if i=z.i then none else T.nd i):Rep T' (D.gone z.i z.c):=by
 have hm:∀ v∈(D.gone z.i z.c).L,v∈D.L∧v.i≠z.i:=fun v hv=>by
   obtain ⟨h1,h2⟩:=List.mem_filter.1 hv;refine ⟨h1,fun k=>?_⟩;rw [same_no hM.nos h1 hz k,is_iff.2 ⟨rfl,rfl⟩] at h2
   cases h2
 have hb:∀ v∈D.L,v.i≠z.i→v∈(D.gone z.i z.c).L:=fun v hv hi=>List.mem_filter.2 ⟨hv,by rw [Bool.not_eq_true',Bool.eq_false_iff];exact fun k=>hi (is_iff.1 k).1⟩
 have hcn:∀ i c,(D.gone z.i z.c).cnt i c=D.cnt i c:=fun i c=>cntL_filter _ _ D.L fun y hy e=>by
   have he:y.is z.i z.c=true:=by simpa using e
   rw [same_no hM.nos hy hz (is_iff.1 he).1];exact hes
 have hup:∀ i c,(D.gone z.i z.c).up i c=D.up i c:=fun i c=>by
   unfold Dt.up
   rw [show (D.gone z.i z.c).L.find? (fun x=>x.es.any (·.to i c))=D.L.find? (fun x=>x.es.any (·.to i c)) from find_filter_same fun x hx q=>by
     rw [Bool.not_eq_true',Bool.eq_false_iff];intro k;rw [same_no hM.nos hx hz (is_iff.1 k).1,hes] at q
     cases q]
 have hne:∀ v∈(D.gone z.i z.c).L,∀ e∈v.es,e.i≠z.i:=fun v hv e he k=>by
   obtain ⟨_,⟨u,hu,u1,_⟩,_⟩:=hI'.live v hv e he;exact (hm u hu).2 (u1.trans k)
 refine RepX.rep (k:=z.i) ⟨by rw [hmost];exact h.most,fun v hv=>?_,fun i hi=>?_,fun v hv=>?_,fun v hv=>?_,fun v hv=>?_⟩ hI' fun v hv e=>absurd e (hm v hv).2
 · rw [hg,if_neg (hm v hv).2]
   exact h.g v (hm v hv).1
 · by_cases e:i=z.i
   · rw [hg,hnd,hds,hpn,if_pos e,if_pos e,if_pos e,if_pos e]
     refine ⟨?_,rfl,rfl,rfl⟩;show z.c+1=D.t i;rw [e];exact (hM.lt z hz).2.symm
   · rw [hg,hnd,hds,hpn,if_neg e,if_neg e,if_neg e,if_neg e]
     exact h.t i fun x hx k=>hi x (hb x hx (fun k2=>e (k.symm.trans k2))) k
 · rw [hds,if_neg (hm v hv).2]
   exact h.ds v (hm v hv).1
 · rw [hpn,if_neg (hm v hv).2]
   exact h.pn v (hm v hv).1
 · obtain ⟨h1,h2⟩:=hm v hv
   obtain ⟨n,n0,n1,n2,n3,n4,n5,n6⟩:=h.nd v h1;refine ⟨n,by rw [hnd,if_neg h2];exact n0,n1,n2,n3,n4,fun q=>⟨by rw [hcn];exact (n5 q).1,(n5 q).2⟩,fun q=>⟨?_,(n6 q).2.1,fun _=>by rw [hup];exact (n6 q).2.2 h2⟩⟩;rw [(n6 q).1,dirsIn_same (l:=v.es) (ds:=T.ds) (ds':=T'.ds) fun e he=>by rw [hds,if_neg (hne v hv e he)]]
theorem DInv.has_es {D:Dt}(h:DInv D){x:Dn}(hx:x∈D.L){e:Ent}(he:e∈x.es):x.K=2:=by
 rcases h.kind x hx with ⟨_,k⟩ | ⟨k,_⟩
 · rw [k] at he;cases he
 · exact k
theorem ups_mem {D:Dt}(h:DInv D){b:Dn}(hb:b∈D.L)(hK:b.K=2):∀ n,∃ x∈D.L,x.K=2∧ups D b.i b.c n=(x.i,x.c)
 | 0=>⟨b,hb,hK,rfl⟩
 | n+1=>by
  obtain ⟨x,hx,hxK,e⟩:=ups_mem h hb hK n
  have e1:ups D b.i b.c (n+1)=D.up x.i x.c:=by
    show D.up (ups D b.i b.c n).1 (ups D b.i b.c n).2=_;rw [e]
  by_cases h0:x.i=0
  · obtain ⟨r,hr,r1,r2,r3⟩:=h.root
    obtain rfl:=same_no h.nos hx hr (h0.trans r1.symm);exact ⟨x,hx,hxK,by rw [e1,r1,r2];exact h.up_root⟩
  · obtain ⟨y,hy,hye⟩:=h.has_up hx hxK h0
    obtain ⟨q,hq,_⟩:=any_to.1 hye;exact ⟨y,hy,h.has_es hy hq,e1.trans (h.up_is hx hxK h0 hy hye)⟩
theorem ups_add (D:Dt)(i c n:Nat):∀ d,ups D i c (n+d)=ups D (ups D i c n).1 (ups D i c n).2 d
 | 0=>rfl
 | d+1=>by
  show D.up (ups D i c (n+d)).1 (ups D i c (n+d)).2=D.up _ _;rw [ups_add D i c n d]
theorem pig {l m:List Nat}(hl:l.Nodup)(hm:m.Nodup)(h:∀ x∈l,x∈m):l.length≤m.length:=by
 have hp:l.Perm (m.filter fun k=>l.contains k):=by
  rw [List.perm_ext_iff_of_nodup hl (List.Pairwise.filter _ hm)];intro k;rw [List.mem_filter];exact ⟨fun hk=>⟨h k hk,by simpa using hk⟩,fun hk=>by simpa using hk.2⟩
 have h1:=hp.length_eq;have h2:=List.length_filter_le (fun k=>l.contains k) m;omega
theorem ups_short {D:Dt}(h:DInv D){b:Dn}(hb:b∈D.L)(hK:b.K=2){t:Nat×Nat}:∀ n,ups D b.i b.c n=t→∃ m,m < D.L.length∧ups D b.i b.c m=t:=by
 intro n
 induction n using Nat.strongRecOn with
 | ind n ih =>
  intro hn;rcases Nat.lt_or_ge n D.L.length with hl | hl
  · exact ⟨n,hl,hn⟩
  · have hex:∃ j k,j < k∧k≤n∧ups D b.i b.c j=ups D b.i b.c k:=by
     apply Classical.byContradiction;intro hc
     have nd:((List.range (n+1)).map fun j=>(ups D b.i b.c j).1).Nodup:=by
      unfold List.Nodup;rw [List.pairwise_map];refine (List.pairwise_lt_range (n:=n+1)).imp_of_mem fun {i j} hi hj hlt e=>?_;obtain ⟨x,hx,_,ex⟩:=ups_mem h hb hK i;obtain ⟨y,hy,_,ey⟩:=ups_mem h hb hK j;have hj':=List.mem_range.1 hj;rw [ex,ey] at e;obtain rfl:=same_no h.nos hx hy e;exact hc ⟨i,j,hlt,by omega,ex.trans ey.symm⟩
     have:=pig nd h.nos fun v hv=>by
      obtain ⟨j,_,rfl⟩:=List.mem_map.1 hv;obtain ⟨x,hx,_,ex⟩:=ups_mem h hb hK j;rw [ex];exact List.mem_map.2 ⟨x,hx,rfl⟩
     rw [List.length_map,List.length_map,List.length_range] at this;omega
    obtain ⟨j,k,hjk,hkn,e⟩:=hex;refine ih (j+(n - k)) (by omega) ?_;rw [ups_add,e,← ups_add,show k+(n - k)=n by omega];exact hn
theorem in_iff {D:Dt}(h:DInv D){b y:Dn}(hb:b∈D.L)(hK:b.K=2)(hy:y∈D.L):((List.range D.L.length).any fun j=>(ups D b.i b.c j).1==y.i)=true↔InD D b.i b.c y.i y.c:=by
 rw [List.any_eq_true]
 constructor
 · rintro ⟨j,_,e⟩
   obtain ⟨x,hx,_,ex⟩:=ups_mem h hb hK j
   have e':x.i=y.i:=by rw [ex] at e;simpa using e
   obtain rfl:=same_no h.nos hx hy e';exact ⟨j,ex⟩
 · rintro ⟨n,hn⟩
   obtain ⟨m,hm,e⟩:=ups_short h hb hK n hn;exact ⟨m,List.mem_range.2 hm,by rw [e];simp⟩
theorem in_dir {D:Dt}(h:DInv D){b y:Dn}(hb:b∈D.L)(hK:b.K=2)(hy:y∈D.L)(hin:InD D b.i b.c y.i y.c):y.K=2:=by
 obtain ⟨n,hn⟩:=hin;obtain ⟨x,hx,hxK,ex⟩:=ups_mem h hb hK n;rw [hn] at ex;rw [same_no h.nos hy hx (congrArg Prod.fst ex)];exact hxK
theorem Rep.chain {T:Tr}{D:Dt}(hR:Rep T D)(h:DInv D){b:Dn}(hb:b∈D.L)(hK:b.K=2)(j:Nat):∃ n,T.nd (ups D b.i b.c j).1=some n∧n.K=2∧n.UN=((ups D b.i b.c (j+1)).1:Nat)∧n.UG=(T.g (ups D b.i b.c (j+1)).1:Nat):=by
 obtain ⟨x,hx,hxK,ex⟩:=ups_mem h hb hK j;obtain ⟨y,hy,_,ey⟩:=ups_mem h hb hK (j+1);obtain ⟨n,n0,n1,_,_,_,_,n6,_⟩:=hR.nd x hx
 have e:D.up x.i x.c=(y.i,y.c):=by
  rw [← ey];show _=D.up (ups D b.i b.c j).1 (ups D b.i b.c j).2;rw [ex]
 obtain ⟨_,u1,u2⟩:=n6 hxK;rw [e] at u1 u2;refine ⟨n,by rw [ex];exact n0,n1.trans hxK,by rw [ey];exact u1,by rw [ey,hR.g y hy];exact u2⟩
theorem under_in {D:Dt}(h:DInv D){b y:Dn}(hb:b∈D.L)(_hK:b.K=2)(hy:y∈D.L)(hu:D.under y.i b.i):InD D b.i b.c y.i y.c:=by
 obtain ⟨n,f,h0,h1,h2⟩:=hu
 have key:∀ m,m≤n→∃ x∈D.L,x.i=f (n - m)∧ups D b.i b.c m=(x.i,x.c):=by
  intro m
  induction m with
  | zero=>intro _;exact ⟨b,hb,h1.symm,rfl⟩
  | succ m ih =>
   intro hm;obtain ⟨x,hx,e1,e2⟩:=ih (by omega);obtain ⟨p,hp,p1,q,hq,q1,v,hv,v1,v2⟩:=h2 (n - (m+1)) (by omega);rw [show n - (m+1)+1=n - m by omega,← e1] at q1 v1;obtain rfl:=same_no h.nos hv hx v1;obtain ⟨q0,⟨u,hu,u1,u2⟩,_⟩:=h.live p hp q hq;have:u=v:=same_no h.nos hu hv (u1.trans q1);subst this;refine ⟨p,hp,p1,?_⟩;show D.up (ups D b.i b.c m).1 (ups D b.i b.c m).2=_;rw [e2];exact h.up_is hu v2 (by rw [← q1];exact q0) hp (any_to.2 ⟨q,hq,u1.symm,u2.symm⟩)
 obtain ⟨x,hx,e1,e2⟩:=key n (Nat.le_refl _);rw [Nat.sub_self,h0] at e1;obtain rfl:=same_no h.nos hx hy e1;exact ⟨n,e2⟩
theorem find_none_ne {l:List Ent}{s:List UInt8}(h:findE l s=none):∀ e∈l,e.s≠s:=fun e he k=>by
 have:=List.find?_eq_none.1 h e he;simp [k] at this
theorem find_none_drop {l:List Ent}{s t:List UInt8}(h:findE l s=none):findE (dropE l t) s=none:=by
 unfold findE;rw [List.find?_eq_none];intro e he q;exact find_none_ne h e (mem_dropE he) (by simpa using q)
theorem find_drop_self (l:List Ent)(s:List UInt8):findE (dropE l s) s=none:=by
 unfold findE;rw [List.find?_eq_none];intro e he q;have:=(List.mem_filter.1 he).2;simp at this q;exact this q
theorem length_dropE {l:List Ent}{e:Ent}(hr:RisingE l)(he:e∈l):(dropE l e.s).length+1=l.length:=by
 have h:=filter_dropE (fun _=>true) (rising_nodup hr) he;have e:∀ l:List Ent,l.filter (fun _=>true)=l:=fun l=>List.filter_eq_self.2 fun _ _=>rfl;rw [e,e] at h;exact h
theorem under_sub {D D':Dt}(hs:∀ x∈D'.L,∃ z∈D.L,z.i=x.i∧z.K=x.K∧∀ e∈x.es,e∈z.es){a b:Nat}(h:D'.under a b):D.under a b:=by
 obtain ⟨n,f,h0,h1,h2⟩:=h;refine ⟨n,f,h0,h1,fun q hq=>?_⟩;obtain ⟨p,hp,p1,e,he,e1,v,hv,v1,v2⟩:=h2 q hq;obtain ⟨p',hp',k1,_,k3⟩:=hs p hp;obtain ⟨v',hv',j1,j2,_⟩:=hs v hv;exact ⟨p',hp',k1.trans p1,e,k3 e he,e1,v',hv',j1.trans v1,j2.trans v2⟩
theorem drop_sub {D:Dt}(hn:(D.L.map (·.i)).Nodup){a:Dn}(ha:a∈D.L)(s:List UInt8):∀ x∈(D.turn a.i a.c (Dn.drop s)).L,∃ z∈D.L,z.i=x.i∧z.K=x.K∧∀ e∈x.es,e∈z.es:=fun x hx=>by
 rcases mem_turn hn ha hx with ⟨h1,_⟩ | rfl
 · exact ⟨x,h1,rfl,rfl,fun _ h=>h⟩
 · exact ⟨a,ha,rfl,rfl,fun q hq=>mem_dropE hq⟩
theorem DInv.moved {D:Dt}(hI:DInv D){a b y:Dn}{e:Ent}{s:List UInt8}(ha:a∈D.L)(he:e∈a.es)(hy:y∈D.L)(hyi:y.i=e.i)(hyc:y.c=e.c)(hb:b∈(D.turn a.i a.c (Dn.drop e.s)).L)(hbK:b.K=2)(hs:s.length≤24)(hf:∀ q∈b.es,q.s≠s)(hl:b.es.length < 60)(hu:y.K=2→¬ D.under y.i b.i):DInv ((D.turn a.i a.c (Dn.drop e.s)).turn b.i b.c (Dn.ins ⟨s,y.i,y.c⟩)):=by
 have hK:=hI.has_es ha he;have hay:=hI.not_self ha hK he hyi;have hM:=hI.dropped ha he;rw [← hyi] at hM;have hy1:y∈(D.turn a.i a.c (Dn.drop e.s)).L:=mem_turn_other hy (Ne.symm hay)
 have hy0:y.i≠0:=by rw [hyi];exact (hI.live a ha e he).1
 have hc:=cnt_drop D hI.nos ha (hI.rise a ha).1 he y.i y.c;rw [if_pos (to_iff.2 ⟨hyi.symm,hyc.symm⟩)] at hc;refine hM.insd hy1 hy0 hb hbK hs hf hl (fun q=>⟨?_,fun k=>hu q (under_sub (drop_sub hI.nos ha _) k)⟩) (fun q=>?_)
 · have:=hI.dirs y hy q hy0
   omega
 · have:=(hI.files y hy q).1
   omega
theorem DInv.touched {D:Dt}(hI:DInv D)(i c:Nat):DInv (D.turn i c Dn.touched):=hI.quiet (f:=Dn.touched) (fun _=>⟨rfl,rfl,rfl,rfl⟩) fun x hx _=>⟨fun k=>by
 rcases hI.kind x hx with ⟨q,_⟩ | ⟨_,q⟩
 · omega
 · exact q,fun k=>(hI.files x hx k).2⟩
theorem turn_comm {D:Dt}{i c j d:Nat}{f g:Dn→Dn}(hf:∀ x,(f x).i=x.i∧(f x).c=x.c)(hg:∀ x,(g x).i=x.i∧(g x).c=x.c)(hij:i≠j):(D.turn i c f).turn j d g=(D.turn j d g).turn i c f:=by
 unfold Dt.turn;congr 1;show turnL j d g (turnL i c f D.L)=turnL i c f (turnL j d g D.L);unfold turnL;rw [List.map_map,List.map_map];apply List.map_congr_left;intro x _;show (if (if x.is i c=true then f x else x).is j d=true then g (if x.is i c=true then f x else x) else (if x.is i c=true then f x else x))=(if (if x.is j d=true then g x else x).is i c=true then f (if x.is j d=true then g x else x) else (if x.is j d=true then g x else x))
 by_cases h1:x.is i c=true
 · have h2:¬ x.is j d=true:=fun k=>hij ((is_iff.1 h1).1.symm.trans (is_iff.1 k).1)
   have h3:¬ (f x).is j d=true:=fun k=>h2 (is_iff.2 ⟨(hf x).1 ▸ (is_iff.1 k).1,(hf x).2 ▸ (is_iff.1 k).2⟩);rw [if_pos h1,if_neg h3,if_neg h2,if_pos h1]
 · rw [if_neg h1]
   by_cases h2:x.is j d=true
   · have h3:¬ (g x).is i c=true:=fun k=>h1 (is_iff.2 ⟨(hg x).1 ▸ (is_iff.1 k).1,(hg x).2 ▸ (is_iff.1 k).2⟩)
     rw [if_pos h2,if_neg h3]
   · rw [if_neg h2,if_neg h1]
theorem gone_comm (D:Dt){i c k d:Nat}{f:Dn→Dn}(hf:∀ x,(f x).i=x.i∧(f x).c=x.c):(D.turn i c f).gone k d=(D.gone k d).turn i c f:=by
 unfold Dt.gone Dt.turn;congr 1;show (turnL i c f D.L).filter _=turnL i c f (D.L.filter _);unfold turnL;rw [List.filter_map];congr 1;apply List.filter_congr;intro x _;show (!(if x.is i c=true then f x else x).is k d)=!x.is k d
 split
 · unfold Dn.is
   rw [(hf x).1,(hf x).2]
 · rfl
theorem lost_form {X:Dt}(hn:(X.L.map (·.i)).Nodup){z:Dn}(hz:z∈X.L)(hK:z.K=1)(hh:∀ x∈X.L,x.i≠z.i→X.held x=true):X.lost z=if X.cnt z.i z.c=0∧z.p=0 then X.gone z.i z.c else X.turn z.i z.c Dn.touched:=by
 have hct:∀ a b,(X.turn z.i z.c Dn.touched).cnt a b=X.cnt a b:=fun a b=>cntL_quiet (f:=Dn.touched) _ (fun _=>rfl) _;have hdE:(X.turn z.i z.c Dn.touched).dirE=X.dirE:=funext fun e=>Dt.dirE_turn (f:=Dn.touched) (fun _=>⟨rfl,rfl⟩) (fun _=>rfl) e
 have hheld:∀ x,(X.turn z.i z.c Dn.touched).held x=X.held x:=fun x=>by
   unfold Dt.held Dt.links;rw [hdE,hct]
 have hzz:X.held (Dn.touched z)=X.held z:=rfl;unfold Dt.lost;rw [if_neg (by omega)]
 split
 · rename_i hc
   rw [← gone_turn X (f:=Dn.touched) (y:=z) (fun _=>⟨rfl,rfl⟩)];unfold Dt.sweep Dt.gone;congr 1;apply List.filter_congr;intro x hx;rw [hheld];rcases mem_turn hn hz hx with ⟨h1,h2⟩ | rfl
   · have h3:x.is z.i z.c=false:=by rw [Bool.eq_false_iff];exact fun k=>h2 (is_iff.1 k).1
     rw [hh x h1 h2,h3];rfl
   · rw [hzz,not_held hK hc.2 hc.1,show (Dn.touched z).is z.i z.c=true from is_iff.2 ⟨rfl,rfl⟩]
     rfl
 · rename_i hc
   have:(X.turn z.i z.c Dn.touched).L.filter (X.turn z.i z.c Dn.touched).held=(X.turn z.i z.c Dn.touched).L:=by
     rw [List.filter_eq_self];intro x hx;rw [hheld];rcases mem_turn hn hz hx with ⟨h1,h2⟩ | rfl
     · exact hh x h1 h2
     · rw [hzz]
       refine held_of ?_
       by_cases q:z.p=0
       · exact Or.inr (Or.inr ⟨hK,Nat.pos_of_ne_zero fun k=>hc ⟨k,q⟩⟩)
       · exact Or.inr (Or.inl (Nat.pos_of_ne_zero q))
   unfold Dt.sweep;rw [this]
theorem DMid.all_held {D:Dt}{k:Nat}(h:DMid D k):∀ x∈D.L,x.i≠k→D.held x=true:=fun x hx hk=>by
 rcases h.kind x hx with ⟨q,_⟩ | ⟨q,_⟩
 · rcases (h.files x hx hk q).2 with c | c
   · exact held_of (Or.inr (Or.inr ⟨q,c⟩))
   · exact held_of (Or.inr (Or.inl c))
 · exact held_of (Or.inl q)
theorem drop_drop (s t:List UInt8)(x:Dn):Dn.drop s (Dn.drop t x)=Dn.drop t (Dn.drop s x):=by
 unfold Dn.drop dropE;simp only [List.filter_filter];congr 1;apply List.filter_congr;intro e _;rw [Bool.and_comm]
theorem lost_over {D:Dt}(hI:DInv D){a b y z:Dn}{e f:Ent}{s:List UInt8}(ha:a∈D.L)(he:e∈a.es)(hb:b∈D.L)(hf:f∈b.es)(hy:y∈D.L)(hz:z∈D.L)(hzi:z.i=f.i)(hzy:z≠y)(hza:z.i≠a.i)(hef:a=b→e∈dropE a.es f.s):
   ((((D.turn a.i a.c (Dn.drop e.s)).turn b.i b.c (Dn.drop f.s)).turn b.i b.c (Dn.ins ⟨s,e.i,e.c⟩)).lost z)=((((D.turn b.i b.c (Dn.drop f.s)).lost z).turn a.i a.c (Dn.drop e.s)).turn b.i b.c (Dn.ins ⟨s,e.i,e.c⟩)):=by
 have hzb:z.i≠b.i:=fun k=>hI.not_self hb (hI.has_es hb hf) hf hzi k.symm;have kd:∀ t x,(Dn.drop t x).i=x.i∧(Dn.drop t x).c=x.c:=fun _ _=>⟨rfl,rfl⟩;have ki:∀ t x,(Dn.ins t x).i=x.i∧(Dn.ins t x).c=x.c:=fun _ _=>⟨rfl,rfl⟩;have kt:∀ x,(Dn.touched x).i=x.i∧(Dn.touched x).c=x.c:=fun _=>⟨rfl,rfl⟩
 have hsw:(D.turn a.i a.c (Dn.drop e.s)).turn b.i b.c (Dn.drop f.s)=(D.turn b.i b.c (Dn.drop f.s)).turn a.i a.c (Dn.drop e.s):=by
   by_cases h:a.i=b.i
   · obtain rfl:=same_no hI.nos ha hb h
     rw [turn_turn (kd _),turn_turn (kd _)];congr 1;funext x;exact drop_drop _ _ _
   · exact turn_comm (kd _) (kd _) h
 have hzyi:z.i≠y.i:=fun k=>hzy (same_no hI.nos hz hy k)
 by_cases hzK:z.K=2
 · unfold Dt.lost
   rw [if_pos hzK,if_pos hzK,gone_comm _ (ki _),hsw,gone_comm _ (kd _)]
 · have hz1:z.K=1:=by
     rcases hI.kind z hz with ⟨k,_⟩ | ⟨k,_⟩
     · exact k
     · exact absurd k hzK
   have hM:=hI.dropped hb hf;rw [← hzi] at hM;have hzX1:z∈(D.turn b.i b.c (Dn.drop f.s)).L:=mem_turn_other hz hzb;have hzX3:z∈(((D.turn a.i a.c (Dn.drop e.s)).turn b.i b.c (Dn.drop f.s)).turn b.i b.c (Dn.ins ⟨s,e.i,e.c⟩)).L:=mem_turn_other (mem_turn_other (mem_turn_other hz hza) hzb) hzb;have nX1:((D.turn b.i b.c (Dn.drop f.s)).L.map (·.i)).Nodup:=hM.nos;have nX2:(((D.turn a.i a.c (Dn.drop e.s)).turn b.i b.c (Dn.drop f.s)).L.map (·.i)).Nodup:=turn_nos (turn_nos hI.nos fun _=>rfl) fun _=>rfl;have nX3:((((D.turn a.i a.c (Dn.drop e.s)).turn b.i b.c (Dn.drop f.s)).turn b.i b.c (Dn.ins ⟨s,e.i,e.c⟩)).L.map (·.i)).Nodup:=turn_nos nX2 fun _=>rfl;have hcf:=cnt_drop D hI.nos hb (hI.rise b hb).1 hf
   have hce:∀ i c,((D.turn b.i b.c (Dn.drop f.s)).turn a.i a.c (Dn.drop e.s)).cnt i c+(if e.to i c then 1 else 0)=(D.turn b.i b.c (Dn.drop f.s)).cnt i c:=fun i c=>by
     by_cases h:a.i=b.i
     · obtain rfl:=same_no hI.nos ha hb h
       exact cnt_drop (D.turn a.i a.c (Dn.drop f.s)) nX1 (mem_turn_same (f:=Dn.drop f.s) ha) (hM.rise _ (mem_turn_same ha)).1 (hef rfl) i c
     · exact cnt_drop (D.turn b.i b.c (Dn.drop f.s)) nX1 (mem_turn_other ha h) (hI.rise a ha).1 he i c
   obtain ⟨b2,hb2,hb2i,hb2c⟩:∃ b2∈((D.turn a.i a.c (Dn.drop e.s)).turn b.i b.c (Dn.drop f.s)).L,b2.i=b.i∧b2.c=b.c:=by
     obtain ⟨b1,hb1,h1,h2⟩:∃ b1∈(D.turn a.i a.c (Dn.drop e.s)).L,b1.i=b.i∧b1.c=b.c:=by
       by_cases h:b.i=a.i
       · obtain rfl:=same_no hI.nos hb ha h
         exact ⟨_,mem_turn_same hb,rfl,rfl⟩
       · exact ⟨b,mem_turn_other hb h,rfl,rfl⟩
     rw [← h1,← h2];exact ⟨_,mem_turn_same hb1,rfl,rfl⟩
   have hci:∀ i c,(((D.turn a.i a.c (Dn.drop e.s)).turn b.i b.c (Dn.drop f.s)).turn b.i b.c (Dn.ins ⟨s,e.i,e.c⟩)).cnt i c=((D.turn b.i b.c (Dn.drop f.s)).turn a.i a.c (Dn.drop e.s)).cnt i c+(if e.to i c then 1 else 0):=fun i c=>by
     have:=cnt_ins ((D.turn a.i a.c (Dn.drop e.s)).turn b.i b.c (Dn.drop f.s)) ⟨s,e.i,e.c⟩ nX2 hb2 i c;rw [hb2i,hb2c] at this;rw [← hsw];exact this
   have hcc:∀ i c,(((D.turn a.i a.c (Dn.drop e.s)).turn b.i b.c (Dn.drop f.s)).turn b.i b.c (Dn.ins ⟨s,e.i,e.c⟩)).cnt i c=(D.turn b.i b.c (Dn.drop f.s)).cnt i c:=fun i c=>by rw [hci,hce]
   have hm3:∀ x∈(((D.turn a.i a.c (Dn.drop e.s)).turn b.i b.c (Dn.drop f.s)).turn b.i b.c (Dn.ins ⟨s,e.i,e.c⟩)).L,∃ u∈D.L,x.i=u.i∧x.c=u.c∧x.K=u.K∧x.p=u.p:=fun x hx=>by
     obtain ⟨x2,h2,rfl⟩:=mem_turnL.1 hx;obtain ⟨x1,h1,rfl⟩:=mem_turnL.1 h2;obtain ⟨x0,h0,rfl⟩:=mem_turnL.1 h1;refine ⟨x0,h0,?_⟩
     have e0:(if x0.is a.i a.c=true then Dn.drop e.s x0 else x0).i=x0.i∧(if x0.is a.i a.c=true then Dn.drop e.s x0 else x0).c=x0.c∧(if x0.is a.i a.c=true then Dn.drop e.s x0 else x0).K=x0.K∧(if x0.is a.i a.c=true then Dn.drop e.s x0 else x0).p=x0.p:=by split<;>exact ⟨rfl,rfl,rfl,rfl⟩
     generalize (if x0.is a.i a.c=true then Dn.drop e.s x0 else x0)=v0 at e0 ⊢
     have e1:(if v0.is b.i b.c=true then Dn.drop f.s v0 else v0).i=v0.i∧(if v0.is b.i b.c=true then Dn.drop f.s v0 else v0).c=v0.c∧(if v0.is b.i b.c=true then Dn.drop f.s v0 else v0).K=v0.K∧(if v0.is b.i b.c=true then Dn.drop f.s v0 else v0).p=v0.p:=by split<;>exact ⟨rfl,rfl,rfl,rfl⟩
     generalize (if v0.is b.i b.c=true then Dn.drop f.s v0 else v0)=v1 at e1 ⊢;rw [← e0.1,← e0.2.1,← e0.2.2.1,← e0.2.2.2,← e1.1,← e1.2.1,← e1.2.2.1,← e1.2.2.2]
     split<;>exact ⟨rfl,rfl,rfl,rfl⟩
   have hh3:∀ x∈(((D.turn a.i a.c (Dn.drop e.s)).turn b.i b.c (Dn.drop f.s)).turn b.i b.c (Dn.ins ⟨s,e.i,e.c⟩)).L,x.i≠z.i→(((D.turn a.i a.c (Dn.drop e.s)).turn b.i b.c (Dn.drop f.s)).turn b.i b.c (Dn.ins ⟨s,e.i,e.c⟩)).held x=true:=fun x hx hxz=>by
     obtain ⟨u,hu,u1,u2,u3,u4⟩:=hm3 x hx
     have hcx:(((D.turn a.i a.c (Dn.drop e.s)).turn b.i b.c (Dn.drop f.s)).turn b.i b.c (Dn.ins ⟨s,e.i,e.c⟩)).cnt x.i x.c=D.cnt u.i u.c:=by
       rw [hcc,u1,u2,← hcf u.i u.c,if_neg (fun k=>hxz (u1.trans ((to_iff.1 k).1.symm.trans hzi.symm)))];rfl
     rcases hI.kind u hu with ⟨q,_⟩ | ⟨q,_⟩
     · rcases (hI.files u hu q).2 with c | c
       · exact held_of (Or.inr (Or.inr ⟨u3.trans q,by rw [hcx];exact c⟩))
       · exact held_of (Or.inr (Or.inl (by rw [u4];exact c)))
     · exact held_of (Or.inl (u3.trans q))
   rw [lost_form nX3 hzX3 hz1 hh3,lost_form nX1 hzX1 hz1 hM.all_held,hcc]
   split
   · rw [gone_comm _ (ki _),hsw,gone_comm _ (kd _)]
   · rw [turn_comm (ki _) kt (Ne.symm hzb),hsw,turn_comm (kd _) kt (Ne.symm hza)]
end
end Go.Proofs.YtkcabopgajlmdaaGreatDoor
