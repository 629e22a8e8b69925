import Derived.Test.YtbdfjbmocifhmaaGreatDoorK38
namespace Go.Proofs.YtbdfjbmocifhmaaGreatDoor
section
open Go Go.RowKit Go.Deep Go.Maps
structure RepX (T:Tr)(D:Dt)(k:Nat):Prop where
 most:T.most=D.most
 g:∀ x∈D.L,T.g x.i=x.c
 t:∀ i,(∀ x∈D.L,x.i≠i)→T.g i=D.t i∧T.nd i=none∧T.ds i=none∧T.pn i=0
 ds:∀ x∈D.L,(x.K=2→∃ b,T.ds x.i=some ⟨b,x.es⟩)∧(x.K=1→T.ds x.i=none)
 pn:∀ x∈D.L,T.pn x.i=x.p
 nd:∀ x∈D.L,∃ n,T.nd x.i=some n∧n.K=x.K∧n.C=x.C∧n.S=x.S∧n.H=x.H∧(x.K=1→n.L=(D.cnt x.i x.c:Nat)∧n.UN=0∧n.UG=0)∧(x.K=2→n.L=2+(dirsIn x.es T.ds:Int)∧n.Z=(x.es.length:Nat)∧(x.i≠k→n.UN=((D.up x.i x.c).1:Nat)∧n.UG=((D.up x.i x.c).2:Nat)))
theorem RepX.rep {T:Tr}{D:Dt}{k:Nat}(h:RepX T D k)(hI:DInv D)(hk:∀ x∈D.L,x.i=k→x.K=2→∀ n,T.nd x.i=some n→n.UN=((D.up x.i x.c).1:Nat)∧n.UG=((D.up x.i x.c).2:Nat)):Rep T D :=
 Rep.build hI h.most h.g h.t h.ds h.pn fun x hx=>by
  obtain ⟨n,n0,n1,n2,n3,n4,n5,n6⟩:=h.nd x hx;refine ⟨n,n0,n1,n2,n3,n4,n5,fun q=>⟨(n6 q).1,(n6 q).2.1,?_⟩⟩
  by_cases e:x.i=k
  · exact hk x hx e q n n0
  · exact (n6 q).2.2 e
theorem mem_turn {D:Dt}(hn:(D.L.map (·.i)).Nodup){x:Dn}(hx:x∈D.L){f:Dn→Dn}{v:Dn}(hv:v∈(D.turn x.i x.c f).L):(v∈D.L∧v.i≠x.i)∨v=f x:=by
 obtain ⟨z,hz,rfl⟩:=mem_turnL.1 hv
 by_cases e:z.i=x.i
 · obtain rfl:=same_no hn hz hx e
   rw [if_pos (is_iff.2 ⟨rfl,rfl⟩)];exact Or.inr rfl
 · rw [if_neg (fun q=>e (is_iff.1 q).1)]
   exact Or.inl ⟨hz,e⟩
theorem up_turn {D:Dt}{a b i c:Nat}{f:Dn→Dn}(hf:∀ x,(f x).i=x.i∧(f x).c=x.c)(h:∀ x∈D.L,x.is a b=true→(f x).es.any (·.to i c)=x.es.any (·.to i c)):(D.turn a b f).up i c=D.up i c:=by
 have key:∀ L:List Dn,(∀ x∈L,x.is a b=true→(f x).es.any (·.to i c)=x.es.any (·.to i c))→((turnL a b f L).find? (fun x=>x.es.any (·.to i c))).map (fun x=>(x.i,x.c))=(L.find? (fun x=>x.es.any (·.to i c))).map (fun x=>(x.i,x.c)):=by
  intro L
  induction L with
  | nil=>intro _;rfl
  | cons x L ih =>
   intro hh
   have h0:(if x.is a b=true then f x else x).es.any (·.to i c)=x.es.any (·.to i c):=by
    split
    · rename_i e;exact hh x List.mem_cons_self e
    · rfl
   have h1:((if x.is a b=true then f x else x).i,(if x.is a b=true then f x else x).c)=(x.i,x.c):=by
    split
    · rw [(hf x).1,(hf x).2]
    · rfl
   show (((if x.is a b=true then f x else x)::turnL a b f L).find? _).map _=_;rw [List.find?_cons,List.find?_cons,h0]
   cases x.es.any (·.to i c) with
   | true=>exact congrArg some h1
   | false=>exact ih fun y hy=>hh y (List.mem_cons_of_mem _ hy)
 have hk:=key D.L h;unfold Dt.up;show (match (turnL a b f D.L).find? _ with | some x=>(x.i,x.c) | none=>(i,c))=_
 cases h1:(turnL a b f D.L).find? (fun x=>x.es.any (·.to i c)) with
 | none =>
  rw [h1] at hk
  cases h2:D.L.find? (fun x=>x.es.any (·.to i c)) with
  | none=>rfl
  | some y=>rw [h2] at hk;cases hk
 | some z =>
  rw [h1] at hk
  cases h2:D.L.find? (fun x=>x.es.any (·.to i c)) with
  | none=>rw [h2] at hk;cases hk
  | some y=>rw [h2] at hk;exact Option.some.inj hk
theorem any_drop {l:List Ent}{e:Ent}(hr:RisingE l)(he:e∈l){i c:Nat}(hne:¬ (e.i=i∧e.c=c)):(dropE l e.s).any (·.to i c)=l.any (·.to i c):=by
 rw [Bool.eq_iff_iff,any_to,any_to]
 constructor
 · rintro ⟨q,h1,h2⟩
   exact ⟨q,mem_dropE h1,h2⟩
 · rintro ⟨q,h1,h2⟩
   refine ⟨q,List.mem_filter.2 ⟨h1,?_⟩,h2⟩
   have hs:q.s≠e.s:=fun k=>by
    have f1:=find_mem (rising_nodup hr) h1;have f2:=find_mem (rising_nodup hr) he;rw [k,f2] at f1
    cases f1
    exact hne h2
   simpa using hs
theorem any_ins {l:List Ent}{e:Ent}{i c:Nat}(hne:¬ (e.i=i∧e.c=c)):(insE e l).any (·.to i c)=l.any (·.to i c):=by
 rw [Bool.eq_iff_iff,any_to,any_to]
 constructor
 · rintro ⟨q,h1,h2⟩
   rcases mem_insE.1 h1 with rfl | h1
   · exact absurd h2 hne
   · exact ⟨q,h1,h2⟩
 · rintro ⟨q,h1,h2⟩
   exact ⟨q,mem_insE.2 (Or.inr h1),h2⟩
theorem DInv.not_self {D:Dt}(h:DInv D){a y:Dn}{e:Ent}(ha:a∈D.L)(hK:a.K=2)(he:e∈a.es)(hyi:y.i=e.i):a.i≠y.i:=fun k=>by
 obtain ⟨r,hr⟩:=h.rank;have:=hr a ha e he ⟨a,ha,k.trans hyi,hK⟩;rw [← hyi,← k] at this;exact Nat.lt_irrefl _ this
theorem Rep.taken {T T':Tr}{D:Dt}(h:Rep T D)(hI:DInv D){a y:Dn}{e:Ent}(ha:a∈D.L)(hK:a.K=2)(he:e∈a.es)(hy:y∈D.L)(hyi:y.i=e.i)(hyc:y.c=e.c){b0:Nat}{na na' ny ny':Nod}(hna:T.nd a.i=some na)(hny:T.nd y.i=some ny)
   (hg:T'.g=T.g) (hm:T'.most=T.most) (hp:T'.pn=T.pn) (hds:T'.ds=setN T.ds a.i (some ⟨b0,dropE a.es e.s⟩)) (hnd:∀ i,i≠a.i→i≠y.i→T'.nd i=T.nd i) (hnda:T'.nd a.i=some na') (hndy:T'.nd y.i=some ny')
   (a1:na'.K=na.K) (a2:na'.C=na.C) (a3:na'.S=na.S) (a4:na'.H=na.H) (a5:na'.UN=na.UN) (a6:na'.UG=na.UG) (a7:na'.Z=((dropE a.es e.s).length:Nat)) (a8:na'.L=2+(dirsIn (dropE a.es e.s) T'.ds:Int))
   (b1:ny'.K=ny.K) (b2:ny'.C=ny.C) (b3:ny'.S=ny.S) (b4:ny'.H=ny.H) (b5:y.K=1→ny'.L=ny.L - 1∧ny'.UN=ny.UN∧ny'.UG=ny.UG) (b6:y.K=2→ny'.L=ny.L∧ny'.Z=ny.Z):RepX T' (D.turn a.i a.c (Dn.drop e.s)) y.i:=by
 have hay:=hI.not_self ha hK he hyi;have hr:=(hI.rise a ha).1;have hc:=cnt_drop D hI.nos ha hr he
 have hsome:∀ i,(T'.ds i).isSome=(T.ds i).isSome:=fun i=>by
   rw [hds]
   by_cases q:i=a.i
   · obtain ⟨b,hb⟩:=(h.ds a ha).1 hK
     rw [q,setN_same,hb];rfl
   · rw [setN_other _ _ q]
 have hup:∀ v∈D.L,v.i≠y.i→(D.turn a.i a.c (Dn.drop e.s)).up v.i v.c=D.up v.i v.c:=fun v _ hvi=>up_turn (f:=Dn.drop e.s) (fun _=>⟨rfl,rfl⟩) fun x hx k=>by
   obtain rfl:=same_no hI.nos hx ha (is_iff.1 k).1;exact any_drop hr he fun k=>hvi (k.1.symm.trans hyi.symm)
 refine ⟨hm.trans h.most,fun v hv=>?_,fun i hi=>?_,fun v hv=>?_,fun v hv=>?_,fun v hv=>?_⟩
 · rw [hg]
   rcases mem_turn hI.nos ha hv with ⟨h1,_⟩ | rfl
   · exact h.g v h1
   · exact h.g a ha
 · have hia:i≠a.i:=fun k=>hi _ (mem_turn_same (f:=Dn.drop e.s) ha) k.symm
   have hold:∀ x∈D.L,x.i≠i:=fun x hx k=>by
     by_cases e1:x.i=a.i
     · exact hia (k.symm.trans e1)
     · exact hi x (mem_turn_other hx e1) k
   rw [hg,hp,hds,setN_other _ _ hia,hnd i hia (fun k=>hold y hy k.symm)];exact h.t i hold
 · rcases mem_turn hI.nos ha hv with ⟨h1,h2⟩ | rfl
   · rw [hds,setN_other _ _ h2]
     exact h.ds v h1
   · refine ⟨fun _=>⟨b0,by rw [hds];exact setN_same _ _ _⟩,fun q=>?_⟩
     have q':a.K=1:=q;omega
 · rw [hp]
   rcases mem_turn hI.nos ha hv with ⟨h1,_⟩ | rfl
   · exact h.pn v h1
   · exact h.pn a ha
 · rcases mem_turn hI.nos ha hv with ⟨h1,h2⟩ | rfl
   · obtain ⟨n,n0,n1,n2,n3,n4,n5,n6⟩:=h.counted hI h1
     have hcv:=hc v.i v.c
     by_cases e1:v.i=y.i
     · obtain rfl:=same_no hI.nos h1 hy e1
       rw [if_pos (to_iff.2 ⟨hyi.symm,hyc.symm⟩)] at hcv;rw [hny] at n0
       cases n0
       refine ⟨ny',hndy,b1.trans n1,b2.trans n2,b3.trans n3,b4.trans n4,fun q=>⟨?_,(b5 q).2.1.trans (n5 q).2.1,(b5 q).2.2.trans (n5 q).2.2⟩,fun q=>⟨?_,(b6 q).2.trans (n6 q).2.1,fun k=>absurd rfl k⟩⟩
       · rw [(b5 q).1,(n5 q).1]
         omega
       · rw [(b6 q).1,(n6 q).1,dirsIn_same fun e _=>hsome e.i]
     · rw [if_neg (fun k=>e1 ((to_iff.1 k).1.symm.trans hyi.symm))] at hcv
       refine ⟨n,(hnd _ h2 e1).trans n0,n1,n2,n3,n4,fun q=>⟨?_,(n5 q).2⟩,fun q=>⟨?_,(n6 q).2.1,fun _=>?_⟩⟩
       · rw [(n5 q).1,← hcv];rfl
       · rw [(n6 q).1,dirsIn_same fun e _=>hsome e.i]
       · rw [hup v h1 e1];exact (n6 q).2.2
   · obtain ⟨n,n0,n1,n2,n3,n4,n5,n6⟩:=h.counted hI ha
     rw [hna] at n0
     cases n0
     refine ⟨na',hnda,a1.trans n1,a2.trans n2,a3.trans n3,a4.trans n4,fun q=>?_,fun _=>⟨a8,a7,fun _=>?_⟩⟩
     · have q':a.K=1:=q
       omega
     · show na'.UN=(((D.turn a.i a.c (Dn.drop e.s)).up a.i a.c).1:Nat)∧na'.UG=(((D.turn a.i a.c (Dn.drop e.s)).up a.i a.c).2:Nat)
       rw [hup a ha hay,a5,a6];exact (n6 hK).2.2
theorem RepX.put {T T':Tr}{D:Dt}{y b:Dn}{s:List UInt8}(h:RepX T D y.i)(hM:DMid D y.i)(hy:y∈D.L)(hb:b∈D.L)(hK:b.K=2)(hyb:b.i≠y.i)(hI':DInv (D.turn b.i b.c (Dn.ins ⟨s,y.i,y.c⟩))){b0:Nat}{nb nb' ny ny':Nod}(hnb:T.nd b.i=some nb)(hny:T.nd y.i=some ny)
   (hg:T'.g=T.g) (hm:T'.most=T.most) (hp:T'.pn=T.pn) (hds:T'.ds=setN T.ds b.i (some ⟨b0,insE ⟨s,y.i,y.c⟩ b.es⟩)) (hnd:∀ i,i≠b.i→i≠y.i→T'.nd i=T.nd i) (hndb:T'.nd b.i=some nb') (hndy:T'.nd y.i=some ny')
   (a1:nb'.K=nb.K) (a2:nb'.C=nb.C) (a3:nb'.S=nb.S) (a4:nb'.H=nb.H) (a5:nb'.UN=nb.UN) (a6:nb'.UG=nb.UG) (a7:nb'.Z=((insE ⟨s,y.i,y.c⟩ b.es).length:Nat)) (a8:nb'.L=2+(dirsIn (insE ⟨s,y.i,y.c⟩ b.es) T'.ds:Int))
   (b1:ny'.K=ny.K) (b2:ny'.C=ny.C) (b3:ny'.S=ny.S) (b4:ny'.H=ny.H) (b5:y.K=1→ny'.L=ny.L+1∧ny'.UN=ny.UN∧ny'.UG=ny.UG) (b6:y.K=2→ny'.L=ny.L∧ny'.Z=ny.Z∧ny'.UN=(b.i:Nat)∧ny'.UG=(b.c:Nat)):Rep T' (D.turn b.i b.c (Dn.ins ⟨s,y.i,y.c⟩)):=by
 have hc:=fun i c=>cnt_ins D ⟨s,y.i,y.c⟩ hM.nos hb i c
 have hsome:∀ i,(T'.ds i).isSome=(T.ds i).isSome:=fun i=>by
   rw [hds]
   by_cases q:i=b.i
   · obtain ⟨b,hb⟩:=(h.ds b hb).1 hK
     rw [q,setN_same,hb];rfl
   · rw [setN_other _ _ q]
 have hup:∀ v∈D.L,v.i≠y.i→(D.turn b.i b.c (Dn.ins ⟨s,y.i,y.c⟩)).up v.i v.c=D.up v.i v.c:=fun v _ hvi=>up_turn (f:=Dn.ins ⟨s,y.i,y.c⟩) (fun _=>⟨rfl,rfl⟩) fun x hx k=>any_ins fun k=>hvi k.1.symm;have hby:Dn.ins ⟨s,y.i,y.c⟩ b∈(D.turn b.i b.c (Dn.ins ⟨s,y.i,y.c⟩)).L:=mem_turn_same hb;refine RepX.rep (k:=y.i) ⟨hm.trans h.most,fun v hv=>?_,fun i hi=>?_,fun v hv=>?_,fun v hv=>?_,fun v hv=>?_⟩ hI' fun v hv e1 q n hn=>?_
 · rw [hg]
   rcases mem_turn hM.nos hb hv with ⟨h1,_⟩ | rfl
   · exact h.g v h1
   · exact h.g b hb
 · have hib:i≠b.i:=fun k=>hi _ hby k.symm
   have hold:∀ x∈D.L,x.i≠i:=fun x hx k=>by
     by_cases e1:x.i=b.i
     · exact hib (k.symm.trans e1)
     · exact hi x (mem_turn_other hx e1) k
   rw [hg,hp,hds,setN_other _ _ hib,hnd i hib (fun k=>hold y hy k.symm)];exact h.t i hold
 · rcases mem_turn hM.nos hb hv with ⟨h1,h2⟩ | rfl
   · rw [hds,setN_other _ _ h2]
     exact h.ds v h1
   · refine ⟨fun _=>⟨b0,by rw [hds];exact setN_same _ _ _⟩,fun q=>?_⟩
     have q':b.K=1:=q;omega
 · rw [hp]
   rcases mem_turn hM.nos hb hv with ⟨h1,_⟩ | rfl
   · exact h.pn v h1
   · exact h.pn b hb
 · rcases mem_turn hM.nos hb hv with ⟨h1,h2⟩ | rfl
   · obtain ⟨n,n0,n1,n2,n3,n4,n5,n6⟩:=h.nd v h1
     have hcv:(D.turn b.i b.c (Dn.ins ⟨s,y.i,y.c⟩)).cnt v.i v.c=_:=hc v.i v.c
     by_cases e1:v.i=y.i
     · obtain rfl:=same_no hM.nos h1 hy e1
       rw [if_pos (to_iff.2 ⟨rfl,rfl⟩)] at hcv;rw [hny] at n0
       cases n0
       refine ⟨ny',hndy,b1.trans n1,b2.trans n2,b3.trans n3,b4.trans n4,fun q=>⟨?_,(b5 q).2.1.trans (n5 q).2.1,(b5 q).2.2.trans (n5 q).2.2⟩,fun q=>⟨?_,(b6 q).2.1.trans (n6 q).2.1,fun k=>absurd rfl k⟩⟩
       · rw [(b5 q).1,(n5 q).1,hcv]
         rfl
       · rw [(b6 q).1,(n6 q).1,dirsIn_same fun e _=>hsome e.i]
     · rw [if_neg (fun k=>e1 (to_iff.1 k).1.symm)] at hcv
       refine ⟨n,(hnd _ h2 e1).trans n0,n1,n2,n3,n4,fun q=>⟨?_,(n5 q).2⟩,fun q=>⟨?_,(n6 q).2.1,fun _=>?_⟩⟩
       · rw [(n5 q).1,hcv];rfl
       · rw [(n6 q).1,dirsIn_same fun e _=>hsome e.i]
       · rw [hup v h1 e1];exact (n6 q).2.2 e1
   · obtain ⟨n,n0,n1,n2,n3,n4,n5,n6⟩:=h.nd b hb
     rw [hnb] at n0
     cases n0
     refine ⟨nb',hndb,a1.trans n1,a2.trans n2,a3.trans n3,a4.trans n4,fun q=>?_,fun _=>⟨a8,a7,fun _=>?_⟩⟩
     · have q':b.K=1:=q
       omega
     · show nb'.UN=(((D.turn b.i b.c (Dn.ins ⟨s,y.i,y.c⟩)).up b.i b.c).1:Nat)∧nb'.UG=(((D.turn b.i b.c (Dn.ins ⟨s,y.i,y.c⟩)).up b.i b.c).2:Nat)
       rw [hup b hb hyb,a5,a6];exact (n6 hK).2.2 hyb
 · rcases mem_turn hM.nos hb hv with ⟨h1,h2⟩ | rfl
   · obtain rfl:=same_no hM.nos h1 hy e1
     rw [hndy] at hn
     cases hn
     have hy0:v.i≠0:=(hI'.live _ hby ⟨s,v.i,v.c⟩ (mem_insE.2 (Or.inl rfl))).1;have h3:=hI'.up_is hv q hy0 hby (any_to.2 ⟨⟨s,v.i,v.c⟩,mem_insE.2 (Or.inl rfl),rfl,rfl⟩);rw [h3];exact (b6 q).2.2
   · exact absurd e1 hyb
theorem find_filter_same {l:List Dn}{p q:Dn→Bool}(h:∀ x∈l,q x=true→p x=true):(l.filter p).find? q=l.find? q:=by
 induction l with
 | nil=>rfl
 | cons x l ih =>
  have ih':=ih fun y hy=>h y (List.mem_cons_of_mem _ hy);rw [List.filter_cons,List.find?_cons]
  cases hq:q x with
  | true =>
   rw [if_pos (h x List.mem_cons_self hq),List.find?_cons,hq]
  | false =>
   split
   · rw [List.find?_cons,hq];exact ih'
   · exact ih'
theorem RepX.gone {T T':Tr}{D:Dt}{z:Dn}(h:RepX T D z.i)(hM:DMid D z.i)(hz:z∈D.L)(hes:z.es=[])(_hc:∀ c,D.cnt z.i c=0)(hI':DInv (D.gone z.i z.c))(hg:∀ i,T'.g i=if i=z.i then z.c+1 else T.g i)(hmost:T'.most=T.most)(hpn:∀ i,T'.pn i=if i=z.i then 0 else T.pn i)(hds:∀ i,T'.ds i=if i=z.i then none else T.ds i)(hnd:∀ i,T'.nd i=if i=z.i then none else T.nd i):Rep T' (D.gone z.i z.c):=by
 have hm:∀ v∈(D.gone z.i z.c).L,v∈D.L∧v.i≠z.i:=fun v hv=>by
   obtain ⟨h1,h2⟩:=List.mem_filter.1 hv;refine ⟨h1,fun k=>?_⟩;rw [same_no hM.nos h1 hz k,is_iff.2 ⟨rfl,rfl⟩] at h2
   cases h2
 have hb:∀ v∈D.L,v.i≠z.i→v∈(D.gone z.i z.c).L:=fun v hv hi=>List.mem_filter.2 ⟨hv,by rw [Bool.not_eq_true',Bool.eq_false_iff];exact fun k=>hi (is_iff.1 k).1⟩
 have hcn:∀ i c,(D.gone z.i z.c).cnt i c=D.cnt i c:=fun i c=>cntL_filter _ _ D.L fun y hy e=>by
   have he:y.is z.i z.c=true:=by simpa using e
   rw [same_no hM.nos hy hz (is_iff.1 he).1];exact hes
 have hup:∀ i c,(D.gone z.i z.c).up i c=D.up i c:=fun i c=>by
   unfold Dt.up
   rw [show (D.gone z.i z.c).L.find? (fun x=>x.es.any (·.to i c))=D.L.find? (fun x=>x.es.any (·.to i c)) from find_filter_same fun x hx q=>by
     rw [Bool.not_eq_true',Bool.eq_false_iff];intro k;rw [same_no hM.nos hx hz (is_iff.1 k).1,hes] at q
     cases q]
 have hne:∀ v∈(D.gone z.i z.c).L,∀ e∈v.es,e.i≠z.i:=fun v hv e he k=>by
   obtain ⟨_,⟨u,hu,u1,_⟩,_⟩:=hI'.live v hv e he;exact (hm u hu).2 (u1.trans k)
 refine RepX.rep (k:=z.i) ⟨by rw [hmost];exact h.most,fun v hv=>?_,fun i hi=>?_,fun v hv=>?_,fun v hv=>?_,fun v hv=>?_⟩ hI' fun v hv e=>absurd e (hm v hv).2
 · rw [hg,if_neg (hm v hv).2]
   exact h.g v (hm v hv).1
 · by_cases e:i=z.i
   · rw [hg,hnd,hds,hpn,if_pos e,if_pos e,if_pos e,if_pos e]
     refine ⟨?_,rfl,rfl,rfl⟩;show z.c+1=D.t i;rw [e];exact (hM.lt z hz).2.symm
   · rw [hg,hnd,hds,hpn,if_neg e,if_neg e,if_neg e,if_neg e]
     exact h.t i fun x hx k=>hi x (hb x hx (fun k2=>e (k.symm.trans k2))) k
 · rw [hds,if_neg (hm v hv).2]
   exact h.ds v (hm v hv).1
 · rw [hpn,if_neg (hm v hv).2]
   exact h.pn v (hm v hv).1
 · obtain ⟨h1,h2⟩:=hm v hv
   obtain ⟨n,n0,n1,n2,n3,n4,n5,n6⟩:=h.nd v h1;refine ⟨n,by rw [hnd,if_neg h2];exact n0,n1,n2,n3,n4,fun q=>⟨by rw [hcn];exact (n5 q).1,(n5 q).2⟩,fun q=>⟨?_,(n6 q).2.1,fun _=>by rw [hup];exact (n6 q).2.2 h2⟩⟩;rw [(n6 q).1,dirsIn_same (l:=v.es) (ds:=T.ds) (ds':=T'.ds) fun e he=>by rw [hds,if_neg (hne v hv e he)]]
theorem DInv.has_es {D:Dt}(h:DInv D){x:Dn}(hx:x∈D.L){e:Ent}(he:e∈x.es):x.K=2:=by
 rcases h.kind x hx with ⟨_,k⟩ | ⟨k,_⟩
 · rw [k] at he;cases he
 · exact k
theorem pig {l m:List Nat}(hl:l.Nodup)(hm:m.Nodup)(h:∀ x∈l,x∈m):l.length≤m.length:=by
 have hp:l.Perm (m.filter fun k=>l.contains k):=by
  rw [List.perm_ext_iff_of_nodup hl (List.Pairwise.filter _ hm)];intro k;rw [List.mem_filter];exact ⟨fun hk=>⟨h k hk,by simpa using hk⟩,fun hk=>by simpa using hk.2⟩
 have h1:=hp.length_eq;have h2:=List.length_filter_le (fun k=>l.contains k) m;omega
theorem find_none_ne {l:List Ent}{s:List UInt8}(h:findE l s=none):∀ e∈l,e.s≠s:=fun e he k=>by
 have:=List.find?_eq_none.1 h e he;simp [k] at this
theorem turn_comm {D:Dt}{i c j d:Nat}{f g:Dn→Dn}(hf:∀ x,(f x).i=x.i∧(f x).c=x.c)(hg:∀ x,(g x).i=x.i∧(g x).c=x.c)(hij:i≠j):(D.turn i c f).turn j d g=(D.turn j d g).turn i c f:=by
 unfold Dt.turn;congr 1;show turnL j d g (turnL i c f D.L)=turnL i c f (turnL j d g D.L);unfold turnL;rw [List.map_map,List.map_map];apply List.map_congr_left;intro x _;show (if (if x.is i c=true then f x else x).is j d=true then g (if x.is i c=true then f x else x) else (if x.is i c=true then f x else x))=(if (if x.is j d=true then g x else x).is i c=true then f (if x.is j d=true then g x else x) else (if x.is j d=true then g x else x))
 by_cases h1:x.is i c=true
 · have h2:¬ x.is j d=true:=fun k=>hij ((is_iff.1 h1).1.symm.trans (is_iff.1 k).1)
   have h3:¬ (f x).is j d=true:=fun k=>h2 (is_iff.2 ⟨(hf x).1 ▸ (is_iff.1 k).1,(hf x).2 ▸ (is_iff.1 k).2⟩);rw [if_pos h1,if_neg h3,if_neg h2,if_pos h1]
 · rw [if_neg h1]
   by_cases h2:x.is j d=true
   · have h3:¬ (g x).is i c=true:=fun k=>h1 (is_iff.2 ⟨(hg x).1 ▸ (is_iff.1 k).1,(hg x).2 ▸ (is_iff.1 k).2⟩)
     rw [if_pos h2,if_neg h3]
   · rw [if_neg h2,if_neg h1]
theorem gone_comm (D:Dt){i c k d:Nat}{f:Dn→Dn}(hf:∀ x,(f x).i=x.i∧(f x).c=x.c):(D.turn i c f).gone k d=(D.gone k d).turn i c f:=by
 unfold Dt.gone Dt.turn;congr 1;show (turnL i c f D.L).filter _=turnL i c f (D.L.filter _);unfold turnL;rw [List.filter_map];congr 1;apply List.filter_congr;intro x _;show (!(if x.is i c=true then f x else x).is k d)=!x.is k d
 split
 · unfold Dn.is
   rw [(hf x).1,(hf x).2]
 · rfl
theorem lost_form {X:Dt}(hn:(X.L.map (·.i)).Nodup){z:Dn}(hz:z∈X.L)(hK:z.K=1)(hh:∀ x∈X.L,x.i≠z.i→X.held x=true):X.lost z=if X.cnt z.i z.c=0∧z.p=0 then X.gone z.i z.c else X.turn z.i z.c Dn.touched:=by
 have hct:∀ a b,(X.turn z.i z.c Dn.touched).cnt a b=X.cnt a b:=fun a b=>cntL_quiet (f:=Dn.touched) _ (fun _=>rfl) _;have hdE:(X.turn z.i z.c Dn.touched).dirE=X.dirE:=funext fun e=>Dt.dirE_turn (f:=Dn.touched) (fun _=>⟨rfl,rfl⟩) (fun _=>rfl) e
 have hheld:∀ x,(X.turn z.i z.c Dn.touched).held x=X.held x:=fun x=>by
   unfold Dt.held Dt.links;rw [hdE,hct]
 have hzz:X.held (Dn.touched z)=X.held z:=rfl;unfold Dt.lost;rw [if_neg (by omega)]
 split
 · rename_i hc
   rw [← gone_turn X (f:=Dn.touched) (y:=z) (fun _=>⟨rfl,rfl⟩)];unfold Dt.sweep Dt.gone;congr 1;apply List.filter_congr;intro x hx;rw [hheld];rcases mem_turn hn hz hx with ⟨h1,h2⟩ | rfl
   · have h3:x.is z.i z.c=false:=by rw [Bool.eq_false_iff];exact fun k=>h2 (is_iff.1 k).1
     rw [hh x h1 h2,h3];rfl
   · rw [hzz,not_held hK hc.2 hc.1,show (Dn.touched z).is z.i z.c=true from is_iff.2 ⟨rfl,rfl⟩]
     rfl
 · rename_i hc
   have:(X.turn z.i z.c Dn.touched).L.filter (X.turn z.i z.c Dn.touched).held=(X.turn z.i z.c Dn.touched).L:=by
     rw [List.filter_eq_self];intro x hx;rw [hheld];rcases mem_turn hn hz hx with ⟨h1,h2⟩ | rfl
     · exact hh x h1 h2
     · rw [hzz]
       refine held_of ?_
       by_cases q:z.p=0
       · exact Or.inr (Or.inr ⟨hK,Nat.pos_of_ne_zero fun k=>hc ⟨k,q⟩⟩)
       · exact Or.inr (Or.inl (Nat.pos_of_ne_zero q))
   unfold Dt.sweep;rw [this]
theorem DMid.all_held {D:Dt}{k:Nat}(h:DMid D k):∀ x∈D.L,x.i≠k→D.held x=true:=fun x hx hk=>by
 rcases h.kind x hx with ⟨q,_⟩ | ⟨q,_⟩
 · rcases (h.files x hx hk q).2 with c | c
   · exact held_of (Or.inr (Or.inr ⟨q,c⟩))
   · exact held_of (Or.inr (Or.inl c))
 · exact held_of (Or.inl q)
end
end Go.Proofs.YtbdfjbmocifhmaaGreatDoor
