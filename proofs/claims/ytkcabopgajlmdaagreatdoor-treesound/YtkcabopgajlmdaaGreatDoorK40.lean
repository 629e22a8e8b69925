import Derived.Test.YtkcabopgajlmdaaGreatDoorK35
import Derived.Test.YtkcabopgajlmdaaGreatDoorK37
import Derived.Test.YtkcabopgajlmdaaGreatDoorK39
namespace Go.Proofs.YtkcabopgajlmdaaGreatDoor
section
open Go Go.RowKit Go.Deep Go.Maps
def RenO (D:Dt)(a b y:Dn)(e f:Ent)(s2:ByteArray)(z:Dn)(c:Nat)(D':Dt):Prop :=
 (z=y∧c=0∧D'=D)∨(z≠y∧y.K=1∧z.K=2∧c=7∧D'=D)∨(z≠y∧y.K=2∧z.K=1∧c=8∧D'=D)∨(z≠y∧y.K=2∧z.K=2∧z.es≠[]∧c=11∧D'=D) ∨
 (z≠y∧y.K=z.K∧z.es=[]∧a≠b∧c=0∧D'=renOver D a b z e f s2.data.toList)∨(z≠y∧y.K=z.K∧z.es=[]∧a=b∧c=0∧D'=renOverOwn D a z e f s2.data.toList)
def RenM (D:Dt)(a b y:Dn)(e:Ent)(s2:ByteArray)(c:Nat)(D':Dt):Prop :=
 (findE b.es s2.data.toList=none∧a≠b∧60≤b.es.length∧c=9∧D'=D)∨(findE b.es s2.data.toList=none∧a≠b∧b.es.length < 60∧c=0∧D'=renFree D a b e s2.data.toList)∨(findE b.es s2.data.toList=none∧a=b∧c=0∧D'=renOwn D a e s2.data.toList) ∨
 ∃ f z,findE b.es s2.data.toList=some f∧z∈D.L∧z.i=f.i∧z.c=f.c∧RenO D a b y e f s2 z c D'
def RenR (D:Dt)(N1 G1 N2 G2:Int)(s1 s2:ByteArray)(c:Nat)(D':Dt):Prop :=
 (RenE D N1 G1 N2 G2 s1 s2 c∧D'=D)∨∃ a b e y,D.atZ N1 G1=some a∧a.K=2∧D.atZ N2 G2=some b∧b.K=2∧OkN s1∧OkN s2∧findE a.es s1.data.toList=some e∧y∈D.L∧y.i=e.i∧y.c=e.c ∧
  ((y.K=2∧InD D b.i b.c e.i e.c∧c=3∧D'=D)∨((y.K=2→¬ InD D b.i b.c e.i e.c)∧RenM D a b y e s2 c D'))
def RenP (w w':World)(base m:Nat)(D:Dt)(N1 G1 N2 G2:Int)(s1 s2:ByteArray)(r:Ending):Prop:=∃ c D',r = .returned (zI ((c:Nat):Int))∧RenR D N1 G1 N2 G2 s1 s2 c D'∧DM w' base m D'∧DocW base w w'
theorem RenP.quiet {w w':World}{base m:Nat}{D:Dt}{N1 G1 N2 G2:Int}{s1 s2:ByteArray}{r:Ending}{c:Nat}(h:DM w base m D)(hq:RenQP w w' c r)(hR:RenR D N1 G1 N2 G2 s1 s2 c D):RenP w w' base m D N1 G1 N2 G2 s1 s2 r:=⟨c,D,hq.2,hR,h.only hq.1,DocW.none hq.1⟩
theorem RenP.moved {w w':World}{base m:Nat}{D D':Dt}{N1 G1 N2 G2:Int}{s1 s2:ByteArray}{r:Ending}(hq:RenMP w w' base m D' r)(hR:RenR D N1 G1 N2 G2 s1 s2 0 D'):RenP w w' base m D N1 G1 N2 G2 s1 s2 r:=⟨0,D',hq.1,hR,hq.2.1,hq.2.2⟩
theorem drename_any (w:World)(base m:Nat)(D:Dt)(N1 G1 N2 G2:Int)(s1 s2:ByteArray)(B:Nat)(h0:DM w base m D)(hI:DInv D)(hb:DB D B)(hB:B≤999000)(hbs:base≤w.heap.size):
   zK 34 #[zP m,zG N1 G1,.string s1,zG N2 G2,.string s2] w fun r w'=>RenP w w' base m D N1 G1 N2 G2 s1 s2 r:=by
 have h0':=h0;obtain ⟨lv,tv,ns,h⟩:=h0;have hk:=hI.ok hb hB
 by_cases hbad:dirN D N1 G1≠0∨dirN D N2 G2≠0∨¬ OkN s1∨¬ OkN s2∨∃ x,D.atZ N1 G1=some x∧findE x.es s1.data.toList=none
 · exact (drename_err w base m lv tv ns D N1 G1 N2 G2 s1 s2 h hk hbad).mono fun r w' hh=>by
     obtain ⟨ho,c,hR,hr⟩:=hh;exact ⟨c,D,hr,Or.inl ⟨hR,rfl⟩,h0'.only ho,DocW.none ho⟩
 have hd1:dirN D N1 G1=0:=Classical.byContradiction fun e=>hbad (Or.inl e);have hd2:dirN D N2 G2=0:=Classical.byContradiction fun e=>hbad (Or.inr (Or.inl e));have ho1:OkN s1:=Classical.byContradiction fun e=>hbad (Or.inr (Or.inr (Or.inl e)));have ho2:OkN s2:=Classical.byContradiction fun e=>hbad (Or.inr (Or.inr (Or.inr (Or.inl e))))
 have dirOf:∀ N G,dirN D N G=0→∃ x,D.atZ N G=some x∧x.K=2:=fun N G hd=>by
   rcases dir_cases D N G with ⟨x,h1,h2,_⟩ | ⟨h1,_⟩ | ⟨h1,_⟩
   · exact ⟨x,h1,h2⟩
   · omega
   · omega
 obtain ⟨a,ha,haK⟩:=dirOf _ _ hd1;obtain ⟨b,hB2,hbK⟩:=dirOf _ _ hd2
 obtain ⟨e,hf⟩:∃ e,findE a.es s1.data.toList=some e:=by
   cases hf:findE a.es s1.data.toList with
   | none=>exact (hbad (Or.inr (Or.inr (Or.inr (Or.inr ⟨a,ha,hf⟩))))).elim
   | some e=>exact ⟨e,rfl⟩
 obtain ⟨ham,haN,haG⟩:=atZ_some ha;obtain ⟨hbm,hbN,hbG⟩:=atZ_some hB2;obtain ⟨na,hna,rfl⟩:=h.mem ham;obtain ⟨nb,hnb,rfl⟩:=h.mem hbm;obtain ⟨k,hq,hes⟩:=findE_idx hf;obtain ⟨y,hy,hyi,hyc⟩:=hk.live _ ham e (List.mem_of_getElem? hq);obtain ⟨ny,hny,rfl⟩:=h.mem hy;subst haN haG hbN hbG;have fin:∀ {c D'},((ny.x.K=2∧InD D nb.x.i nb.x.c e.i e.c∧c=3∧D'=D)∨((ny.x.K=2→¬ InD D nb.x.i nb.x.c e.i e.c)∧RenM D na.x nb.x ny.x e s2 c D'))→RenR D na.x.i na.x.c nb.x.i nb.x.c s1 s2 c D':=fun hh=>Or.inr ⟨na.x,nb.x,e,ny.x,ha,haK,hB2,hbK,ho1,ho2,hf,hy,hyi,hyc,hh⟩;have nex:na≠nb→na.x≠nb.x:=fun e1 e2=>e1 (h.same hk.nos hna hnb (by rw [e2]));have H:RenPre w base m lv tv ns D na nb ny e k s1 s2:=⟨h,hI,hk,hna,hnb,hny,haK,hbK,ho1,ho2,hf,hq,hyi,hyc⟩
 by_cases hin:ny.x.K=2∧InD D nb.x.i nb.x.c e.i e.c
 · exact (drename_in H hin.1 hin.2).mono fun r w' hh=>RenP.quiet h0' hh (fin (Or.inl ⟨hin.1,hin.2,rfl,rfl⟩))
 have hout:ny.x.K=2→¬ InD D nb.x.i nb.x.c e.i e.c:=fun e1 e2=>hin ⟨e1,e2⟩;have yK:=hI.kind _ hy
 cases hf2:findE nb.x.es s2.data.toList with
 | none =>
   by_cases hne:na=nb
   · subst hne
     have F:RenR D na.x.i na.x.c na.x.i na.x.c s1 s2 0 (renOwn D na.x e s2.data.toList):=fin (Or.inr ⟨hout,Or.inr (Or.inr (Or.inl ⟨hf2,rfl,rfl,rfl⟩))⟩);exact (drename_own H hout hf2).mono fun r w' hh=>RenP.moved hh F
   · by_cases h60:60≤nb.x.es.length
     · have F:RenR D na.x.i na.x.c nb.x.i nb.x.c s1 s2 9 D:=fin (Or.inr ⟨hout,Or.inl ⟨hf2,nex hne,h60,rfl,rfl⟩⟩)
       exact (drename_full H hout hf2 h60 hne).mono fun r w' hh=>RenP.quiet h0' hh F
     · have h60':nb.x.es.length < 60:=by omega
       have F:RenR D na.x.i na.x.c nb.x.i nb.x.c s1 s2 0 (renFree D na.x nb.x e s2.data.toList):=fin (Or.inr ⟨hout,Or.inr (Or.inl ⟨hf2,nex hne,h60',rfl,rfl⟩)⟩);exact (drename_free H hout hf2 h60' hne).mono fun r w' hh=>RenP.moved hh F
 | some f =>
   obtain ⟨j,hq2,hfs⟩:=findE_idx hf2;obtain ⟨z,hz,hzi,hzc⟩:=hk.live _ hbm f (List.mem_of_getElem? hq2);obtain ⟨nz,hnz,rfl⟩:=h.mem hz;have zK:=hI.kind _ hz;have fin2:∀ {c D'},RenO D na.x nb.x ny.x e f s2 nz.x c D'→RenR D na.x.i na.x.c nb.x.i nb.x.c s1 s2 c D':=fun hh=>fin (Or.inr ⟨hout,Or.inr (Or.inr (Or.inr ⟨f,nz.x,hf2,hz,hzi,hzc,hh⟩))⟩)
   have hzC:nz.x.C < 1000000:=by
     have:=(hb.1 _ hz).2.1;omega
   by_cases hzy:nz=ny
   · have F:RenR D na.x.i na.x.c nb.x.i nb.x.c s1 s2 0 D:=fin2 (Or.inl ⟨by rw [hzy],rfl,rfl⟩)
     exact (drename_same nz f j H hout hf2 hq2 hnz hzi hzc hzy).mono fun r w' hh=>RenP.quiet h0' hh F
   have zyx:nz.x≠ny.x:=fun e1=>hzy (h.same hk.nos hnz hny (by rw [e1]))
   have idx:na=nb→∃ j2,(dropE na.x.es e.s)[j2]?=some f:=fun e1=>by
     subst e1
     have hne:e.s≠f.s:=fun e2=>by
       have h5:=rise_at (hI.rise _ ham).1 hq hq2 e2;rw [h5,hq2] at hq
       cases hq
       exact hzy (h.same hk.nos hnz hny (by rw [hyi,hzi]))
     have h6:findE (dropE na.x.es e.s) s2.data.toList=some f:=by rw [find_dropE (fun e2=>hne (e2.trans hfs.symm))];exact hf2
     obtain ⟨j2,h7,_⟩:=findE_idx h6;exact ⟨j2,h7⟩
   rcases yK with ⟨hy1,_⟩ | ⟨hy2,_⟩
   · have hyK:ny.x.K≠2:=by omega
     rcases zK with ⟨hz1,hze⟩ | ⟨hz2,_⟩
     · by_cases hne:na=nb
       · obtain ⟨j2,hq3⟩:=idx hne
         subst hne;exact (drename_overown nz f j j2 H hout hf2 hq2 hq3 hnz hzi hzc hzy hze hbs hzC (Or.inl ⟨hy1,hz1⟩)).mono fun r w' hh=>RenP.moved hh (fin2 (Or.inr (Or.inr (Or.inr (Or.inr (Or.inr ⟨zyx,by rw [hy1,hz1],hze,rfl,rfl,rfl⟩))))))
       · exact (drename_over nz f j H hout hf2 hq2 hnz hzi hzc hzy hze hne hbs hzC (Or.inl ⟨hy1,hz1⟩)).mono fun r w' hh=>RenP.moved hh (fin2 (Or.inr (Or.inr (Or.inr (Or.inr (Or.inl ⟨zyx,by rw [hy1,hz1],hze,nex hne,rfl,rfl⟩))))))
     · exact (drename_kindF nz f j H hyK hf2 hq2 hnz hzi hzc hzy hy1 hz2).mono fun r w' hh=>RenP.quiet h0' hh (fin2 (Or.inr (Or.inl ⟨zyx,hy1,hz2,rfl,rfl⟩)))
   · rcases zK with ⟨hz1,_⟩ | ⟨hz2,_⟩
     · exact (drename_kindD nz f j H hy2 (hout hy2) hf2 hq2 hnz hzi hzc hzy hz1).mono fun r w' hh=>RenP.quiet h0' hh (fin2 (Or.inr (Or.inr (Or.inl ⟨zyx,hy2,hz1,rfl,rfl⟩))))
     · by_cases hze:nz.x.es=[]
       · by_cases hne:na=nb
         · obtain ⟨j2,hq3⟩:=idx hne
           subst hne;exact (drename_overown nz f j j2 H hout hf2 hq2 hq3 hnz hzi hzc hzy hze hbs hzC (Or.inr ⟨hy2,hz2⟩)).mono fun r w' hh=>RenP.moved hh (fin2 (Or.inr (Or.inr (Or.inr (Or.inr (Or.inr ⟨zyx,by rw [hy2,hz2],hze,rfl,rfl,rfl⟩))))))
         · exact (drename_over nz f j H hout hf2 hq2 hnz hzi hzc hzy hze hne hbs hzC (Or.inr ⟨hy2,hz2⟩)).mono fun r w' hh=>RenP.moved hh (fin2 (Or.inr (Or.inr (Or.inr (Or.inr (Or.inl ⟨zyx,by rw [hy2,hz2],hze,nex hne,rfl,rfl⟩))))))
       · exact (drename_heldD nz f j H hy2 (hout hy2) hf2 hq2 hnz hzi hzc hzy hz2 hze).mono fun r w' hh=>RenP.quiet h0' hh (fin2 (Or.inr (Or.inr (Or.inr (Or.inl ⟨zyx,hy2,hz2,hze,rfl,rfl⟩)))))
end
end Go.Proofs.YtkcabopgajlmdaaGreatDoor
