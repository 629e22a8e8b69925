import Derived.Test.YtooblpbmcnmicaaGreatDoorK39
import Derived.Test.YtooblpbmcnmicaaGreatDoorK41
import Derived.Test.YtooblpbmcnmicaaGreatDoorK43
set_option maxRecDepth 100000
set_option maxHeartbeats 8000000
namespace Go.Proofs.YtooblpbmcnmicaaGreatDoor
section
open Go Go.RowKit Go.Deep Go.Maps
def RenO (D:Dt)(a b y:Dn)(e f:Ent)(s2:ByteArray)(z:Dn)(c:Nat)(D':Dt):Prop :=
 (z=y∧c=0∧D'=D)∨(z≠y∧y.K=1∧z.K=2∧c=7∧D'=D)∨(z≠y∧y.K=2∧z.K=1∧c=8∧D'=D)∨(z≠y∧y.K=2∧z.K=2∧z.es≠[]∧c=11∧D'=D) ∨
 (z≠y∧y.K=z.K∧z.es=[]∧a≠b∧c=0∧D'=renOver D a b z e f s2.data.toList)∨(z≠y∧y.K=z.K∧z.es=[]∧a=b∧c=0∧D'=renOverOwn D a z e f s2.data.toList)
def RenM (D:Dt)(a b y:Dn)(e:Ent)(s2:ByteArray)(c:Nat)(D':Dt):Prop :=
 (findE b.es s2.data.toList=none∧a≠b∧60≤b.es.length∧c=9∧D'=D)∨(findE b.es s2.data.toList=none∧a≠b∧b.es.length < 60∧c=0∧D'=renFree D a b e s2.data.toList)∨(findE b.es s2.data.toList=none∧a=b∧c=0∧D'=renOwn D a e s2.data.toList) ∨
 ∃ f z,findE b.es s2.data.toList=some f∧z∈D.L∧z.i=f.i∧z.c=f.c∧RenO D a b y e f s2 z c D'
def RenR (D:Dt)(N1 G1 N2 G2:Int)(s1 s2:ByteArray)(c:Nat)(D':Dt):Prop :=
 (RenE D N1 G1 N2 G2 s1 s2 c∧D'=D)∨∃ a b e y,D.atZ N1 G1=some a∧a.K=2∧D.atZ N2 G2=some b∧b.K=2∧OkN s1∧OkN s2∧findE a.es s1.data.toList=some e∧y∈D.L∧y.i=e.i∧y.c=e.c ∧
  ((y.K=2∧InD D b.i b.c e.i e.c∧c=3∧D'=D)∨((y.K=2→¬ InD D b.i b.c e.i e.c)∧RenM D a b y e s2 c D'))
def RenP (w w':World)(base m:Nat)(D:Dt)(N1 G1 N2 G2:Int)(s1 s2:ByteArray)(r:Ending):Prop:=∃ c D',r = .returned (zI ((c:Nat):Int))∧RenR D N1 G1 N2 G2 s1 s2 c D'∧DM w' base m D'∧DocW base w w'
theorem RenP.quiet {w w':World}{base m:Nat}{D:Dt}{N1 G1 N2 G2:Int}{s1 s2:ByteArray}{r:Ending}{c:Nat}(h:DM w base m D)(hq:RenQP w w' c r)(hR:RenR D N1 G1 N2 G2 s1 s2 c D):RenP w w' base m D N1 G1 N2 G2 s1 s2 r:=⟨c,D,hq.2,hR,h.only hq.1,DocW.none hq.1⟩
theorem RenP.moved {w w':World}{base m:Nat}{D D':Dt}{N1 G1 N2 G2:Int}{s1 s2:ByteArray}{r:Ending}(hq:RenMP w w' base m D' r)(hR:RenR D N1 G1 N2 G2 s1 s2 0 D'):RenP w w' base m D N1 G1 N2 G2 s1 s2 r:=⟨0,D',hq.1,hR,hq.2.1,hq.2.2⟩
theorem drename_any (w:World)(base m:Nat)(D:Dt)(N1 G1 N2 G2:Int)(s1 s2:ByteArray)(B:Nat)(h0:DM w base m D)(hI:DInv D)(hb:DB D B)(hB:B≤999000)(hbs:base≤w.heap.size):
   zK 38 #[zP m,zG N1 G1,.string s1,zG N2 G2,.string s2] w fun r w'=>RenP w w' base m D N1 G1 N2 G2 s1 s2 r:=by
 have h0':=h0;obtain ⟨lv,tv,ns,h⟩:=h0;have hk:=hI.ok hb hB
 by_cases hbad:dirN D N1 G1≠0∨dirN D N2 G2≠0∨¬ OkN s1∨¬ OkN s2∨∃ x,D.atZ N1 G1=some x∧findE x.es s1.data.toList=none
 · exact (drename_err w base m lv tv ns D N1 G1 N2 G2 s1 s2 h hk hbad).mono fun r w' hh=>by
     obtain ⟨ho,c,hR,hr⟩:=hh;exact ⟨c,D,hr,Or.inl ⟨hR,rfl⟩,h0'.only ho,DocW.none ho⟩
 have hd1:dirN D N1 G1=0:=Classical.byContradiction fun e=>hbad (Or.inl e);have hd2:dirN D N2 G2=0:=Classical.byContradiction fun e=>hbad (Or.inr (Or.inl e));have ho1:OkN s1:=Classical.byContradiction fun e=>hbad (Or.inr (Or.inr (Or.inl e)));have ho2:OkN s2:=Classical.byContradiction fun e=>hbad (Or.inr (Or.inr (Or.inr (Or.inl e))))
 have dirOf:∀ N G,dirN D N G=0→∃ x,D.atZ N G=some x∧x.K=2:=fun N G hd=>by
   rcases dir_cases D N G with ⟨x,h1,h2,_⟩ | ⟨h1,_⟩ | ⟨h1,_⟩
   · exact ⟨x,h1,h2⟩
   · omega
   · omega
 obtain ⟨a,ha,haK⟩:=dirOf _ _ hd1;obtain ⟨b,hB2,hbK⟩:=dirOf _ _ hd2
 obtain ⟨e,hf⟩:∃ e,findE a.es s1.data.toList=some e:=by
   cases hf:findE a.es s1.data.toList with
   | none=>exact (hbad (Or.inr (Or.inr (Or.inr (Or.inr ⟨a,ha,hf⟩))))).elim
   | some e=>exact ⟨e,rfl⟩
 obtain ⟨ham,haN,haG⟩:=atZ_some ha;obtain ⟨hbm,hbN,hbG⟩:=atZ_some hB2;obtain ⟨na,hna,rfl⟩:=h.mem ham;obtain ⟨nb,hnb,rfl⟩:=h.mem hbm;obtain ⟨k,hq,hes⟩:=findE_idx hf;obtain ⟨y,hy,hyi,hyc⟩:=hk.live _ ham e (List.mem_of_getElem? hq);obtain ⟨ny,hny,rfl⟩:=h.mem hy;subst haN haG hbN hbG;have fin:∀ {c D'},((ny.x.K=2∧InD D nb.x.i nb.x.c e.i e.c∧c=3∧D'=D)∨((ny.x.K=2→¬ InD D nb.x.i nb.x.c e.i e.c)∧RenM D na.x nb.x ny.x e s2 c D'))→RenR D na.x.i na.x.c nb.x.i nb.x.c s1 s2 c D':=fun hh=>Or.inr ⟨na.x,nb.x,e,ny.x,ha,haK,hB2,hbK,ho1,ho2,hf,hy,hyi,hyc,hh⟩;have nex:na≠nb→na.x≠nb.x:=fun e1 e2=>e1 (h.same hk.nos hna hnb (by rw [e2]));have H:RenPre w base m lv tv ns D na nb ny e k s1 s2:=⟨h,hI,hk,hna,hnb,hny,haK,hbK,ho1,ho2,hf,hq,hyi,hyc⟩
 by_cases hin:ny.x.K=2∧InD D nb.x.i nb.x.c e.i e.c
 · exact (drename_in H hin.1 hin.2).mono fun r w' hh=>RenP.quiet h0' hh (fin (Or.inl ⟨hin.1,hin.2,rfl,rfl⟩))
 have hout:ny.x.K=2→¬ InD D nb.x.i nb.x.c e.i e.c:=fun e1 e2=>hin ⟨e1,e2⟩;have yK:=hI.kind _ hy
 cases hf2:findE nb.x.es s2.data.toList with
 | none =>
   by_cases hne:na=nb
   · subst hne
     have F:RenR D na.x.i na.x.c na.x.i na.x.c s1 s2 0 (renOwn D na.x e s2.data.toList):=fin (Or.inr ⟨hout,Or.inr (Or.inr (Or.inl ⟨hf2,rfl,rfl,rfl⟩))⟩);exact (drename_own H hout hf2).mono fun r w' hh=>RenP.moved hh F
   · by_cases h60:60≤nb.x.es.length
     · have F:RenR D na.x.i na.x.c nb.x.i nb.x.c s1 s2 9 D:=fin (Or.inr ⟨hout,Or.inl ⟨hf2,nex hne,h60,rfl,rfl⟩⟩)
       exact (drename_full H hout hf2 h60 hne).mono fun r w' hh=>RenP.quiet h0' hh F
     · have h60':nb.x.es.length < 60:=by omega
       have F:RenR D na.x.i na.x.c nb.x.i nb.x.c s1 s2 0 (renFree D na.x nb.x e s2.data.toList):=fin (Or.inr ⟨hout,Or.inr (Or.inl ⟨hf2,nex hne,h60',rfl,rfl⟩)⟩);exact (drename_free H hout hf2 h60' hne).mono fun r w' hh=>RenP.moved hh F
 | some f =>
   obtain ⟨j,hq2,hfs⟩:=findE_idx hf2;obtain ⟨z,hz,hzi,hzc⟩:=hk.live _ hbm f (List.mem_of_getElem? hq2);obtain ⟨nz,hnz,rfl⟩:=h.mem hz;have zK:=hI.kind _ hz;have fin2:∀ {c D'},RenO D na.x nb.x ny.x e f s2 nz.x c D'→RenR D na.x.i na.x.c nb.x.i nb.x.c s1 s2 c D':=fun hh=>fin (Or.inr ⟨hout,Or.inr (Or.inr (Or.inr ⟨f,nz.x,hf2,hz,hzi,hzc,hh⟩))⟩)
   have hzC:nz.x.C < 1000000:=by
     have:=(hb.1 _ hz).2.1;omega
   by_cases hzy:nz=ny
   · have F:RenR D na.x.i na.x.c nb.x.i nb.x.c s1 s2 0 D:=fin2 (Or.inl ⟨by rw [hzy],rfl,rfl⟩)
     exact (drename_same nz f j H hout hf2 hq2 hnz hzi hzc hzy).mono fun r w' hh=>RenP.quiet h0' hh F
   have zyx:nz.x≠ny.x:=fun e1=>hzy (h.same hk.nos hnz hny (by rw [e1]))
   have idx:na=nb→∃ j2,(dropE na.x.es e.s)[j2]?=some f:=fun e1=>by
     subst e1
     have hne:e.s≠f.s:=fun e2=>by
       have h5:=rise_at (hI.rise _ ham).1 hq hq2 e2;rw [h5,hq2] at hq
       cases hq
       exact hzy (h.same hk.nos hnz hny (by rw [hyi,hzi]))
     have h6:findE (dropE na.x.es e.s) s2.data.toList=some f:=by rw [find_dropE (fun e2=>hne (e2.trans hfs.symm))];exact hf2
     obtain ⟨j2,h7,_⟩:=findE_idx h6;exact ⟨j2,h7⟩
   rcases yK with ⟨hy1,_⟩ | ⟨hy2,_⟩
   · have hyK:ny.x.K≠2:=by omega
     rcases zK with ⟨hz1,hze⟩ | ⟨hz2,_⟩
     · by_cases hne:na=nb
       · obtain ⟨j2,hq3⟩:=idx hne
         subst hne;exact (drename_overown nz f j j2 H hout hf2 hq2 hq3 hnz hzi hzc hzy hze hbs hzC (Or.inl ⟨hy1,hz1⟩)).mono fun r w' hh=>RenP.moved hh (fin2 (Or.inr (Or.inr (Or.inr (Or.inr (Or.inr ⟨zyx,by rw [hy1,hz1],hze,rfl,rfl,rfl⟩))))))
       · exact (drename_over nz f j H hout hf2 hq2 hnz hzi hzc hzy hze hne hbs hzC (Or.inl ⟨hy1,hz1⟩)).mono fun r w' hh=>RenP.moved hh (fin2 (Or.inr (Or.inr (Or.inr (Or.inr (Or.inl ⟨zyx,by rw [hy1,hz1],hze,nex hne,rfl,rfl⟩))))))
     · exact (drename_kindF nz f j H hyK hf2 hq2 hnz hzi hzc hzy hy1 hz2).mono fun r w' hh=>RenP.quiet h0' hh (fin2 (Or.inr (Or.inl ⟨zyx,hy1,hz2,rfl,rfl⟩)))
   · rcases zK with ⟨hz1,_⟩ | ⟨hz2,_⟩
     · exact (drename_kindD nz f j H hy2 (hout hy2) hf2 hq2 hnz hzi hzc hzy hz1).mono fun r w' hh=>RenP.quiet h0' hh (fin2 (Or.inr (Or.inr (Or.inl ⟨zyx,hy2,hz1,rfl,rfl⟩))))
     · by_cases hze:nz.x.es=[]
       · by_cases hne:na=nb
         · obtain ⟨j2,hq3⟩:=idx hne
           subst hne;exact (drename_overown nz f j j2 H hout hf2 hq2 hq3 hnz hzi hzc hzy hze hbs hzC (Or.inr ⟨hy2,hz2⟩)).mono fun r w' hh=>RenP.moved hh (fin2 (Or.inr (Or.inr (Or.inr (Or.inr (Or.inr ⟨zyx,by rw [hy2,hz2],hze,rfl,rfl,rfl⟩))))))
         · exact (drename_over nz f j H hout hf2 hq2 hnz hzi hzc hzy hze hne hbs hzC (Or.inr ⟨hy2,hz2⟩)).mono fun r w' hh=>RenP.moved hh (fin2 (Or.inr (Or.inr (Or.inr (Or.inr (Or.inl ⟨zyx,by rw [hy2,hz2],hze,nex hne,rfl,rfl⟩))))))
       · exact (drename_heldD nz f j H hy2 (hout hy2) hf2 hq2 hnz hzi hzc hzy hz2 hze).mono fun r w' hh=>RenP.quiet h0' hh (fin2 (Or.inr (Or.inr (Or.inr (Or.inl ⟨zyx,hy2,hz2,hze,rfl,rfl⟩)))))
def AttrP (w w':World)(v:Value)(c:Nat)(r:Ending):Prop:=r = .returned (.tuple #[v,zI ((c:Nat):Int)])∧zQ w w'
theorem dattr_none (w:World)(base m:Nat)(lv tv:Value)(ns:List Nm)(D:Dt)(N G:Int)(h:DtM w base m lv tv ns D)(hk:DOk D)(hx:D.atZ N G=none):
  zK 47 #[zP m,zG N G] w fun r w'=>AttrP w w' (attrV 0 0 0 0 0 0) 10 r:=by
 have HA:Hid (∀ W,zQ w W→zO 55 #[zP m,zG N G] W (.pointer none)):=fun W ho =>
  (dat_any W base m lv tv ns D N G (h.only ho) hk.nos (h.nlen hk)).mono fun e w' hh=>by
   obtain ⟨h1,h2⟩:=hh;rcases h1 with ⟨n,_,h3,_⟩ | ⟨_,h3⟩
   ·  rw [hx] at h3
      cases h3
   ·  exact ⟨h3,h2⟩
 have o1:zQ w ((w.alloc (zH N G)).alloc (.cells #[zI 0,zI 0,zI 0,zI 0,zI 0,zI 0] 67)):=((Only.refl [] w).alloc _).alloc _;have HO1:Hid (zQ w ((w.alloc (zH N G)).alloc (.cells #[zI 0,zI 0,zI 0,zI 0,zI 0,zI 0] 67))):=o1;clear h hk hx o1
 go_enter Tryz.func47,Tryz.ntmps47
 go_wp2_with (first
  | (go_at_call 55;refine (HA.out _ HO1.out).mono ?_;rintro eq wz ⟨rfl,hoz⟩;have HO:Hid (zQ w wz):=zo HO1.out hoz;obtain ⟨r0,r1,r2,r3,r4,r5,f0,hl0⟩:=own_six (B:=w.heap.size+1) hoz (by simp);clear hoz)
  | go_in)
 have hle1:w.heap.size≤w.heap.size+1:=Nat.le_succ _;refine bodyPost_ret (v := .tuple #[attrV 0 0 0 0 0 0,zI 10]) (by simp [results,attrV,Tryz.results47,go_sem,r0,r1,r2,r3,r4,r5]) rfl ⟨rfl,?_⟩;exact HO.out.six hle1
structure SixC (wX wx:World)(B:Nat)(K L C:Int):Prop where
 only:zQ wX wx
 new:wX.heap.size≤B
 lt:B < wx.heap.size
 c0:wx.cell? ⟨B,0,none⟩=some (zI K)
 c1:wx.cell? ⟨B,1,none⟩=some (zI 0)
 c2:wx.cell? ⟨B,2,none⟩=some (zI L)
 c3:wx.cell? ⟨B,3,none⟩=some (zI C)
 c4:wx.cell? ⟨B,4,none⟩=some (zI 0)
 c5:wx.cell? ⟨B,5,none⟩=some (zI 0)
 fz:∀ o,wx.frozen? ⟨B,o,none⟩=false
theorem six_new {wX w2:World}{K L C:Int}(h:zQ wX w2):SixC wX (w2.alloc (.cells #[zI K,zI 0,zI L,zI C,zI 0,zI 0] 67)) w2.heap.size K L C:=by
 obtain ⟨g0,g1,g2,g3,g4,g5,g6,g7⟩:=own_six (B:=w2.heap.size) (Only.refl [] (w2.alloc (.cells #[zI K,zI 0,zI L,zI C,zI 0,zI 0] 67))) rfl;exact ⟨h.alloc _,h.size,g7,g0,g1,g2,g3,g4,g5,g6⟩
theorem six_set {wX w2:World}{B:Nat}{u0 u1 u2 u3 u4 u5:Value}{K L C:Int}(h:zQ wX w2)(hB:wX.heap.size=B)(hl:B < w2.heap.size)(q0:w2.cell? ⟨B,0,none⟩=some u0)(q1:w2.cell? ⟨B,1,none⟩=some u1)(q2:w2.cell? ⟨B,2,none⟩=some u2)(q3:w2.cell? ⟨B,3,none⟩=some u3)(q4:w2.cell? ⟨B,4,none⟩=some u4)(q5:w2.cell? ⟨B,5,none⟩=some u5)(f:∀ o,w2.frozen? ⟨B,o,none⟩=false):
   SixC wX ((((((w2.setCell ⟨B,0,none⟩ (zI K)).setCell ⟨B,1,none⟩ (zI 0)).setCell ⟨B,2,none⟩ (zI L)).setCell ⟨B,3,none⟩ (zI C)).setCell ⟨B,4,none⟩ (zI 0)).setCell ⟨B,5,none⟩ (zI 0)) B K L C:=by
 have ne:∀ (w:World) (i j:Nat) (v:Value),i≠j→(w.setCell ⟨B,i,none⟩ v).cell? ⟨B,j,none⟩=w.cell? ⟨B,j,none⟩:=fun w i j v _hij=>World.cell?_setCell_other _ _ _ _ (by simp);have eq:∀ (w:World) (i:Nat) (v u:Value),w.cell? ⟨B,i,none⟩=some u→(w.setCell ⟨B,i,none⟩ v).cell? ⟨B,i,none⟩=some v:=fun w i v u h=>World.cell?_setCell_same _ _ _ h;refine ⟨h.six (by omega),by omega,by simpa using hl,?_,?_,?_,?_,?_,?_,fun o=>by simp only [World.frozen?_setCell];exact f o⟩
 · rw [ne _ _ _ _ (by decide),ne _ _ _ _ (by decide),ne _ _ _ _ (by decide),ne _ _ _ _ (by decide),ne _ _ _ _ (by decide)];exact eq _ _ _ _ q0
 · rw [ne _ _ _ _ (by decide),ne _ _ _ _ (by decide),ne _ _ _ _ (by decide),ne _ _ _ _ (by decide)];exact eq _ _ _ _ ((ne _ _ _ _ (by decide)).trans q1)
 · rw [ne _ _ _ _ (by decide),ne _ _ _ _ (by decide),ne _ _ _ _ (by decide)];exact eq _ _ _ _ ((ne _ _ _ _ (by decide)).trans ((ne _ _ _ _ (by decide)).trans q2))
 · rw [ne _ _ _ _ (by decide),ne _ _ _ _ (by decide)];exact eq _ _ _ _ ((ne _ _ _ _ (by decide)).trans ((ne _ _ _ _ (by decide)).trans ((ne _ _ _ _ (by decide)).trans q3)))
 · rw [ne _ _ _ _ (by decide)];exact eq _ _ _ _ ((ne _ _ _ _ (by decide)).trans ((ne _ _ _ _ (by decide)).trans ((ne _ _ _ _ (by decide)).trans ((ne _ _ _ _ (by decide)).trans q4))))
 · exact eq _ _ _ _ ((ne _ _ _ _ (by decide)).trans ((ne _ _ _ _ (by decide)).trans ((ne _ _ _ _ (by decide)).trans ((ne _ _ _ _ (by decide)).trans ((ne _ _ _ _ (by decide)).trans q5)))))
theorem six_more (w:World)(B R:Nat)(j:Nat)(v:Value){a0 a1 a2 a3 a4 a5 b0 b1 b2 b3 b4 b5:Value}(g0:w.cell? ⟨B,0,none⟩=some a0)(g1:w.cell? ⟨B,1,none⟩=some a1)(g2:w.cell? ⟨B,2,none⟩=some a2)(g3:w.cell? ⟨B,3,none⟩=some a3)(g4:w.cell? ⟨B,4,none⟩=some a4)(g5:w.cell? ⟨B,5,none⟩=some a5)(gf:∀ o,w.frozen? ⟨B,o,none⟩=false)(r0:w.cell? ⟨R,0,none⟩=some b0)(r1:w.cell? ⟨R,1,none⟩=some b1)(r2:w.cell? ⟨R,2,none⟩=some b2)(r3:w.cell? ⟨R,3,none⟩=some b3)(r4:w.cell? ⟨R,4,none⟩=some b4)(r5:w.cell? ⟨R,5,none⟩=some b5)(rf:∀ o,w.frozen? ⟨R,o,none⟩=false)(hB:B < w.heap.size)(hR:R < w.heap.size)(hne:R < B):
  ((w.setCell ⟨B,j,none⟩ v).cell? ⟨B,0,none⟩=some (if j=0 then v else a0)∧(w.setCell ⟨B,j,none⟩ v).cell? ⟨B,1,none⟩=some (if j=1 then v else a1)∧(w.setCell ⟨B,j,none⟩ v).cell? ⟨B,2,none⟩=some (if j=2 then v else a2)∧(w.setCell ⟨B,j,none⟩ v).cell? ⟨B,3,none⟩=some (if j=3 then v else a3)∧(w.setCell ⟨B,j,none⟩ v).cell? ⟨B,4,none⟩=some (if j=4 then v else a4)∧(w.setCell ⟨B,j,none⟩ v).cell? ⟨B,5,none⟩=some (if j=5 then v else a5)∧(∀ o,(w.setCell ⟨B,j,none⟩ v).frozen? ⟨B,o,none⟩=false)∧B < (w.setCell ⟨B,j,none⟩ v).heap.size) ∧
  ((w.setCell ⟨B,j,none⟩ v).cell? ⟨R,0,none⟩=some b0∧(w.setCell ⟨B,j,none⟩ v).cell? ⟨R,1,none⟩=some b1∧(w.setCell ⟨B,j,none⟩ v).cell? ⟨R,2,none⟩=some b2∧(w.setCell ⟨B,j,none⟩ v).cell? ⟨R,3,none⟩=some b3∧(w.setCell ⟨B,j,none⟩ v).cell? ⟨R,4,none⟩=some b4∧(w.setCell ⟨B,j,none⟩ v).cell? ⟨R,5,none⟩=some b5∧(∀ o,(w.setCell ⟨B,j,none⟩ v).frozen? ⟨R,o,none⟩=false)∧R < (w.setCell ⟨B,j,none⟩ v).heap.size):=by
 have me:∀ (i:Nat) (a:Value),w.cell? ⟨B,i,none⟩=some a→(w.setCell ⟨B,j,none⟩ v).cell? ⟨B,i,none⟩=some (if j=i then v else a):=fun i a h=>by
  split
  · rename_i e;subst e;exact World.cell?_setCell_same _ _ _ h
  · rename_i e;exact (World.cell?_setCell_other _ _ _ _ (by simp)).trans h
 have it:∀ (i:Nat) (a:Value),w.cell? ⟨R,i,none⟩=some a→(w.setCell ⟨B,j,none⟩ v).cell? ⟨R,i,none⟩=some a:=fun i a h=>(World.cell?_setCell_other _ _ _ _ (by simp)).trans h;exact ⟨⟨me _ _ g0,me _ _ g1,me _ _ g2,me _ _ g3,me _ _ g4,me _ _ g5,fun o=>by rw [World.frozen?_setCell];exact gf o,by simpa using hB⟩,it _ _ r0,it _ _ r1,it _ _ r2,it _ _ r3,it _ _ r4,it _ _ r5,fun o=>by rw [World.frozen?_setCell];exact rf o,by simpa using hR⟩
theorem dattr_file (w:World)(base m:Nat)(lv tv:Value)(ns:List Nm)(D:Dt)(n:Nm)(h:DtM w base m lv tv ns D)(hk:DOk D)(hn:n∈ns)(hK:n.x.K=1):
  zK 47 #[zP m,zG n.x.i n.x.c] w fun r w'=>AttrP w w' (attrV 1 n.x.S.size (D.links n.x:Nat) n.x.C 0 0) 0 r:=by
 have o1:zQ w ((w.alloc (zH n.x.i n.x.c)).alloc (.cells #[zI 0,zI 0,zI 0,zI 0,zI 0,zI 0] 67)):=((Only.refl [] w).alloc _).alloc _;have HB:Hid (∀ W,zQ ((w.alloc (zH n.x.i n.x.c)).alloc (.cells #[zI 0,zI 0,zI 0,zI 0,zI 0,zI 0] 67)) W→_):=fun W (ho:zQ ((w.alloc (zH n.x.i n.x.c)).alloc (.cells #[zI 0,zI 0,zI 0,zI 0,zI 0,zI 0] 67)) W)=>own_six (B:=w.heap.size+1) ho (by simp);have ht:OneH ((w.alloc (zH n.x.i n.x.c)).alloc (.cells #[zI 0,zI 0,zI 0,zI 0,zI 0,zI 0] 67)) w.heap.size (n.x.i:Nat) (n.x.c:Nat):=OneH.kept (zh w _) ((Only.refl [] _).alloc _) (by simp);have h1:=h.only o1;generalize hw1:((w.alloc (zH n.x.i n.x.c)).alloc (.cells #[zI 0,zI 0,zI 0,zI 0,zI 0,zI 0] 67))=w1 at o1 ht h1 HB;have HW1:Hid (((w.alloc (zH n.x.i n.x.c)).alloc (.cells #[zI 0,zI 0,zI 0,zI 0,zI 0,zI 0] 67))=w1):=hw1;have HO:Hid (zQ w1 w1):=Only.refl _ _;have HOO:Hid (zQ w w1):=o1;have HT:Hid (∀ W,zQ w1 W→OneH W w.heap.size (n.x.i:Nat) (n.x.c:Nat)):=fun W ho=>ht.kept ho (by simp);obtain ⟨b0,b1⟩:=ht.cells;have HAT:Hid (∀ W,zQ w1 W→zO 55 #[zP m,zG n.x.i n.x.c] W (zP n.b)):=fun W ho=>dat_at (h1.only ho) hk hn;have HLI:Hid (∀ W,zQ w1 W→zO 72 #[zP m,zP n.b] W (zI (D.links n.x:Nat))):=fun W ho=>dlinks_any W base m lv tv ns D n (h1.only ho) hk.nos (h.nlen hk) hn hk.es (fun _=>hk.live _ (h.inL hn))
 have HC:Hid (∀ W,zQ w1 W→W.cell? ⟨n.b,2,none⟩=some (zI 1)∧W.cell? ⟨n.b,3,none⟩=some (zI n.x.C)∧W.cell? ⟨n.b,4,none⟩=some (.string n.x.S)):=fun W ho=>by
  have:=((h1.only ho).each n hn).2;exact ⟨by rw [this.c2,hK],this.c3,this.c4⟩
 generalize D.links n.x=L at HLI ⊢;clear hw1 h h1 hk hn hK ht o1
 go_enter Tryz.func47,Tryz.ntmps47
 go_upto_region 1 with fail
 rw [HW1.out]
 go_upto_region 4 with (first
  | (go_at_call 55;refine (HAT.out _ HO.out).mono ?_;rintro eq wX ⟨rfl,hoz⟩;have HOX:Hid (zQ w1 wX):=zo HO.out hoz;clear HO b0 b1 hoz)
  | go_in)
 have KS:Hid (∀ W,zQ wX W→W.cell? ⟨n.b,2,none⟩=some (zI 1)∧W.cell? ⟨n.b,3,none⟩=some (zI n.x.C)):=fun W ho=>⟨(HC.out W (zo HOX.out ho)).1,(HC.out W (zo HOX.out ho)).2.1⟩;have HV1:Hid (zQ wX wX.drew):=(Only.refl [] _).drew;have HV2:Hid (zQ wX (wX.alloc (.cells #[zI 0,zI 0,zI 0,zI 0,zI 0,zI 0] 67)).drew):=((Only.refl [] _).alloc _).drew;have HLX:Hid (∀ W,zQ wX W→zO 72 #[zP m,zP n.b] W (zI L)):=fun W ho=>HLI.out W (zo HOX.out ho);have HL1:=HLX.out _ HV1.out;have HL2:=HLX.out _ HV2.out;have S1:Hid (_):=KS.out _ HV1.out;have S2:Hid (_):=KS.out _ HV2.out
 go_cut [4,7] from 4 to 5 (fun p q wx=>p=zP (w.heap.size+1)∧∃ B,q=zP B∧SixC wX wx B 1 (L:Nat) n.x.C)
 case first =>
  go_region_held3 (fun W=>W.cell? ⟨n.b,2,none⟩=some (zI 1)∧W.cell? ⟨n.b,3,none⟩=some (zI n.x.C))
    (with_reducible first
      | exact S1.out
      | exact S2.out
      | exact S3.out
      | exact S4.out
      | exact S5.out)
    (first
      | (go_at_call 72;(with_reducible (refine HL1.mono ?_));rintro e w2 ⟨rfl,ho2⟩;have HO2:Hid (zQ wX w2):=zo HV1.out ho2;have S3:Hid (_):=KS.out _ HO2.out;have S4:Hid (_):=KS.out _ (HO2.out.alloc (.cells #[zI 1,zI 0,zI L,zI n.x.C,zI 0,zI 0] 67));have S5:Hid (_):=KS.out _ (HO2.out.alloc (.cells #[zI 0,zI 0,zI 0,zI 0,zI 0,zI 0] 67));clear ho2)
      | (go_at_call 72;(with_reducible (refine HL2.mono ?_));rintro e w2 ⟨rfl,ho2⟩;have HO2:Hid (zQ wX w2):=zo HV2.out ho2;have S3:Hid (_):=KS.out _ HO2.out;have S4:Hid (_):=KS.out _ (HO2.out.six (Nat.le_refl _) (v0:=zI 1) (v1:=zI 0) (v2:=zI L) (v3:=zI n.x.C) (v4:=zI 0) (v5:=zI 0));obtain ⟨q0,q1,q2,q3,q4,q5,f1,hl1⟩:=own_six_drew (B:=wX.heap.size) ho2 rfl;clear ho2))
  · go_wp2
    go_meet
    exact ⟨rfl,_,rfl,six_new HO2.out⟩
  · go_wp2
    go_meet
    exact ⟨rfl,_,rfl,six_set HO2.out rfl hl1 q0 q1 q2 q3 q4 q5 f1⟩
 case rest =>
  obtain ⟨rfl,B,rfl,h6⟩:=hcut;generalize wc=w3 at h6 ⊢;have hbA:w.heap.size+1 < B:=Nat.lt_of_lt_of_le (HB.out wX HOX.out).2.2.2.2.2.2.2 h6.new;obtain ⟨o3,hnew,hlt,g0,g1,g2,g3,g4,g5,gf⟩:=h6;obtain ⟨c2,c3,c4⟩:=HC.out w3 (zo HOX.out o3);obtain ⟨r0,r1,r2,r3,r4,r5,f0,hl0⟩:=HB.out w3 (zo HOX.out o3);have HO:Hid (zQ w w3):=zo HOO.out (zo HOX.out o3);clear o3 HC HB HOO HOX HT HLI HAT KS HW1 HLX HL1 HL2 S1 S2 HV1 HV2 hnew
  go_upto_region 9 with fail
  have hF:=six_more w3 B (w.heap.size+1) 1 (zI n.x.S.size) g0 g1 g2 g3 g4 g5 gf r0 r1 r2 r3 r4 r5 f0 hlt hl0 hbA;obtain ⟨⟨k0,k1,k2,k3,k4,k5,kf,kl⟩,⟨z0,z1,z2,z3,z4,z5,zf,zl⟩⟩:=hF;have HOz:Hid (zQ w (w3.setCell ⟨B,1,none⟩ (zI n.x.S.size))):=HO.out.setCell (Or.inr (by dsimp only;omega)) _;generalize w3.setCell ⟨B,1,none⟩ (zI n.x.S.size)=w4 at *;replace k0:w4.cell? ⟨B,0,none⟩=some (zI 1):=k0;replace k1:w4.cell? ⟨B,1,none⟩=some (zI n.x.S.size):=k1;replace k2:w4.cell? ⟨B,2,none⟩=some (zI L):=k2;replace k3:w4.cell? ⟨B,3,none⟩=some (zI n.x.C):=k3;replace k4:w4.cell? ⟨B,4,none⟩=some (zI 0):=k4;replace k5:w4.cell? ⟨B,5,none⟩=some (zI 0):=k5;clear g0 g1 g2 g3 g4 g5 gf r0 r1 r2 r3 r4 r5 f0 HO c2 c3 c4
  go_wp2
  have hle1:w.heap.size≤w.heap.size+1:=Nat.le_succ _;refine bodyPost_ret (v := .tuple #[attrV 1 n.x.S.size (L:Nat) n.x.C 0 0,zI 0]) (by simp [results,attrV,Tryz.results47,go_sem,z0,z1,z2,z3,z4,z5]) rfl ⟨rfl,?_⟩;exact HOz.out.six hle1
theorem dattr_dir (w:World)(base m:Nat)(lv tv:Value)(ns:List Nm)(D:Dt)(n:Nm)(h:DtM w base m lv tv ns D)(hk:DOk D)(hn:n∈ns)(hK:n.x.K=2):
  zK 47 #[zP m,zG n.x.i n.x.c] w fun r w'=>AttrP w w' (attrV 2 (n.x.es.length:Nat) (D.links n.x:Nat) n.x.C ((D.up n.x.i n.x.c).1:Nat) ((D.up n.x.i n.x.c).2:Nat)) 0 r:=by
 have o1:zQ w ((w.alloc (zH n.x.i n.x.c)).alloc (.cells #[zI 0,zI 0,zI 0,zI 0,zI 0,zI 0] 67)):=((Only.refl [] w).alloc _).alloc _;have HB:Hid (∀ W,zQ ((w.alloc (zH n.x.i n.x.c)).alloc (.cells #[zI 0,zI 0,zI 0,zI 0,zI 0,zI 0] 67)) W→_):=fun W (ho:zQ ((w.alloc (zH n.x.i n.x.c)).alloc (.cells #[zI 0,zI 0,zI 0,zI 0,zI 0,zI 0] 67)) W)=>own_six (B:=w.heap.size+1) ho (by simp);have ht:OneH ((w.alloc (zH n.x.i n.x.c)).alloc (.cells #[zI 0,zI 0,zI 0,zI 0,zI 0,zI 0] 67)) w.heap.size (n.x.i:Nat) (n.x.c:Nat):=OneH.kept (zh w _) ((Only.refl [] _).alloc _) (by simp);have h1:=h.only o1;generalize hw1:((w.alloc (zH n.x.i n.x.c)).alloc (.cells #[zI 0,zI 0,zI 0,zI 0,zI 0,zI 0] 67))=w1 at o1 ht h1 HB;have HW1:Hid (((w.alloc (zH n.x.i n.x.c)).alloc (.cells #[zI 0,zI 0,zI 0,zI 0,zI 0,zI 0] 67))=w1):=hw1;have HO:Hid (zQ w1 w1):=Only.refl _ _;have HOO:Hid (zQ w w1):=o1;have HT:Hid (∀ W,zQ w1 W→OneH W w.heap.size (n.x.i:Nat) (n.x.c:Nat)):=fun W ho=>ht.kept ho (by simp);obtain ⟨b0,b1⟩:=ht.cells;have HAT:Hid (∀ W,zQ w1 W→zO 55 #[zP m,zG n.x.i n.x.c] W (zP n.b)):=fun W ho=>dat_at (h1.only ho) hk hn;have HLI:Hid (∀ W,zQ w1 W→zO 72 #[zP m,zP n.b] W (zI (D.links n.x:Nat))):=fun W ho=>dlinks_any W base m lv tv ns D n (h1.only ho) hk.nos (h.nlen hk) hn hk.es (fun _=>hk.live _ (h.inL hn));obtain ⟨lx,hlx⟩:∃ lx,n.x.es.length=lx:=⟨_,rfl⟩
 have hlk:lx≤1000:=by rw [← hlx];exact hk.es _ (h.inL hn)
 obtain ⟨adx,capx,_,hrow⟩:=ent_row (h1.each n hn).2 hlx
 have HC:Hid (∀ W,zQ w1 W→W.cell? ⟨n.b,2,none⟩=some (zI 2)∧W.cell? ⟨n.b,3,none⟩=some (zI n.x.C)∧W.cell? ⟨n.b,6,none⟩=some (.slice adx lx capx)):=fun W ho=>by
  have:=((h1.only ho).each n hn).2;exact ⟨by rw [this.c2,hK],this.c3,(hrow W ho).1⟩
 have HUP:Hid (∀ W,zQ w1 W→zO 75 #[zP m,zG n.x.i n.x.c] W (zG ((D.up n.x.i n.x.c).1:Nat) ((D.up n.x.i n.x.c).2:Nat))):=fun W ho=>dup_any W base m lv tv ns D n.x.i n.x.c (h1.only ho) (h.nlen hk) hk.es;rw [hlx];generalize (D.up n.x.i n.x.c).1=U1 at HUP ⊢;generalize (D.up n.x.i n.x.c).2=U2 at HUP ⊢;generalize D.links n.x=L at HLI ⊢;clear hw1 h h1 hk hn hK ht o1 hrow hlx
 go_enter Tryz.func47,Tryz.ntmps47
 go_upto_region 1 with fail
 rw [HW1.out]
 go_upto_region 4 with (first
  | (go_at_call 55;refine (HAT.out _ HO.out).mono ?_;rintro eq wX ⟨rfl,hoz⟩;have HOX:Hid (zQ w1 wX):=zo HO.out hoz;clear HO b0 b1 hoz)
  | go_in)
 have KS:Hid (∀ W,zQ wX W→W.cell? ⟨n.b,2,none⟩=some (zI 2)∧W.cell? ⟨n.b,3,none⟩=some (zI n.x.C)):=fun W ho=>⟨(HC.out W (zo HOX.out ho)).1,(HC.out W (zo HOX.out ho)).2.1⟩;have HV1:Hid (zQ wX wX.drew):=(Only.refl [] _).drew;have HV2:Hid (zQ wX (wX.alloc (.cells #[zI 0,zI 0,zI 0,zI 0,zI 0,zI 0] 67)).drew):=((Only.refl [] _).alloc _).drew;have HLX:Hid (∀ W,zQ wX W→zO 72 #[zP m,zP n.b] W (zI L)):=fun W ho=>HLI.out W (zo HOX.out ho);have HL1:=HLX.out _ HV1.out;have HL2:=HLX.out _ HV2.out;have S1:Hid (_):=KS.out _ HV1.out;have S2:Hid (_):=KS.out _ HV2.out
 go_cut [4,7] from 4 to 5 (fun p q wx=>p=zP (w.heap.size+1)∧∃ B,q=zP B∧SixC wX wx B 2 (L:Nat) n.x.C)
 case first =>
  go_region_held3 (fun W=>W.cell? ⟨n.b,2,none⟩=some (zI 2)∧W.cell? ⟨n.b,3,none⟩=some (zI n.x.C))
    (with_reducible first
      | exact S1.out
      | exact S2.out
      | exact S3.out
      | exact S4.out
      | exact S5.out)
    (first
      | (go_at_call 72;(with_reducible (refine HL1.mono ?_));rintro e w2 ⟨rfl,ho2⟩;have HO2:Hid (zQ wX w2):=zo HV1.out ho2;have S3:Hid (_):=KS.out _ HO2.out;have S4:Hid (_):=KS.out _ (HO2.out.alloc (.cells #[zI 2,zI 0,zI L,zI n.x.C,zI 0,zI 0] 67));have S5:Hid (_):=KS.out _ (HO2.out.alloc (.cells #[zI 0,zI 0,zI 0,zI 0,zI 0,zI 0] 67));clear ho2)
      | (go_at_call 72;(with_reducible (refine HL2.mono ?_));rintro e w2 ⟨rfl,ho2⟩;have HO2:Hid (zQ wX w2):=zo HV2.out ho2;have S3:Hid (_):=KS.out _ HO2.out;have S4:Hid (_):=KS.out _ (HO2.out.six (Nat.le_refl _) (v0:=zI 2) (v1:=zI 0) (v2:=zI L) (v3:=zI n.x.C) (v4:=zI 0) (v5:=zI 0));obtain ⟨q0,q1,q2,q3,q4,q5,f1,hl1⟩:=own_six_drew (B:=wX.heap.size) ho2 rfl;clear ho2))
  · go_wp2
    go_meet
    exact ⟨rfl,_,rfl,six_new HO2.out⟩
  · go_wp2
    go_meet
    exact ⟨rfl,_,rfl,six_set HO2.out rfl hl1 q0 q1 q2 q3 q4 q5 f1⟩
 case rest =>
  obtain ⟨rfl,B,rfl,h6⟩:=hcut;generalize wc=w3 at h6 ⊢;have hbA:w.heap.size+1 < B:=Nat.lt_of_lt_of_le (HB.out wX HOX.out).2.2.2.2.2.2.2 h6.new;obtain ⟨o3,hnew,hlt,g0,g1,g2,g3,g4,g5,gf⟩:=h6;obtain ⟨c2,c3,c4⟩:=HC.out w3 (zo HOX.out o3);obtain ⟨r0,r1,r2,r3,r4,r5,f0,hl0⟩:=HB.out w3 (zo HOX.out o3);have HO:Hid (zQ w w3):=zo HOO.out (zo HOX.out o3);obtain ⟨b0,b1⟩:=(HT.out w3 (zo HOX.out o3)).cells;have HU3:Hid (∀ W,zQ w1 W→_):=HUP.out;have hOw3:Hid (zQ w1 w3):=zo HOX.out o3;have hwl:w1.heap.size≤B:=Nat.le_trans HOX.out.size hnew;clear o3 HC HB HOO HOX HT HLI HAT KS HW1 HLX HL1 HL2 S1 S2 HV1 HV2 hnew HUP
  go_upto_region 7 with fail
  have hF:=six_more w3 B (w.heap.size+1) 1 (zI lx) g0 g1 g2 g3 g4 g5 gf r0 r1 r2 r3 r4 r5 f0 hlt hl0 hbA;obtain ⟨⟨k0,k1,k2,k3,k4,k5,kf,kl⟩,⟨z0,z1,z2,z3,z4,z5,zf,zl⟩⟩:=hF;have y0:(w3.setCell ⟨B,1,none⟩ (zI lx)).cell? ⟨w.heap.size,0,none⟩=some (zI n.x.i):=(World.cell?_setCell_other _ _ _ _ (by simp)).trans b0;have y1:(w3.setCell ⟨B,1,none⟩ (zI lx)).cell? ⟨w.heap.size,1,none⟩=some (zI n.x.c):=(World.cell?_setCell_other _ _ _ _ (by simp)).trans b1;have HOz:Hid (zQ w (w3.setCell ⟨B,1,none⟩ (zI lx))):=HO.out.setCell (Or.inr (by dsimp only;omega)) _;have HOy:Hid (zQ w1 (w3.setCell ⟨B,1,none⟩ (zI lx))):=hOw3.out.setCell (Or.inr hwl) _;generalize w3.setCell ⟨B,1,none⟩ (zI lx)=w4 at *;clear g0 g1 g2 g3 g4 g5 gf r0 r1 r2 r3 r4 r5 f0 HO c2 c3 c4 b0 b1 hOw3 hl0 hlt;replace k0:w4.cell? ⟨B,0,none⟩=some (zI 2):=k0;replace k1:w4.cell? ⟨B,1,none⟩=some (zI lx):=k1;replace k2:w4.cell? ⟨B,2,none⟩=some (zI L):=k2;replace k3:w4.cell? ⟨B,3,none⟩=some (zI n.x.C):=k3;replace k4:w4.cell? ⟨B,4,none⟩=some (zI 0):=k4;replace k5:w4.cell? ⟨B,5,none⟩=some (zI 0):=k5
  go_upto_region 9 with (first
    | (go_at_call 75;refine (HU3.out _ HOy.out).mono ?_;rintro e w5 ⟨rfl,ho5⟩;have HU5:Hid (zQ w4 w5):=ho5;clear ho5;have m0:=(HU5.out.cell (p:=⟨B,0,none⟩) kl (by simp)).trans k0;have m1:=(HU5.out.cell (p:=⟨B,1,none⟩) kl (by simp)).trans k1;have m2:=(HU5.out.cell (p:=⟨B,2,none⟩) kl (by simp)).trans k2;have m3:=(HU5.out.cell (p:=⟨B,3,none⟩) kl (by simp)).trans k3;have m4:=(HU5.out.cell (p:=⟨B,4,none⟩) kl (by simp)).trans k4;have m5:=(HU5.out.cell (p:=⟨B,5,none⟩) kl (by simp)).trans k5;have mf:=fun o=>(HU5.out.frozen (p:=⟨B,o,none⟩) kl (by simp)).trans (kf o);have ml:B < w5.heap.size:=Nat.lt_of_lt_of_le kl HU5.out.size;have n0:=(HU5.out.cell (p:=⟨w.heap.size+1,0,none⟩) zl (by simp)).trans z0;have n1:=(HU5.out.cell (p:=⟨w.heap.size+1,1,none⟩) zl (by simp)).trans z1;have n2:=(HU5.out.cell (p:=⟨w.heap.size+1,2,none⟩) zl (by simp)).trans z2;have n3:=(HU5.out.cell (p:=⟨w.heap.size+1,3,none⟩) zl (by simp)).trans z3;have n4:=(HU5.out.cell (p:=⟨w.heap.size+1,4,none⟩) zl (by simp)).trans z4;have n5:=(HU5.out.cell (p:=⟨w.heap.size+1,5,none⟩) zl (by simp)).trans z5;have nf:=fun o=>(HU5.out.frozen (p:=⟨w.heap.size+1,o,none⟩) zl (by simp)).trans (zf o);have nl:w.heap.size+1 < w5.heap.size:=Nat.lt_of_lt_of_le zl HU5.out.size;clear k0 k1 k2 k3 k4 k5 kf kl z0 z1 z2 z3 z4 z5 zf zl y0 y1)
    | go_in)
  have HO5:Hid (zQ w w5):=zo HOz.out HU5.out;have hF:=six_more w5 B (w.heap.size+1) 4 (zI U1) m0 m1 m2 m3 m4 m5 mf n0 n1 n2 n3 n4 n5 nf ml nl hbA;obtain ⟨⟨k0,k1,k2,k3,k4,k5,kf,kl⟩,⟨z0,z1,z2,z3,z4,z5,zf,zl⟩⟩:=hF;have hG:=six_more (w5.setCell ⟨B,4,none⟩ (zI U1)) B (w.heap.size+1) 5 (zI U2) k0 k1 k2 k3 k4 k5 kf z0 z1 z2 z3 z4 z5 zf kl zl hbA;clear k0 k1 k2 k3 k4 k5 kf kl z0 z1 z2 z3 z4 z5 zf zl;obtain ⟨⟨k0,k1,k2,k3,k4,k5,kf,kl⟩,⟨z0,z1,z2,z3,z4,z5,zf,zl⟩⟩:=hG;have HO6:Hid (zQ w ((w5.setCell ⟨B,4,none⟩ (zI U1)).setCell ⟨B,5,none⟩ (zI U2))):=(HO5.out.setCell (Or.inr (by dsimp only;omega)) _).setCell (Or.inr (by dsimp only;omega)) _;generalize (w5.setCell ⟨B,4,none⟩ (zI U1)).setCell ⟨B,5,none⟩ (zI U2)=w6 at *;replace k0:w6.cell? ⟨B,0,none⟩=some (zI 2):=k0;replace k1:w6.cell? ⟨B,1,none⟩=some (zI lx):=k1;replace k2:w6.cell? ⟨B,2,none⟩=some (zI L):=k2;replace k3:w6.cell? ⟨B,3,none⟩=some (zI n.x.C):=k3;replace k4:w6.cell? ⟨B,4,none⟩=some (zI U1):=k4;replace k5:w6.cell? ⟨B,5,none⟩=some (zI U2):=k5;clear m0 m1 m2 m3 m4 m5 mf ml n0 n1 n2 n3 n4 n5 nf nl HOz HU5 HOy HO5
  go_wp2
  have hle1:w.heap.size≤w.heap.size+1:=Nat.le_succ _;refine bodyPost_ret (v := .tuple #[attrV 2 (lx:Nat) (L:Nat) n.x.C (U1:Nat) (U2:Nat),zI 0]) (by simp [results,attrV,Tryz.results47,go_sem,z0,z1,z2,z3,z4,z5]) rfl ⟨rfl,?_⟩;exact HO6.out.six hle1
end
end Go.Proofs.YtooblpbmcnmicaaGreatDoor
