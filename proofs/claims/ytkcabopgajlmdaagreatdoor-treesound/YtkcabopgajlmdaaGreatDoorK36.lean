import Derived.Test.YtkcabopgajlmdaaGreatDoorK34
set_option maxRecDepth 100000
set_option maxHeartbeats 8000000
namespace Go.Proofs.YtkcabopgajlmdaaGreatDoor
section
open Go Go.RowKit Go.Deep Go.Maps
def Dn.drop (s:List UInt8)(x:Dn):Dn:={ x with es:=dropE x.es s }
def Dn.ins (e:Ent)(x:Dn):Dn:={ x with es:=insE e x.es }
theorem turn_nos {D:Dt}{i c:Nat}{f:Dn→Dn}(hn:(D.L.map (·.i)).Nodup)(hf:∀ x,(f x).i=x.i):((D.turn i c f).L.map (·.i)).Nodup:=by
 show ((turnL i c f D.L).map (·.i)).Nodup;rw [turnL_nos hf];exact hn
theorem DtM.dropped {w w1:World}{base m:Nat}{lv tv:Value}{ns:List Nm}{D:Dt}(h:DtM w base m lv tv ns D)(hn:(D.L.map (·.i)).Nodup){n:Nm}(hm:n∈ns)(hr:RisingE n.x.es){k:Nat}{e:Ent}(hk:n.x.es[k]?=some e)(hR:EnterR w w1 n (n.x.es.take k++n.x.es.drop (k+1))):
  ∃ v',DtM w1 base m lv tv (putNm { n with ev:=v',x:=Dn.drop e.s n.x } ns) (D.turn n.x.i n.x.c (Dn.drop e.s))∧DocW base w w1:=by
 obtain ⟨v',h1,ho⟩:=hR;refine ⟨v',h.turned (n':={ n with ev:=v',x:=Dn.drop e.s n.x }) hn hm rfl rfl ho (fun k hk=>Or.inl (by simpa using hk)) ?_ (fun k hk=>Or.inl hk) rfl,h.docW ho (fun k hk=>Or.inr (Or.inr (Or.inr ⟨n,hm,Or.inl (by simpa using hk)⟩)))⟩;have e1:=cut_drop hr hk;rw [e1] at h1;exact h1
theorem DtM.inserted {w w1:World}{base m:Nat}{lv tv:Value}{ns:List Nm}{D:Dt}(h:DtM w base m lv tv ns D)(hn:(D.L.map (·.i)).Nodup){n:Nm}(hm:n∈ns){e:Ent}(hR:EnterR w w1 n (insE e n.x.es)):
  ∃ v',DtM w1 base m lv tv (putNm { n with ev:=v',x:=Dn.ins e n.x } ns) (D.turn n.x.i n.x.c (Dn.ins e))∧DocW base w w1:=by
 obtain ⟨v',h1,ho⟩:=hR;exact ⟨v',h.turned (n':={ n with ev:=v',x:=Dn.ins e n.x }) hn hm rfl rfl ho (fun k hk=>Or.inl (by simpa using hk)) h1 (fun k hk=>Or.inl hk) rfl,h.docW ho (fun k hk=>Or.inr (Or.inr (Or.inr ⟨n,hm,Or.inl (by simpa using hk)⟩)))⟩
theorem DtM.touchW {w:World}{base m:Nat}{lv tv:Value}{ns:List Nm}{D:Dt}(h:DtM w base m lv tv ns D)(hn:(D.L.map (·.i)).Nodup){n:Nm}(hm:n∈ns):
  w.cell? (zA n.b 3)=some (zI n.x.C)∧w.frozen? ⟨n.b,3,none⟩=false∧n.b < w.heap.size∧DtM (w.setCell (zA n.b 3) (zI (n.x.C+1))) base m lv tv (putNm { n with x:=n.x.touched } ns) (D.turn n.x.i n.x.c Dn.touched)∧DocW base w (w.setCell (zA n.b 3) (zI (n.x.C+1))):=by
 obtain ⟨h1,h2⟩:=h.touch hn hm;have hN:=(h.each n hm).2;exact ⟨hN.c3,hN.fz 3,hN.lt,h1,h.docW h2 (fun k hk=>Or.inr (Or.inr (Or.inr ⟨n,hm,Or.inl (by simpa using hk)⟩)))⟩
def renFree (D:Dt)(a b:Dn)(e:Ent)(s:List UInt8):Dt:=(((D.turn a.i a.c (Dn.drop e.s)).turn b.i b.c (Dn.ins ⟨s,e.i,e.c⟩)).turn a.i a.c Dn.touched).turn b.i b.c Dn.touched
def renOwn (D:Dt)(a:Dn)(e:Ent)(s:List UInt8):Dt:=((D.turn a.i a.c (Dn.drop e.s)).turn a.i a.c (Dn.ins ⟨s,e.i,e.c⟩)).turn a.i a.c Dn.touched
def RenMP (w w':World)(base m:Nat)(D':Dt)(r:Ending):Prop:=r = .returned (zI 0)∧DM w' base m D'∧DocW base w w'
theorem drename_free {w:World}{base m:Nat}{lv tv:Value}{ns:List Nm}{D:Dt}{na nb ny:Nm}{e:Ent}{k:Nat}{s1 s2:ByteArray}(H:RenPre w base m lv tv ns D na nb ny e k s1 s2)(hout:ny.x.K=2→¬ InD D nb.x.i nb.x.c e.i e.c)(hf2:findE nb.x.es s2.data.toList=none)(h60:nb.x.es.length < 60)(hne:na≠nb):
  zK 34 #[zP m,zG na.x.i na.x.c,.string s1,zG nb.x.i nb.x.c,.string s2] w fun r w'=>RenMP w w' base m (renFree D na.x nb.x e s2.data.toList) r:=by
 obtain ⟨w1,la,ada,capa,HW1,HOO,HT,HD1,HD2,HN1,HN2,HA1,HA2,HA3,HFI,HBA,HCA,HYK,HUPC,HH1,HII,hkl,hla,hlaa⟩:=ren_pre H;obtain ⟨h,hI,hk,hna,hnb,hny,haK,hbK,ho1,ho2,hf,hq,hyi,hyc⟩:=H;have HO:Hid (zQ w1 w1):=Only.refl _ _;have h1:=HH1.out;have o1:=HOO.out;obtain ⟨b0,b1,b2,b3,_,_,_⟩:=(HT.out w1 HO.out).cells;have HCE:Hid (∀ W,zQ w1 W→_):=fun W ho=>HCA.out W ho k e hq;have HOUT:Hid (ny.x.K=2→¬ InD D nb.x.i nb.x.c e.i e.c):=hout;have HF2:Hid (∀ W,zQ w1 W→zE 49 #[zP nb.b,.string s2] W (zI (-1))):=fun W ho=>dfind_no (((h1.only ho).each nb hnb).2) (hk.es _ (h.inL hnb)) hf2;obtain ⟨lb,hlbb⟩:∃ lb,nb.x.es.length=lb:=⟨_,rfl⟩;obtain ⟨adb,capb,_,hrowb⟩:=ent_row (h1.each nb hnb).2 hlbb;have HB6:Hid (∀ W,zQ w1 W→W.cell? (zA nb.b 6)=some (.slice adb lb capb)):=fun W ho=>(hrowb W ho).1
 have hlb60:¬ 60≤lb:=by rw [← hlbb];omega
 have dN:((na.x.i:Int)==(nb.x.i:Int))=false:=zb (fun e2=>hne (h.same hk.nos hna hnb (by omega)));have HLE:Hid (∀ W,zQ w1 W→zK 62 #[zP na.b,zI k] W fun r w'=>r = .returned (.tuple #[])∧EnterR W w' na (na.x.es.take k++na.x.es.drop (k+1))):=fun W ho=>dleave_any W na k (((h1.only ho).each na hna).2) (hk.es _ (h.inL hna)) (List.getElem?_eq_some_iff.1 hq).1;obtain ⟨hCa0,hCa1,_⟩:=hk.num _ (h.inL hna);obtain ⟨hCb0,hCb1,_⟩:=hk.num _ (h.inL hnb);have HMEM:Hid (na∈ns∧nb∈ns∧na.b≠nb.b∧na.x.es[k]?=some e∧RisingE na.x.es):=⟨hna,hnb,fun e2=>hne (h.byB hna hnb e2),hq,(hI.rise _ (h.inL hna)).1⟩;have HDW0:Hid (∀ W,zQ w1 W→DocW base w W):=fun W ho=>DocW.none (zo o1 ho);clear h1 o1 hlaa h hI hk hna hnb hny haK hbK ho1 ho2 hf hq hyi hyc hout hf2 h60 hne hrowb hlbb
 go_enter Tryz.func34,Tryz.ntmps34
 go_upto_region 1 with fail
 rw [HW1.out]
 go_upto_region 16 with (first
  | (go_at_call 46;refine (HD1.out _ HO.out).mono ?_;rintro eq wz ⟨rfl,hoz⟩;replace HO:=zT HO hoz;clear hoz b0 b1 b2 b3;obtain ⟨b0,b1,b2,b3,_,_,_⟩:=(HT.out wz HO.out).cells;clear HD1)
  | (go_at_call 46;refine (HD2.out _ HO.out).mono ?_;rintro eq wz ⟨rfl,hoz⟩;replace HO:=zT HO hoz;clear hoz b0 b1 b2 b3;obtain ⟨b0,b1,b2,b3,_,_,_⟩:=(HT.out wz HO.out).cells)
  | (go_at_call 47;refine (HN1.out _ HO.out).mono ?_;rintro eq wz2 ⟨rfl,rfl⟩;clear HN1)
  | (go_at_call 47;refine (HN2.out _ HO.out).mono ?_;rintro eq wz2 ⟨rfl,rfl⟩)
  | (go_at_call 48;refine (HA1.out _ HO.out).mono ?_;rintro eq wz ⟨rfl,hoz⟩;replace HO:=zT HO hoz;clear hoz b0 b1 b2 b3;obtain ⟨b0,b1,b2,b3,_,_,_⟩:=(HT.out wz HO.out).cells;clear HA1)
  | (go_at_call 48;refine (HA2.out _ HO.out).mono ?_;rintro eq wz ⟨rfl,hoz⟩;replace HO:=zT HO hoz;clear hoz b0 b1 b2 b3;obtain ⟨b0,b1,b2,b3,_,_,_⟩:=(HT.out wz HO.out).cells)
  | (go_at_call 49;refine (HFI.out _ HO.out).mono ?_;rintro eq wz2 ⟨rfl,rfl⟩;obtain ⟨g6,q6,q1,q2⟩:=HCE.out _ HO.out)
  | go_in)
 have HBX:Hid (HBox (wz.alloc (zH e.i e.c)) wz.heap.size e.i e.c):=zh wz _;have HOX:Hid (zQ w1 (wz.alloc (zH e.i e.c))):=HO.out.alloc _;clear HO b0 b1 b2 b3 q6 q1 q2;generalize wz.alloc (zH e.i e.c)=wX at HBX HOX ⊢;generalize wz.heap.size=b15 at HBX ⊢;have HBUN:Hid (∀ W,zQ wX W→TwoH W w.heap.size (na.x.i:Nat) (na.x.c:Nat) (nb.x.i:Nat) (nb.x.c:Nat)∧HBox W b15 e.i e.c):=fun W ho=>⟨HT.out W (zo HOX.out ho),HBX.out.kept ho (by simp)⟩;have HF2X:Hid (∀ W,zQ wX W→zE 49 #[zP nb.b,.string s2] W (zI (-1))):=fun W ho=>HF2.out W (zo HOX.out ho);have HB6X:Hid (∀ W,zQ wX W→W.cell? (zA nb.b 6)=some (.slice adb lb capb)):=fun W ho=>HB6.out W (zo HOX.out ho);have HLEX:Hid (∀ W,zQ wX W→zK 62 #[zP na.b,zI k] W fun r w'=>r = .returned (.tuple #[])∧EnterR W w' na (na.x.es.take k++na.x.es.drop (k+1))):=fun W ho=>HLE.out W (zo HOX.out ho)
 have HK2:Hid (∀ W w2,zQ wX W→EnterR W w2 na (na.x.es.take k++na.x.es.drop (k+1))→TwoH w2 w.heap.size (na.x.i:Nat) (na.x.c:Nat) (nb.x.i:Nat) (nb.x.c:Nat)∧HBox w2 b15 e.i e.c∧zK 59 #[zP nb.b,.string s2,zG e.i e.c] w2 fun r w3=>r = .returned (.tuple #[])∧w3.cell? (zA na.b 3)=some (zI na.x.C)∧w3.frozen? ⟨na.b,3,none⟩=false∧na.b < w3.heap.size∧TwoH (w3.setCell (zA na.b 3) (zI (na.x.C+1))) w.heap.size (na.x.i:Nat) (na.x.c:Nat) (nb.x.i:Nat) (nb.x.c:Nat)∧(w3.setCell (zA na.b 3) (zI (na.x.C+1))).cell? (zA nb.b 3)=some (zI nb.x.C)∧(w3.setCell (zA na.b 3) (zI (na.x.C+1))).frozen? ⟨nb.b,3,none⟩=false∧nb.b < (w3.setCell (zA na.b 3) (zI (na.x.C+1))).heap.size∧DM ((w3.setCell (zA na.b 3) (zI (na.x.C+1))).setCell (zA nb.b 3) (zI (nb.x.C+1))) base m (renFree D na.x nb.x e s2.data.toList)∧DocW base w ((w3.setCell (zA na.b 3) (zI (na.x.C+1))).setCell (zA nb.b 3) (zI (nb.x.C+1)))):=fun W w2 ho hE=>by
  obtain ⟨hna,hnb,hne,hq,hra⟩:=HMEM.out;have hW:=HH1.out.only (zo HOX.out ho);have hdW:=HDW0.out W (zo HOX.out ho);obtain ⟨v2,hD2,hw2⟩:=hW.dropped HII.out.2.1.nos hna hra hq hE;have tW:=HBUN.out W ho;have t2:TwoH w2 w.heap.size (na.x.i:Nat) (na.x.c:Nat) (nb.x.i:Nat) (nb.x.c:Nat):=⟨hw2.stays tW.1.x (by decide),hw2.stays tW.1.y (by decide)⟩;have hnb2:nb∈putNm { na with ev:=v2,x:=Dn.drop e.s na.x } ns:=mem_putNm hnb (fun e2=>hne e2.symm);have hna2:({ na with ev:=v2,x:=Dn.drop e.s na.x }:Nm)∈putNm { na with ev:=v2,x:=Dn.drop e.s na.x } ns:=mem_putNm_same hna rfl;have n2:=turn_nos (f:=Dn.drop e.s) (i:=na.x.i) (c:=na.x.c) HII.out.2.1.nos (fun _=>rfl);have hen:=denter_any w2 nb ⟨s2.data.toList,e.i,e.c⟩ (hD2.each nb hnb2).2 (HII.out.2.1.es _ (HH1.out.inL hnb));dsimp only at hen;rw [bs_self] at hen;refine ⟨t2,hw2.stays tW.2 (by decide),hen.mono fun r w3 hh=>?_⟩;obtain ⟨hr,hE3⟩:=hh;obtain ⟨v3,hD3,hw3⟩:=hD2.inserted n2 hnb2 hE3;have n3:=turn_nos (f:=Dn.ins ⟨s2.data.toList,e.i,e.c⟩) (i:=nb.x.i) (c:=nb.x.c) n2 (fun _=>rfl);have hna3:({ na with ev:=v2,x:=Dn.drop e.s na.x }:Nm)∈putNm { nb with ev:=v3,x:=Dn.ins ⟨s2.data.toList,e.i,e.c⟩ nb.x } (putNm { na with ev:=v2,x:=Dn.drop e.s na.x } ns):=mem_putNm hna2 hne;have hnb3:({ nb with ev:=v3,x:=Dn.ins ⟨s2.data.toList,e.i,e.c⟩ nb.x }:Nm)∈putNm { nb with ev:=v3,x:=Dn.ins ⟨s2.data.toList,e.i,e.c⟩ nb.x } (putNm { na with ev:=v2,x:=Dn.drop e.s na.x } ns):=mem_putNm_same hnb2 rfl;obtain ⟨k1,k2,k3,hD4,hw4⟩:=hD3.touchW n3 hna3;have n4:=turn_nos (f:=Dn.touched) (i:=na.x.i) (c:=na.x.c) n3 (fun _=>rfl);have hnb4:=mem_putNm (n':={ na with ev:=v2,x:=(Dn.drop e.s na.x).touched }) hnb3 (fun e2=>hne e2.symm);obtain ⟨j1,j2,j3,hD5,hw5⟩:=hD4.touchW n4 hnb4;have dw4:=hw3.trans hw4;exact ⟨hr,k1,k2,k3,⟨dw4.stays t2.x (by decide),dw4.stays t2.y (by decide)⟩,j1,j2,j3,⟨_,_,_,hD5⟩,hdW.trans (hw2.trans (dw4.trans hw5))⟩
 obtain ⟨b0,b1,b2,b3,_,_,_⟩:=(HBUN.out wX (Only.refl _ _)).1.cells;obtain ⟨z0,z1⟩:=(HBUN.out wX (Only.refl _ _)).2.cells;have HO:Hid (zQ wX wX):=Only.refl _ _
 go_wp2_with (first
  | (go_at_call 48;refine (HA3.out _ (zo HOX.out HO.out)).mono ?_;rintro eq wy ⟨rfl,hoz⟩;replace HO:=zT HO hoz;clear hoz b0 b1 b2 b3 z0 z1;obtain ⟨b0,b1,b2,b3,_,_,_⟩:=(HBUN.out wy HO.out).1.cells;obtain ⟨z0,z1⟩:=(HBUN.out wy HO.out).2.cells)
  | go_in)
 have HU0:Hid (UpAt wX (wy.alloc (zH nb.x.i nb.x.c)) D nb.x.i nb.x.c e.i e.c wy.heap.size nb.x):=⟨zh wy _,HO.out.size,HII.out.2.2.1,HII.out.2.2.2,HO.out.alloc _,0,rfl,fun j hj=>by omega⟩;clear HO b0 b1 b2 b3 z0 z1;obtain ⟨r,hr⟩:=HII.out.1.rank;have HRK:Hid (∀ x∈D.L,∀ e∈x.es,(∃ y∈D.L,y.i=e.i∧y.K=2)→r x.i < r e.i):=hr;clear hr
 go_loopw [17] (fun p wr=>∃ B v,p=zP B∧UpAt wX wr D nb.x.i nb.x.c e.i e.c B v) (fun p wr=>measU r p wr)
 case atStart=>exact ⟨_,_,rfl,HU0.out⟩
 case round =>
  obtain ⟨B7,v,rfl,hU⟩:=hrel;clear HU0;have HU:Hid (UpAt wX wr D nb.x.i nb.x.c e.i e.c B7 v):=hU;have HO:Hid (zQ wX wr):=hU.only;have yK:=HYK.out wr (zo HOX.out hU.only);obtain ⟨b0,b1,b2,b3,_,_,_⟩:=(HBUN.out wr hU.only).1.cells;obtain ⟨z0,z1⟩:=(HBUN.out wr hU.only).2.cells;obtain ⟨u0,u1⟩:=hU.box.cells;have hml:=measU_is (r:=r) hU.box;clear hU;rcases ren_way (K:=ny.x.K) HII.out.1 HRK.out HU.out HOUT.out with ⟨y,hyD,hi,hst,hlt,hnx⟩ | hF | hB | hC
  · rw [hyD] at yK
    have hup:=HUPC.out wr v.i v.c (zo HOX.out HO.out);rw [hst] at hup
    have hyv:y.i≠v.i:=fun e2=>by rw [e2] at hlt;omega
    have dd:((y.i:Int)==(v.i:Int))=false:=zb (by omega);have HLT:Hid (r y.i < r v.i):=hlt;have HNX:Hid (∀ W B',HBox W B' y.i y.c→wX.heap.size≤B'→zQ wX W→UpAt wX W D nb.x.i nb.x.c e.i e.c B' y):=hnx;have HGE:Hid (wX.heap.size≤B7):=HU.out.ge;clear hst hlt hnx hyv
    by_cases hvi:v.i=e.i
    all_goals first | (have dc:((v.c:Int)==(e.c:Int))=false:=zb (fun e2=>hi ⟨hvi,by omega⟩);have dv:((v.i:Int)==(e.i:Int))=true:=by rw [hvi];simp) | (have dc:((v.i:Int)==(e.i:Int))=false:=zb (by omega))
    all_goals
      clear hi hvi
      go_wp2_with (first
       | (go_at_call 67;refine hup.mono ?_;rintro eq wu ⟨rfl,hou⟩;have HOn:Hid (zQ wX wu):=zo HO.out hou;have HB7:Hid (HBox wu B7 v.i v.c):=HU.out.box.kept hou (by simp);clear HO u0 u1;have HO:=HOn;clear HOn hou hup;obtain ⟨u0,u1⟩:=HB7.out.cells;have fz0:=HB7.out.frozen 0;have fz1:=HB7.out.frozen 1;have hl7:=HB7.out.lt)
       | go_in)
      obtain ⟨hb9,ho9⟩:=up_again (y:=(y.i,y.c)) HO.out HGE.out;refine ⟨⟨_,y,rfl,HNX.out _ _ hb9 (Nat.le_succ_of_le HO.out.size) ho9⟩,?_⟩;rw [measU_is hb9,hml];exact HLT.out
  all_goals first | (have dK:(ny.x.K==2)=false:=zb hF;clear hF u0 u1 hml) | (obtain ⟨hyD,hi,hst,hvi⟩:=hB;rw [hyD] at yK;have hup:=HUPC.out wr v.i v.c (zo HOX.out HO.out);rw [hst] at hup;have dc:((v.c:Int)==(e.c:Int))=false:=zb (fun e2=>hi ⟨hvi,by omega⟩);have dv:((v.i:Int)==(e.i:Int))=true:=(by rw [hvi];simp);clear hst hvi hi hml hyD) | (obtain ⟨hyD,hi,hst,hvi⟩:=hC;rw [hyD] at yK;have hup:=HUPC.out wr v.i v.c (zo HOX.out HO.out);rw [hst] at hup;have dc:((v.i:Int)==(e.i:Int))=false:=zb (by omega);clear hst hvi hi hml hyD)
  all_goals
    go_wp2_with (first
      | (go_at_call 67;refine hup.mono ?_;rintro eq wu ⟨rfl,hou⟩;have HOn:Hid (zQ wX (wu.alloc (zH v.i v.c))):=(zo HO.out hou).alloc _;have HB7:Hid (HBox (wu.alloc (zH v.i v.c)) B7 v.i v.c):=(HU.out.box.kept hou (by simp)).kept ((Only.refl [] wu).alloc _) (by simp);clear HO u0 u1 b0 b1 b2 b3 z0 z1;have HO:=HOn;clear HOn hou hup;obtain ⟨u0,u1⟩:=HB7.out.cells;obtain ⟨b0,b1,b2,b3,_,_,_⟩:=(HBUN.out _ HO.out).1.cells;obtain ⟨z0,z1⟩:=(HBUN.out _ HO.out).2.cells)
      | (go_at_call 49;refine (HF2X.out _ HO.out).mono ?_;rintro eq wq2 ⟨rfl,rfl⟩;have x6:=HB6X.out _ HO.out)
      | (go_at_call 62;refine (HLEX.out _ HO.out).mono ?_;rintro eq w2 ⟨rfl,hE2⟩;obtain ⟨t2,h15,hen⟩:=HK2.out _ w2 HO.out hE2;clear b0 b1 b2 b3 z0 z1 hE2;obtain ⟨b0,b1,b2,b3,_,_,_⟩:=t2.cells;obtain ⟨z0,z1⟩:=h15.cells;clear t2 h15)
      | (go_at_call 59;refine hen.mono ?_;rintro eq w3 ⟨rfl,k1,k2,k3,t4,j1,j2,j3,hD5,hw5⟩;clear b0 b1 b2 b3 z0 z1 hen;obtain ⟨b0,b1,b2,b3,_,_,_⟩:=t4.cells;have HF5:Hid (DM ((w3.setCell (zA na.b 3) (zI (na.x.C+1))).setCell (zA nb.b 3) (zI (nb.x.C+1))) base m (renFree D na.x nb.x e s2.data.toList)∧DocW base w ((w3.setCell (zA na.b 3) (zI (na.x.C+1))).setCell (zA nb.b 3) (zI (nb.x.C+1)))):=⟨hD5,hw5⟩;clear t4 hD5 hw5)
      | go_in)
    go_ret
    exact ⟨rfl,HF5.out.1,HF5.out.2⟩
end
end Go.Proofs.YtkcabopgajlmdaaGreatDoor
