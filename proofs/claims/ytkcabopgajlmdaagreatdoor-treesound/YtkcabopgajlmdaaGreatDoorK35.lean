import Derived.Test.YtkcabopgajlmdaaGreatDoorK34
set_option maxRecDepth 100000
set_option maxHeartbeats 8000000
namespace Go.Proofs.YtkcabopgajlmdaaGreatDoor
section
open Go Go.RowKit Go.Deep Go.Maps
theorem drename_full {w:World}{base m:Nat}{lv tv:Value}{ns:List Nm}{D:Dt}{na nb ny:Nm}{e:Ent}{k:Nat}{s1 s2:ByteArray}(H:RenPre w base m lv tv ns D na nb ny e k s1 s2)(hout:ny.x.K=2→¬ InD D nb.x.i nb.x.c e.i e.c)(hf2:findE nb.x.es s2.data.toList=none)(h60:60≤nb.x.es.length)(hne:na≠nb):
  zK 34 #[zP m,zG na.x.i na.x.c,.string s1,zG nb.x.i nb.x.c,.string s2] w fun r w'=>RenQP w w' 9 r:=by
 obtain ⟨w1,la,ada,capa,HW1,HOO,HT,HD1,HD2,HN1,HN2,HA1,HA2,HA3,HFI,HBA,HCA,HYK,HUPC,HH1,HII,hkl,hla,hlaa⟩:=ren_pre H;obtain ⟨h,hI,hk,hna,hnb,hny,haK,hbK,ho1,ho2,hf,hq,hyi,hyc⟩:=H;have HO:Hid (zQ w1 w1):=Only.refl _ _;have h1:=HH1.out;have o1:=HOO.out;obtain ⟨b0,b1,b2,b3,_,_,_⟩:=(HT.out w1 HO.out).cells;have HCE:Hid (∀ W,zQ w1 W→_):=fun W ho=>HCA.out W ho k e hq;have HOUT:Hid (ny.x.K=2→¬ InD D nb.x.i nb.x.c e.i e.c):=hout;have HF2:Hid (∀ W,zQ w1 W→zE 49 #[zP nb.b,.string s2] W (zI (-1))):=fun W ho=>dfind_no (((h1.only ho).each nb hnb).2) (hk.es _ (h.inL hnb)) hf2;obtain ⟨lb,hlbb⟩:∃ lb,nb.x.es.length=lb:=⟨_,rfl⟩;obtain ⟨adb,capb,_,hrowb⟩:=ent_row (h1.each nb hnb).2 hlbb;have HB6:Hid (∀ W,zQ w1 W→W.cell? (zA nb.b 6)=some (.slice adb lb capb)):=fun W ho=>(hrowb W ho).1
 have hlb60:60≤lb:=by rw [← hlbb];exact h60
 have hlbk:lb≤1000:=by rw [← hlbb];exact hk.es _ (h.inL hnb)
 have dN:((na.x.i:Int)==(nb.x.i:Int))=false:=zb (fun e2=>hne (h.same hk.nos hna hnb (by omega)));clear h1 o1 hlaa h hI hk hna hnb hny haK hbK ho1 ho2 hf hq hyi hyc hout hf2 h60 hne hrowb hlbb
 go_enter Tryz.func34,Tryz.ntmps34
 go_upto_region 1 with fail
 rw [HW1.out]
 go_upto_region 16 with (first
  | (go_at_call 46;refine (HD1.out _ HO.out).mono ?_;rintro eq wz ⟨rfl,hoz⟩;replace HO:=zT HO hoz;clear hoz b0 b1 b2 b3;obtain ⟨b0,b1,b2,b3,_,_,_⟩:=(HT.out wz HO.out).cells;clear HD1)
  | (go_at_call 46;refine (HD2.out _ HO.out).mono ?_;rintro eq wz ⟨rfl,hoz⟩;replace HO:=zT HO hoz;clear hoz b0 b1 b2 b3;obtain ⟨b0,b1,b2,b3,_,_,_⟩:=(HT.out wz HO.out).cells)
  | (go_at_call 47;refine (HN1.out _ HO.out).mono ?_;rintro eq wz2 ⟨rfl,rfl⟩;clear HN1)
  | (go_at_call 47;refine (HN2.out _ HO.out).mono ?_;rintro eq wz2 ⟨rfl,rfl⟩)
  | (go_at_call 48;refine (HA1.out _ HO.out).mono ?_;rintro eq wz ⟨rfl,hoz⟩;replace HO:=zT HO hoz;clear hoz b0 b1 b2 b3;obtain ⟨b0,b1,b2,b3,_,_,_⟩:=(HT.out wz HO.out).cells;clear HA1)
  | (go_at_call 48;refine (HA2.out _ HO.out).mono ?_;rintro eq wz ⟨rfl,hoz⟩;replace HO:=zT HO hoz;clear hoz b0 b1 b2 b3;obtain ⟨b0,b1,b2,b3,_,_,_⟩:=(HT.out wz HO.out).cells)
  | (go_at_call 49;refine (HFI.out _ HO.out).mono ?_;rintro eq wz2 ⟨rfl,rfl⟩;obtain ⟨g6,q6,q1,q2⟩:=HCE.out _ HO.out)
  | go_in)
 have HBX:Hid (HBox (wz.alloc (zH e.i e.c)) wz.heap.size e.i e.c):=zh wz _;have HOX:Hid (zQ w1 (wz.alloc (zH e.i e.c))):=HO.out.alloc _;clear HO b0 b1 b2 b3 q6 q1 q2;generalize wz.alloc (zH e.i e.c)=wX at HBX HOX ⊢;generalize wz.heap.size=b15 at HBX ⊢;have HBUN:Hid (∀ W,zQ wX W→TwoH W w.heap.size (na.x.i:Nat) (na.x.c:Nat) (nb.x.i:Nat) (nb.x.c:Nat)∧HBox W b15 e.i e.c):=fun W ho=>⟨HT.out W (zo HOX.out ho),HBX.out.kept ho (by simp)⟩;have HF2X:Hid (∀ W,zQ wX W→zE 49 #[zP nb.b,.string s2] W (zI (-1))):=fun W ho=>HF2.out W (zo HOX.out ho);have HB6X:Hid (∀ W,zQ wX W→W.cell? (zA nb.b 6)=some (.slice adb lb capb)):=fun W ho=>HB6.out W (zo HOX.out ho);obtain ⟨b0,b1,b2,b3,_,_,_⟩:=(HBUN.out wX (Only.refl _ _)).1.cells;obtain ⟨z0,z1⟩:=(HBUN.out wX (Only.refl _ _)).2.cells;have HO:Hid (zQ wX wX):=Only.refl _ _
 go_wp2_with (first
  | (go_at_call 48;refine (HA3.out _ (zo HOX.out HO.out)).mono ?_;rintro eq wy ⟨rfl,hoz⟩;replace HO:=zT HO hoz;clear hoz b0 b1 b2 b3 z0 z1;obtain ⟨b0,b1,b2,b3,_,_,_⟩:=(HBUN.out wy HO.out).1.cells;obtain ⟨z0,z1⟩:=(HBUN.out wy HO.out).2.cells)
  | go_in)
 have HU0:Hid (UpAt wX (wy.alloc (zH nb.x.i nb.x.c)) D nb.x.i nb.x.c e.i e.c wy.heap.size nb.x):=⟨zh wy _,HO.out.size,HII.out.2.2.1,HII.out.2.2.2,HO.out.alloc _,0,rfl,fun j hj=>by omega⟩;clear HO b0 b1 b2 b3 z0 z1;obtain ⟨r,hr⟩:=HII.out.1.rank;have HRK:Hid (∀ x∈D.L,∀ e∈x.es,(∃ y∈D.L,y.i=e.i∧y.K=2)→r x.i < r e.i):=hr;clear hr
 go_loopw [17] (fun p wr=>∃ B v,p=zP B∧UpAt wX wr D nb.x.i nb.x.c e.i e.c B v) (fun p wr=>measU r p wr)
 case atStart=>exact ⟨_,_,rfl,HU0.out⟩
 case round =>
  obtain ⟨B7,v,rfl,hU⟩:=hrel;clear HU0;have HU:Hid (UpAt wX wr D nb.x.i nb.x.c e.i e.c B7 v):=hU;have HO:Hid (zQ wX wr):=hU.only;have yK:=HYK.out wr (zo HOX.out hU.only);obtain ⟨b0,b1,b2,b3,_,_,_⟩:=(HBUN.out wr hU.only).1.cells;obtain ⟨z0,z1⟩:=(HBUN.out wr hU.only).2.cells;obtain ⟨u0,u1⟩:=hU.box.cells;have hml:=measU_is (r:=r) hU.box;clear hU;rcases ren_way (K:=ny.x.K) HII.out.1 HRK.out HU.out HOUT.out with ⟨y,hyD,hi,hst,hlt,hnx⟩ | hF | hB | hC
  · rw [hyD] at yK
    have hup:=HUPC.out wr v.i v.c (zo HOX.out HO.out);rw [hst] at hup
    have hyv:y.i≠v.i:=fun e2=>by rw [e2] at hlt;omega
    have dd:((y.i:Int)==(v.i:Int))=false:=zb (by omega);have HLT:Hid (r y.i < r v.i):=hlt;have HNX:Hid (∀ W B',HBox W B' y.i y.c→wX.heap.size≤B'→zQ wX W→UpAt wX W D nb.x.i nb.x.c e.i e.c B' y):=hnx;have HGE:Hid (wX.heap.size≤B7):=HU.out.ge;clear hst hlt hnx hyv
    by_cases hvi:v.i=e.i
    all_goals first | (have dc:((v.c:Int)==(e.c:Int))=false:=zb (fun e2=>hi ⟨hvi,by omega⟩);have dv:((v.i:Int)==(e.i:Int))=true:=by rw [hvi];simp) | (have dc:((v.i:Int)==(e.i:Int))=false:=zb (by omega))
    all_goals
      clear hi hvi
      go_wp2_with (first
       | (go_at_call 67;refine hup.mono ?_;rintro eq wu ⟨rfl,hou⟩;have HOn:Hid (zQ wX wu):=zo HO.out hou;have HB7:Hid (HBox wu B7 v.i v.c):=HU.out.box.kept hou (by simp);clear HO u0 u1;have HO:=HOn;clear HOn hou hup;obtain ⟨u0,u1⟩:=HB7.out.cells;have fz0:=HB7.out.frozen 0;have fz1:=HB7.out.frozen 1;have hl7:=HB7.out.lt)
       | go_in)
      obtain ⟨hb9,ho9⟩:=up_again (y:=(y.i,y.c)) HO.out HGE.out;refine ⟨⟨_,y,rfl,HNX.out _ _ hb9 (Nat.le_succ_of_le HO.out.size) ho9⟩,?_⟩;rw [measU_is hb9,hml];exact HLT.out
  all_goals first | (have dK:(ny.x.K==2)=false:=zb hF;clear hF u0 u1 hml) | (obtain ⟨hyD,hi,hst,hvi⟩:=hB;rw [hyD] at yK;have hup:=HUPC.out wr v.i v.c (zo HOX.out HO.out);rw [hst] at hup;have dc:((v.c:Int)==(e.c:Int))=false:=zb (fun e2=>hi ⟨hvi,by omega⟩);have dv:((v.i:Int)==(e.i:Int))=true:=(by rw [hvi];simp);clear hst hvi hi hml hyD) | (obtain ⟨hyD,hi,hst,hvi⟩:=hC;rw [hyD] at yK;have hup:=HUPC.out wr v.i v.c (zo HOX.out HO.out);rw [hst] at hup;have dc:((v.i:Int)==(e.i:Int))=false:=zb (by omega);clear hst hvi hi hml hyD)
  all_goals
    go_wp2_with (first
      | (go_at_call 67;refine hup.mono ?_;rintro eq wu ⟨rfl,hou⟩;have HOn:Hid (zQ wX (wu.alloc (zH v.i v.c))):=(zo HO.out hou).alloc _;have HB7:Hid (HBox (wu.alloc (zH v.i v.c)) B7 v.i v.c):=(HU.out.box.kept hou (by simp)).kept ((Only.refl [] wu).alloc _) (by simp);clear HO u0 u1 b0 b1 b2 b3 z0 z1;have HO:=HOn;clear HOn hou hup;obtain ⟨u0,u1⟩:=HB7.out.cells;obtain ⟨b0,b1,b2,b3,_,_,_⟩:=(HBUN.out _ HO.out).1.cells;obtain ⟨z0,z1⟩:=(HBUN.out _ HO.out).2.cells)
      | (go_at_call 49;refine (HF2X.out _ HO.out).mono ?_;rintro eq wq2 ⟨rfl,rfl⟩;have x6:=HB6X.out _ HO.out)
      | go_in)
    go_ret
    exact ⟨zo HOO.out (zo HOX.out HO.out),rfl⟩
theorem drename_same {w:World}{base m:Nat}{lv tv:Value}{ns:List Nm}{D:Dt}{na nb ny:Nm}{e:Ent}{k:Nat}{s1 s2:ByteArray}(nz:Nm)(f:Ent)(j:Nat)(H:RenPre w base m lv tv ns D na nb ny e k s1 s2)(hout:ny.x.K=2→¬ InD D nb.x.i nb.x.c e.i e.c)(hf2:findE nb.x.es s2.data.toList=some f)(hq2:nb.x.es[j]?=some f)(hnz:nz∈ns)(hzi:nz.x.i=f.i)(hzc:nz.x.c=f.c)(hzy:nz=ny):
  zK 34 #[zP m,zG na.x.i na.x.c,.string s1,zG nb.x.i nb.x.c,.string s2] w fun r w'=>RenQP w w' 0 r:=by
 obtain ⟨w1,la,ada,capa,HW1,HOO,HT,HD1,HD2,HN1,HN2,HA1,HA2,HA3,HFI,HBA,HCA,HYK,HUPC,HH1,HII,hkl,hla,hlaa⟩:=ren_pre H;obtain ⟨h,hI,hk,hna,hnb,hny,haK,hbK,ho1,ho2,hf,hq,hyi,hyc⟩:=H;have HO:Hid (zQ w1 w1):=Only.refl _ _;have h1:=HH1.out;have o1:=HOO.out;obtain ⟨b0,b1,b2,b3,_,_,_⟩:=(HT.out w1 HO.out).cells;have HCE:Hid (∀ W,zQ w1 W→_):=fun W ho=>HCA.out W ho k e hq;have HOUT:Hid (ny.x.K=2→¬ InD D nb.x.i nb.x.c e.i e.c):=hout;obtain ⟨lb,adb,capb,lz,adz,capz,HF2,HCF,HA4,HZC,hjl,hlbk,hlzk,hlbb,hlzz,_⟩:=ren_over h1 hI hk hnb hf2 hq2 hnz hzi hzc
 have dZ1:((nz.x.i:Int)==(e.i:Int))=true:=by rw [hzy,hyi];simp
 have dZ2:((nz.x.c:Int)==(e.c:Int))=true:=by rw [hzy,hyc];simp
 clear h1 o1 hlaa h hI hk hna hnb hny haK hbK ho1 ho2 hf hq hyi hyc hout hf2 hq2 hnz hzi hzc hlbb hlzz hzy
 go_enter Tryz.func34,Tryz.ntmps34
 go_upto_region 1 with fail
 rw [HW1.out]
 go_upto_region 16 with (first
  | (go_at_call 46;refine (HD1.out _ HO.out).mono ?_;rintro eq wz ⟨rfl,hoz⟩;replace HO:=zT HO hoz;clear hoz b0 b1 b2 b3;obtain ⟨b0,b1,b2,b3,_,_,_⟩:=(HT.out wz HO.out).cells;clear HD1)
  | (go_at_call 46;refine (HD2.out _ HO.out).mono ?_;rintro eq wz ⟨rfl,hoz⟩;replace HO:=zT HO hoz;clear hoz b0 b1 b2 b3;obtain ⟨b0,b1,b2,b3,_,_,_⟩:=(HT.out wz HO.out).cells)
  | (go_at_call 47;refine (HN1.out _ HO.out).mono ?_;rintro eq wz2 ⟨rfl,rfl⟩;clear HN1)
  | (go_at_call 47;refine (HN2.out _ HO.out).mono ?_;rintro eq wz2 ⟨rfl,rfl⟩)
  | (go_at_call 48;refine (HA1.out _ HO.out).mono ?_;rintro eq wz ⟨rfl,hoz⟩;replace HO:=zT HO hoz;clear hoz b0 b1 b2 b3;obtain ⟨b0,b1,b2,b3,_,_,_⟩:=(HT.out wz HO.out).cells;clear HA1)
  | (go_at_call 48;refine (HA2.out _ HO.out).mono ?_;rintro eq wz ⟨rfl,hoz⟩;replace HO:=zT HO hoz;clear hoz b0 b1 b2 b3;obtain ⟨b0,b1,b2,b3,_,_,_⟩:=(HT.out wz HO.out).cells)
  | (go_at_call 49;refine (HFI.out _ HO.out).mono ?_;rintro eq wz2 ⟨rfl,rfl⟩;obtain ⟨g6,q6,q1,q2⟩:=HCE.out _ HO.out)
  | go_in)
 have HBX:Hid (HBox (wz.alloc (zH e.i e.c)) wz.heap.size e.i e.c):=zh wz _;have HOX:Hid (zQ w1 (wz.alloc (zH e.i e.c))):=HO.out.alloc _;clear HO b0 b1 b2 b3 q6 q1 q2;generalize wz.alloc (zH e.i e.c)=wX at HBX HOX ⊢;generalize wz.heap.size=b15 at HBX ⊢;have HBUN:Hid (∀ W,zQ wX W→TwoH W w.heap.size (na.x.i:Nat) (na.x.c:Nat) (nb.x.i:Nat) (nb.x.c:Nat)∧HBox W b15 e.i e.c):=fun W ho=>⟨HT.out W (zo HOX.out ho),HBX.out.kept ho (by simp)⟩;have HF2X:Hid (∀ W,zQ wX W→zE 49 #[zP nb.b,.string s2] W (zI j)):=fun W ho=>HF2.out W (zo HOX.out ho);have HA4X:Hid (∀ W,zQ wX W→zO 48 #[zP m,zG f.i f.c] W (zP nz.b)):=fun W ho=>HA4.out W (zo HOX.out ho);obtain ⟨b0,b1,b2,b3,_,_,_⟩:=(HBUN.out wX (Only.refl _ _)).1.cells;obtain ⟨z0,z1⟩:=(HBUN.out wX (Only.refl _ _)).2.cells;have HO:Hid (zQ wX wX):=Only.refl _ _
 go_wp2_with (first
  | (go_at_call 48;refine (HA3.out _ (zo HOX.out HO.out)).mono ?_;rintro eq wy ⟨rfl,hoz⟩;replace HO:=zT HO hoz;clear hoz b0 b1 b2 b3 z0 z1;obtain ⟨b0,b1,b2,b3,_,_,_⟩:=(HBUN.out wy HO.out).1.cells;obtain ⟨z0,z1⟩:=(HBUN.out wy HO.out).2.cells)
  | go_in)
 have HU0:Hid (UpAt wX (wy.alloc (zH nb.x.i nb.x.c)) D nb.x.i nb.x.c e.i e.c wy.heap.size nb.x):=⟨zh wy _,HO.out.size,HII.out.2.2.1,HII.out.2.2.2,HO.out.alloc _,0,rfl,fun j hj=>by omega⟩;clear HO b0 b1 b2 b3 z0 z1;obtain ⟨r,hr⟩:=HII.out.1.rank;have HRK:Hid (∀ x∈D.L,∀ e∈x.es,(∃ y∈D.L,y.i=e.i∧y.K=2)→r x.i < r e.i):=hr;clear hr
 go_loopw [17] (fun p wr=>∃ B v,p=zP B∧UpAt wX wr D nb.x.i nb.x.c e.i e.c B v) (fun p wr=>measU r p wr)
 case atStart=>exact ⟨_,_,rfl,HU0.out⟩
 case round =>
  obtain ⟨B7,v,rfl,hU⟩:=hrel;clear HU0;have HU:Hid (UpAt wX wr D nb.x.i nb.x.c e.i e.c B7 v):=hU;have HO:Hid (zQ wX wr):=hU.only;have yK:=HYK.out wr (zo HOX.out hU.only);obtain ⟨b0,b1,b2,b3,_,_,_⟩:=(HBUN.out wr hU.only).1.cells;obtain ⟨z0,z1⟩:=(HBUN.out wr hU.only).2.cells;obtain ⟨u0,u1⟩:=hU.box.cells;have hml:=measU_is (r:=r) hU.box;clear hU;rcases ren_way (K:=ny.x.K) HII.out.1 HRK.out HU.out HOUT.out with ⟨y,hyD,hi,hst,hlt,hnx⟩ | hF | hB | hC
  · rw [hyD] at yK
    have hup:=HUPC.out wr v.i v.c (zo HOX.out HO.out);rw [hst] at hup
    have hyv:y.i≠v.i:=fun e2=>by rw [e2] at hlt;omega
    have dd:((y.i:Int)==(v.i:Int))=false:=zb (by omega);have HLT:Hid (r y.i < r v.i):=hlt;have HNX:Hid (∀ W B',HBox W B' y.i y.c→wX.heap.size≤B'→zQ wX W→UpAt wX W D nb.x.i nb.x.c e.i e.c B' y):=hnx;have HGE:Hid (wX.heap.size≤B7):=HU.out.ge;clear hst hlt hnx hyv
    by_cases hvi:v.i=e.i
    all_goals first | (have dc:((v.c:Int)==(e.c:Int))=false:=zb (fun e2=>hi ⟨hvi,by omega⟩);have dv:((v.i:Int)==(e.i:Int))=true:=by rw [hvi];simp) | (have dc:((v.i:Int)==(e.i:Int))=false:=zb (by omega))
    all_goals
      clear hi hvi
      go_wp2_with (first
       | (go_at_call 67;refine hup.mono ?_;rintro eq wu ⟨rfl,hou⟩;have HOn:Hid (zQ wX wu):=zo HO.out hou;have HB7:Hid (HBox wu B7 v.i v.c):=HU.out.box.kept hou (by simp);clear HO u0 u1;have HO:=HOn;clear HOn hou hup;obtain ⟨u0,u1⟩:=HB7.out.cells;have fz0:=HB7.out.frozen 0;have fz1:=HB7.out.frozen 1;have hl7:=HB7.out.lt)
       | go_in)
      obtain ⟨hb9,ho9⟩:=up_again (y:=(y.i,y.c)) HO.out HGE.out;refine ⟨⟨_,y,rfl,HNX.out _ _ hb9 (Nat.le_succ_of_le HO.out.size) ho9⟩,?_⟩;rw [measU_is hb9,hml];exact HLT.out
  all_goals first | (have dK:(ny.x.K==2)=false:=zb hF;clear hF u0 u1 hml) | (obtain ⟨hyD,hi,hst,hvi⟩:=hB;rw [hyD] at yK;have hup:=HUPC.out wr v.i v.c (zo HOX.out HO.out);rw [hst] at hup;have dc:((v.c:Int)==(e.c:Int))=false:=zb (fun e2=>hi ⟨hvi,by omega⟩);have dv:((v.i:Int)==(e.i:Int))=true:=(by rw [hvi];simp);clear hst hvi hi hml hyD) | (obtain ⟨hyD,hi,hst,hvi⟩:=hC;rw [hyD] at yK;have hup:=HUPC.out wr v.i v.c (zo HOX.out HO.out);rw [hst] at hup;have dc:((v.i:Int)==(e.i:Int))=false:=zb (by omega);clear hst hvi hi hml hyD)
  all_goals
    go_wp2_with (first
      | (go_at_call 67;refine hup.mono ?_;rintro eq wu ⟨rfl,hou⟩;have HOn:Hid (zQ wX (wu.alloc (zH v.i v.c))):=(zo HO.out hou).alloc _;have HB7:Hid (HBox (wu.alloc (zH v.i v.c)) B7 v.i v.c):=(HU.out.box.kept hou (by simp)).kept ((Only.refl [] wu).alloc _) (by simp);clear HO u0 u1 b0 b1 b2 b3 z0 z1;have HO:=HOn;clear HOn hou hup;obtain ⟨u0,u1⟩:=HB7.out.cells;obtain ⟨b0,b1,b2,b3,_,_,_⟩:=(HBUN.out _ HO.out).1.cells;obtain ⟨z0,z1⟩:=(HBUN.out _ HO.out).2.cells)
      | (go_at_call 49;refine (HF2X.out _ HO.out).mono ?_;rintro eq wq2 ⟨rfl,rfl⟩;obtain ⟨g8,p6,p1,p2⟩:=HCF.out _ (zo HOX.out HO.out))
      | (go_at_call 48;refine (HA4X.out _ HO.out).mono ?_;rintro eq wq ⟨rfl,hoz⟩;replace HO:=zT HO hoz;clear hoz b0 b1 b2 b3 z0 z1;obtain ⟨b0,b1,b2,b3,_,_,_⟩:=(HBUN.out wq HO.out).1.cells;obtain ⟨z0,z1⟩:=(HBUN.out wq HO.out).2.cells;clear p6 p1 p2;obtain ⟨n0,n1,n2,n6⟩:=HZC.out _ (zo HOX.out HO.out);have y2:=HYK.out _ (zo HOX.out HO.out))
      | go_in)
    go_big_quiet (fail)
    go_wp2
    go_ret
    exact ⟨zo HOO.out (zo HOX.out (HO.out.drewsT _)),rfl⟩
theorem drename_kindF {w:World}{base m:Nat}{lv tv:Value}{ns:List Nm}{D:Dt}{na nb ny:Nm}{e:Ent}{k:Nat}{s1 s2:ByteArray}(nz:Nm)(f:Ent)(j:Nat)(H:RenPre w base m lv tv ns D na nb ny e k s1 s2)(hyK:ny.x.K≠2)(hf2:findE nb.x.es s2.data.toList=some f)(hq2:nb.x.es[j]?=some f)(hnz:nz∈ns)(hzi:nz.x.i=f.i)(hzc:nz.x.c=f.c)(hzy:nz≠ny)(hy1:ny.x.K=1)(hz2:nz.x.K=2):
  zK 34 #[zP m,zG na.x.i na.x.c,.string s1,zG nb.x.i nb.x.c,.string s2] w fun r w'=>RenQP w w' 7 r:=by
 obtain ⟨w1,la,ada,capa,HW1,HOO,HT,HD1,HD2,HN1,HN2,HA1,HA2,HA3,HFI,HBA,HCA,HYK,HUPC,HH1,HII,hkl,hla,hlaa⟩:=ren_pre H;obtain ⟨h,hI,hk,hna,hnb,hny,haK,hbK,ho1,ho2,hf,hq,hyi,hyc⟩:=H;have HO:Hid (zQ w1 w1):=Only.refl _ _;have h1:=HH1.out;have o1:=HOO.out;obtain ⟨b0,b1,b2,b3,_,_,_⟩:=(HT.out w1 HO.out).cells;have HCE:Hid (∀ W,zQ w1 W→_):=fun W ho=>HCA.out W ho k e hq;have HYF:Hid (ny.x.K≠2):=hyK;obtain ⟨lb,adb,capb,lz,adz,capz,HF2,HCF,HA4,HZC,hjl,hlbk,hlzk,hlbb,hlzz,_⟩:=ren_over h1 hI hk hnb hf2 hq2 hnz hzi hzc;have hzne:¬ (nz.x.i=e.i∧nz.x.c=e.c):=fun e2=>hzy (h.same hk.nos hnz hny (by rw [e2.1,hyi]));have dZ:((nz.x.i:Int)==(e.i:Int))=false:=zb (fun e2=>hzy (h.same hk.nos hnz hny (by rw [hyi];omega)));have HY1:Hid (ny.x.K=1):=hy1;have HZ2:Hid (nz.x.K=2):=hz2;clear h1 o1 hlaa h hI hk hna hnb hny haK hbK ho1 ho2 hf hq hyi hyc hyK hf2 hq2 hnz hzi hzc hlbb hlzz hzy hy1 hz2 hzne
 go_enter Tryz.func34,Tryz.ntmps34
 go_upto_region 1 with fail
 rw [HW1.out]
 go_upto_region 16 with (first
  | (go_at_call 46;refine (HD1.out _ HO.out).mono ?_;rintro eq wz ⟨rfl,hoz⟩;replace HO:=zT HO hoz;clear hoz b0 b1 b2 b3;obtain ⟨b0,b1,b2,b3,_,_,_⟩:=(HT.out wz HO.out).cells;clear HD1)
  | (go_at_call 46;refine (HD2.out _ HO.out).mono ?_;rintro eq wz ⟨rfl,hoz⟩;replace HO:=zT HO hoz;clear hoz b0 b1 b2 b3;obtain ⟨b0,b1,b2,b3,_,_,_⟩:=(HT.out wz HO.out).cells)
  | (go_at_call 47;refine (HN1.out _ HO.out).mono ?_;rintro eq wz2 ⟨rfl,rfl⟩;clear HN1)
  | (go_at_call 47;refine (HN2.out _ HO.out).mono ?_;rintro eq wz2 ⟨rfl,rfl⟩)
  | (go_at_call 48;refine (HA1.out _ HO.out).mono ?_;rintro eq wz ⟨rfl,hoz⟩;replace HO:=zT HO hoz;clear hoz b0 b1 b2 b3;obtain ⟨b0,b1,b2,b3,_,_,_⟩:=(HT.out wz HO.out).cells;clear HA1)
  | (go_at_call 48;refine (HA2.out _ HO.out).mono ?_;rintro eq wz ⟨rfl,hoz⟩;replace HO:=zT HO hoz;clear hoz b0 b1 b2 b3;obtain ⟨b0,b1,b2,b3,_,_,_⟩:=(HT.out wz HO.out).cells)
  | (go_at_call 49;refine (HFI.out _ HO.out).mono ?_;rintro eq wz2 ⟨rfl,rfl⟩;obtain ⟨g6,q6,q1,q2⟩:=HCE.out _ HO.out)
  | go_in)
 have HBX:Hid (HBox (wz.alloc (zH e.i e.c)) wz.heap.size e.i e.c):=zh wz _;have HOX:Hid (zQ w1 (wz.alloc (zH e.i e.c))):=HO.out.alloc _;clear HO b0 b1 b2 b3 q6 q1 q2;generalize wz.alloc (zH e.i e.c)=wX at HBX HOX ⊢;generalize wz.heap.size=b15 at HBX ⊢;have HBUN:Hid (∀ W,zQ wX W→TwoH W w.heap.size (na.x.i:Nat) (na.x.c:Nat) (nb.x.i:Nat) (nb.x.c:Nat)∧HBox W b15 e.i e.c):=fun W ho=>⟨HT.out W (zo HOX.out ho),HBX.out.kept ho (by simp)⟩;have HF2X:Hid (∀ W,zQ wX W→zE 49 #[zP nb.b,.string s2] W (zI j)):=fun W ho=>HF2.out W (zo HOX.out ho);have HA4X:Hid (∀ W,zQ wX W→zO 48 #[zP m,zG f.i f.c] W (zP nz.b)):=fun W ho=>HA4.out W (zo HOX.out ho);obtain ⟨b0,b1,b2,b3,_,_,_⟩:=(HBUN.out wX (Only.refl _ _)).1.cells;obtain ⟨z0,z1⟩:=(HBUN.out wX (Only.refl _ _)).2.cells;have HO:Hid (zQ wX wX):=Only.refl _ _
 go_wp2_with (first
  | (go_at_call 48;refine (HA3.out _ (zo HOX.out HO.out)).mono ?_;rintro eq wy ⟨rfl,hoz⟩;replace HO:=zT HO hoz;clear hoz b0 b1 b2 b3 z0 z1;obtain ⟨b0,b1,b2,b3,_,_,_⟩:=(HBUN.out wy HO.out).1.cells;obtain ⟨z0,z1⟩:=(HBUN.out wy HO.out).2.cells)
  | go_in)
 have HU0:Hid (UpAt wX (wy.alloc (zH nb.x.i nb.x.c)) D nb.x.i nb.x.c e.i e.c wy.heap.size nb.x):=⟨zh wy _,HO.out.size,HII.out.2.2.1,HII.out.2.2.2,HO.out.alloc _,0,rfl,fun j hj=>by omega⟩;clear HO b0 b1 b2 b3 z0 z1;obtain ⟨r,hr⟩:=HII.out.1.rank;have HRK:Hid (∀ x∈D.L,∀ e∈x.es,(∃ y∈D.L,y.i=e.i∧y.K=2)→r x.i < r e.i):=hr;clear hr
 go_loopw [17] (fun p wr=>∃ B v,p=zP B∧UpAt wX wr D nb.x.i nb.x.c e.i e.c B v) (fun p wr=>measU r p wr)
 case atStart=>exact ⟨_,_,rfl,HU0.out⟩
 case round =>
  obtain ⟨B7,v,rfl,hU⟩:=hrel;clear HU0;have HU:Hid (UpAt wX wr D nb.x.i nb.x.c e.i e.c B7 v):=hU;have HO:Hid (zQ wX wr):=hU.only;have yK:=HYK.out wr (zo HOX.out hU.only);obtain ⟨b0,b1,b2,b3,_,_,_⟩:=(HBUN.out wr hU.only).1.cells;obtain ⟨z0,z1⟩:=(HBUN.out wr hU.only).2.cells;obtain ⟨u0,u1⟩:=hU.box.cells;have hml:=measU_is (r:=r) hU.box;clear hU;have dK:(ny.x.K==2)=false:=zb HYF.out;clear u0 u1 hml
  go_wp2_with (first
   | (go_at_call 49;refine (HF2X.out _ HO.out).mono ?_;rintro eq wq2 ⟨rfl,rfl⟩;obtain ⟨g8,p6,p1,p2⟩:=HCF.out _ (zo HOX.out HO.out))
   | (go_at_call 48;refine (HA4X.out _ HO.out).mono ?_;rintro eq wq ⟨rfl,hoz⟩;replace HO:=zT HO hoz;clear hoz b0 b1 b2 b3 z0 z1;obtain ⟨b0,b1,b2,b3,_,_,_⟩:=(HBUN.out wq HO.out).1.cells;obtain ⟨z0,z1⟩:=(HBUN.out wq HO.out).2.cells;clear p6 p1 p2;obtain ⟨n0,n1,n2,n6⟩:=HZC.out _ (zo HOX.out HO.out);have y2:=HYK.out _ (zo HOX.out HO.out);rw [HY1.out] at y2;rw [HZ2.out] at n2)
   | go_in)
  go_big_quiet (fail)
  go_wp2
  go_ret
  exact ⟨zo HOO.out (zo HOX.out (HO.out.drewsT _)),rfl⟩
theorem drename_kindD {w:World}{base m:Nat}{lv tv:Value}{ns:List Nm}{D:Dt}{na nb ny:Nm}{e:Ent}{k:Nat}{s1 s2:ByteArray}(nz:Nm)(f:Ent)(j:Nat)(H:RenPre w base m lv tv ns D na nb ny e k s1 s2)(hyK:ny.x.K=2)(hout:¬ InD D nb.x.i nb.x.c e.i e.c)(hf2:findE nb.x.es s2.data.toList=some f)(hq2:nb.x.es[j]?=some f)(hnz:nz∈ns)(hzi:nz.x.i=f.i)(hzc:nz.x.c=f.c)(hzy:nz≠ny)(hz1:nz.x.K=1):
  zK 34 #[zP m,zG na.x.i na.x.c,.string s1,zG nb.x.i nb.x.c,.string s2] w fun r w'=>RenQP w w' 8 r:=by
 obtain ⟨w1,la,ada,capa,HW1,HOO,HT,HD1,HD2,HN1,HN2,HA1,HA2,HA3,HFI,HBA,HCA,HYK,HUPC,HH1,HII,hkl,hla,hlaa⟩:=ren_pre H;obtain ⟨h,hI,hk,hna,hnb,hny,haK,hbK,ho1,ho2,hf,hq,hyi,hyc⟩:=H;have HO:Hid (zQ w1 w1):=Only.refl _ _;have h1:=HH1.out;have o1:=HOO.out;obtain ⟨b0,b1,b2,b3,_,_,_⟩:=(HT.out w1 HO.out).cells;have HCE:Hid (∀ W,zQ w1 W→_):=fun W ho=>HCA.out W ho k e hq;have HYD:Hid (ny.x.K=2):=hyK;have HOUT:Hid (¬ InD D nb.x.i nb.x.c e.i e.c):=hout;obtain ⟨lb,adb,capb,lz,adz,capz,HF2,HCF,HA4,HZC,hjl,hlbk,hlzk,hlbb,hlzz,_⟩:=ren_over h1 hI hk hnb hf2 hq2 hnz hzi hzc;have hzne:¬ (nz.x.i=e.i∧nz.x.c=e.c):=fun e2=>hzy (h.same hk.nos hnz hny (by rw [e2.1,hyi]));have dZ:((nz.x.i:Int)==(e.i:Int))=false:=zb (fun e2=>hzy (h.same hk.nos hnz hny (by rw [hyi];omega)));have HZ1:Hid (nz.x.K=1):=hz1;clear h1 o1 hlaa h hI hk hna hnb hny haK hbK ho1 ho2 hf hq hyi hyc hyK hout hf2 hq2 hnz hzi hzc hlbb hlzz hzy hz1 hzne
 go_enter Tryz.func34,Tryz.ntmps34
 go_upto_region 1 with fail
 rw [HW1.out]
 go_upto_region 16 with (first
  | (go_at_call 46;refine (HD1.out _ HO.out).mono ?_;rintro eq wz ⟨rfl,hoz⟩;replace HO:=zT HO hoz;clear hoz b0 b1 b2 b3;obtain ⟨b0,b1,b2,b3,_,_,_⟩:=(HT.out wz HO.out).cells;clear HD1)
  | (go_at_call 46;refine (HD2.out _ HO.out).mono ?_;rintro eq wz ⟨rfl,hoz⟩;replace HO:=zT HO hoz;clear hoz b0 b1 b2 b3;obtain ⟨b0,b1,b2,b3,_,_,_⟩:=(HT.out wz HO.out).cells)
  | (go_at_call 47;refine (HN1.out _ HO.out).mono ?_;rintro eq wz2 ⟨rfl,rfl⟩;clear HN1)
  | (go_at_call 47;refine (HN2.out _ HO.out).mono ?_;rintro eq wz2 ⟨rfl,rfl⟩)
  | (go_at_call 48;refine (HA1.out _ HO.out).mono ?_;rintro eq wz ⟨rfl,hoz⟩;replace HO:=zT HO hoz;clear hoz b0 b1 b2 b3;obtain ⟨b0,b1,b2,b3,_,_,_⟩:=(HT.out wz HO.out).cells;clear HA1)
  | (go_at_call 48;refine (HA2.out _ HO.out).mono ?_;rintro eq wz ⟨rfl,hoz⟩;replace HO:=zT HO hoz;clear hoz b0 b1 b2 b3;obtain ⟨b0,b1,b2,b3,_,_,_⟩:=(HT.out wz HO.out).cells)
  | (go_at_call 49;refine (HFI.out _ HO.out).mono ?_;rintro eq wz2 ⟨rfl,rfl⟩;obtain ⟨g6,q6,q1,q2⟩:=HCE.out _ HO.out)
  | go_in)
 have HBX:Hid (HBox (wz.alloc (zH e.i e.c)) wz.heap.size e.i e.c):=zh wz _;have HOX:Hid (zQ w1 (wz.alloc (zH e.i e.c))):=HO.out.alloc _;clear HO b0 b1 b2 b3 q6 q1 q2;generalize wz.alloc (zH e.i e.c)=wX at HBX HOX ⊢;generalize wz.heap.size=b15 at HBX ⊢;have HBUN:Hid (∀ W,zQ wX W→TwoH W w.heap.size (na.x.i:Nat) (na.x.c:Nat) (nb.x.i:Nat) (nb.x.c:Nat)∧HBox W b15 e.i e.c):=fun W ho=>⟨HT.out W (zo HOX.out ho),HBX.out.kept ho (by simp)⟩;have HF2X:Hid (∀ W,zQ wX W→zE 49 #[zP nb.b,.string s2] W (zI j)):=fun W ho=>HF2.out W (zo HOX.out ho);have HA4X:Hid (∀ W,zQ wX W→zO 48 #[zP m,zG f.i f.c] W (zP nz.b)):=fun W ho=>HA4.out W (zo HOX.out ho);obtain ⟨b0,b1,b2,b3,_,_,_⟩:=(HBUN.out wX (Only.refl _ _)).1.cells;obtain ⟨z0,z1⟩:=(HBUN.out wX (Only.refl _ _)).2.cells;have HO:Hid (zQ wX wX):=Only.refl _ _
 go_wp2_with (first
  | (go_at_call 48;refine (HA3.out _ (zo HOX.out HO.out)).mono ?_;rintro eq wy ⟨rfl,hoz⟩;replace HO:=zT HO hoz;clear hoz b0 b1 b2 b3 z0 z1;obtain ⟨b0,b1,b2,b3,_,_,_⟩:=(HBUN.out wy HO.out).1.cells;obtain ⟨z0,z1⟩:=(HBUN.out wy HO.out).2.cells)
  | go_in)
 have HU0:Hid (UpAt wX (wy.alloc (zH nb.x.i nb.x.c)) D nb.x.i nb.x.c e.i e.c wy.heap.size nb.x):=⟨zh wy _,HO.out.size,HII.out.2.2.1,HII.out.2.2.2,HO.out.alloc _,0,rfl,fun j hj=>by omega⟩;clear HO b0 b1 b2 b3 z0 z1;obtain ⟨r,hr⟩:=HII.out.1.rank;have HRK:Hid (∀ x∈D.L,∀ e∈x.es,(∃ y∈D.L,y.i=e.i∧y.K=2)→r x.i < r e.i):=hr;clear hr
 go_loopw [17] (fun p wr=>∃ B v,p=zP B∧UpAt wX wr D nb.x.i nb.x.c e.i e.c B v) (fun p wr=>measU r p wr)
 case atStart=>exact ⟨_,_,rfl,HU0.out⟩
 case round =>
  obtain ⟨B7,v,rfl,hU⟩:=hrel;clear HU0;have HU:Hid (UpAt wX wr D nb.x.i nb.x.c e.i e.c B7 v):=hU;have HO:Hid (zQ wX wr):=hU.only;have yK:=HYK.out wr (zo HOX.out hU.only);obtain ⟨b0,b1,b2,b3,_,_,_⟩:=(HBUN.out wr hU.only).1.cells;obtain ⟨z0,z1⟩:=(HBUN.out wr hU.only).2.cells;obtain ⟨u0,u1⟩:=hU.box.cells;have hml:=measU_is (r:=r) hU.box;clear hU;rcases ren_way (K:=ny.x.K) HII.out.1 HRK.out HU.out (fun _=>HOUT.out) with ⟨y,hyD,hi,hst,hlt,hnx⟩ | hF | hB | hC
  · rw [hyD] at yK
    have hup:=HUPC.out wr v.i v.c (zo HOX.out HO.out);rw [hst] at hup
    have hyv:y.i≠v.i:=fun e2=>by rw [e2] at hlt;omega
    have dd:((y.i:Int)==(v.i:Int))=false:=zb (by omega);have HLT:Hid (r y.i < r v.i):=hlt;have HNX:Hid (∀ W B',HBox W B' y.i y.c→wX.heap.size≤B'→zQ wX W→UpAt wX W D nb.x.i nb.x.c e.i e.c B' y):=hnx;have HGE:Hid (wX.heap.size≤B7):=HU.out.ge;clear hst hlt hnx hyv
    by_cases hvi:v.i=e.i
    all_goals first | (have dc:((v.c:Int)==(e.c:Int))=false:=zb (fun e2=>hi ⟨hvi,by omega⟩);have dv:((v.i:Int)==(e.i:Int))=true:=by rw [hvi];simp) | (have dc:((v.i:Int)==(e.i:Int))=false:=zb (by omega))
    all_goals
      clear hi hvi
      go_wp2_with (first
       | (go_at_call 67;refine hup.mono ?_;rintro eq wu ⟨rfl,hou⟩;have HOn:Hid (zQ wX wu):=zo HO.out hou;have HB7:Hid (HBox wu B7 v.i v.c):=HU.out.box.kept hou (by simp);clear HO u0 u1;have HO:=HOn;clear HOn hou hup;obtain ⟨u0,u1⟩:=HB7.out.cells;have fz0:=HB7.out.frozen 0;have fz1:=HB7.out.frozen 1;have hl7:=HB7.out.lt)
       | go_in)
      obtain ⟨hb9,ho9⟩:=up_again (y:=(y.i,y.c)) HO.out HGE.out;refine ⟨⟨_,y,rfl,HNX.out _ _ hb9 (Nat.le_succ_of_le HO.out.size) ho9⟩,?_⟩;rw [measU_is hb9,hml];exact HLT.out
  · exact (hF HYD.out).elim
  all_goals first | (obtain ⟨hyD,hi,hst,hvi⟩:=hB;rw [hyD] at yK;have hup:=HUPC.out wr v.i v.c (zo HOX.out HO.out);rw [hst] at hup;have dc:((v.c:Int)==(e.c:Int))=false:=zb (fun e2=>hi ⟨hvi,by omega⟩);have dv:((v.i:Int)==(e.i:Int))=true:=(by rw [hvi];simp);clear hst hvi hi hml hyD) | (obtain ⟨hyD,hi,hst,hvi⟩:=hC;rw [hyD] at yK;have hup:=HUPC.out wr v.i v.c (zo HOX.out HO.out);rw [hst] at hup;have dc:((v.i:Int)==(e.i:Int))=false:=zb (by omega);clear hst hvi hi hml hyD)
  all_goals
    go_wp2_with (first
      | (go_at_call 67;refine hup.mono ?_;rintro eq wu ⟨rfl,hou⟩;have HOn:Hid (zQ wX (wu.alloc (zH v.i v.c))):=(zo HO.out hou).alloc _;have HB7:Hid (HBox (wu.alloc (zH v.i v.c)) B7 v.i v.c):=(HU.out.box.kept hou (by simp)).kept ((Only.refl [] wu).alloc _) (by simp);clear HO u0 u1 b0 b1 b2 b3 z0 z1;have HO:=HOn;clear HOn hou hup;obtain ⟨u0,u1⟩:=HB7.out.cells;obtain ⟨b0,b1,b2,b3,_,_,_⟩:=(HBUN.out _ HO.out).1.cells;obtain ⟨z0,z1⟩:=(HBUN.out _ HO.out).2.cells)
      | (go_at_call 49;refine (HF2X.out _ HO.out).mono ?_;rintro eq wq2 ⟨rfl,rfl⟩;obtain ⟨g8,p6,p1,p2⟩:=HCF.out _ (zo HOX.out HO.out))
      | (go_at_call 48;refine (HA4X.out _ HO.out).mono ?_;rintro eq wq ⟨rfl,hoz⟩;replace HO:=zT HO hoz;clear hoz b0 b1 b2 b3 z0 z1;obtain ⟨b0,b1,b2,b3,_,_,_⟩:=(HBUN.out wq HO.out).1.cells;obtain ⟨z0,z1⟩:=(HBUN.out wq HO.out).2.cells;clear p6 p1 p2;obtain ⟨n0,n1,n2,n6⟩:=HZC.out _ (zo HOX.out HO.out);have y2:=HYK.out _ (zo HOX.out HO.out);rw [HYD.out] at y2;rw [HZ1.out] at n2)
      | go_in)
    go_big_quiet (fail)
    go_wp2
    go_ret
    exact ⟨zo HOO.out (zo HOX.out (HO.out.drewsT _)),rfl⟩
theorem drename_heldD {w:World}{base m:Nat}{lv tv:Value}{ns:List Nm}{D:Dt}{na nb ny:Nm}{e:Ent}{k:Nat}{s1 s2:ByteArray}(nz:Nm)(f:Ent)(j:Nat)(H:RenPre w base m lv tv ns D na nb ny e k s1 s2)(hyK:ny.x.K=2)(hout:¬ InD D nb.x.i nb.x.c e.i e.c)(hf2:findE nb.x.es s2.data.toList=some f)(hq2:nb.x.es[j]?=some f)(hnz:nz∈ns)(hzi:nz.x.i=f.i)(hzc:nz.x.c=f.c)(hzy:nz≠ny)(hz2:nz.x.K=2)(hze:nz.x.es≠[]):
  zK 34 #[zP m,zG na.x.i na.x.c,.string s1,zG nb.x.i nb.x.c,.string s2] w fun r w'=>RenQP w w' 11 r:=by
 obtain ⟨w1,la,ada,capa,HW1,HOO,HT,HD1,HD2,HN1,HN2,HA1,HA2,HA3,HFI,HBA,HCA,HYK,HUPC,HH1,HII,hkl,hla,hlaa⟩:=ren_pre H;obtain ⟨h,hI,hk,hna,hnb,hny,haK,hbK,ho1,ho2,hf,hq,hyi,hyc⟩:=H;have HO:Hid (zQ w1 w1):=Only.refl _ _;have h1:=HH1.out;have o1:=HOO.out;obtain ⟨b0,b1,b2,b3,_,_,_⟩:=(HT.out w1 HO.out).cells;have HCE:Hid (∀ W,zQ w1 W→_):=fun W ho=>HCA.out W ho k e hq;have HYD:Hid (ny.x.K=2):=hyK;have HOUT:Hid (¬ InD D nb.x.i nb.x.c e.i e.c):=hout;obtain ⟨lb,adb,capb,lz,adz,capz,HF2,HCF,HA4,HZC,hjl,hlbk,hlzk,hlbb,hlzz,_⟩:=ren_over h1 hI hk hnb hf2 hq2 hnz hzi hzc;have hzne:¬ (nz.x.i=e.i∧nz.x.c=e.c):=fun e2=>hzy (h.same hk.nos hnz hny (by rw [e2.1,hyi]));have dZ:((nz.x.i:Int)==(e.i:Int))=false:=zb (fun e2=>hzy (h.same hk.nos hnz hny (by rw [hyi];omega)));have HZ2:Hid (nz.x.K=2):=hz2
 have hlz0:0 < lz:=by
  rcases Nat.eq_zero_or_pos lz with e2 | e2
  · rw [e2] at hlzz
    exact (hze (List.eq_nil_of_length_eq_zero hlzz)).elim
  · exact e2
 clear h1 o1 hlaa h hI hk hna hnb hny haK hbK ho1 ho2 hf hq hyi hyc hyK hout hf2 hq2 hnz hzi hzc hlbb hlzz hzy hz2 hzne hze
 go_enter Tryz.func34,Tryz.ntmps34
 go_upto_region 1 with fail
 rw [HW1.out]
 go_upto_region 16 with (first
  | (go_at_call 46;refine (HD1.out _ HO.out).mono ?_;rintro eq wz ⟨rfl,hoz⟩;replace HO:=zT HO hoz;clear hoz b0 b1 b2 b3;obtain ⟨b0,b1,b2,b3,_,_,_⟩:=(HT.out wz HO.out).cells;clear HD1)
  | (go_at_call 46;refine (HD2.out _ HO.out).mono ?_;rintro eq wz ⟨rfl,hoz⟩;replace HO:=zT HO hoz;clear hoz b0 b1 b2 b3;obtain ⟨b0,b1,b2,b3,_,_,_⟩:=(HT.out wz HO.out).cells)
  | (go_at_call 47;refine (HN1.out _ HO.out).mono ?_;rintro eq wz2 ⟨rfl,rfl⟩;clear HN1)
  | (go_at_call 47;refine (HN2.out _ HO.out).mono ?_;rintro eq wz2 ⟨rfl,rfl⟩)
  | (go_at_call 48;refine (HA1.out _ HO.out).mono ?_;rintro eq wz ⟨rfl,hoz⟩;replace HO:=zT HO hoz;clear hoz b0 b1 b2 b3;obtain ⟨b0,b1,b2,b3,_,_,_⟩:=(HT.out wz HO.out).cells;clear HA1)
  | (go_at_call 48;refine (HA2.out _ HO.out).mono ?_;rintro eq wz ⟨rfl,hoz⟩;replace HO:=zT HO hoz;clear hoz b0 b1 b2 b3;obtain ⟨b0,b1,b2,b3,_,_,_⟩:=(HT.out wz HO.out).cells)
  | (go_at_call 49;refine (HFI.out _ HO.out).mono ?_;rintro eq wz2 ⟨rfl,rfl⟩;obtain ⟨g6,q6,q1,q2⟩:=HCE.out _ HO.out)
  | go_in)
 have HBX:Hid (HBox (wz.alloc (zH e.i e.c)) wz.heap.size e.i e.c):=zh wz _;have HOX:Hid (zQ w1 (wz.alloc (zH e.i e.c))):=HO.out.alloc _;clear HO b0 b1 b2 b3 q6 q1 q2;generalize wz.alloc (zH e.i e.c)=wX at HBX HOX ⊢;generalize wz.heap.size=b15 at HBX ⊢;have HBUN:Hid (∀ W,zQ wX W→TwoH W w.heap.size (na.x.i:Nat) (na.x.c:Nat) (nb.x.i:Nat) (nb.x.c:Nat)∧HBox W b15 e.i e.c):=fun W ho=>⟨HT.out W (zo HOX.out ho),HBX.out.kept ho (by simp)⟩;have HF2X:Hid (∀ W,zQ wX W→zE 49 #[zP nb.b,.string s2] W (zI j)):=fun W ho=>HF2.out W (zo HOX.out ho);have HA4X:Hid (∀ W,zQ wX W→zO 48 #[zP m,zG f.i f.c] W (zP nz.b)):=fun W ho=>HA4.out W (zo HOX.out ho);obtain ⟨b0,b1,b2,b3,_,_,_⟩:=(HBUN.out wX (Only.refl _ _)).1.cells;obtain ⟨z0,z1⟩:=(HBUN.out wX (Only.refl _ _)).2.cells;have HO:Hid (zQ wX wX):=Only.refl _ _
 go_wp2_with (first
  | (go_at_call 48;refine (HA3.out _ (zo HOX.out HO.out)).mono ?_;rintro eq wy ⟨rfl,hoz⟩;replace HO:=zT HO hoz;clear hoz b0 b1 b2 b3 z0 z1;obtain ⟨b0,b1,b2,b3,_,_,_⟩:=(HBUN.out wy HO.out).1.cells;obtain ⟨z0,z1⟩:=(HBUN.out wy HO.out).2.cells)
  | go_in)
 have HU0:Hid (UpAt wX (wy.alloc (zH nb.x.i nb.x.c)) D nb.x.i nb.x.c e.i e.c wy.heap.size nb.x):=⟨zh wy _,HO.out.size,HII.out.2.2.1,HII.out.2.2.2,HO.out.alloc _,0,rfl,fun j hj=>by omega⟩;clear HO b0 b1 b2 b3 z0 z1;obtain ⟨r,hr⟩:=HII.out.1.rank;have HRK:Hid (∀ x∈D.L,∀ e∈x.es,(∃ y∈D.L,y.i=e.i∧y.K=2)→r x.i < r e.i):=hr;clear hr
 go_loopw [17] (fun p wr=>∃ B v,p=zP B∧UpAt wX wr D nb.x.i nb.x.c e.i e.c B v) (fun p wr=>measU r p wr)
 case atStart=>exact ⟨_,_,rfl,HU0.out⟩
 case round =>
  obtain ⟨B7,v,rfl,hU⟩:=hrel;clear HU0;have HU:Hid (UpAt wX wr D nb.x.i nb.x.c e.i e.c B7 v):=hU;have HO:Hid (zQ wX wr):=hU.only;have yK:=HYK.out wr (zo HOX.out hU.only);obtain ⟨b0,b1,b2,b3,_,_,_⟩:=(HBUN.out wr hU.only).1.cells;obtain ⟨z0,z1⟩:=(HBUN.out wr hU.only).2.cells;obtain ⟨u0,u1⟩:=hU.box.cells;have hml:=measU_is (r:=r) hU.box;clear hU;rcases ren_way (K:=ny.x.K) HII.out.1 HRK.out HU.out (fun _=>HOUT.out) with ⟨y,hyD,hi,hst,hlt,hnx⟩ | hF | hB | hC
  · rw [hyD] at yK
    have hup:=HUPC.out wr v.i v.c (zo HOX.out HO.out);rw [hst] at hup
    have hyv:y.i≠v.i:=fun e2=>by rw [e2] at hlt;omega
    have dd:((y.i:Int)==(v.i:Int))=false:=zb (by omega);have HLT:Hid (r y.i < r v.i):=hlt;have HNX:Hid (∀ W B',HBox W B' y.i y.c→wX.heap.size≤B'→zQ wX W→UpAt wX W D nb.x.i nb.x.c e.i e.c B' y):=hnx;have HGE:Hid (wX.heap.size≤B7):=HU.out.ge;clear hst hlt hnx hyv
    by_cases hvi:v.i=e.i
    all_goals first | (have dc:((v.c:Int)==(e.c:Int))=false:=zb (fun e2=>hi ⟨hvi,by omega⟩);have dv:((v.i:Int)==(e.i:Int))=true:=by rw [hvi];simp) | (have dc:((v.i:Int)==(e.i:Int))=false:=zb (by omega))
    all_goals
      clear hi hvi
      go_wp2_with (first
       | (go_at_call 67;refine hup.mono ?_;rintro eq wu ⟨rfl,hou⟩;have HOn:Hid (zQ wX wu):=zo HO.out hou;have HB7:Hid (HBox wu B7 v.i v.c):=HU.out.box.kept hou (by simp);clear HO u0 u1;have HO:=HOn;clear HOn hou hup;obtain ⟨u0,u1⟩:=HB7.out.cells;have fz0:=HB7.out.frozen 0;have fz1:=HB7.out.frozen 1;have hl7:=HB7.out.lt)
       | go_in)
      obtain ⟨hb9,ho9⟩:=up_again (y:=(y.i,y.c)) HO.out HGE.out;refine ⟨⟨_,y,rfl,HNX.out _ _ hb9 (Nat.le_succ_of_le HO.out.size) ho9⟩,?_⟩;rw [measU_is hb9,hml];exact HLT.out
  · exact (hF HYD.out).elim
  all_goals first | (obtain ⟨hyD,hi,hst,hvi⟩:=hB;rw [hyD] at yK;have hup:=HUPC.out wr v.i v.c (zo HOX.out HO.out);rw [hst] at hup;have dc:((v.c:Int)==(e.c:Int))=false:=zb (fun e2=>hi ⟨hvi,by omega⟩);have dv:((v.i:Int)==(e.i:Int))=true:=(by rw [hvi];simp);clear hst hvi hi hml hyD) | (obtain ⟨hyD,hi,hst,hvi⟩:=hC;rw [hyD] at yK;have hup:=HUPC.out wr v.i v.c (zo HOX.out HO.out);rw [hst] at hup;have dc:((v.i:Int)==(e.i:Int))=false:=zb (by omega);clear hst hvi hi hml hyD)
  all_goals
    go_wp2_with (first
      | (go_at_call 67;refine hup.mono ?_;rintro eq wu ⟨rfl,hou⟩;have HOn:Hid (zQ wX (wu.alloc (zH v.i v.c))):=(zo HO.out hou).alloc _;have HB7:Hid (HBox (wu.alloc (zH v.i v.c)) B7 v.i v.c):=(HU.out.box.kept hou (by simp)).kept ((Only.refl [] wu).alloc _) (by simp);clear HO u0 u1 b0 b1 b2 b3 z0 z1;have HO:=HOn;clear HOn hou hup;obtain ⟨u0,u1⟩:=HB7.out.cells;obtain ⟨b0,b1,b2,b3,_,_,_⟩:=(HBUN.out _ HO.out).1.cells;obtain ⟨z0,z1⟩:=(HBUN.out _ HO.out).2.cells)
      | (go_at_call 49;refine (HF2X.out _ HO.out).mono ?_;rintro eq wq2 ⟨rfl,rfl⟩;obtain ⟨g8,p6,p1,p2⟩:=HCF.out _ (zo HOX.out HO.out))
      | (go_at_call 48;refine (HA4X.out _ HO.out).mono ?_;rintro eq wq ⟨rfl,hoz⟩;replace HO:=zT HO hoz;clear hoz b0 b1 b2 b3 z0 z1;obtain ⟨b0,b1,b2,b3,_,_,_⟩:=(HBUN.out wq HO.out).1.cells;obtain ⟨z0,z1⟩:=(HBUN.out wq HO.out).2.cells;clear p6 p1 p2;obtain ⟨n0,n1,n2,n6⟩:=HZC.out _ (zo HOX.out HO.out);have y2:=HYK.out _ (zo HOX.out HO.out);rw [HYD.out] at y2;rw [HZ2.out] at n2)
      | go_in)
    go_big_quiet (fail)
    go_wp2
    go_ret
    exact ⟨zo HOO.out (zo HOX.out (HO.out.drewsT _)),rfl⟩
end
end Go.Proofs.YtkcabopgajlmdaaGreatDoor
