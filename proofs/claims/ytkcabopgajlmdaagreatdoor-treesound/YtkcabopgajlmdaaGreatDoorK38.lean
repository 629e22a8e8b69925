import Derived.Test.YtkcabopgajlmdaaGreatDoorK36
set_option maxRecDepth 100000
set_option maxHeartbeats 8000000
namespace Go.Proofs.YtkcabopgajlmdaaGreatDoor
section
open Go Go.RowKit Go.Deep Go.Maps
theorem DOk.reEs {D:Dt}(h:DOk D){i c:Nat}{f:Dn→Dn}(hf:∀ x,(f x).i=x.i∧(f x).c=x.c∧(f x).C=x.C∧(f x).p=x.p)(hes:∀ x∈D.L,x.i=i→(f x).es.length≤1000∧∀ e∈(f x).es,∃ y∈D.L,y.i=e.i∧y.c=e.c):DOk (D.turn i c f):=by
 have fwd:∀ z∈D.L,∃ z'∈(D.turn i c f).L,z'.i=z.i∧z'.c=z.c:=fun z hz=>by
   by_cases hi:z.is i c=true
   · exact ⟨f z,mem_turnL.2 ⟨z,hz,by rw [if_pos hi]⟩,(hf z).1,(hf z).2.1⟩
   · exact ⟨z,mem_turnL.2 ⟨z,hz,by rw [if_neg hi]⟩,rfl,rfl⟩
 refine ⟨turn_nos h.nos (fun x=>(hf x).1),?_,fun y hy=>?_,fun y hy e he=>?_,fun y hy=>?_⟩
 · show (turnL i c f D.L).length≤1000
   unfold turnL;rw [List.length_map];exact h.len
 · obtain ⟨x,hx,e⟩:=mem_turnL.1 hy
   split at e
   · rename_i hi
     rw [e];exact (hes x hx (is_iff.1 hi).1).1
   · rw [e]
     exact h.es x hx
 · obtain ⟨x,hx,e1⟩:=mem_turnL.1 hy
   have:∃ z∈D.L,z.i=e.i∧z.c=e.c:=by
     split at e1
     · rename_i hi
       rw [e1] at he;exact (hes x hx (is_iff.1 hi).1).2 e he
     · rw [e1] at he
       exact h.live x hx e he
   obtain ⟨z,hz,h1,h2⟩:=this;obtain ⟨z',hz',h3,h4⟩:=fwd z hz;exact ⟨z',hz',by rw [h3];exact h1,by rw [h4];exact h2⟩
 · obtain ⟨x,hx,e⟩:=mem_turnL.1 hy
   have hnum:=h.num x hx
   split at e
   · rw [e,(hf x).2.2.1,(hf x).2.2.2]
     exact hnum
   · rw [e]
     exact hnum
theorem DOk.dropped {D:Dt}(h:DOk D){i c:Nat}(s:List UInt8):DOk (D.turn i c (Dn.drop s)):=h.reEs (fun _=>⟨rfl,rfl,rfl,rfl⟩) (fun x hx _=>⟨Nat.le_trans (List.length_filter_le _ _) (h.es x hx),fun e he=>h.live x hx e (mem_dropE he)⟩)
theorem DOk.inserted {D:Dt}(h:DOk D){x:Dn}(hx:x∈D.L){e:Ent}(hl:x.es.length < 1000)(he:∃ y∈D.L,y.i=e.i∧y.c=e.c):DOk (D.turn x.i x.c (Dn.ins e)):=h.reEs (fun _=>⟨rfl,rfl,rfl,rfl⟩) (fun y hy hi=>by
 have e1:=same_no h.nos hy hx hi;subst e1;refine ⟨?_,fun z hz=>?_⟩
 · show (insE e y.es).length≤1000
   rw [length_insE];omega
 · rcases (mem_insE.1 hz:z=e∨z∈y.es) with e2 | e2
   · rw [e2]
     exact he
   · exact h.live y hy z e2)
def renOver (D:Dt)(a b z:Dn)(e f:Ent)(s:List UInt8):Dt:=(((((D.turn a.i a.c (Dn.drop e.s)).turn b.i b.c (Dn.drop f.s)).turn b.i b.c (Dn.ins ⟨s,e.i,e.c⟩)).lost z).turn a.i a.c Dn.touched).turn b.i b.c Dn.touched
theorem lost_nos {D:Dt}(hn:(D.L.map (·.i)).Nodup){z:Dn}:((D.lost z).L.map (·.i)).Nodup:=by
 unfold Dt.lost
 split
 · exact hn.sublist (List.Sublist.map _ List.filter_sublist)
 · exact (turn_nos (f:=Dn.touched) hn (fun _=>rfl)).sublist (List.Sublist.map _ List.filter_sublist)
theorem drename_over {w:World}{base m:Nat}{lv tv:Value}{ns:List Nm}{D:Dt}{na nb ny:Nm}{e:Ent}{k:Nat}{s1 s2:ByteArray}(nz:Nm)(f:Ent)(j:Nat)(H:RenPre w base m lv tv ns D na nb ny e k s1 s2)(hout:ny.x.K=2→¬ InD D nb.x.i nb.x.c e.i e.c)(hf2:findE nb.x.es s2.data.toList=some f)(hq2:nb.x.es[j]?=some f)(hnz:nz∈ns)(hzi:nz.x.i=f.i)(hzc:nz.x.c=f.c)(hzy:nz≠ny)(hze:nz.x.es=[])(hne:na≠nb)(hbs:base≤w.heap.size)(hzC:nz.x.C < 1000000)(hkk:(ny.x.K=1∧nz.x.K=1)∨(ny.x.K=2∧nz.x.K=2)):
  zK 34 #[zP m,zG na.x.i na.x.c,.string s1,zG nb.x.i nb.x.c,.string s2] w fun r w'=>RenMP w w' base m (renOver D na.x nb.x nz.x e f s2.data.toList) r:=by
 obtain ⟨w1,la,ada,capa,HW1,HOO,HT,HD1,HD2,HN1,HN2,HA1,HA2,HA3,HFI,HBA,HCA,HYK,HUPC,HH1,HII,hkl,hla,hlaa⟩:=ren_pre H;obtain ⟨h,hI,hk,hna,hnb,hny,haK,hbK,ho1,ho2,hf,hq,hyi,hyc⟩:=H;have HO:Hid (zQ w1 w1):=Only.refl _ _;have h1:=HH1.out;have o1:=HOO.out;obtain ⟨b0,b1,b2,b3,_,_,_⟩:=(HT.out w1 HO.out).cells;have HCE:Hid (∀ W,zQ w1 W→_):=fun W ho=>HCA.out W ho k e hq;have HOUT:Hid (ny.x.K=2→¬ InD D nb.x.i nb.x.c e.i e.c):=hout;obtain ⟨lb,adb,capb,lz,adz,capz,HF2,HCF,HA4,HZC,hjl,hlbk,_,hlbb,hlzz,hevb⟩:=ren_over h1 hI hk hnb hf2 hq2 hnz hzi hzc
 obtain rfl:lz=0:=by rw [← hlzz,hze];rfl
 have dZ:((nz.x.i:Int)==(e.i:Int))=false:=zb (fun e2=>hzy (h.same hk.nos hnz hny (by rw [hyi];omega)));have dN:((na.x.i:Int)==(nb.x.i:Int))=false:=zb (fun e2=>hne (h.same hk.nos hna hnb (by omega)));have HLE:Hid (∀ W,zQ w1 W→zK 62 #[zP na.b,zI k] W fun r w'=>r = .returned (.tuple #[])∧EnterR W w' na (na.x.es.take k++na.x.es.drop (k+1))):=fun W ho=>dleave_any W na k (((h1.only ho).each na hna).2) (hk.es _ (h.inL hna)) (List.getElem?_eq_some_iff.1 hq).1;obtain ⟨hCa0,hCa1,_⟩:=hk.num _ (h.inL hna);obtain ⟨hCb0,hCb1,_⟩:=hk.num _ (h.inL hnb)
 have hzna:nz≠na:=fun e2=>by rw [e2] at hze;rw [hze] at hq;simp at hq
 have hznb:nz≠nb:=fun e2=>by rw [e2] at hze;rw [hze] at hq2;simp at hq2
 have HMEM:Hid (na∈ns∧nb∈ns∧na.b≠nb.b∧na.x.es[k]?=some e∧RisingE na.x.es):=⟨hna,hnb,fun e2=>hne (h.byB hna hnb e2),hq,(hI.rise _ (h.inL hna)).1⟩;have HM2:Hid (nz∈ns∧nz.b≠na.b∧nz.b≠nb.b∧nb.x.es[j]?=some f∧RisingE nb.x.es∧nb.x.es.length≤60∧findE nb.x.es s2.data.toList=some f):=⟨hnz,fun e2=>hzna (h.byB hnz hna e2),fun e2=>hznb (h.byB hnz hnb e2),hq2,(hI.rise _ (h.inL hnb)).1,(hI.rise _ (h.inL hnb)).2,hf2⟩;have HM3:Hid (nz.x.i=f.i∧nz.x.c=f.c∧ny∈ns∧ny.x.i=e.i∧ny.x.c=e.c∧na.x.K=2∧nb.x.K=2∧nz.x.C < 1000000∧base≤w.heap.size):=⟨hzi,hzc,hny,hyi,hyc,haK,hbK,hzC,hbs⟩;have HM4:Hid (na.x.i≠nz.x.i∧nb.x.i≠nz.x.i∧nb.x.es.length=lb∧nb.ev = .slice adb lb capb):=⟨fun e2=>hzna (h.same hk.nos hnz hna e2.symm),fun e2=>hznb (h.same hk.nos hnz hnb e2.symm),hlbb,hevb⟩;have HDW0:Hid (∀ W,zQ w1 W→DocW base w W):=fun W ho=>DocW.none (zo o1 ho);have HKK:Hid ((ny.x.K=1∧nz.x.K=1)∨(ny.x.K=2∧nz.x.K=2)):=hkk;clear h1 o1 hlaa h hI hk hna hnb hny haK hbK ho1 ho2 hf hq hyi hyc hout hf2 hq2 hnz hzi hzc hzy hze hne hbs hzC hlzz hlbb hevb hzna hznb hkk
 go_enter Tryz.func34,Tryz.ntmps34
 go_upto_region 1 with fail
 rw [HW1.out]
 go_upto_region 16 with (first
  | (go_at_call 46;refine (HD1.out _ HO.out).mono ?_;rintro eq wz ⟨rfl,hoz⟩;replace HO:=zT HO hoz;clear hoz b0 b1 b2 b3;obtain ⟨b0,b1,b2,b3,_,_,_⟩:=(HT.out wz HO.out).cells;clear HD1)
  | (go_at_call 46;refine (HD2.out _ HO.out).mono ?_;rintro eq wz ⟨rfl,hoz⟩;replace HO:=zT HO hoz;clear hoz b0 b1 b2 b3;obtain ⟨b0,b1,b2,b3,_,_,_⟩:=(HT.out wz HO.out).cells)
  | (go_at_call 47;refine (HN1.out _ HO.out).mono ?_;rintro eq wz2 ⟨rfl,rfl⟩;clear HN1)
  | (go_at_call 47;refine (HN2.out _ HO.out).mono ?_;rintro eq wz2 ⟨rfl,rfl⟩)
  | (go_at_call 48;refine (HA1.out _ HO.out).mono ?_;rintro eq wz ⟨rfl,hoz⟩;replace HO:=zT HO hoz;clear hoz b0 b1 b2 b3;obtain ⟨b0,b1,b2,b3,_,_,_⟩:=(HT.out wz HO.out).cells;clear HA1)
  | (go_at_call 48;refine (HA2.out _ HO.out).mono ?_;rintro eq wz ⟨rfl,hoz⟩;replace HO:=zT HO hoz;clear hoz b0 b1 b2 b3;obtain ⟨b0,b1,b2,b3,_,_,_⟩:=(HT.out wz HO.out).cells)
  | (go_at_call 49;refine (HFI.out _ HO.out).mono ?_;rintro eq wz2 ⟨rfl,rfl⟩;obtain ⟨g6,q6,q1,q2⟩:=HCE.out _ HO.out)
  | go_in)
 have HBX:Hid (HBox (wz.alloc (zH e.i e.c)) wz.heap.size e.i e.c):=zh wz _;have HOX:Hid (zQ w1 (wz.alloc (zH e.i e.c))):=HO.out.alloc _;clear HO b0 b1 b2 b3 q6 q1 q2;generalize wz.alloc (zH e.i e.c)=wX at HBX HOX ⊢;generalize wz.heap.size=b15 at HBX ⊢;have HBUN:Hid (∀ W,zQ wX W→TwoH W w.heap.size (na.x.i:Nat) (na.x.c:Nat) (nb.x.i:Nat) (nb.x.c:Nat)∧HBox W b15 e.i e.c):=fun W ho=>⟨HT.out W (zo HOX.out ho),HBX.out.kept ho (by simp)⟩;have HF2X:Hid (∀ W,zQ wX W→zE 49 #[zP nb.b,.string s2] W (zI j)):=fun W ho=>HF2.out W (zo HOX.out ho);have HA4X:Hid (∀ W,zQ wX W→zO 48 #[zP m,zG f.i f.c] W (zP nz.b)):=fun W ho=>HA4.out W (zo HOX.out ho);have HLEX:Hid (∀ W,zQ wX W→zK 62 #[zP na.b,zI k] W fun r w'=>r = .returned (.tuple #[])∧EnterR W w' na (na.x.es.take k++na.x.es.drop (k+1))):=fun W ho=>HLE.out W (zo HOX.out ho)
 have HK2:Hid (∀ W w2,zQ wX W→EnterR W w2 na (na.x.es.take k++na.x.es.drop (k+1))→HBox w2 b15 e.i e.c∧(zE 49 #[zP nb.b,.string s2] w2 (zI j))∧(∃ g,w2.cell? (zA nb.b 6)=some (.slice (some ⟨g,0,none⟩) lb capb)∧w2.cell? ⟨g,j*3+1,none⟩=some (zI f.i)∧w2.cell? ⟨g,j*3+2,none⟩=some (zI f.c))∧zK 62 #[zP nb.b,zI j] (w2.alloc (zH f.i f.c)) fun r w3=>r = .returned (.tuple #[])∧HBox w3 b15 e.i e.c∧zK 59 #[zP nb.b,.string s2,zG e.i e.c] w3 fun r w4=>r = .returned (.tuple #[])∧HBox w4 w2.heap.size f.i f.c∧zK 63 #[zP m,zG f.i f.c] w4 fun r w5=>r = .returned (.tuple #[])∧w5.cell? (zA na.b 3)=some (zI na.x.C)∧w5.frozen? ⟨na.b,3,none⟩=false∧na.b < w5.heap.size∧TwoH (w5.setCell (zA na.b 3) (zI (na.x.C+1))) w.heap.size (na.x.i:Nat) (na.x.c:Nat) (nb.x.i:Nat) (nb.x.c:Nat)∧(w5.setCell (zA na.b 3) (zI (na.x.C+1))).cell? (zA nb.b 3)=some (zI nb.x.C)∧(w5.setCell (zA na.b 3) (zI (na.x.C+1))).frozen? ⟨nb.b,3,none⟩=false∧nb.b < (w5.setCell (zA na.b 3) (zI (na.x.C+1))).heap.size∧DM ((w5.setCell (zA na.b 3) (zI (na.x.C+1))).setCell (zA nb.b 3) (zI (nb.x.C+1))) base m (renOver D na.x nb.x nz.x e f s2.data.toList)∧DocW base w ((w5.setCell (zA na.b 3) (zI (na.x.C+1))).setCell (zA nb.b 3) (zI (nb.x.C+1)))):=fun W w2 ho hE=>by
  obtain ⟨hna,hnb,hne,hq,hra⟩:=HMEM.out;obtain ⟨hnz,hzna,hznb,hq2,hrb,hlb60,hf2⟩:=HM2.out;obtain ⟨hzi,hzc,hny,hyi,hyc,haK,hbK,hzC,hbs⟩:=HM3.out;obtain ⟨hia,hib,hlbl,hevb⟩:=HM4.out;have hk0:=HII.out.2.1;have hW:=HH1.out.only (zo HOX.out ho);have hdW:=HDW0.out W (zo HOX.out ho);obtain ⟨v2,hD2,hw2⟩:=hW.dropped hk0.nos hna hra hq hE;have tW:=HBUN.out W ho;have hnb2:nb∈putNm { na with ev:=v2,x:=Dn.drop e.s na.x } ns:=mem_putNm hnb (fun e2=>hne e2.symm);have hnz2:nz∈putNm { na with ev:=v2,x:=Dn.drop e.s na.x } ns:=mem_putNm hnz hzna;have hna2:({ na with ev:=v2,x:=Dn.drop e.s na.x }:Nm)∈putNm { na with ev:=v2,x:=Dn.drop e.s na.x } ns:=mem_putNm_same hna rfl;have ok2:=hk0.dropped (i:=na.x.i) (c:=na.x.c) e.s;have hB2:=(hD2.each nb hnb2).2;have h15:HBox w2 b15 e.i e.c:=hw2.stays tW.2 (by decide);refine ⟨h15,dfind_at hB2 (hk0.es _ (HH1.out.inL hnb)) hrb hf2 hq2,?_,?_⟩
  · obtain ⟨ad',cap',hev',hrow'⟩:=ent_row hB2 hlbl
    rw [hevb] at hev'
    cases hev'
    obtain ⟨r1,_,_,r2⟩:=hrow' w2 (Only.refl _ _);obtain ⟨g,rfl,_,r3,r4⟩:=r2 j f hq2;exact ⟨g,r1,r3,r4⟩
  have oA:zQ w2 (w2.alloc (zH f.i f.c)):=(Only.refl _ _).alloc _;have hD2a:=hD2.only oA;have hle:=dleave_any (w2.alloc (zH f.i f.c)) nb j (hD2a.each nb hnb2).2 (hk0.es _ (HH1.out.inL hnb)) (List.getElem?_eq_some_iff.1 hq2).1;refine hle.mono fun r w3 hh=>?_;obtain ⟨hr,hE3⟩:=hh;obtain ⟨v3,hD3,hw3⟩:=hD2a.dropped ok2.nos hnb2 hrb hq2 hE3;have h21a:HBox (w2.alloc (zH f.i f.c)) w2.heap.size f.i f.c:=zh w2 _;have h15a:HBox (w2.alloc (zH f.i f.c)) b15 e.i e.c:=h15.kept oA (by simp);have h15b:HBox w3 b15 e.i e.c:=hw3.stays h15a (by decide);refine ⟨hr,h15b,?_⟩;have hnb3:({ nb with ev:=v3,x:=Dn.drop f.s nb.x }:Nm)∈putNm { nb with ev:=v3,x:=Dn.drop f.s nb.x } (putNm { na with ev:=v2,x:=Dn.drop e.s na.x } ns):=mem_putNm_same hnb2 rfl;have hna3:({ na with ev:=v2,x:=Dn.drop e.s na.x }:Nm)∈putNm { nb with ev:=v3,x:=Dn.drop f.s nb.x } (putNm { na with ev:=v2,x:=Dn.drop e.s na.x } ns):=mem_putNm hna2 hne;have hnz3:nz∈putNm { nb with ev:=v3,x:=Dn.drop f.s nb.x } (putNm { na with ev:=v2,x:=Dn.drop e.s na.x } ns):=mem_putNm hnz2 hznb;have ok3:=ok2.dropped (i:=nb.x.i) (c:=nb.x.c) f.s;have hlen3:(Dn.drop f.s nb.x).es.length≤60:=Nat.le_trans (List.length_filter_le _ _) hlb60;have hen:=denter_any w3 { nb with ev:=v3,x:=Dn.drop f.s nb.x } ⟨s2.data.toList,e.i,e.c⟩ (hD3.each _ hnb3).2 (by show (Dn.drop f.s nb.x).es.length≤1000;omega);dsimp only at hen;rw [bs_self] at hen;refine hen.mono fun r w4 hh=>?_;obtain ⟨hr4,hE4⟩:=hh;obtain ⟨v4,hD4,hw4⟩:=hD3.inserted ok3.nos hnb3 hE4;have h21b:HBox w4 w2.heap.size f.i f.c:=hw4.stays (hw3.stays h21a (by decide)) (by decide);refine ⟨hr4,h21b,?_⟩
  have hyin:∃ y∈((D.turn na.x.i na.x.c (Dn.drop e.s)).turn nb.x.i nb.x.c (Dn.drop f.s)).L,y.i=e.i∧y.c=e.c:=by
    have h5:ny.x∈D.L:=HH1.out.inL hny
    obtain ⟨y1,hy1,e1,e2⟩:∃ y∈(D.turn na.x.i na.x.c (Dn.drop e.s)).L,y.i=ny.x.i∧y.c=ny.x.c:=by
      by_cases hi:ny.x.is na.x.i na.x.c=true
      · exact ⟨Dn.drop e.s ny.x,mem_turnL.2 ⟨ny.x,h5,by rw [if_pos hi]⟩,rfl,rfl⟩
      · exact ⟨ny.x,mem_turnL.2 ⟨ny.x,h5,by rw [if_neg hi]⟩,rfl,rfl⟩
    by_cases hi:y1.is nb.x.i nb.x.c=true
    · exact ⟨Dn.drop f.s y1,mem_turnL.2 ⟨y1,hy1,by rw [if_pos hi]⟩,by show y1.i=_;rw [e1,hyi],by show y1.c=_;rw [e2,hyc]⟩
    · exact ⟨y1,mem_turnL.2 ⟨y1,hy1,by rw [if_neg hi]⟩,by rw [e1,hyi],by rw [e2,hyc]⟩
  have ok4:=ok3.inserted (x:=Dn.drop f.s nb.x) (hD3.inL hnb3) (e:=⟨s2.data.toList,e.i,e.c⟩) (by omega) hyin;have hnb4:({ nb with ev:=v4,x:=Dn.ins ⟨s2.data.toList,e.i,e.c⟩ (Dn.drop f.s nb.x) }:Nm)∈putNm { nb with ev:=v4,x:=Dn.ins ⟨s2.data.toList,e.i,e.c⟩ (Dn.drop f.s nb.x) } (putNm { nb with ev:=v3,x:=Dn.drop f.s nb.x } (putNm { na with ev:=v2,x:=Dn.drop e.s na.x } ns)):=mem_putNm_same hnb3 rfl;have hna4:({ na with ev:=v2,x:=Dn.drop e.s na.x }:Nm)∈putNm { nb with ev:=v4,x:=Dn.ins ⟨s2.data.toList,e.i,e.c⟩ (Dn.drop f.s nb.x) } (putNm { nb with ev:=v3,x:=Dn.drop f.s nb.x } (putNm { na with ev:=v2,x:=Dn.drop e.s na.x } ns)):=mem_putNm hna3 hne;have hnz4:nz∈putNm { nb with ev:=v4,x:=Dn.ins ⟨s2.data.toList,e.i,e.c⟩ (Dn.drop f.s nb.x) } (putNm { nb with ev:=v3,x:=Dn.drop f.s nb.x } (putNm { na with ev:=v2,x:=Dn.drop e.s na.x } ns)):=mem_putNm hnz3 hznb;have dw4:DocW base w w4:=hdW.trans (hw2.trans ((DocW.none oA).trans (hw3.trans hw4)));have hlo:=dlose_any w4 base m lv tv _ _ nz hD4 ok4 hnz4 (Nat.le_trans hbs dw4.size) hzC;rw [hzi,hzc] at hlo;refine hlo.mono fun r w5 hh=>?_;obtain ⟨hr5,v5,ns5,hD5,hw5,hkeep⟩:=hh;have hna5:=hkeep _ hna4 haK hia;have hnb5:=hkeep _ hnb4 hbK hib;have n5:((((((D.turn na.x.i na.x.c (Dn.drop e.s)).turn nb.x.i nb.x.c (Dn.drop f.s)).turn nb.x.i nb.x.c (Dn.ins ⟨s2.data.toList,e.i,e.c⟩)).lost nz.x)).L.map (·.i)).Nodup:=lost_nos ok4.nos;obtain ⟨k1,k2,k3,hD6,hw6⟩:=hD5.touchW n5 hna5;have n6:=turn_nos (f:=Dn.touched) (i:=na.x.i) (c:=na.x.c) n5 (fun _=>rfl);have hnb6:=mem_putNm (n':={ na with ev:=v2,x:=(Dn.drop e.s na.x).touched }) hnb5 (fun e2=>hne e2.symm);obtain ⟨j1,j2,j3,hD7,hw7⟩:=hD6.touchW n6 hnb6;have t5:DocW base W (w5.setCell (zA na.b 3) (zI (na.x.C+1))):=hw2.trans ((DocW.none oA).trans (hw3.trans (hw4.trans (hw5.trans hw6))));exact ⟨hr5,k1,k2,k3,⟨t5.stays tW.1.x (by decide),t5.stays tW.1.y (by decide)⟩,j1,j2,j3,⟨_,_,_,hD7⟩,hdW.trans (t5.trans hw7)⟩
 obtain ⟨b0,b1,b2,b3,_,_,_⟩:=(HBUN.out wX (Only.refl _ _)).1.cells;obtain ⟨z0,z1⟩:=(HBUN.out wX (Only.refl _ _)).2.cells;have HO:Hid (zQ wX wX):=Only.refl _ _
 go_wp2_with (first
  | (go_at_call 48;refine (HA3.out _ (zo HOX.out HO.out)).mono ?_;rintro eq wy ⟨rfl,hoz⟩;replace HO:=zT HO hoz;clear hoz b0 b1 b2 b3 z0 z1;obtain ⟨b0,b1,b2,b3,_,_,_⟩:=(HBUN.out wy HO.out).1.cells;obtain ⟨z0,z1⟩:=(HBUN.out wy HO.out).2.cells)
  | go_in)
 have HU0:Hid (UpAt wX (wy.alloc (zH nb.x.i nb.x.c)) D nb.x.i nb.x.c e.i e.c wy.heap.size nb.x):=⟨zh wy _,HO.out.size,HII.out.2.2.1,HII.out.2.2.2,HO.out.alloc _,0,rfl,fun j hj=>by omega⟩;clear HO b0 b1 b2 b3 z0 z1;obtain ⟨r,hr⟩:=HII.out.1.rank;have HRK:Hid (∀ x∈D.L,∀ e∈x.es,(∃ y∈D.L,y.i=e.i∧y.K=2)→r x.i < r e.i):=hr;clear hr
 go_loopw [17] (fun p wr=>∃ B v,p=zP B∧UpAt wX wr D nb.x.i nb.x.c e.i e.c B v) (fun p wr=>measU r p wr)
 case atStart=>exact ⟨_,_,rfl,HU0.out⟩
 case round =>
  obtain ⟨B7,v,rfl,hU⟩:=hrel;clear HU0;have HU:Hid (UpAt wX wr D nb.x.i nb.x.c e.i e.c B7 v):=hU;have HO:Hid (zQ wX wr):=hU.only;have yK:=HYK.out wr (zo HOX.out hU.only);obtain ⟨b0,b1,b2,b3,_,_,_⟩:=(HBUN.out wr hU.only).1.cells;obtain ⟨z0,z1⟩:=(HBUN.out wr hU.only).2.cells;obtain ⟨u0,u1⟩:=hU.box.cells;have hml:=measU_is (r:=r) hU.box;clear hU;rcases ren_way (K:=ny.x.K) HII.out.1 HRK.out HU.out HOUT.out with ⟨y,hyD,hi,hst,hlt,hnx⟩ | hF | hB | hC
  · rw [hyD] at yK
    have hup:=HUPC.out wr v.i v.c (zo HOX.out HO.out);rw [hst] at hup
    have hyv:y.i≠v.i:=fun e2=>by rw [e2] at hlt;omega
    have dd:((y.i:Int)==(v.i:Int))=false:=zb (by omega);have HLT:Hid (r y.i < r v.i):=hlt;have HNX:Hid (∀ W B',HBox W B' y.i y.c→wX.heap.size≤B'→zQ wX W→UpAt wX W D nb.x.i nb.x.c e.i e.c B' y):=hnx;have HGE:Hid (wX.heap.size≤B7):=HU.out.ge;clear hst hlt hnx hyv
    by_cases hvi:v.i=e.i
    all_goals first | (have dc:((v.c:Int)==(e.c:Int))=false:=zb (fun e2=>hi ⟨hvi,by omega⟩);have dv:((v.i:Int)==(e.i:Int))=true:=by rw [hvi];simp) | (have dc:((v.i:Int)==(e.i:Int))=false:=zb (by omega))
    all_goals
      clear hi hvi
      go_wp2_with (first
        | (go_at_call 67;refine hup.mono ?_;rintro eq wu ⟨rfl,hou⟩;have HOn:Hid (zQ wX wu):=zo HO.out hou;have HB7:Hid (HBox wu B7 v.i v.c):=HU.out.box.kept hou (by simp);clear HO u0 u1;have HO:=HOn;clear HOn hou hup;obtain ⟨u0,u1⟩:=HB7.out.cells;have fz0:=HB7.out.frozen 0;have fz1:=HB7.out.frozen 1;have hl7:=HB7.out.lt)
        | go_in)
      obtain ⟨hb9,ho9⟩:=up_again (y:=(y.i,y.c)) HO.out HGE.out;refine ⟨⟨_,y,rfl,HNX.out _ _ hb9 (Nat.le_succ_of_le HO.out.size) ho9⟩,?_⟩;rw [measU_is hb9,hml];exact HLT.out
  all_goals first | (have dK:(ny.x.K==2)=false:=zb hF;obtain ⟨hye,hze2⟩:=HKK.out.resolve_right (fun h=>hF h.1);have HYE:Hid (ny.x.K=1):=hye;have HZE:Hid (nz.x.K=1):=hze2;clear hye hze2;clear hF u0 u1 hml) | (obtain ⟨hyD,hi,hst,hvi⟩:=hB;rw [hyD] at yK;have hup:=HUPC.out wr v.i v.c (zo HOX.out HO.out);rw [hst] at hup;have dc:((v.c:Int)==(e.c:Int))=false:=zb (fun e2=>hi ⟨hvi,by omega⟩);have dv:((v.i:Int)==(e.i:Int))=true:=(by rw [hvi];simp);obtain ⟨hye,hze2⟩:=HKK.out.resolve_left (fun h=>absurd (h.1.symm.trans hyD) (by decide));have HYE:Hid (ny.x.K=2):=hye;have HZE:Hid (nz.x.K=2):=hze2;clear hye hze2;clear hst hvi hi hml hyD) | (obtain ⟨hyD,hi,hst,hvi⟩:=hC;rw [hyD] at yK;have hup:=HUPC.out wr v.i v.c (zo HOX.out HO.out);rw [hst] at hup;have dc:((v.i:Int)==(e.i:Int))=false:=zb (by omega);obtain ⟨hye,hze2⟩:=HKK.out.resolve_left (fun h=>absurd (h.1.symm.trans hyD) (by decide));have HYE:Hid (ny.x.K=2):=hye;have HZE:Hid (nz.x.K=2):=hze2;clear hye hze2;clear hst hvi hi hml hyD)
  all_goals
    go_wp2_with (first
      | (go_at_call 67;refine hup.mono ?_;rintro eq wu ⟨rfl,hou⟩;have HOn:Hid (zQ wX (wu.alloc (zH v.i v.c))):=(zo HO.out hou).alloc _;have HB7:Hid (HBox (wu.alloc (zH v.i v.c)) B7 v.i v.c):=(HU.out.box.kept hou (by simp)).kept ((Only.refl [] wu).alloc _) (by simp);clear HO u0 u1 b0 b1 b2 b3 z0 z1;have HO:=HOn;clear HOn hou hup;obtain ⟨u0,u1⟩:=HB7.out.cells;obtain ⟨b0,b1,b2,b3,_,_,_⟩:=(HBUN.out _ HO.out).1.cells;obtain ⟨z0,z1⟩:=(HBUN.out _ HO.out).2.cells)
      | (go_at_call 49;refine (HF2X.out _ HO.out).mono ?_;rintro eq wq2 ⟨rfl,rfl⟩;clear HF2X;obtain ⟨g8,p6,p1,p2⟩:=HCF.out _ (zo HOX.out HO.out))
      | (go_at_call 48;refine (HA4X.out _ HO.out).mono ?_;rintro eq wq ⟨rfl,hoz⟩;replace HO:=zT HO hoz;clear hoz b0 b1 b2 b3 z0 z1;obtain ⟨b0,b1,b2,b3,_,_,_⟩:=(HBUN.out wq HO.out).1.cells;obtain ⟨z0,z1⟩:=(HBUN.out wq HO.out).2.cells;clear p6 p1 p2;obtain ⟨n0,n1,n2,n6⟩:=HZC.out _ (zo HOX.out HO.out);have y2:=HYK.out _ (zo HOX.out HO.out);rw [HYE.out] at y2;rw [HZE.out] at n2)
      | go_in)
    go_big_quiet (fail)
    go_wp2_with (first
      | (go_at_call 62;refine (HLEX.out _ (HO.out.drewsT _)).mono ?_;rintro eq w2 ⟨rfl,hE2⟩;obtain ⟨h15,hfi2,⟨g9,p6,p1,p2⟩,hle2⟩:=HK2.out _ w2 (HO.out.drewsT _) hE2;clear b0 b1 b2 b3 z0 z1 hE2 HLEX h15)
      | (go_at_call 49;refine hfi2.mono ?_;rintro eq w2b ⟨rfl,rfl⟩;clear hfi2)
      | (go_at_call 62;refine hle2.mono ?_;rintro eq w3 ⟨rfl,h15,hen⟩;obtain ⟨z0,z1⟩:=h15.cells;clear hle2 h15 p6 p1 p2)
      | (go_at_call 59;refine hen.mono ?_;rintro eq w4 ⟨rfl,h21,hlo⟩;obtain ⟨x0,x1⟩:=h21.cells;clear hen h21 z0 z1)
      | (go_at_call 63;refine hlo.mono ?_;rintro eq w5 ⟨rfl,k1,k2,k3,t4,j1,j2,j3,hD5,hw5⟩;clear hlo x0 x1;obtain ⟨b0,b1,b2,b3,_,_,_⟩:=t4.cells;have HF5:Hid (DM ((w5.setCell (zA na.b 3) (zI (na.x.C+1))).setCell (zA nb.b 3) (zI (nb.x.C+1))) base m (renOver D na.x nb.x nz.x e f s2.data.toList)∧DocW base w ((w5.setCell (zA na.b 3) (zI (na.x.C+1))).setCell (zA nb.b 3) (zI (nb.x.C+1)))):=⟨hD5,hw5⟩;clear t4 hD5 hw5)
      | go_in)
    go_ret
    exact ⟨rfl,HF5.out.1,HF5.out.2⟩
end
end Go.Proofs.YtkcabopgajlmdaaGreatDoor
