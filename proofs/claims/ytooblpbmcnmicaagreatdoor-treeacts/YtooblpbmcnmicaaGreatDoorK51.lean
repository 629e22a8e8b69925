import Derived.Test.YtooblpbmcnmicaaGreatDoorK50
import Derived.Deep.Strs
import Derived.Deep.Slices
import Derived.OpenShut
import Derived.ChangeArms
import Derived.SizedLaws
set_option maxRecDepth 100000
set_option maxHeartbeats 8000000
namespace Go.Proofs.YtooblpbmcnmicaaGreatDoor
section
open Go Go.RowKit Go.Deep Go.Maps
section
variable {W w w':World}{base tr m hb B:Nat}{D D':Dt}{hl:List (Nat×Nat)}{A:Nat→Addr}
theorem EntV.only {v:Value}{l:List Ent}(h:EntV w v l)(ho:zQ w w'):EntV w' v l:=by
 obtain ⟨ad,cap,h1,h2⟩:=h;refine ⟨ad,cap,h1,fun j x hx=>?_⟩;obtain ⟨g,o,q1,q2,q3,q4⟩:=h2 j x hx;exact ⟨g,o,q1,(ho.cell (p:=⟨g,_,none⟩) (zv q2) (by simp)).trans q2,(ho.cell (p:=⟨g,_,none⟩) (zv q3) (by simp)).trans q3,(ho.cell (p:=⟨g,_,none⟩) (zv q4) (by simp)).trans q4⟩
theorem EntV.nil (w:World):EntV w (.slice none 0 0) []:=⟨none,0,rfl,fun j x hx=>by simp at hx⟩
theorem coded_is (hE:Errs w A){c:Nat}(hc:c≤14):zO 10 #[codeE A c,zI ((c:Nat):Int)] w (.bool true):=by
 cases c with
 | zero=>exact (coded_nil w).mono fun e w' hh=>⟨hh.1,by rw [hh.2];exact Only.refl _ _⟩
 | succ c =>
  rw [code_some (Nat.succ_ne_zero _)];have:=coded_err A c (by omega) w hE;exact this.mono fun e w' hh=>⟨hh.1,Only.of_below hh.2 []⟩
theorem DInv.okB (h:Both W w base tr m hb D hl B)(hB:B≤800):DOk D:=h.I.ok h.bd.db (by omega)
theorem attr_both (h:Both W w base tr m hb D hl B)(hE:Errs W A)(hB:B≤800)(N G:Int):∃ K Z L C UN UG c,c≤14∧(∀ W1,zQ w W1→zO 25 #[zP tr,zG N G] W1 (.tuple #[.agg #[zI K,zI Z,zI L,zI C,zI UN,zI UG],codeE A c]))∧(∀ W1,zQ w W1→zO 47 #[zP m,zG N G] W1 (.tuple #[.agg #[zI K,zI Z,zI L,zI C,zI UN,zI UG],zI ((c:Nat):Int)])):=by
 obtain ⟨T,P,R⟩:=h.prg;obtain ⟨K,Z,L,C,UN,UG,c,hA,hc⟩:=attr_rep P R h.I (h.errs hE) N G;have hk:=DInv.okB h hB;refine ⟨K,Z,L,C,UN,UG,c,?_,hc,fun W1 ho=>?_⟩
 · rcases hA with ⟨_,rfl,_⟩ | ⟨_,_,rfl,_⟩<;>omega
 · obtain ⟨lv,tv,ns,hd⟩:=h.doc.only ho
   rcases hA with ⟨h0,rfl,rfl,rfl,rfl,rfl,rfl,rfl⟩ | ⟨y,h0,rfl,rfl,rfl,rfl,h1⟩
   · exact dattr_none W1 base m lv tv ns D N G hd hk h0
   · obtain ⟨hy,rfl,rfl⟩:=atZ_some h0
     obtain ⟨n,hn,rfl⟩:=hd.mem hy;rcases h1 with ⟨k,rfl,rfl,rfl⟩ | ⟨k,rfl,rfl,rfl⟩
     · rw [k]
       exact dattr_file W1 base m lv tv ns D n hd hk hn k
     · rw [k]
       exact dattr_dir W1 base m lv tv ns D n hd hk hn k
theorem list_both (h:Both W w base tr m hb D hl B)(hE:Errs W A)(hB:B≤800)(N G:Int){k q:Int}(hk1:k < 9223372036854775808)(hq1:q < 9223372036854775808):∃ (l:List Ent) (n c:Nat),c≤14∧l.length≤60∧(∀ W1,zQ w W1→zK 18 #[zP tr,zG N G,zI k,zI q] W1 fun e w'=>∃ v,e = .returned (.tuple #[v,zI n,codeE A c])∧EntV w' v l∧zQ W1 w')∧(∀ W1,zQ w W1→zK 19 #[zP m,zG N G,zI k,zI q] W1 fun e w'=>∃ v,e = .returned (.tuple #[v,zI n,zI ((c:Nat):Int)])∧EntV w' v l∧zQ W1 w'):=by
 obtain ⟨T,P,R⟩:=h.prg;have hk:=DInv.okB h hB;have hp:=list_rep P R h.I (h.errs hE) (N:=N) (G:=G) hk1 hq1;have hd:=fun W1 (ho:zQ w W1)=>dlist_any W1 base m D N G k q (h.doc.only ho) hk;have hle:=dir_le D N G
 by_cases h0:dirN D N G=0
 · obtain ⟨x,hx,hK⟩:∃ x,D.atZ N G=some x∧x.K=2:=by
     rcases dir_cases D N G with ⟨x,h1,h2,_⟩ | ⟨h1,_⟩ | ⟨h1,_⟩
     · exact ⟨x,h1,h2⟩
     · omega
     · omega
   by_cases hb2:k < 0∨q < 0
   · refine ⟨[],0,2,by omega,by simp,fun W1 ho=>(hp W1 ho).mono fun r w' hh=>?_,fun W1 ho=>(hd W1 ho).mono fun r w' hh=>?_⟩
     · obtain ⟨ho',h1 | ⟨_,_,h1⟩ | ⟨_,_,_,_,h1,h2,_⟩⟩:=hh
       · exact absurd h0 h1.1
       · exact ⟨_,h1,EntV.nil _,ho'⟩
       · omega
     · obtain ⟨ho',h1 | ⟨_,_,h1⟩ | ⟨_,_,_,_,h1,h2,_⟩⟩:=hh
       · exact absurd h0 h1.1
       · exact ⟨_,h1,EntV.nil _,ho'⟩
       · omega
   · have hl60:=(h.I.rise x (atZ_some hx).1).2
     refine ⟨(x.es.drop (min k.toNat x.es.length)).take q.toNat,min k.toNat x.es.length+((x.es.drop (min k.toNat x.es.length)).take q.toNat).length,0,by omega,by simp only [List.length_take,List.length_drop];omega,fun W1 ho=>(hp W1 ho).mono fun r w' hh=>?_,fun W1 ho=>(hd W1 ho).mono fun r w' hh=>?_⟩
     · obtain ⟨ho',h1 | ⟨_,h1,_⟩ | ⟨x',v,h1,_,_,_,h2,h3⟩⟩:=hh
       · exact absurd h0 h1.1
       · exact absurd h1 hb2
       · rw [hx] at h1
         cases h1
         exact ⟨v,h3,h2,ho'⟩
     · obtain ⟨ho',h1 | ⟨_,h1,_⟩ | ⟨x',v,h1,_,_,_,h2,h3⟩⟩:=hh
       · exact absurd h0 h1.1
       · exact absurd h1 hb2
       · rw [hx] at h1
         cases h1
         exact ⟨v,h3,h2.seen,ho'⟩
 · refine ⟨[],0,dirN D N G,by omega,by simp,fun W1 ho=>(hp W1 ho).mono fun r w' hh=>?_,fun W1 ho=>(hd W1 ho).mono fun r w' hh=>?_⟩
   · obtain ⟨ho',h1 | ⟨h1,_⟩ | ⟨_,_,h1,h2,_⟩⟩:=hh
     · exact ⟨_,h1.2,EntV.nil _,ho'⟩
     · exact absurd h1 h0
     · exact absurd (dir_no h1 h2) h0
   · obtain ⟨ho',h1 | ⟨h1,_⟩ | ⟨_,_,h1,h2,_⟩⟩:=hh
     · exact ⟨_,h1.2,EntV.nil _,ho'⟩
     · exact absurd h1 h0
     · exact absurd (dir_no h1 h2) h0
theorem read_both (h:Both W w base tr m hb D hl B)(hE:Errs W A)(hB:B≤800)(N G:Int){k q:Int}(hk1:k < 9223372036854775808)(hq1:q < 9223372036854775808):∃ (s:ByteArray) (b:Bool) (c:Nat),c≤14∧(∀ W1,zQ w W1→zO 48 #[zP tr,zG N G,zI k,zI q] W1 (.tuple #[.string s,.bool b,codeE A c]))∧(∀ W1,zQ w W1→zO 49 #[zP m,zG N G,zI k,zI q] W1 (.tuple #[.string s,.bool b,zI ((c:Nat):Int)])):=by
 obtain ⟨T,P,R⟩:=h.prg;have hp:=read_rep P R h.I (h.errs hE) (N:=N) (G:=G) hk1 hq1;have hd:=fun W1 (ho:zQ w W1)=>dtread_any W1 base m D N G k q B (h.doc.only ho) h.I h.bd.db (by omega) h.bd.dz hk1 hq1;have hle:=file_le D N G
 have key:∀ y,D.atZ N G=some y→y.K=1→fileN D N G=0:=fun y h1 h2=>by unfold fileN;rw [h1];exact if_pos h2
 rcases file_or D N G with h0 | ⟨y,h1,h2⟩
 · refine ⟨⟨#[]⟩,false,fileN D N G,by omega,fun W1 ho=>(hp W1 ho).mono fun r w' hh=>?_,fun W1 ho=>(hd W1 ho).mono fun r w' hh=>?_⟩
   · obtain ⟨v,rfl,hv,ho'⟩:=hh
     rcases hv with ⟨_,rfl⟩ | ⟨y,h1,h2,_⟩
     · exact ⟨rfl,ho'⟩
     · exact absurd (key y h1 h2) h0
   · obtain ⟨v,rfl,hv,ho'⟩:=hh
     rcases hv with ⟨_,rfl⟩ | ⟨y,h1,h2,_⟩
     · exact ⟨rfl,ho'⟩
     · exact absurd (key y h1 h2) h0
 · refine ⟨(readB y.S k q).1,(readB y.S k q).2.1,if k < 0∨q < 0 then 2 else 0,by split<;>omega,fun W1 ho=>(hp W1 ho).mono fun r w' hh=>?_,fun W1 ho=>(hd W1 ho).mono fun r w' hh=>?_⟩
   · obtain ⟨v,rfl,hv,ho'⟩:=hh
     rcases hv with ⟨h0,_⟩ | ⟨y',h1',_,rfl⟩
     · exact absurd (key y h1 h2) h0
     · rw [h1] at h1'
       cases h1'
       refine ⟨?_,ho'⟩
       split<;>rfl
   · obtain ⟨v,rfl,hv,ho'⟩:=hh
     rcases hv with ⟨h0,_⟩ | ⟨y',h1',_,rfl⟩
     · exact absurd (key y h1 h2) h0
     · rw [h1] at h1'
       cases h1'
       refine ⟨?_,ho'⟩
       have e:(readB y.S k q).2.2=((if k < 0∨q < 0 then 2 else 0:Nat):Int):=by
        unfold readB
        split
        · rfl
        · split
          · rfl
          · split<;>rfl
       rw [e]
theorem nodes_both (h:Both W w base tr m hb D hl B):∃ n:Nat,n≤300∧(∃ ad cap,∀ W1,zQ w W1→W1.cell? (zA m 1)=some (.slice ad n cap))∧∀ W1,zQ w W1→zO 26 #[zP tr] W1 (zI n):=by
 obtain ⟨T,P,R⟩:=h.prg;obtain ⟨lv,tv,ns,hd⟩:=h.doc;obtain ⟨ad,cap,hlv,_⟩:=hd.form
 have hlen:D.L.length=ns.length:=by rw [hd.nodes,List.length_map]
 have h3:D.L.length≤300:=by
  have:=nos_len h.I.nos (fun x hx=>(h.I.lt x hx).1);have:=h.I.most;omega
 refine ⟨ns.length,by omega,⟨ad,cap,fun W1 ho=>by rw [← hlv];exact (hd.only ho).c1⟩,fun W1 ho=>?_⟩;have:=nodes_any W1 tr T (P.tree.only ho);rw [R.count h.I P.tree,hlen] at this;exact this
end
theorem same_any (W w:World)(base tr m hb:Nat)(D:Dt)(hl:List (Nat×Nat))(B:Nat)(A:Nat→Addr)(h:Both W w base tr m hb D hl B)(hE:Errs W A)(hB:B≤800)(hn:hl.length≤1000):
  zO 14 #[zP tr,zP m,zP hb] w (.bool true):=by
 obtain ⟨nn,hnn,⟨adm,capm,hcm⟩,hno⟩:=nodes_both h;have HNO:Hid (∀ W1,zQ w W1→_):=hno;have HCM:Hid (∀ W1,zQ w W1→_):=hcm;have HAT:Hid (∀ N G,_):=fun N G=>attr_both h hE hB N G;have HLI:Hid (∀ N G,_):=fun N G=>list_both h hE hB N G (k:=0) (q:=60) (by decide) (by decide);have HRE:Hid (∀ N G,_):=fun N G=>read_both h hE hB N G (k:=0) (q:=4096) (by decide) (by decide);have HCO:Hid (∀ W1,zQ w W1→∀ c,c≤14→zO 10 #[codeE A c,zI ((c:Nat):Int)] W1 (.bool true)):=fun W1 ho c hc=>coded_is (errs_only (h.errs hE) ho) hc;obtain ⟨v,hv⟩:=h.hands;obtain ⟨ad,cap,hvs,hvr⟩:=hv.form;obtain ⟨n,hln⟩:∃ n,hl.length=n:=⟨_,rfl⟩;rw [hln] at hvs hn;subst hvs;have HH:Hid (∀ W1,zQ w W1→W1.cell? (zA hb 0)=some (.slice ad n cap)):=fun W1 ho=>BoxAt.cell (hv.kept ho (by simp) (by simp)).tab 0 _ rfl
 have HR:Hid (∀ W1,zQ w W1→∀ j x,hl[j]?=some x→∃ g,ad=some ⟨g,0,none⟩∧W1.cell? ⟨g,j*2,none⟩=some (zI x.1)∧W1.cell? ⟨g,j*2+1,none⟩=some (zI x.2)):=fun W1 ho j x hx=>by
  obtain ⟨g,q1,q2,q3⟩:=hvr j x hx;exact ⟨g,q1,(ho.cell (p:=⟨g,j*2,none⟩) (zv q2) (by simp)).trans q2,(ho.cell (p:=⟨g,j*2+1,none⟩) (zv q3) (by simp)).trans q3⟩
 have HLN:Hid (hl.length=n):=hln;clear hno hcm h hE hv hvr hln
 go_enter Tryz.func14,Tryz.ntmps14
 go_upto_region 1 with fail
 have HV1:Hid (zQ w w.drew):=(Only.refl [] _).drew;have S1:Hid (w.drew.cell? (zA m 1)=some (.slice adm nn capm)):=HCM.out _ HV1.out
 go_cut [1,2,27] from 1 to 2 (fun p1 p2 q wx=>p1=zP m∧p2=zP hb∧q = .bool false∧zQ w wx)
 case first =>
  go_region_held3 (fun W=>W.cell? (zA m 1)=some (.slice adm nn capm)) (with_reducible first | exact S1.out | exact S2.out)
   ((go_at_call 26;refine (HNO.out _ HV1.out).mono ?_;rintro e w1 ⟨rfl,ho1⟩;have HO1:Hid (zQ w w1):=zo HV1.out ho1;have S2:Hid (w1.cell? (zA m 1)=some (.slice adm nn capm)):=HCM.out _ HO1.out;clear ho1))
  all_goals go_wp2
  all_goals go_meet
  all_goals exact ⟨rfl,rfl,by simp,HO1.out⟩
 case rest =>
  obtain ⟨rfl,rfl,rfl,hoc⟩:=hcut;generalize wc=w0 at hoc ⊢;have HO0:Hid (zQ w w0):=hoc;clear hoc S1 HV1 HNO HCM
  go_wp2
  go_loopw [7] (fun i wr=>∃ j:Nat,j≤n∧i=zI j∧zQ w wr) (fun i _=>n - (intOf i).toNat)
  case atStart=>exact ⟨0,Nat.zero_le _,rfl,HO0.out⟩
  case round =>
   obtain ⟨j,hj,rfl,hor⟩:=hrel;have HOR:Hid (zQ w wr):=hor;clear HO0 hor;have ch:=HH.out wr HOR.out
   by_cases hlt:j < n
   · obtain ⟨x,hx⟩:∃ x,hl[j]?=some x:=⟨_,List.getElem?_eq_getElem (by rw [HLN.out];exact hlt)⟩
     obtain ⟨K,Z,L,C,UN,UG,c1,hc1,hpa,hda⟩:=HAT.out (x.1:Nat) (x.2:Nat);obtain ⟨l,nl,c2,hc2,hl60,hpl,hdl⟩:=HLI.out (x.1:Nat) (x.2:Nat);obtain ⟨s,b,c3,hc3,hpr,hdr⟩:=HRE.out (x.1:Nat) (x.2:Nat);have HPA:Hid (∀ W1,zQ w W1→_):=hpa;have HDA:Hid (∀ W1,zQ w W1→_):=hda;have HPL:Hid (∀ W1,zQ w W1→_):=hpl;have HDL:Hid (∀ W1,zQ w W1→_):=hdl;have HPR:Hid (∀ W1,zQ w W1→_):=hpr;have HDR:Hid (∀ W1,zQ w W1→_):=hdr;obtain ⟨gx,hadx,cx,cy⟩:=HR.out wr HOR.out j x hx;subst hadx
     have HX:Hid (∀ W1,zQ w W1→W1.cell? (zA hb 0)=some (.slice (some ⟨gx,0,none⟩) n cap)∧W1.cell? ⟨gx,j*2,none⟩=some (zI x.1)∧W1.cell? ⟨gx,j*2+1,none⟩=some (zI x.2)):=fun W1 ho=>by
      obtain ⟨g',q1,q2,q3⟩:=HR.out W1 ho j x hx
      cases q1
      exact ⟨HH.out W1 ho,q2,q3⟩
     have hj2:(j:Int) < n:=by omega
     clear hpa hda hpl hdl hpr hdr hx HR HH HAT HLI HRE
     go_upto_region 7 with (first
      | (go_at_call 25;refine (HPA.out _ HOR.out).mono ?_;rintro e w1 ⟨rfl,ho1⟩;have HO1:Hid (zQ w (w1.alloc (.cells #[zI K,zI Z,zI L,zI C,zI UN,zI UG] 67))):=(zo HOR.out ho1).alloc _;clear ho1)
      | go_in)
     obtain ⟨a0,a1,a2,a3,a4,a5,_,hla⟩:=own_six (B:=w1.heap.size) (Only.refl [] (w1.alloc (.cells #[zI K,zI Z,zI L,zI C,zI UN,zI UG] 67))) rfl;have HA6:Hid (∀ W1,zQ (w1.alloc (.cells #[zI K,zI Z,zI L,zI C,zI UN,zI UG] 67)) W1→_):=fun W1 (ho:zQ (w1.alloc (.cells #[zI K,zI Z,zI L,zI C,zI UN,zI UG] 67)) W1)=>own_six (B:=w1.heap.size) ho rfl;clear ch cx cy a0 a1 a2 a3 a4 a5 hla;generalize w1.alloc (.cells #[zI K,zI Z,zI L,zI C,zI UN,zI UG] 67)=w2 at HO1 HA6 ⊢;generalize w1.heap.size=ba at HA6 ⊢;obtain ⟨ch,cx,cy⟩:=HX.out _ HO1.out
     go_upto_region 8 with (first
      | (go_at_call 47;refine (HDA.out _ HO1.out).mono ?_;rintro e w3 ⟨rfl,ho3⟩;have HO3:Hid (zQ w2 (w3.alloc (.cells #[zI K,zI Z,zI L,zI C,zI UN,zI UG] 67))):=ho3.alloc _;clear ho3)
      | go_in)
     obtain ⟨d0,d1,d2,d3,d4,d5,_,hld⟩:=own_six (B:=w3.heap.size) (Only.refl [] (w3.alloc (.cells #[zI K,zI Z,zI L,zI C,zI UN,zI UG] 67))) rfl;obtain ⟨a0,a1,a2,a3,a4,a5,_,hla⟩:=HA6.out _ HO3.out;have HA7:Hid (∀ W1,zQ (w3.alloc (.cells #[zI K,zI Z,zI L,zI C,zI UN,zI UG] 67)) W1→_):=fun W1 (ho:zQ (w3.alloc (.cells #[zI K,zI Z,zI L,zI C,zI UN,zI UG] 67)) W1)=>own_six (B:=w3.heap.size) ho rfl;clear ch cx cy;generalize w3.alloc (.cells #[zI K,zI Z,zI L,zI C,zI UN,zI UG] 67)=w4 at HO3 HA7 a0 a1 a2 a3 a4 a5 hla d0 d1 d2 d3 d4 d5 hld ⊢;generalize w3.heap.size=bd at HA7 d0 d1 d2 d3 d4 d5 hld ⊢;have HO4:Hid (zQ w w4):=zo HO1.out HO3.out;have hco:=HCO.out _ HO4.out c1 hc1
     go_upto_region 10 with (first
      | (go_at_call 10;refine hco.mono ?_;rintro e w5 ⟨rfl,ho5⟩;have HO5:Hid (zQ w w5):=zo HO4.out ho5;obtain ⟨e0,e1,e2,e3,e4,e5,_,_⟩:=HA7.out _ ho5;obtain ⟨f0,f1,f2,f3,f4,f5,_,_⟩:=HA6.out _ (zo HO3.out ho5);clear ho5 a0 a1 a2 a3 a4 a5 hla d0 d1 d2 d3 d4 d5 hld)
      | go_in)
     clear hco e0 e1 e2 e3 e4 e5 f0 f1 f2 f3 f4 f5 HA6 HA7 HO3 HO1 HO4 HPA HDA;obtain ⟨ch,cx,cy⟩:=HX.out _ HO5.out
     go_upto_region 11 with (first
      | (go_at_call 18;refine (HPL.out _ HO5.out).mono ?_;rintro e w6 ⟨v6,rfl,hv6,ho6⟩;have HO6:Hid (zQ w w6):=zo HO5.out ho6;have HE6:Hid (EntV w6 v6 l):=hv6;clear ho6 hv6)
      | go_in)
     clear ch cx cy HO5;obtain ⟨ch,cx,cy⟩:=HX.out _ HO6.out
     go_upto_region 12 with (first
      | (go_at_call 19;refine (HDL.out _ HO6.out).mono ?_;rintro e w7 ⟨v7,rfl,hv7,ho7⟩;have HO7:Hid (zQ w w7):=zo HO6.out ho7;have HE7:Hid (EntV w7 v7 l):=hv7;have HE8:Hid (EntV w7 v6 l):=HE6.out.only ho7;clear ho7 hv7)
      | go_in)
     clear ch cx cy HO6 HE6;have hco:=HCO.out _ HO7.out c2 hc2
     go_upto_region 14 with (first
      | (go_at_call 10;refine hco.mono ?_;rintro e w8 ⟨rfl,ho8⟩;have HO8:Hid (zQ w w8):=zo HO7.out ho8;have hse:=same_ents w8 v6 v7 l (HE8.out.only ho8) (HE7.out.only ho8) (by omega);clear ho8)
      | (go_at_call 20;refine hse.mono ?_;rintro e w9 ⟨rfl,ho9⟩;have HO9:Hid (zQ w w9):=zo HO8.out ho9;clear ho9)
      | go_in)
     clear hco hse HE7 HE8 HO7 HO8 HPL HDL;obtain ⟨ch,cx,cy⟩:=HX.out _ HO9.out
     go_upto_region 15 with (first
      | (go_at_call 48;refine (HPR.out _ HO9.out).mono ?_;rintro e w10 ⟨rfl,ho10⟩;have HO10:Hid (zQ w w10):=zo HO9.out ho10;clear ho10)
      | go_in)
     clear ch cx cy HO9;obtain ⟨ch,cx,cy⟩:=HX.out _ HO10.out
     go_upto_region 16 with (first
      | (go_at_call 49;refine (HDR.out _ HO10.out).mono ?_;rintro e w11 ⟨rfl,ho11⟩;have HO11:Hid (zQ w w11):=zo HO10.out ho11;clear ho11)
      | go_in)
     clear ch cx cy HO10;have hco:=HCO.out _ HO11.out c3 hc3
     go_wp2_with (first
      | (go_at_call 10;refine hco.mono ?_;rintro e w12 ⟨rfl,ho12⟩;have HO12:Hid (zQ w w12):=zo HO11.out ho12;clear ho12)
      | go_in)
     go_roundw
     case rel=>exact ⟨j+1,by omega,by go_num,HO12.out⟩
     case measure=>simp [intOf];omega
   · obtain rfl:n=j:=by omega
     go_wp2
     go_ret
     exact ⟨rfl,HOR.out⟩
end
section
open Go Go.RowKit Go.Deep Go.WideShapes
structure TActM.Ok (a:TActM):Prop where
 s:a.S.size≤140737488351232
 x:a.X.size≤140737488351232
 n1:a.N < 9223372036854775808
 n2 : -9223372036854775808≤a.N
def TActsAt6 (w:World)(ab ao len:Nat)(P:Nat→TActM):Prop :=
 ∀ i,i < len→w.cell? ⟨ab,ao+i*6,none⟩=some (.string (P i).K)∧w.cell? ⟨ab,ao+i*6+1,none⟩=some (zI (P i).A)∧w.cell? ⟨ab,ao+i*6+2,none⟩=some (zI (P i).B)∧w.cell? ⟨ab,ao+i*6+3,none⟩=some (.string (P i).S)∧w.cell? ⟨ab,ao+i*6+4,none⟩=some (.string (P i).X)∧w.cell? ⟨ab,ao+i*6+5,none⟩=some (zI (P i).N)∧(P i).Ok
def IsTActs6 (w:World)(a:Option Addr)(len:Nat):Prop:=len=0∨∃ ab ao P,a=some ⟨ab,ao,none⟩∧TActsAt6 w ab ao len P
theorem choose_lt6 {α:Type}[Inhabited α]{n:Nat}{p:Nat→α→Prop}(h:∀ i,i < n→∃ a,p i a):∃ f:Nat→α,∀ i,i < n→p i (f i) :=
 ⟨fun i=>if hi:i < n then (h i hi).choose else default,fun i hi=>by simp only [hi,dite_true];exact (h i hi).choose_spec⟩
theorem Tryz.cellsTAct6:Tryz.prog.cellsOf 43=6:=by kernel_rfl
theorem Tryz.cellsInt6:Tryz.prog.cellsOf 3=1:=by kernel_rfl
theorem Tryz.cellsStr6:Tryz.prog.cellsOf 9=1:=by kernel_rfl
theorem six_of6 {l:List Value}(h:l.length=6):∃ a b c d e f,l=[a,b,c,d,e,f]:=by
 match l,h with
 | [a,b,c,d,e,f],_=>exact ⟨a,b,c,d,e,f,rfl⟩
theorem weightsAll_mem6 {H:Type}{P:Program}{e:TypeId}:∀ {l:List (DataW H)} {d:DataW H},d∈l→∀ n∈d.weights P e,n∈DataW.weightsAll P e l
 | d0::l,d,hm,n,hn=>by
  simp only [DataW.weightsAll,List.mem_append];rcases List.mem_cons.1 hm with rfl | hm
  · exact Or.inl hn
  · exact Or.inr (weightsAll_mem6 hm n hn)
theorem act_fields6 {H:Type}{enc:TypeId×Value→H}{w:World}{base n:Nat}{sp:Nat→Bool}{held:Bool}{cs:List Value}{x:DataW H×List MemPlace}(h:DataW.trod enc Tryz.prog w base sp held n 43 cs=some x)(hw:∀ q∈x.1.weights Tryz.prog 43,q≤reachBytes):
  ∃ p:TActM,cs=[.string p.K,zI p.A,zI p.B,.string p.S,.string p.X,zI p.N]∧p.Ok:=by
 have hst:=DataW.trod_struct Tryz.underlying43 h;rw [Tryz.cellsTAct6] at hst;obtain ⟨xs,k,_,hxx,hcl,hlen,hx⟩:=hst;obtain ⟨c0,c1,c2,c3,c4,c5,rfl⟩:=six_of6 (l:=cs) (by simpa using hcl);have g:∀ i (hi:i < xs.length),xs[i]?=some xs[i]:=fun i hi=>List.getElem?_eq_getElem hi;have hl6:xs.length=6:=hlen;have y0:=(hx 0 _ rfl).trans (g 0 (by omega));have y1:=(hx 1 _ rfl).trans (g 1 (by omega));have y2:=(hx 2 _ rfl).trans (g 2 (by omega));have y3:=(hx 3 _ rfl).trans (g 3 (by omega));have y4:=(hx 4 _ rfl).trans (g 4 (by omega));have y5:=(hx 5 _ rfl).trans (g 5 (by omega));obtain ⟨s0,e0,_,_⟩:=DataW.trod_string Tryz.underlying9 y0;obtain ⟨n1,e1,_,_⟩:=DataW.trod_int Tryz.underlying3 y1;obtain ⟨n2,e2,_,_⟩:=DataW.trod_int Tryz.underlying3 y2;obtain ⟨s3,e3,d3,_⟩:=DataW.trod_string Tryz.underlying9 y3;obtain ⟨s4,e4,d4,_⟩:=DataW.trod_string Tryz.underlying9 y4;obtain ⟨n5,e5,_,r5⟩:=DataW.trod_int Tryz.underlying3 y5
 have wt:∀ (j:Nat) (s:ByteArray) (hj:j < xs.length),(xs[j]'hj).1 = .lit (.string s.data.toList)→∀ t,(Tryz.prog.underlying 43).bind (fun u=>match u with | .struct fs=>(fs.toList.map (·.type))[j]? | _=>none)=some t→s.size≤140737488351232:=fun j s hj hd t ht=>by
  have h1:s.data.toList.length∈x.1.weights Tryz.prog 43:=by
   rw [hxx];rw [Tryz.underlying43] at ht;simp only [DataW.weights,Tryz.underlying43];refine DataW.weights_mem_each (j:=j) ht (d := .lit (.string s.data.toList)) (by rw [List.getElem?_map,g j hj];simp [hd]) _ (by simp [DataW.weights])
  have h2:=hw _ h1
  have h3:s.data.toList.length=s.size:=by simp
  have h4:reachBytes=140737488351232:=rfl;omega
 have w3:=wt 3 s3 (by omega) (by rw [d3]) 9 (by rw [Tryz.underlying43];rfl);have w4:=wt 4 s4 (by omega) (by rw [d4]) 9 (by rw [Tryz.underlying43];rfl);simp [Tryz.cellsInt6,Tryz.cellsStr6] at e0 e1 e2 e3 e4 e5;subst e0 e1 e2 e3 e4 e5;exact ⟨⟨s0,n1,n2,s3,s4,n5⟩,rfl,⟨w3,w4,by have r:=r5;simp [Lit.wf,IntKind.min,IntKind.max,IntKind.signed,IntKind.bits] at r;show n5 < _;omega,by have r:=r5;simp [Lit.wf,IntKind.min,IntKind.max,IntKind.signed,IntKind.bits] at r;show _≤n5;omega⟩⟩
theorem isTActs6_of {H:Type}{enc:TypeId×Value→H}{w:World}{base n:Nat}{sp:Nat→Bool}{held:Bool}{a:Option Addr}{len cap:Nat}{x:DataW H×List MemPlace}(h:DataW.trod enc Tryz.prog w base sp held n 22 [.slice a len cap]=some x)(hw:∀ q∈x.1.weights Tryz.prog 22,q≤reachBytes):IsTActs6 w a len:=by
 rcases open_slice Tryz.underlying22 h with ⟨e,_⟩ | ⟨ad,len',cap',m,n',D,Pl,e,_,hl,hm,hmm,hxx,hx⟩
 · simp at e
   exact Or.inl e.2.1
 · simp at e
   obtain ⟨rfl,rfl,rfl⟩:=e;rcases Nat.eq_zero_or_pos len with h0 | h0
   · exact Or.inl h0
   right
   have hle:len≤m:=by rw [hmm];split<;>omega
   rw [Tryz.cellsTAct6] at hx
   have hwD:∀ i,i < len→∀ q∈(D i).weights Tryz.prog 43,q≤reachBytes:=fun i hi q hq=>by
     refine hw q ?_;rw [hxx];simp only [DataW.weights,Tryz.underlying22];exact List.mem_cons_of_mem _ (List.mem_append_left _ (weightsAll_mem6 (List.mem_map.2 ⟨i,List.mem_range.2 hi,rfl⟩) q hq))
   have inst:Inhabited TActM:=⟨⟨⟨#[]⟩,0,0,⟨#[]⟩,⟨#[]⟩,0⟩⟩
   obtain ⟨P,hP⟩:=choose_lt6 (α:=TActM) (n:=len) (p:=fun i p=>w.cells? base (ad.add (i*6)) 6=some [.string p.K,zI p.A,zI p.B,.string p.S,.string p.X,zI p.N]∧p.Ok) (fun i hi=>by
     obtain ⟨cs',c1,c2⟩:=hx i (by omega);obtain ⟨p,rfl,hok⟩:=act_fields6 c2 (hwD i hi)
     exact ⟨p,c1,hok⟩)
   obtain ⟨ab,ao,spot⟩:=ad;have cell:∀ i,i < len→∀ k,k < 6→w.cell? (((⟨ab,ao,spot⟩:Addr).add (i*6)).add k)=[Value.string (P i).K,zI (P i).A,zI (P i).B,.string (P i).S,.string (P i).X,zI (P i).N][k]?:=fun i hi k hk=>(World.cells?_some (hP i hi).1).2.2 k hk
   have hspot:spot=none:=by
     have:=cell 0 h0 0 (by decide);simp [Addr.add] at this;exact World.cell?_spot this
   subst hspot
   have hadd:∀ i k,((⟨ab,ao,none⟩:Addr).add (i*6)).add k=⟨ab,ao+i*6+k,none⟩:=fun i k=>by
     unfold Addr.add
     split<;>split<;>simp_all
   refine ⟨ab,ao,P,rfl,fun i hi=>?_⟩;have c0:=cell i hi 0 (by decide);have c1:=cell i hi 1 (by decide);have c2:=cell i hi 2 (by decide);have c3:=cell i hi 3 (by decide);have c4:=cell i hi 4 (by decide);have c5:=cell i hi 5 (by decide);rw [hadd] at c0 c1 c2 c3 c4 c5;exact ⟨c0,c1,c2,c3,c4,c5,(hP i hi).2⟩
def sumL (P:Nat→TActM):Nat→Nat
 | 0=>0
 | n+1=>sumL P n+(P n).S.size+(P n).X.size
theorem sumL_mem (P:Nat→TActM):∀ n i,i < n→(P i).S.size≤sumL P n∧(P i).X.size≤sumL P n
 | n+1,i,hi=>by
  show _≤sumL P n+(P n).S.size+(P n).X.size∧_≤sumL P n+(P n).S.size+(P n).X.size
  by_cases e:i=n
  · subst e;omega
  · have:=sumL_mem P n i (by omega)
    omega
theorem sumL_le (P:Nat→TActM)(m:Nat)(h:∀ i,i < m→(P i).S.size≤140737488351232∧(P i).X.size≤140737488351232):∀ n,n≤m→sumL P n≤n*281474976702464
 | 0,_=>Nat.zero_le _
 | n+1,hn=>by
  have h1:=sumL_le P m h n (by omega);have h2:=h n (by omega);show sumL P n+(P n).S.size+(P n).X.size≤_;omega
def FitL (w:World)(ad:Option Addr)(len:Nat):Prop:=len≤30∧(len=0∨∃ ab ao P,ad=some ⟨ab,ao,none⟩∧TActsAt6 w ab ao len P∧∀ i,i < len→(P i).S.size≤3000∧(P i).X.size≤3000)
theorem much_any (w:World)(ad:Option Addr)(len cap:Nat)(h:IsTActs6 w ad len):
   ∃ b,(b=false→FitL w ad len)∧zO 8 #[.slice ad len cap] w (.bool b):=by
 obtain ⟨P,hP⟩:∃ P:Nat→TActM,len=0∨∃ ab ao,ad=some ⟨ab,ao,none⟩∧TActsAt6 w ab ao len P:=by
   rcases h with h0 | ⟨ab,ao,P,h1,h2⟩
   · exact ⟨fun _=>⟨⟨#[]⟩,0,0,⟨#[]⟩,⟨#[]⟩,0⟩,Or.inl h0⟩
   · exact ⟨P,Or.inr ⟨ab,ao,h1,h2⟩⟩
 have HQ:Hid (len=0∨∃ ab ao,ad=some ⟨ab,ao,none⟩∧TActsAt6 w ab ao len P):=hP;refine ⟨decide (30 < len) || decide (3000 < sumL P len),fun hb=>?_,?_⟩
 · have h1:¬ 30 < len∧¬ 3000 < sumL P len:=by simpa using hb
   refine ⟨by omega,?_⟩;rcases HQ.out with h0 | ⟨ab,ao,q1,q2⟩
   · exact Or.inl h0
   · exact Or.inr ⟨ab,ao,P,q1,q2,fun i hi=>by have:=sumL_mem P len i hi;omega⟩
 clear h
 go_enter Tryz.func8,Tryz.ntmps8
 by_cases h30:30 < len
 · have d1:decide (30 < (len:Int))=true:=decide_eq_true (by omega)
   go_wp2
   go_ret
   exact ⟨by simp [h30],Only.refl _ _⟩
 · have d1:decide (30 < (len:Int))=false:=decide_eq_false (by omega)
   have hsum:∀ j,j≤len→sumL P j≤j*281474976702464:=by
     rcases hP with h0 | ⟨ab,ao,_,h2⟩
     · intro j hj
       obtain rfl:j=0:=by omega
       exact Nat.zero_le _
     · exact fun j hj=>sumL_le P len (fun i hi=>⟨(h2 i hi).2.2.2.2.2.2.s,(h2 i hi).2.2.2.2.2.2.x⟩) j hj
   have HSU:Hid (∀ j,j≤len→sumL P j≤j*281474976702464):=hsum;clear hP hsum
   go_wp2
   clear d1
   go_loopw [3,4] (fun q i wr=>∃ j:Nat,j≤len∧i=zI j∧q=zI (sumL P j:Nat)∧zQ w wr) (fun _ i _=>len - (intOf i).toNat)
   case atStart=>exact ⟨0,Nat.zero_le _,rfl,rfl,Only.refl _ _⟩
   case round =>
     obtain ⟨j,hj,rfl,rfl,hor⟩:=hrel;have HOR:Hid (zQ w wr):=hor;clear hor
     by_cases hlt:j < len
     · have hj2:(j:Int) < len:=by omega
       rcases HQ.out with h0 | ⟨ab,ao,hadx,hPP⟩
       · omega
       subst hadx;obtain ⟨_,_,_,p3,p4,_,hok⟩:=hPP j hlt;have c3:wr.cell? ⟨ab,ao+j*6+3,none⟩=some (.string (P j).S):=(HOR.out.cell (p:=⟨ab,ao+j*6+3,none⟩) (zv p3) (by simp)).trans p3;have c4:wr.cell? ⟨ab,ao+j*6+4,none⟩=some (.string (P j).X):=(HOR.out.cell (p:=⟨ab,ao+j*6+4,none⟩) (zv p4) (by simp)).trans p4;have hs1:=hok.s;have hs2:=hok.x;have hs0:=HSU.out j hj;have hs3:=HSU.out (j+1) hlt;have HSM:Hid (sumL P (j+1)=sumL P j+(P j).S.size+(P j).X.size):=rfl;have e1:IntKind.i64.wrap ((sumL P j:Int)+((P j).S.size:Int))=(sumL P j:Int)+((P j).S.size:Int):=wrap_small (by omega) (by omega);have e2:IntKind.i64.wrap ((sumL P j:Int)+((P j).S.size:Int)+((P j).X.size:Int))=(sumL P j:Int)+((P j).S.size:Int)+((P j).X.size:Int):=wrap_small (by omega) (by omega)
       go_upto_region 7 with fail
       go_quiet (fail)
       all_goals go_wp2
       all_goals go_roundw
       case rel=>exact ⟨j+1,hlt,by go_num,by rw [HSM.out];rfl,⟨HOR.out.os,HOR.out.tape,HOR.out.output,HOR.out.size,HOR.out.block⟩⟩
       case measure=>simp [intOf];omega
     · obtain rfl:len=j:=by omega
       by_cases hbig:3000 < sumL P len
       · have d2:decide (3000 < (sumL P len:Int))=true:=decide_eq_true (by omega)
         go_wp2
         go_ret
         exact ⟨by simp [hbig],HOR.out⟩
       · have d2:decide (3000 < (sumL P len:Int))=false:=decide_eq_false (by omega)
         go_wp2
         go_ret
         exact ⟨by simp [hbig,h30],HOR.out⟩
end
section
open Go Go.RowKit Go.Deep Go.Maps
theorem over_okT (w:World)(t:Nat)(p:Row)(most:Nat)(g:Nat→Nat)(nd:Nat→Option Nod)(h:TabAt w t p most g nd)(hN:p.N≤1000)(hg:∀ i,g i≤5000000000000000000):
   zK 30 #[zP t] w fun e w'=>∃ tr db pb,e = .returned (zP tr)∧TreeAt w' tr (Tr.bare t p most g nd db pb)∧zQ w w'∧w.heap.size≤tr∧w.heap.size≤db∧w.heap.size≤pb∧Ty w' tr 116∧tr≠t∧tr≠db:=by
 have hm1:=run_makeMap (P:=Tryz.prog) 113 w;have hm2:=run_makeMap (P:=Tryz.prog) 114 (w.alloc (.map #[] 0));have H:Hid (TabAt w t p most g nd):=h;clear h
 go_enter Tryz.func30,Tryz.ntmps30
 go_wp2
 go_ret
 have ho:zQ w (((w.alloc (.map #[] 0)).alloc (.map #[] 0)).alloc (.cells #[zP t,.map (some w.heap.size),.map (some (w.heap.size+1))] 116)):=(((Only.refl [] w).alloc _).alloc _).alloc _;refine ⟨w.heap.size+1+1,w.heap.size,w.heap.size+1,rfl,?_,ho,by omega,by omega,by omega,?tyy,by have:=H.out.tlt;omega,by omega⟩
 case tyy=>exact ⟨_,_,by have:=zh ((w.alloc (.map #[] 0)).alloc (.map #[] 0)) (.cells #[zP t,.map (some w.heap.size),.map (some (w.heap.size+1))] 116);simp only [World.size_alloc] at this;exact this⟩
 have hh:=zh ((w.alloc (.map #[] 0)).alloc (.map #[] 0)) (.cells #[zP t,.map (some w.heap.size),.map (some (w.heap.size+1))] 116);simp only [World.size_alloc] at hh
 have hno:∀ k,w.heap.size≤k→¬ InFoot t p most nd k:=fun k hk hf=>by have:=H.out.foot_lt k hf;omega
 have hd:(((w.alloc (.map #[] 0)).alloc (.map #[] 0)).alloc (.cells #[zP t,.map (some w.heap.size),.map (some (w.heap.size+1))] 116)).ownsMap Tryz.prog 32 mapElem w.heap.size 0 (.map []:DataW Unit):=((World.ownsMap_made (H:=Unit) w Tryz.prog 32 mapElem).alloc _).alloc _
 have hp:(((w.alloc (.map #[] 0)).alloc (.map #[] 0)).alloc (.cells #[zP t,.map (some w.heap.size),.map (some (w.heap.size+1))] 116)).ownsMap Tryz.prog 32 (plainElem Tryz.prog 3) (w.heap.size+1) 0 (.map []:DataW Unit):=by
   have:=World.ownsMap_made (H:=Unit) (w.alloc (.map #[] 0)) Tryz.prog 32 (plainElem Tryz.prog 3);rw [World.size_alloc] at this;exact this.alloc _
 refine ⟨cell_of_row _ _ 0 _ _ _ hh,cell_of_row _ _ 1 _ _ _ hh,cell_of_row _ _ 2 _ _ _ hh,H.out.kept ho (fun _ _=>by simp),⟨_,0,hd,by omega,Reads.empty.congr (fun k=>?_)⟩,(fun i d e=>by cases e),⟨_,0,hp,by omega,Reads.empty.congr (fun k=>?_)⟩,(fun i j d d' e=>by cases e),⟨hN,hg⟩,hno (w.heap.size+1+1) (by omega),hno w.heap.size (Nat.le_refl _),hno (w.heap.size+1) (by omega),(fun i d e=>by cases e),?_,(fun i d e=>by cases e),(fun i e=>by cases e)⟩
 · show (if k.2=g k.1 then (none:Option DirM).map (·.b) else none)=none
   split<;>rfl
 · simp [Tr.pinsF,Tr.bare]
 · show w.heap.size≠w.heap.size+1
   omega
theorem tree_newT (w:World)(most:Nat)(h1:1≤most)(h2:most≤300):
  zK 9 #[zI most] w fun e w'=>∃ tr t p b db B pb,e = .returned (.tuple #[zP tr,.nilIface])∧TreeAt w' tr (Tr.fresh t p most b db B pb)∧zQ w w'∧p.N=1∧w.heap.size≤tr∧w.heap.size≤t∧w.heap.size≤b∧w.heap.size≤db∧w.heap.size≤B∧w.heap.size≤pb∧(∀ k,p.a=some k→w.heap.size≤k)∧Ty w' tr 116:=by
 have hnew:=tnew w most h1 h2
 go_enter Tryz.func9,Tryz.ntmps9
 go_wp2_with (first
  | (go_at_call 29;go_must (refine hnew.mono ?_);rintro e w1 ⟨t,rfl,hT1,ho1,ht⟩;have hov:=over_okT w1 t noRow most (fun _=>0) (fun _=>none) hT1 (by decide) (fun _=>by omega);have HO1:Hid (zQ w w1):=ho1;have HTT:Hid (w.heap.size≤t):=ht;clear hT1 ho1 hnew ht)
  | (go_at_call 30;go_must (refine hov.mono ?_);rintro e w2 ⟨tr,db,pb,rfl,hT2,ho2,htr,hdb,hpb,hty,hnt,hnd⟩;have HTY:Hid (Ty w2 tr 116):=hty;have HNT:Hid (tr≠t):=hnt;have HND:Hid (tr≠db):=hnd;have hadd:=add_dir w2 tr (Tr.bare t noRow most (fun _=>0) (fun _=>none) db pb) 0 hT2 (by decide) (show countTo (fun _=>none) 0 < most from h1) rfl rfl (fun j hj=>by omega);have HO2:Hid (zQ w w2):=HO1.out.trans ho2 (fun _ hk=>by cases hk);have HS:Hid (w.heap.size≤tr∧w.heap.size≤db∧w.heap.size≤pb):=(show w.heap.size≤tr∧w.heap.size≤db∧w.heap.size≤pb from by have:=HO1.out.size;omega);clear hT2 ho2 hov htr hdb hpb hty hnt hnd)
  | (go_at_call 31;go_must (refine hadd.mono ?_);rintro e w3 ⟨rfl,p,b,B,hT3,ho3,hb3,hB3,hN3,hA3⟩;clear hadd)
  | go_in)
 have ho:zQ w w3:=HO2.out.trans ho3 (fun k hk=>Or.inr (by
  have h1:=HS.out;have h2:=HTT.out;rcases List.mem_cons.1 hk with e | e
  · rw [e];exact h1.2.1
  · rcases List.mem_cons.1 e with e | e
    · rw [e];exact h2
    · cases e))
 have hs2:=HO2.out.size;refine bodyPost_ret (v := .tuple #[zP tr,.nilIface]) (by simp [results,Tryz.results9,go_sem]) rfl ?_;exact ⟨tr,t,p,b,db,B,pb,rfl,TreeAt.only (T:=Tr.fresh t p most b db B pb) hT3 ((Only.refl [] w3).alloc _),ho.alloc _,by rw [hN3];rfl,HS.out.1,HTT.out,by omega,HS.out.2.1,by omega,HS.out.2.2,fun k hk=>(hA3 k hk).elim (fun e=>by cases e) (fun e=>by omega),(HTY.out.only ho3 (by show tr∉[db,t];simp only [List.mem_cons,List.not_mem_nil,or_false,not_or];exact ⟨HND.out,HNT.out⟩)).only ((Only.refl [] w3).alloc _) (by simp)⟩
theorem tree_bad (w:World)(most:Int)(A:Nat→Addr)(hE:Errs w A)(h:most < 1∨300 < most):
  zO 9 #[zI most] w (.tuple #[.pointer none,codeE A 2]):=by
 have hnew:=tnew_bound w most (.iface 240 (.pointer (some (A 1)))) (hE.cell 1 (by decide)) h
 go_enter Tryz.func9,Tryz.ntmps9
 go_wp2_with (first
  | (go_at_call 29;refine hnew.mono ?_;rintro e w1 ⟨rfl,ho1⟩)
  | go_in)
 refine bodyPost_ret (v := .tuple #[.pointer none,.iface 240 (.pointer (some (A 1)))]) (by simp [results,Tryz.results9,go_sem]) rfl ⟨rfl,?_⟩
 first | exact ho1 | exact ho1.alloc _ | exact (ho1.alloc _).drew
theorem D0_bd (most:Nat):Bd (D0 most) 1:=by
 have hm:∀ x∈(D0 most).L,x=⟨0,0,2,0,⟨#[]⟩,[],[],0⟩:=fun x hx=>List.mem_singleton.1 hx;refine ⟨⟨fun x hx=>by rw [hm x hx];exact ⟨Int.le_refl _,by show (0:Int)≤_;omega,Nat.zero_le _⟩,fun i=>?_⟩,fun x hx=>by rw [hm x hx];exact ⟨Nat.zero_le _,Nat.zero_le _⟩⟩;show setN (fun _=>0) 0 1 i≤1
 by_cases e:i=0
 · rw [e,setN_same];exact Nat.le_refl _
 · rw [setN_other _ _ e];exact Nat.zero_le _
def NewT (w w':World)(tr most:Nat):Prop:=∃ T,Prg w.heap.size w' tr T∧Rep T (D0 most)∧zQ w w'
theorem new_tree (w:World)(most:Nat)(h1:1≤most)(h2:most≤300):zK 9 #[zI most] w fun e w'=>∃ tr,e = .returned (.tuple #[zP tr,.nilIface])∧NewT w w' tr most:=by
 refine (tree_newT w most h1 h2).mono fun e w' hh=>?_;obtain ⟨tr,t,p,b,db,B,pb,rfl,hT,ho,hN,q1,q2,q3,q4,q5,q6,q7,q8⟩:=hh;refine ⟨tr,rfl,_,⟨hT,fun k hk=>?_,q8,ho.size⟩,Rep.fresh t p most b db B pb,ho⟩;rcases mem_blocks.1 hk with e | e | e | e | ⟨i,_,⟨n,r1,r2⟩ | ⟨d,r1,r2⟩⟩
 · rw [e];exact q2
 · rw [e];exact q4
 · rw [e];exact q6
 · exact q7 k e
 · have r1':setN (fun _=>none) 0 (some { newNod b 2 with Z:=0,L:=2 }) i=some n:=r1
   by_cases e:i=0
   · rw [e,setN_same] at r1'
     cases r1'
     have:k=b:=by simpa [newNod,Nod.foot,footD] using r2
     rw [this];exact q3
   · rw [setN_other _ _ e] at r1'
     cases r1'
 · have r1':setN (fun _=>none) 0 (some (⟨B,[]⟩:DirM)) i=some d:=r1
   by_cases e:i=0
   · rw [e,setN_same] at r1'
     cases r1'
     rw [r2];exact q5
   · rw [setN_other _ _ e] at r1'
     cases r1'
theorem both_start {W w1 w2 w3:World}{tr m most:Nat}(hb1:Below W.heap.size W w1)(hn:NewT w1 w2 tr most)(hd:DM w3 w2.heap.size m (D0 most))(ho3:zQ w2 w3)(h1:1≤most)(h2:most≤300):Both W ((w3.alloc (zH 0 0)).alloc (.cells #[.slice (some ⟨w3.heap.size,0,none⟩) 1 1] 39)) w2.heap.size tr m (w3.heap.size+1) (D0 most) [(0,0)] 4:=by
 obtain ⟨T,P,R,ho2⟩:=hn;have hle:W.heap.size≤w1.heap.size:=hb1.size;have ho4:zQ w3 ((w3.alloc (zH 0 0)).alloc (.cells #[.slice (some ⟨w3.heap.size,0,none⟩) 1 1] 39)):=((Only.refl [] w3).alloc _).alloc _
 have hh:HandsAt ((w3.alloc (zH 0 0)).alloc (.cells #[.slice (some ⟨w3.heap.size,0,none⟩) 1 1] 39)) w2.heap.size (w3.heap.size+1) (.slice (some ⟨w3.heap.size,0,none⟩) 1 1) [(0,0)]:=by
  have e1:=zh (w3.alloc (zH 0 0)) (.cells #[.slice (some ⟨w3.heap.size,0,none⟩) 1 1] 39);rw [World.size_alloc] at e1;refine ⟨e1,World.ownsRow.alloc ?_ _⟩;have e2:=zh w3 (zH 0 0);exact ⟨rfl,Or.inr ⟨w3.heap.size,1,_,rfl,ho3.size,e2,Nat.le_refl _,by unfold maxLen;omega,rfl,rfl⟩⟩
 have ho:zQ w2 _:=zo ho3 ho4;have P':=P.only ho;refine ⟨⟨T,⟨P'.tree,fun k hk=>Nat.le_trans hle (P'.low k hk),P'.trt,Nat.le_trans hle P'.lo⟩,R⟩,hd.only ho4,D0_inv h1 h2,D0_inv h1 h2,(D0_bd most).mono (by omega),⟨_,hh⟩,?_,Nat.le_trans hle ho2.size,ho.size,Nat.le_trans hle (Nat.le_trans ho2.size (Nat.le_trans ho3.size (Nat.le_succ _)))⟩;exact hb1.trans ((zo ho2 ho).to_below hle (fun k hk=>by cases hk))
theorem IsTActs6.below {w w':World}{ad:Option Addr}{len:Nat}(h:IsTActs6 w ad len)(hb:Below w.heap.size w w'):IsTActs6 w' ad len:=by
 rcases h with h0 | ⟨ab,ao,P,h1,h2⟩
 · exact Or.inl h0
 · refine Or.inr ⟨ab,ao,P,h1,fun i hi=>?_⟩
   obtain ⟨p0,p1,p2,p3,p4,p5,p6⟩:=h2 i hi;have k:∀ (o:Nat) (u:Value),w.cell? ⟨ab,o,none⟩=some u→w'.cell? ⟨ab,o,none⟩=some u:=fun o u hc=>(hb.cell (p:=⟨ab,o,none⟩) (zv hc)).trans hc;exact ⟨k _ _ p0,k _ _ p1,k _ _ p2,k _ _ p3,k _ _ p4,k _ _ p5,p6⟩
theorem TActsAt6.below {w w':World}{ab ao len:Nat}{P:Nat→TActM}(h:TActsAt6 w ab ao len P)(hb:Below w.heap.size w w'):TActsAt6 w' ab ao len P:=fun i hi=>by
 obtain ⟨p0,p1,p2,p3,p4,p5,p6⟩:=h i hi;have k:∀ (o:Nat) (u:Value),w.cell? ⟨ab,o,none⟩=some u→w'.cell? ⟨ab,o,none⟩=some u:=fun o u hc=>(hb.cell (p:=⟨ab,o,none⟩) (zv hc)).trans hc;exact ⟨k _ _ p0,k _ _ p1,k _ _ p2,k _ _ p3,k _ _ p4,k _ _ p5,p6⟩
theorem NewT.only {w w' w'':World}{tr most:Nat}(h:NewT w w' tr most)(ho:zQ w' w''):NewT w w'' tr most:=by
 obtain ⟨T,h1,h2,h3⟩:=h;exact ⟨T,h1.only ho,h2,zo h3 ho⟩
def Good6 (W w:World)(base tr m hb j:Nat):Prop:=∃ D hl,Both W w base tr m hb D hl (4+4*j)∧hl.length≤j+1
theorem treeActs_walk (most:Int)(ad:Option Addr)(len cap:Nat)(A:Nat→Addr)(w:World)(hP:IsTActs6 w ad len)(hE:Errs w A):
  zK 3 #[zI most,.slice ad len cap] w fun e w'=>e = .returned (.bool true)∧Below w.heap.size w w':=by
 have HP:Hid (IsTActs6 w ad len):=hP;have HE:Hid (Errs w A):=hE;have hroot:=rooted_any A w hE;clear hP hE
 go_enter Tryz.func3,Tryz.ntmps3
 go_upto_region 2 with (first
  | (go_at_call 7;refine hroot.mono ?_;rintro e w1 ⟨rfl,hb1⟩;have HB1:Hid (Below w.heap.size w w1):=hb1;clear hroot hb1)
  | go_in)
 obtain ⟨b,hfit,hmu⟩:=much_any w1 ad len cap (HP.out.below HB1.out);have HMU:Hid (∀ _u:Unit,_):=fun _u=>hmu;have HFIT:Hid (b=false→FitL w1 ad len):=hfit;clear hmu hfit
 cases b with
 | true =>
  go_wp2_with (first
    | (go_at_call 8;refine (HMU.out ()).mono ?_;rintro e w2 ⟨rfl,ho2⟩;have HB2:Hid (Below w.heap.size w w2):=HB1.out.trans (ho2.to_below HB1.out.size (fun k hk=>by cases hk));clear ho2)
    | go_in)
  go_ret
  exact ⟨rfl,HB2.out⟩
 | false =>
  obtain ⟨hl30,hacts⟩:=HFIT.out rfl;have HAC:Hid (len=0∨∃ ab ao P,ad=some ⟨ab,ao,none⟩∧TActsAt6 w1 ab ao len P∧∀ i,i < len→(P i).S.size≤3000∧(P i).X.size≤3000):=hacts;clear hacts HFIT
  go_upto_region 4 with (first
    | (go_at_call 8;refine (HMU.out ()).mono ?_;rintro e w2 ⟨rfl,ho2⟩;have HB2:Hid (Below w.heap.size w w2):=HB1.out.trans (ho2.to_below HB1.out.size (fun k hk=>by cases hk));have HO2:Hid (zQ w1 w2):=ho2;clear ho2)
    | go_in)
  clear HMU
  by_cases hbad:most < 1∨300 < most
  · have hnw:=tree_bad w2 most A (HE.out.below HB2.out (Nat.le_refl _)) hbad
    have hd:(decide (most < 1) || decide (300 < most))=true:=by rcases hbad with h | h<;>simp [h]
    rcases hbad with h1 | h1
    all_goals go_wp2_with (first
      | (go_at_call 9;refine hnw.mono ?_;rintro e w3 ⟨rfl,ho3⟩;have HB3:Hid (Below w.heap.size w w3):=HB2.out.trans (ho3.to_below HB2.out.size (fun k hk=>by cases hk));have hco:=coded_is (A:=A) (w:=w3) (HE.out.below HB3.out (Nat.le_refl _)) (c:=2) (by decide);clear ho3 hnw)
      | (go_at_call 10;refine hco.mono ?_;rintro e w4 ⟨rfl,ho4⟩;have HB4:Hid (Below w.heap.size w w4):=HB3.out.trans (ho4.to_below HB3.out.size (fun k hk=>by cases hk));clear ho4)
      | go_in)
    all_goals go_ret
    all_goals exact ⟨rfl,HB4.out⟩
  · obtain ⟨k,rfl⟩:=Int.eq_ofNat_of_zero_le (show 0≤most by omega)
    have hk1:1≤k:=by omega
    have hk2:k≤300:=by omega
    have d1:decide ((k:Int) < 1)=false:=decide_eq_false (by omega);have d2:decide (300 < (k:Int))=false:=decide_eq_false (by omega);have hnw:=new_tree w2 k hk1 hk2;clear hbad
    go_upto_region 9 with (first
      | (go_at_call 9;refine hnw.mono ?_;rintro e w3 ⟨tr,rfl,hn3⟩;have HN3:Hid (NewT w2 w3 tr k):=hn3;have hrt:=root_any w3 (zP tr);clear hn3 hnw)
      | (go_at_call 11;refine hrt.mono ?_;rintro e w4 ⟨rfl,ho4⟩;have HO4:Hid (zQ w3 w4):=ho4;clear ho4)
      | go_in)
    clear hrt d1 d2;have hdn:=dnew_any w4 k hk1 hk2
    go_upto_region 10 with (first
      | (go_at_call 12;refine hdn.mono ?_;rintro e w5 ⟨m,rfl,hm5,hd5,ho5⟩;have HB5:Hid (Both w ((w5.alloc (zH 0 0)).alloc (.cells #[.slice (some ⟨w5.heap.size,0,none⟩) 1 1] 39)) w4.heap.size tr m (w5.heap.size+1) (D0 k) [(0,0)] 4):=both_start HB2.out (HN3.out.only HO4.out) hd5 ho5 hk1 hk2;clear hd5 ho5 hm5 hdn)
      | go_in)
    clear HN3 HO4
    go_upto_region 11 with fail
    generalize ((w5.alloc (zH 0 0)).alloc (.cells #[.slice (some ⟨w5.heap.size,0,none⟩) 1 1] 39))=w6 at HB5 ⊢;generalize w5.heap.size+1=hb at HB5 ⊢;generalize w4.heap.size=base at HB5
    have HAW:Hid (len=0∨∃ ab ao P,ad=some ⟨ab,ao,none⟩∧(∀ W1,Below w.heap.size w W1→TActsAt6 W1 ab ao len P)∧∀ i,i < len→(P i).X.size≤3000):=by
      rcases HP.out with h0 | ⟨ab,ao,P,h1,h2⟩
      · exact Or.inl h0
      · rcases HAC.out with h0 | ⟨ab',ao',P',h1',h2',h3'⟩
        · exact Or.inl h0
        · rw [h1] at h1'
          cases h1'
          refine Or.inr ⟨ab,ao,P,h1,fun W1 hW=>?_,fun i hi=>?_⟩
          · rcases IsTActs6.below (Or.inr ⟨ab,ao,P,h1,h2⟩:IsTActs6 w ad len) hW with h0 | ⟨ab2,ao2,P2,q1,q2⟩
            · intro i hi;omega
            · exact TActsAt6.below h2 hW
          · have e1:=(TActsAt6.below h2 HB1.out i hi).2.2.2.2.1
            have e2:=(h2' i hi).2.2.2.2.1;rw [e1] at e2;have e3:(P i).X=(P' i).X:=Value.string.inj (Option.some.inj e2);rw [e3];exact (h3' i hi).2
    clear HAC HB1 HB2 HO2 HP
    go_wp2
    go_loopw [10] (fun i wr=>∃ j:Nat,j≤len∧i=zI j∧Good6 w wr base tr m hb j) (fun i _=>len - (intOf i).toNat)
    case atStart=>exact ⟨0,Nat.zero_le _,rfl,D0 k,_,HB5.out,Nat.le_refl _⟩
    case round =>
      obtain ⟨j,hj,rfl,D,hl,hB,hhl⟩:=hrel;have HBO:Hid (Both w wr base tr m hb D hl (4+4*j)):=hB;clear hB HB5
      by_cases hlt:j < len
      · have hj2:(j:Int) < len:=by omega
        rcases HAW.out with h0 | ⟨ab,ao,P,hadx,hPP,hXX⟩
        · omega
        subst hadx;obtain ⟨c0,c1,c2,c3,c4,c5,hok⟩:=hPP wr HBO.out.below j hlt;have hX3:=hXX j hlt;have hdo:=do_any w wr base tr m hb D hl (4+4*j) A (P j) (by omega) hok.n1 hok.n2 (by omega) HBO.out HE.out (by omega);have hok1:=hok.n1;generalize P j=a at c0 c1 c2 c3 c4 c5 hdo;clear hPP hXX hok hX3 hok1
        go_upto_region 15 with (first
          | (go_at_call 13;refine hdo.mono ?_;rintro e w7 ⟨c,D7,hl7,rfl,hc,hb7,hn7⟩;have HB7:Hid (Both w w7 base tr m hb D7 hl7 (4+4*(j+1))):=hb7;have hco:=coded_is (A:=A) (w:=w7) (hb7.errs HE.out) hc;clear hb7)
          | go_in)
        clear hdo c0 c1 c2 c3 c4 c5 HBO
        go_wp2_with (first
          | (go_at_call 10;refine hco.mono ?_;rintro e w8 ⟨rfl,ho8⟩;have HB8:Hid (Both w w8 base tr m hb D7 hl7 (4+4*(j+1))):=Pair6.only HB7.out ho8;have hsa:=same_any w w8 base tr m hb D7 hl7 (4+4*(j+1)) A HB8.out HE.out (by omega) (by omega);clear ho8)
          | (go_at_call 14;refine hsa.mono ?_;rintro e w9 ⟨rfl,ho9⟩;have HB9:Hid (Both w w9 base tr m hb D7 hl7 (4+4*(j+1))):=Pair6.only HB8.out ho9;clear ho9)
          | go_in)
        all_goals go_roundw
        all_goals first
          | exact ⟨j+1,by omega,by go_num,D7,hl7,HB9.out,by omega⟩
          | exact ⟨j+1,by omega,by go_num,D7,hl7,HB8.out,by omega⟩
          | (simp [intOf];omega)
      · obtain rfl:len=j:=by omega
        have hsa:=same_any w wr base tr m hb D hl (4+4*len) A HBO.out HE.out (by omega) (by omega)
        go_wp2_with (first
          | (go_at_call 14;refine hsa.mono ?_;rintro e w9 ⟨rfl,ho9⟩;have HB9:Hid (Both w w9 base tr m hb D hl (4+4*len)):=Pair6.only HBO.out ho9;clear ho9)
          | go_in)
        go_ret
        exact ⟨rfl,HB9.out.below⟩
end
end Go.Proofs.YtooblpbmcnmicaaGreatDoor
