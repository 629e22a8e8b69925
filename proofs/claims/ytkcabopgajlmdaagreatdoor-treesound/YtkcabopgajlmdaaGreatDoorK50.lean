import Derived.Test.YtkcabopgajlmdaaGreatDoorK49
set_option maxRecDepth 100000
set_option maxHeartbeats 8000000
namespace Go.Proofs.YtkcabopgajlmdaaGreatDoor
section
open Go Go.RowKit Go.Deep Go.Maps
def GoodN (W w:World)(base tr m hb j:Nat):Prop:=∃ D hl,Both W w base tr m hb D hl (4+4*j)∧hl.length≤j+1∧NoPin D
theorem D0_np (k:Nat):NoPin (D0 k):=fun x hx=>by
 rw [List.mem_singleton.1 hx]
theorem HandO.cells {w:World}{base n cap:Nat}{ad:Option Addr}{l:List (Nat×Nat)}(h:HandO w base (.slice ad n cap) l):∃ o:Nat,∀ w',Only [] w w'→∀ (j:Nat) (a:Nat×Nat),l[j]?=some a→∃ g,ad=some ⟨g,o,none⟩∧w'.cell? ⟨g,o+j*2,none⟩=some (.int .i64 (a.1:Nat))∧w'.cell? ⟨g,o+j*2+1,none⟩=some (.int .i64 (a.2:Nat)):=by
 refine ⟨0,fun w' ho j a ha=>?_⟩;have h1:=h.only ho;rcases h.2 with ⟨_,hz⟩ | ⟨g,cap',cur,e,_⟩
 · rw [List.eq_nil_of_length_eq_zero hz] at ha
   cases ha
 · cases e
   have hj:j < l.length:=(List.getElem?_eq_some_iff.1 ha).1;have hr:=h1;unfold HandO at hr
   have k:∀ r,r < 2→w'.cell? ⟨g,0+j*2+r,none⟩=(hC a)[r]?:=fun r hr2=>by
    rw [Nat.zero_add,World.ownsRow.cellAt hr _ (by omega),rowOf_get hC_len l j r a hr2 ha]
   exact ⟨g,rfl,k 0 (by decide),k 1 (by decide)⟩
theorem bel_node {D:Dt}(I:DInv D){x0:Dn}(h0:x0∈D.L)(h0i:x0.i=0)(h0K:x0.K=2){a:Nat×Nat}(ha:a∈bel D D.L.length x0):∃ y∈D.L,y.i=a.1∧y.c=a.2∧y.i≠0:=by
 have h1:=mem_sm.1 ha;obtain ⟨i,c⟩:=a;rw [bel_is I h0 h0i h0K i c,Dt.cnt,cntL_sm] at h1
 by_cases hex:∃ x∈D.L,(x.es.filter (·.to i c)).length≠0
 · obtain ⟨x,hx,hne⟩:=hex
   obtain ⟨e,he,hei,hec⟩:=len_pos hne;obtain ⟨hz,⟨y,hy,q1,q2⟩,_⟩:=I.live x hx e he;exact ⟨y,hy,q1.trans hei,q2.trans hec,by rw [q1];exact hz⟩
 · exact absurd (sm_zero fun x hx=>Classical.byContradiction fun hne=>hex ⟨x,hx,hne⟩) h1
theorem sm_take {l:List (Nat×Nat)}{q:Nat}{b:Nat×Nat}(h:l[q]?=some b)(a:Nat×Nat):sm (fun h=>ind (h==a)) (l.take (q+1))=sm (fun h=>ind (h==a)) (l.take q)+ind (b==a):=by
 rw [take_next h,sm_append];rfl
theorem con_take {l:List (Nat×Nat)}{q:Nat}{b:Nat×Nat}(h:l[q]?=some b)(a:Nat×Nat):(l.take (q+1)).contains a=((l.take q).contains a || a==b):=by
 rw [take_next h]
 by_cases e:a=b
 · subst e
   simp
 · simp [e]
def frst (l:List (Nat×Nat))(j q:Nat)(a:Nat×Nat):Bool:=!(l.take (min q j)).contains a
theorem frst_eq {l:List (Nat×Nat)}{j q:Nat}{a:Nat×Nat}(h:l[q]?=some a)(hq:q < j):frst l j (q+1) a=false:=by
 unfold frst;rw [Nat.min_eq_left (by omega),con_take h];simp
theorem frst_ge {l:List (Nat×Nat)}{j q:Nat}{a:Nat×Nat}(hq:¬ q < j):frst l j (q+1) a=frst l j q a:=by
 unfold frst;rw [Nat.min_eq_right (by omega),Nat.min_eq_right (by omega)]
theorem frst_ne {l:List (Nat×Nat)}{j q:Nat}{a b:Nat×Nat}(h:l[q]?=some b)(hne:b≠a):frst l j (q+1) a=frst l j q a:=by
 by_cases hq:q < j
 · unfold frst
   rw [Nat.min_eq_left (by omega),Nat.min_eq_left (by omega),con_take h,beq_eq_false_iff_ne.2 (Ne.symm hne),Bool.or_false]
 · exact frst_ge hq
theorem nub_next {l:List (Nat×Nat)}{j:Nat}{a:Nat×Nat}(h:l[j]?=some a):(nubJ l (j+1)).length=(nubJ l j).length+(if frst l j l.length a then 1 else 0):=by
 have hj:j < l.length:=(List.getElem?_eq_some_iff.1 h).1;unfold frst;rw [Nat.min_eq_right (by omega)];rw [nubJ];simp only [h]
 cases (l.take j).contains a<;>simp
theorem treeSound_walk (ad:Option Addr)(len cap:Nat)(A:Nat→Addr)(w:World)(hP:IsTActs6 w ad len)(hE:Errs w A):
  Calls Tryz.prog 4 #[.slice ad len cap] w fun e w'=>e = .returned (.bool true)∧Below w.heap.size w w':=by
 have HP:Hid (IsTActs6 w ad len):=hP;have HE:Hid (Errs w A):=hE;have hroot:=rooted_any A w hE;clear hP hE
 go_enter Tryz.func4,Tryz.ntmps4
 go_upto_region 2 with (first
  | (go_at_call 5;refine hroot.mono ?_;rintro e w1 ⟨rfl,hb1⟩;have HB1:Hid (Below w.heap.size w w1):=hb1;clear hroot hb1)
  | go_in)
 obtain ⟨b,hfit,hmu⟩:=much_any w1 ad len cap (HP.out.below HB1.out);have HMU:Hid (∀ _u:Unit,_):=fun _u=>hmu;have HFIT:Hid (b=false→FitL w1 ad len):=hfit;clear hmu hfit
 cases b with
 | true =>
  go_wp2_with (first
    | (go_at_call 6;refine (HMU.out ()).mono ?_;rintro e w2 ⟨rfl,ho2⟩;have HB2:Hid (Below w.heap.size w w2):=HB1.out.trans (ho2.to_below HB1.out.size (fun k hk=>by cases hk));clear ho2)
    | go_in)
  go_ret
  exact ⟨rfl,HB2.out⟩
 | false =>
  · skip
    obtain ⟨hl30,hacts⟩:=HFIT.out rfl;have HAC:Hid (len=0∨∃ ab ao P,ad=some ⟨ab,ao,none⟩∧TActsAt6 w1 ab ao len P∧∀ i,i < len→(P i).S.size≤3000∧(P i).X.size≤3000):=hacts;clear hacts HFIT
    go_upto_region 4 with (first
      | (go_at_call 6;refine (HMU.out ()).mono ?_;rintro e w2 ⟨rfl,ho2⟩;have HB2:Hid (Below w.heap.size w w2):=HB1.out.trans (ho2.to_below HB1.out.size (fun k hk=>by cases hk));have HO2:Hid (Only [] w1 w2):=ho2;clear ho2)
      | go_in)
    clear HMU;have hnw:=new_tree w2 20 (by decide) (by decide)
    go_upto_region 7 with (first
      | (go_at_call 7;refine hnw.mono ?_;rintro e w4 ⟨tr,rfl,hn3⟩;have HN3:Hid (NewT w2 w4 tr 20):=hn3;clear hn3 hnw)
      | go_in)
    have hdn:=dnew_any w4 20 (by decide) (by decide)
    go_upto_region 8 with (first
      | (go_at_call 8;refine hdn.mono ?_;rintro e w5 ⟨m,rfl,hm5,hd5,ho5⟩;have HB5:Hid (Both w ((w5.alloc (.cells #[.int .i64 0,.int .i64 0] 35)).alloc (.cells #[.slice (some ⟨w5.heap.size,0,none⟩) 1 1] 38)) w4.heap.size tr m (w5.heap.size+1) (D0 20) [(0,0)] 4):=both_start HB2.out HN3.out hd5 ho5 (by decide) (by decide);clear hd5 ho5 hm5 hdn)
      | go_in)
    clear HN3
    go_upto_region 9 with fail
    generalize ((w5.alloc (.cells #[.int .i64 0,.int .i64 0] 35)).alloc (.cells #[.slice (some ⟨w5.heap.size,0,none⟩) 1 1] 38))=w6 at HB5 ⊢;generalize w5.heap.size+1=hb at HB5 ⊢;generalize w4.heap.size=base at HB5
    have HAW:Hid (len=0∨∃ ab ao P,ad=some ⟨ab,ao,none⟩∧(∀ W1,Below w.heap.size w W1→TActsAt6 W1 ab ao len P)∧∀ i,i < len→(P i).X.size≤3000):=by
      rcases HP.out with h0 | ⟨ab,ao,P,h1,h2⟩
      · exact Or.inl h0
      · rcases HAC.out with h0 | ⟨ab',ao',P',h1',h2',h3'⟩
        · exact Or.inl h0
        · rw [h1] at h1'
          cases h1'
          refine Or.inr ⟨ab,ao,P,h1,fun W1 hW=>?_,fun i hi=>?_⟩
          · rcases IsTActs6.below (Or.inr ⟨ab,ao,P,h1,h2⟩:IsTActs6 w ad len) hW with h0 | ⟨ab2,ao2,P2,q1,q2⟩
            · intro i hi;omega
            · exact TActsAt6.below h2 hW
          · have e1:=(TActsAt6.below h2 HB1.out i hi).2.2.2.2.1
            have e2:=(h2' i hi).2.2.2.2.1;rw [e1] at e2;have e3:(P i).X=(P' i).X:=Value.string.inj (Option.some.inj e2);rw [e3];exact (h3' i hi).2
    clear HAC HB1 HB2 HO2 HP
    go_wp2
    go_loopw [8] (fun i wr=>∃ j:Nat,j≤len∧i = .int .i64 (j:Nat)∧GoodN w wr base tr m hb j) (fun i _=>len - (intOf i).toNat)
    case atStart=>exact ⟨0,Nat.zero_le _,rfl,D0 20,_,HB5.out,Nat.le_refl _,D0_np _⟩
    case round =>
      obtain ⟨j,hj,rfl,D,hl,hB,hhl,hnp⟩:=hrel;have HNP:Hid (NoPin D):=hnp;clear hnp;have HBO:Hid (Both w wr base tr m hb D hl (4+4*j)):=hB;clear hB HB5
      by_cases hlt:j < len
      · have hj2:(j:Int) < len:=by omega
        rcases HAW.out with h0 | ⟨ab,ao,P,hadx,hPP,hXX⟩
        · omega
        subst hadx;obtain ⟨c0,c1,c2,c3,c4,c5,hok⟩:=hPP wr HBO.out.below j hlt;have hX3:=hXX j hlt;have hdo:=do_any w wr base tr m hb D hl (4+4*j) A (P j) (by omega) hok.n1 hok.n2 (by omega) HBO.out HE.out (by omega);generalize P j=a at c0 c1 c2 c3 c4 c5 hdo;clear hPP hXX hok hX3
        cases n7:(a.K.toList==[112,105,110]) with
        | true =>
          go_wp2
          go_roundw
          case rel=>exact ⟨j+1,by omega,by go_num,D,hl,Pair6.more HBO.out (by omega),by omega,HNP.out⟩
          case measure=>simp [intOf];omega
        | false =>
          go_wp2_with (first
            | (go_at_call 9;refine hdo.mono ?_;rintro e w7 ⟨c,D7,hl7,rfl,hc,hb7,hn7,hnq⟩;have HB7:Hid (Both w w7 base tr m hb D7 hl7 (4+4*(j+1))):=hb7;have HN7:Hid (NoPin D7):=hnq n7 HNP.out;clear hb7 hnq)
            | go_in)
          all_goals go_roundw
          all_goals first
            | exact ⟨j+1,by omega,by go_num,D7,hl7,HB7.out,by omega,HN7.out⟩
            | (simp [intOf];omega)
      · obtain rfl:len=j:=by omega
        have hbd:4+4*len≤200:=by omega
        generalize 4+4*len=BB at HBO hbd;clear HAW hhl;have HON:Hid (One6 w wr tr D BB):=Pair6.one HBO.out;obtain ⟨x0,h0,h0i,h0c,h0K⟩:=HBO.out.I.root;obtain ⟨r,hr⟩:=HBO.out.I.rank;have HI:Hid (DInv D):=HBO.out.I;have HX0:Hid (x0∈D.L∧x0.i=0∧x0.K=2):=⟨h0,h0i,h0K⟩
        have hl300:D.L.length≤300:=by
          have:=nos_len HI.out.nos (fun x hx=>(HI.out.lt x hx).1);have:=HI.out.most;omega
        have HBE:Hid (∀ W1,Only [] wr W1→Calls Tryz.prog 20 #[.pointer (some ⟨tr,0,none⟩),.agg #[.int .i64 0,.int .i64 0],.int .i64 0] W1 fun e w'=>∃ v,e = .returned (.tuple #[v,.bool true])∧HandO w' W1.heap.size v (bel D D.L.length x0)∧Only [] W1 w'):=fun W1 ho=>by
          have hh:=below_any HON.out HE.out hr D.L.length x0 h0 h0K (Enough.root D r x0) 0 (by omega) W1 ho;rw [h0i,h0c] at hh;exact hh
        have hbm:(bel D D.L.length x0).length≤18000:=bel_most HI.out h0 h0K hr (Enough.root D r x0);have HLEN:Hid (1+(nubJ (bel D D.L.length x0) (bel D D.L.length x0).length).length=D.L.length):=nub_len HI.out HNP.out h0 h0i h0K;have HCNT:Hid (∀ i c,sm (fun h=>ind (h==(i,c))) (bel D D.L.length x0)=D.cnt i c):=bel_is HI.out h0 h0i h0K;have HNOD:Hid (∀ a∈bel D D.L.length x0,∃ y∈D.L,y.i=a.1∧y.c=a.2∧y.i≠0):=fun a ha=>bel_node HI.out h0 h0i h0K ha;have hro:=root_any wr (.pointer (some ⟨tr,0,none⟩));obtain ⟨bl,hblE⟩:∃ bl,bel D D.L.length x0=bl:=⟨_,rfl⟩;rw [hblE] at HBE hbm HLEN HCNT HNOD;clear hblE h0 h0i h0c h0K hr HBO HNP
        go_upto_region 17 with (first
          | (go_at_call 21;refine hro.mono ?_;rintro e w1 ⟨rfl,ho1⟩;have HO1:Hid (Only [] wr w1):=ho1;have hbe:=HBE.out _ ho1;clear ho1 hro)
          | (go_at_call 20;refine hbe.mono ?_;rintro e w2 ⟨v2,rfl,hv2,ho2⟩;have HV2:Hid (HandO w2 w1.heap.size v2 bl):=hv2;have HO2:Hid (Only [] wr w2):=zo HO1.out ho2;clear ho2 hv2 hbe)
          | go_in)
        obtain ⟨adv,capv,rfl⟩:=HV2.out.form;obtain ⟨o,hcl⟩:=HV2.out.cells;have HCL:Hid (∀ w',Only [] w2 w'→∀ (j:Nat) (a:Nat×Nat),bl[j]?=some a→∃ g,adv=some ⟨g,o,none⟩∧w'.cell? ⟨g,o+j*2,none⟩=some (.int .i64 (a.1:Nat))∧w'.cell? ⟨g,o+j*2+1,none⟩=some (.int .i64 (a.2:Nat))):=hcl;clear hcl HV2 HBE HO1;have HON2:Hid (One6 w w2 tr D BB):=HON.out.only HO2.out;clear HON HO2;obtain ⟨bn,hbn⟩:∃ bn,bl.length=bn:=⟨_,rfl⟩;have HBN:Hid (bl.length=bn):=hbn;rw [hbn] at hbm HLEN ⊢;clear hbn
        go_wp2
        go_loopw [10,11] (fun mny i wr=>∃ (j mm:Nat),j≤bn∧i = .int .i64 (j:Nat)∧mny = .int .i64 (mm:Nat)∧mm≤j+1∧mm=1+(nubJ bl j).length∧Only [] w2 wr) (fun _ i _=>bn - (intOf i).toNat)
        case atStart=>exact ⟨0,1,Nat.zero_le _,rfl,rfl,by omega,rfl,Only.refl _ _⟩
        case round =>
          obtain ⟨j,mm,hj,rfl,rfl,hmm,hmn,ho3⟩:=hrel;have HMN:Hid (mm=1+(nubJ bl j).length):=hmn;have HO3:Hid (Only [] w2 wr):=ho3;clear hmn ho3
          by_cases hlt:j < bn
          · have hj2:(j:Int) < bn:=by omega
            obtain ⟨a,haj⟩:∃ a,bl[j]?=some a:=⟨_,List.getElem?_eq_getElem (by have:=HBN.out;omega)⟩;have HAJ:Hid (bl[j]?=some a):=haj;obtain ⟨y,hy,hyi,hyc,hy0⟩:=HNOD.out a (List.mem_of_getElem? haj);have HY:Hid (y∈D.L∧y.i≠0):=⟨hy,hy0⟩;obtain rfl:a=(y.i,y.c):=Prod.ext hyi.symm hyc.symm;obtain ⟨g,rfl,_,_⟩:=HCL.out _ HO3.out j _ haj
            have HCA:Hid (∀ W1,Only [] w2 W1→W1.cell? ⟨g,o+j*2,none⟩=some (.int .i64 (y.i:Nat))∧W1.cell? ⟨g,o+j*2+1,none⟩=some (.int .i64 (y.c:Nat))):=fun W1 ho=>by
              obtain ⟨g',e,h1,h2⟩:=HCL.out W1 ho j _ HAJ.out
              cases e
              exact ⟨h1,h2⟩
            have HCQ:Hid (∀ W1,Only [] w2 W1→∀ (q:Nat) (b:Nat×Nat),bl[q]?=some b→W1.cell? ⟨g,o+q*2,none⟩=some (.int .i64 (b.1:Nat))∧W1.cell? ⟨g,o+q*2+1,none⟩=some (.int .i64 (b.2:Nat))):=fun W1 ho q b hb=>by
              obtain ⟨g',e,h1,h2⟩:=HCL.out W1 ho q _ hb
              cases e
              exact ⟨h1,h2⟩
            clear hy hyi hyc hy0 haj
            go_wp2
            go_loopw [12,13,14] (fun n f k wr=>∃ (q c:Nat),q≤bn∧k = .int .i64 (q:Nat)∧n = .int .i64 (c:Nat)∧c≤q∧c=sm (fun h=>ind (h==(y.i,y.c))) (bl.take q)∧f = .bool (frst bl j q (y.i,y.c))∧Only [] w2 wr) (fun _ _ k _=>bn - (intOf k).toNat)
            case atStart=>exact ⟨0,0,Nat.zero_le _,rfl,rfl,Nat.le_refl _,rfl,by unfold frst;simp,HO3.out⟩
            case round =>
              obtain ⟨q,c,hq,rfl,rfl,hcq,hcs,rfl,ho4⟩:=hrel;have HCS:Hid (c=sm (fun h=>ind (h==(y.i,y.c))) (bl.take q)):=hcs;have HO4:Hid (Only [] w2 wr):=ho4;clear hcs ho4
              by_cases hqlt:q < bn
              · have hq2:(q:Int) < bn:=by omega
                obtain ⟨⟨bi,bc⟩,hbq⟩:∃ b,bl[q]?=some b:=⟨_,List.getElem?_eq_getElem (by have:=HBN.out;omega)⟩;have HBQ:Hid (bl[q]?=some (bi,bc)):=hbq;obtain ⟨p0,p1⟩:=HCQ.out wr HO4.out q _ hbq;obtain ⟨a0,a1⟩:=HCA.out wr HO4.out;have p0:wr.cell? ⟨g,o+q*2,none⟩=some (.int .i64 (bi:Nat)):=p0;have p1:wr.cell? ⟨g,o+q*2+1,none⟩=some (.int .i64 (bc:Nat)):=p1;clear hbq
                by_cases hbe:(bi,bc)=(y.i,y.c)
                · obtain ⟨rfl,rfl⟩:=Prod.mk.inj hbe
                  by_cases hqj:q < j
                  · have hqj2:(q:Int) < j:=by omega
                    go_upto_region 26 with fail
                    go_region
                    all_goals go_wp2
                    all_goals go_roundw
                    all_goals first
                      | exact ⟨q+1,c+1,by omega,by go_num,by go_num,by omega,by rw [sm_take HBQ.out,← HCS.out];simp [ind],by rw [frst_eq HBQ.out hqj],HO4.out.drew⟩
                      | (simp [intOf];omega)
                  · have hqj2:¬ (q:Int) < j:=by omega
                    go_upto_region 26 with fail
                    go_region
                    all_goals go_wp2
                    all_goals go_roundw
                    all_goals first
                      | exact ⟨q+1,c+1,by omega,by go_num,by go_num,by omega,by rw [sm_take HBQ.out,← HCS.out];simp [ind],by rw [frst_ge hqj],HO4.out.drew⟩
                      | (simp [intOf];omega)
                · have HDD:Hid (ind ((bi,bc)==(y.i,y.c))=0):=(by show ind _=0;rw [beq_eq_false_iff_ne.2 hbe];rfl)
                  by_cases h1:bi=y.i
                  · have k1:((bi:Nat):Int)=(y.i:Nat):=by omega
                    have k2:¬ ((bc:Nat):Int)=(y.c:Nat):=fun h2=>hbe (Prod.ext h1 (by show bc=y.c;omega))
                    go_upto_region 26 with fail
                    go_region
                    all_goals go_wp2
                    all_goals go_roundw
                    all_goals first
                      | exact ⟨q+1,c,by omega,by go_num,rfl,by omega,by rw [sm_take HBQ.out,HDD.out,← HCS.out,Nat.add_zero],by rw [frst_ne HBQ.out hbe],HO4.out.drew⟩
                      | (simp [intOf];omega)
                  · have k1:¬ ((bi:Nat):Int)=(y.i:Nat):=by omega
                    go_upto_region 26 with fail
                    go_region
                    all_goals go_wp2
                    all_goals go_roundw
                    all_goals first
                      | exact ⟨q+1,c,by omega,by go_num,rfl,by omega,by rw [sm_take HBQ.out,HDD.out,← HCS.out,Nat.add_zero],by rw [frst_ne HBQ.out hbe],HO4.out.drew⟩
                      | (simp [intOf];omega)
              · obtain rfl:q=bn:=by omega
                have hct:c=D.cnt y.i y.c:=by
                  have:=HCS.out;rw [← HBN.out,List.take_length,HCNT.out] at this;exact this
                obtain ⟨a0,a1⟩:=HCA.out wr HO4.out;obtain ⟨aZ,aC,aN,aG,_,hat⟩:=HON2.out.attr HE.out HY.out.1;have hat:=hat wr HO4.out;have hkind:=HI.out.kind y HY.out.1
                have hlk:y.K=1→((D.links y:Nat):Int)=(c:Nat):=fun hK=>by
                  rw [hct];unfold Dt.links;rw [if_neg (by omega)]
                have hdir:y.K=2→c=1:=fun hK=>hct.trans (HI.out.dirs y HY.out.1 hK HY.out.2);generalize y.K=aK at hat hkind hlk hdir;generalize ((D.links y:Nat):Int)=aL at hat hlk;have HNX:Hid ((nubJ bl (j+1)).length=(nubJ bl j).length+(if frst bl j q (y.i,y.c) then 1 else 0)):=(by have:=nub_next HAJ.out;rw [HBN.out] at this;exact this);clear hct
                go_upto_region 31 with (first
                  | (go_at_call 22;refine hat.mono ?_;rintro e5 w5 ⟨rfl,ho5⟩;have HO5:Hid (Only [] w2 (w5.alloc (.cells #[.int .i64 aK,.int .i64 aZ,.int .i64 aL,.int .i64 aC,.int .i64 aN,.int .i64 aG] 65))):=(zo HO4.out ho5).alloc _;clear ho5 hat)
                  | go_in)
                have HA5:Hid (BoxAt (w5.alloc (.cells #[.int .i64 aK,.int .i64 aZ,.int .i64 aL,.int .i64 aC,.int .i64 aN,.int .i64 aG] 65)) w5.heap.size #[.int .i64 aK,.int .i64 aZ,.int .i64 aL,.int .i64 aC,.int .i64 aN,.int .i64 aG] 65):=new_box w5 _ _;clear a0 a1;generalize w5.alloc (.cells #[.int .i64 aK,.int .i64 aZ,.int .i64 aL,.int .i64 aC,.int .i64 aN,.int .i64 aG] 65)=w6 at HO5 HA5 ⊢;generalize w5.heap.size=b15 at HA5 ⊢;have q0:=HA5.out.cell 0 _ rfl;have q2:=HA5.out.cell 2 _ rfl
                cases hfr:frst bl j q (y.i,y.c) with
                | true =>
                  rcases hkind with ⟨rfl,_⟩ | ⟨rfl,_⟩
                  · have:=hlk rfl
                    subst this
                    go_wp2
                    go_roundw
                    case rel=>exact ⟨j+1,mm+1,by omega,by go_num,by go_num,by omega,by rw [HNX.out,hfr,HMN.out];rfl,HO5.out⟩
                    case measure=>simp [intOf];omega
                  · have:=hdir rfl
                    subst this
                    go_wp2
                    go_roundw
                    case rel=>exact ⟨j+1,mm+1,by omega,by go_num,by go_num,by omega,by rw [HNX.out,hfr,HMN.out];rfl,HO5.out⟩
                    case measure=>simp [intOf];omega
                | false =>
                  rcases hkind with ⟨rfl,_⟩ | ⟨rfl,_⟩
                  · have:=hlk rfl
                    subst this
                    go_wp2
                    go_roundw
                    case rel=>exact ⟨j+1,mm,by omega,by go_num,rfl,by omega,by rw [HNX.out,hfr,HMN.out];rfl,HO5.out⟩
                    case measure=>simp [intOf];omega
                  · have:=hdir rfl
                    subst this
                    go_wp2
                    go_roundw
                    case rel=>exact ⟨j+1,mm,by omega,by go_num,rfl,by omega,by rw [HNX.out,hfr,HMN.out];rfl,HO5.out⟩
                    case measure=>simp [intOf];omega
          · obtain rfl:bn=j:=by omega
            obtain ⟨_,hno⟩:=HON2.out.nodes;have hno:=hno wr HO3.out;have e1:mm=D.L.length:=HMN.out.trans HLEN.out;rw [← e1] at hno
            go_wp2_with (first
              | (go_at_call 23;refine hno.mono ?_;rintro e w9 ⟨rfl,ho9⟩;have HZ:Hid (One6 w w9 tr D BB):=HON2.out.only (zo HO3.out ho9);clear ho9 hno)
              | go_in)
            go_ret
            exact ⟨rfl,HZ.out.below⟩
end
end Go.Proofs.YtkcabopgajlmdaaGreatDoor
