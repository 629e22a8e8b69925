import Derived.Test.YtkcabopgajlmdaaGreatDoorK50
set_option maxRecDepth 100000
set_option maxHeartbeats 8000000
namespace Go.Proofs.YtkcabopgajlmdaaGreatDoor
section
open Go Go.RowKit Go.Deep Go.Maps
def FBox (w:World)(B:Nat)(c a:Int):Prop:=w.heap[B]?=some (.cells #[.int .i64 c,.int .i64 a] 56 (0,0))
theorem FBox.cells {w:World}{B:Nat}{c a:Int}(h:FBox w B c a):w.cell? ⟨B,0,none⟩=some (.int .i64 c)∧w.cell? ⟨B,1,none⟩=some (.int .i64 a):=⟨cell_of_row _ _ 0 _ _ _ h,cell_of_row _ _ 1 _ _ _ h⟩
theorem FBox.kept {w w':World}{B:Nat}{c a:Int}{L:List Nat}(h:FBox w B c a)(ho:Only L w w')(hn:B∉L):FBox w' B c a:=(ho.block B (Array.getElem?_eq_some_iff.1 h).1 hn).trans h
theorem FBox.lt {w:World}{B:Nat}{c a:Int}(h:FBox w B c a):B < w.heap.size:=(Array.getElem?_eq_some_iff.1 h).1
theorem FBox.fill {w:World}{B:Nat}{c a:Int}(h:FBox w B c a)(j d:Int):FBox ((w.setCell ⟨B,0,none⟩ (.int .i64 j)).setCell ⟨B,1,none⟩ (.int .i64 d)) B j d:=by
 have h1:=heap_setCell_same w B 0 _ _ (.int .i64 j) h;have h2:=heap_setCell_same _ B 1 _ _ (.int .i64 d) h1;unfold FBox;rw [h2];rfl
theorem FBox.other {w:World}{B b o:Nat}{c a:Int}{v:Value}(h:FBox w B c a)(hb:B≠b):FBox (w.setCell ⟨b,o,none⟩ v) B c a :=
 h.kept ((Only.refl [b] w).setCell (p:=⟨b,o,none⟩) (Or.inl (List.mem_singleton.2 rfl)) v) (by simpa using hb)
theorem FBox.frozen {w:World}{B:Nat}{c a:Int}(h:FBox w B c a)(o:Nat):w.frozen? ⟨B,o,none⟩=false:=frozen_of_row _ _ _ _ _ h
theorem Only.two {a w:World}(h:Only [] a w){b:Nat}(hb:a.heap.size≤b){v0 v1:Value}:Only [] a ((w.setCell ⟨b,0,none⟩ v0).setCell ⟨b,1,none⟩ v1):=(h.setCell (Or.inr hb) _).setCell (Or.inr hb) _
theorem cell_apart {w:World}{B i c bf:Nat}{u v:Value}{a:Int}{ad:Addr}(h:w.cell? ⟨bf,0,none⟩=some (.int .i64 a)∧w.cell? ⟨bf,1,none⟩=some (.iface 228 (.pointer (some ad))))(hb:HBox w B i c):((w.setCell ⟨B,0,none⟩ u).setCell ⟨B,1,none⟩ v).cell? ⟨bf,0,none⟩=some (.int .i64 a)∧((w.setCell ⟨B,0,none⟩ u).setCell ⟨B,1,none⟩ v).cell? ⟨bf,1,none⟩=some (.iface 228 (.pointer (some ad))):=by
 have hne:bf≠B:=fun e=>by
  subst e;have:=hb.cells.2;rw [h.2] at this
  cases this
 have k:∀ (o:Nat) (x:Value),w.cell? ⟨bf,o,none⟩=some x→((w.setCell ⟨B,0,none⟩ u).setCell ⟨B,1,none⟩ v).cell? ⟨bf,o,none⟩=some x:=fun o x hx =>
  (World.cell?_setCell_other _ _ _ _ (fun e=>hne (congrArg Addr.block e).symm)).trans ((World.cell?_setCell_other _ _ _ _ (fun e=>hne (congrArg Addr.block e).symm)).trans hx)
 exact ⟨k _ _ h.1,k _ _ h.2⟩
theorem treeLooks_walk (ad:Option Addr)(len cap:Nat)(f1:Int)(name:ByteArray)(pa:Option Addr)(pn pcap:Nat)(ck q:Int)(A:Nat→Addr)(w:World)(hP:IsTActs6 w ad len)(hE:Errs w A)(hT:IsTexts w pa pn pcap)(hk1:ck < 9223372036854775808)(hq1:q < 9223372036854775808):
  Calls Tryz.prog 3 #[.slice ad len cap,.int .i64 f1,.string name,.slice pa pn pcap,.int .i64 ck,.int .i64 q] w fun e w'=>e = .returned (.bool true)∧Below w.heap.size w w':=by
 have HP:Hid (IsTActs6 w ad len):=hP;have HE:Hid (Errs w A):=hE;have HT:Hid (IsTexts w pa pn pcap):=hT;have HKQ:Hid (ck < 9223372036854775808∧q < 9223372036854775808):=⟨hk1,hq1⟩;have hroot:=rooted_any A w hE;clear hP hE hT hk1 hq1
 go_enter Tryz.func3,Tryz.ntmps3
 go_upto_region 2 with (first
  | (go_at_call 5;refine hroot.mono ?_;rintro e w1 ⟨rfl,hb1⟩;have HB1:Hid (Below w.heap.size w w1):=hb1;clear hroot hb1)
  | go_in)
 obtain ⟨b,hfit,hmu⟩:=much_any w1 ad len cap (HP.out.below HB1.out);have HMU:Hid (∀ _u:Unit,_):=fun _u=>hmu;have HFIT:Hid (b=false→FitL w1 ad len):=hfit;clear hmu hfit
 cases b with
 | true =>
  go_wp2_with (first
    | (go_at_call 6;refine (HMU.out ()).mono ?_;rintro e w2 ⟨rfl,ho2⟩;have HB2:Hid (Below w.heap.size w w2):=HB1.out.trans (ho2.to_below HB1.out.size (fun k hk=>by cases hk));clear ho2)
    | go_in)
  go_ret
  exact ⟨rfl,HB2.out⟩
 | false =>
  by_cases hbig:100 < ((name.size:Nat):Int)
  · go_wp2_with (first
      | (go_at_call 6;refine (HMU.out ()).mono ?_;rintro e w2 ⟨rfl,ho2⟩;have HB2:Hid (Below w.heap.size w w2):=HB1.out.trans (ho2.to_below HB1.out.size (fun k hk=>by cases hk));clear ho2)
      | go_in)
    go_ret
    exact ⟨rfl,HB2.out⟩
  by_cases hpb:30 < ((pn:Nat):Int)
  · go_wp2_with (first
      | (go_at_call 6;refine (HMU.out ()).mono ?_;rintro e w2 ⟨rfl,ho2⟩;have HB2:Hid (Below w.heap.size w w2):=HB1.out.trans (ho2.to_below HB1.out.size (fun k hk=>by cases hk));clear ho2)
      | go_in)
    go_ret
    exact ⟨rfl,HB2.out⟩
  · obtain ⟨hl30,hacts⟩:=HFIT.out rfl
    have hpn:pn≤30:=by omega
    have HAC:Hid (len=0∨∃ ab ao P,ad=some ⟨ab,ao,none⟩∧TActsAt6 w1 ab ao len P∧∀ i,i < len→(P i).S.size≤3000∧(P i).X.size≤3000):=hacts;clear hacts HFIT
    go_upto_region 4 with (first
      | (go_at_call 6;refine (HMU.out ()).mono ?_;rintro e w2 ⟨rfl,ho2⟩;have HB2:Hid (Below w.heap.size w w2):=HB1.out.trans (ho2.to_below HB1.out.size (fun k hk=>by cases hk));have HO2:Hid (Only [] w1 w2):=ho2;clear ho2)
      | go_in)
    clear HMU hbig hpb;have hnw:=new_tree w2 20 (by decide) (by decide)
    go_upto_region 7 with (first
      | (go_at_call 7;refine hnw.mono ?_;rintro e w4 ⟨tr,rfl,hn3⟩;have HN3:Hid (NewT w2 w4 tr 20):=hn3;clear hn3 hnw)
      | go_in)
    have hdn:=dnew_any w4 20 (by decide) (by decide)
    go_upto_region 8 with (first
      | (go_at_call 8;refine hdn.mono ?_;rintro e w5 ⟨m,rfl,hm5,hd5,ho5⟩;have HB5:Hid (Both w ((w5.alloc (.cells #[.int .i64 0,.int .i64 0] 35)).alloc (.cells #[.slice (some ⟨w5.heap.size,0,none⟩) 1 1] 38)) w4.heap.size tr m (w5.heap.size+1) (D0 20) [(0,0)] 4):=both_start HB2.out HN3.out hd5 ho5 (by decide) (by decide);clear hd5 ho5 hm5 hdn)
      | go_in)
    clear HN3
    go_upto_region 9 with fail
    generalize ((w5.alloc (.cells #[.int .i64 0,.int .i64 0] 35)).alloc (.cells #[.slice (some ⟨w5.heap.size,0,none⟩) 1 1] 38))=w6 at HB5 ⊢;generalize w5.heap.size+1=hb at HB5 ⊢;generalize w4.heap.size=base at HB5
    have HAW:Hid (len=0∨∃ ab ao P,ad=some ⟨ab,ao,none⟩∧(∀ W1,Below w.heap.size w W1→TActsAt6 W1 ab ao len P)∧∀ i,i < len→(P i).X.size≤3000):=by
      rcases HP.out with h0 | ⟨ab,ao,P,h1,h2⟩
      · exact Or.inl h0
      · rcases HAC.out with h0 | ⟨ab',ao',P',h1',h2',h3'⟩
        · exact Or.inl h0
        · rw [h1] at h1'
          cases h1'
          refine Or.inr ⟨ab,ao,P,h1,fun W1 hW=>?_,fun i hi=>?_⟩
          · rcases IsTActs6.below (Or.inr ⟨ab,ao,P,h1,h2⟩:IsTActs6 w ad len) hW with h0 | ⟨ab2,ao2,P2,q1,q2⟩
            · intro i hi;omega
            · exact TActsAt6.below h2 hW
          · have e1:=(TActsAt6.below h2 HB1.out i hi).2.2.2.2.1
            have e2:=(h2' i hi).2.2.2.2.1;rw [e1] at e2;have e3:(P i).X=(P' i).X:=Value.string.inj (Option.some.inj e2);rw [e3];exact (h3' i hi).2
    clear HAC HB1 HB2 HO2 HP
    go_wp2
    go_loopw [18] (fun i wr=>∃ j:Nat,j≤len∧i = .int .i64 (j:Nat)∧Good6 w wr base tr m hb j) (fun i _=>len - (intOf i).toNat)
    case atStart=>exact ⟨0,Nat.zero_le _,rfl,D0 20,_,HB5.out,Nat.le_refl _⟩
    case round =>
      obtain ⟨j,hj,rfl,D,hl,hB,hhl⟩:=hrel;have HBO:Hid (Both w wr base tr m hb D hl (4+4*j)):=hB;clear hB HB5
      by_cases hlt:j < len
      · have hj2:(j:Int) < len:=by omega
        rcases HAW.out with h0 | ⟨ab,ao,P,hadx,hPP,hXX⟩
        · omega
        subst hadx;obtain ⟨c0,c1,c2,c3,c4,c5,hok⟩:=hPP wr HBO.out.below j hlt;have hX3:=hXX j hlt;have hdo:=do_any w wr base tr m hb D hl (4+4*j) A (P j) (by omega) hok.n1 hok.n2 (by omega) HBO.out HE.out (by omega);generalize P j=a at c0 c1 c2 c3 c4 c5 hdo;clear hPP hXX hok hX3
        go_wp2_with (first
          | (go_at_call 9;refine hdo.mono ?_;rintro e w7 ⟨c,D7,hl7,rfl,hc,hb7,hn7⟩;have HB7:Hid (Both w w7 base tr m hb D7 hl7 (4+4*(j+1))):=hb7;clear hb7)
          | go_in)
        all_goals go_roundw
        all_goals first
          | exact ⟨j+1,by omega,by go_num,D7,hl7,HB7.out,by omega⟩
          | (simp [intOf];omega)
      · obtain rfl:len=j:=by omega
        have hbd:4+4*len≤200:=by omega
        generalize 4+4*len=BB at HBO hbd;clear HAW hhl;obtain ⟨ps,hps,htx⟩:=HT.out.txt;have HPN:Hid (ps.length=pn):=hps;have HTX:Hid (Txt w pa pcap ps):=htx;clear hps htx HT;generalize hX1:(handOf hl f1).1=X1;generalize hX2:(handOf hl f1).2=X2;obtain ⟨v,hv⟩:=HBO.out.hands;have hA1:=hands_at wr base hb v hl f1 hv;rw [hX1,hX2] at hA1;clear hv hX1 hX2
        go_upto_region 14 with (first
          | (go_at_call 10;refine hA1.mono ?_;rintro e w1 ⟨rfl,ho1⟩;have HB1:Hid (Both w (w1.alloc (.cells #[.int .i64 X1,.int .i64 X2] 35)) base tr m hb D hl BB):=Pair6.only HBO.out (ho1.alloc _);clear ho1)
          | go_in)
        have HX1:Hid (BoxAt (w1.alloc (.cells #[.int .i64 X1,.int .i64 X2] 35)) w1.heap.size #[.int .i64 X1,.int .i64 X2] 35):=new_box w1 _ _;clear hA1 HBO;generalize w1.alloc (.cells #[.int .i64 X1,.int .i64 X2] 35)=w2 at HB1 HX1 ⊢;generalize w1.heap.size=bx at HX1 ⊢;obtain ⟨c1,i1,k1,hc1,hL1,hl1⟩:=(Pair6.one HB1.out).look HE.out X1 X2 name;have hd1:=dlook_both HB1.out (by omega) hL1;have HD1:Hid (∀ W1,Only [] w2 W1→_):=hd1;have hl1:=hl1 w2 (Only.refl _ _);clear hL1 hd1;have x0:w2.cell? ⟨bx,0,none⟩=some (.int .i64 X1):=HX1.out.cell 0 _ rfl;have x1:w2.cell? ⟨bx,1,none⟩=some (.int .i64 X2):=HX1.out.cell 1 _ rfl
        go_upto_region 15 with (first
          | (go_at_call 11;refine hl1.mono ?_;rintro e w3 ⟨rfl,ho3⟩;have HO4:Hid (Only [] w2 (w3.alloc (.cells #[.int .i64 (i1:Nat),.int .i64 (k1:Nat)] 35))):=ho3.alloc _;have HS3:Hid (w2.heap.size≤w3.heap.size):=ho3.size;clear ho3 hl1)
          | go_in)
        have HI4:Hid (BoxAt (w3.alloc (.cells #[.int .i64 (i1:Nat),.int .i64 (k1:Nat)] 35)) w3.heap.size #[.int .i64 (i1:Nat),.int .i64 (k1:Nat)] 35):=new_box w3 _ _;have HL20:Hid (w.heap.size≤w3.heap.size):=Nat.le_trans HB1.out.below.size HS3.out;clear x0 x1 HS3;generalize w3.alloc (.cells #[.int .i64 (i1:Nat),.int .i64 (k1:Nat)] 35)=w4 at HO4 HI4 ⊢;generalize w3.heap.size=b20 at HI4 HL20 ⊢;have y0:w4.cell? ⟨bx,0,none⟩=some (.int .i64 X1):=(HX1.out.only HO4.out).cell 0 _ rfl;have y1:w4.cell? ⟨bx,1,none⟩=some (.int .i64 X2):=(HX1.out.only HO4.out).cell 1 _ rfl;have hd1:=HD1.out _ HO4.out
        go_upto_region 16 with (first
          | (go_at_call 12;refine hd1.mono ?_;rintro e w5 ⟨rfl,ho5⟩;have HO6:Hid (Only [] w2 (w5.alloc (.cells #[.int .i64 (i1:Nat),.int .i64 (k1:Nat)] 35))):=(zo HO4.out ho5).alloc _;have HI6:Hid (BoxAt (w5.alloc (.cells #[.int .i64 (i1:Nat),.int .i64 (k1:Nat)] 35)) b20 #[.int .i64 (i1:Nat),.int .i64 (k1:Nat)] 35):=HI4.out.only (ho5.alloc _);clear ho5 hd1)
          | go_in)
        have HJ6:Hid (BoxAt (w5.alloc (.cells #[.int .i64 (i1:Nat),.int .i64 (k1:Nat)] 35)) w5.heap.size #[.int .i64 (i1:Nat),.int .i64 (k1:Nat)] 35):=new_box w5 _ _;clear y0 y1 HD1 HI4 HO4;generalize w5.alloc (.cells #[.int .i64 (i1:Nat),.int .i64 (k1:Nat)] 35)=w6 at HO6 HI6 HJ6 ⊢;generalize w5.heap.size=b21 at HJ6 ⊢;have hco:=coded_is (A:=A) (w:=w6) ((Pair6.one HB1.out).only HO6.out |>.errs HE.out) hc1
        go_upto_region 18 with (first
          | (go_at_call 13;refine hco.mono ?_;rintro e w7 ⟨rfl,ho7⟩;have HO7:Hid (Only [] w2 w7):=zo HO6.out ho7;have HI7:Hid (BoxAt w7 b20 #[.int .i64 (i1:Nat),.int .i64 (k1:Nat)] 35):=HI6.out.only ho7;have s0:w7.cell? ⟨b20,0,none⟩=some (.int .i64 (i1:Nat)):=HI7.out.cell 0 _ rfl;have s1:w7.cell? ⟨b20,1,none⟩=some (.int .i64 (k1:Nat)):=HI7.out.cell 1 _ rfl;have s2:w7.cell? ⟨b21,0,none⟩=some (.int .i64 (i1:Nat)):=(HJ6.out.only ho7).cell 0 _ rfl;have s3:w7.cell? ⟨b21,1,none⟩=some (.int .i64 (k1:Nat)):=(HJ6.out.only ho7).cell 1 _ rfl;clear ho7 hco)
          | go_in)
        clear s0 s1 s2 s3 HJ6 HI6 HO6 hc1;obtain ⟨l9,n9,c9,hc9,hl60,hp9,hd9⟩:=list_both HB1.out HE.out (by omega) X1 X2 HKQ.out.1 HKQ.out.2;have hp9:=hp9 w7 HO7.out;have HD9:Hid (∀ W1,Only [] w2 W1→_):=hd9;clear hd9;have x0:w7.cell? ⟨bx,0,none⟩=some (.int .i64 X1):=(HX1.out.only HO7.out).cell 0 _ rfl;have x1:w7.cell? ⟨bx,1,none⟩=some (.int .i64 X2):=(HX1.out.only HO7.out).cell 1 _ rfl
        go_upto_region 19 with (first
          | (go_at_call 14;refine hp9.mono ?_;rintro e w8 ⟨v8,rfl,hv8,ho8⟩;have HV8:Hid (EntV w8 v8 l9):=hv8;have HO8:Hid (Only [] w2 w8):=zo HO7.out ho8;have HI8:Hid (BoxAt w8 b20 #[.int .i64 (i1:Nat),.int .i64 (k1:Nat)] 35):=HI7.out.only ho8;clear ho8 hp9 hv8)
          | go_in)
        clear x0 x1 HI7 HO7;have x0:w8.cell? ⟨bx,0,none⟩=some (.int .i64 X1):=(HX1.out.only HO8.out).cell 0 _ rfl;have x1:w8.cell? ⟨bx,1,none⟩=some (.int .i64 X2):=(HX1.out.only HO8.out).cell 1 _ rfl;have hd9:=HD9.out _ HO8.out
        go_upto_region 20 with (first
          | (go_at_call 15;refine hd9.mono ?_;rintro e w9 ⟨v9,rfl,hv9,ho9⟩;have HSE:Hid (EntV w9 v8 l9∧EntV w9 v9 l9):=⟨HV8.out.only ho9,hv9⟩;have HO9:Hid (Only [] w2 w9):=zo HO8.out ho9;have HI9:Hid (BoxAt w9 b20 #[.int .i64 (i1:Nat),.int .i64 (k1:Nat)] 35):=HI8.out.only ho9;clear ho9 hd9 hv9)
          | go_in)
        clear x0 x1 HI8 HO8 HV8 HD9;have hco:=coded_is (A:=A) (w:=w9) ((Pair6.one HB1.out).only HO9.out |>.errs HE.out) hc9
        go_upto_region 22 with (first
          | (go_at_call 13;refine hco.mono ?_;rintro e w11 ⟨rfl,ho11⟩;have HO11:Hid (Only [] w2 w11):=zo HO9.out ho11;have HI11:Hid (BoxAt w11 b20 #[.int .i64 (i1:Nat),.int .i64 (k1:Nat)] 35):=HI9.out.only ho11;have hse:=same_ents w11 v8 v9 l9 (HSE.out.1.only ho11) (HSE.out.2.only ho11) (by omega);clear ho11 hco)
          | (go_at_call 16;refine hse.mono ?_;rintro e w10 ⟨rfl,ho10⟩;have HB10:Hid (Both w w10 base tr m hb D hl BB):=Pair6.only HB1.out (zo HO11.out ho10);have HB20:Hid (BoxAt w10 b20 #[.int .i64 (i1:Nat),.int .i64 (k1:Nat)] 35):=HI11.out.only ho10;clear ho10 hse)
          | go_in)
        clear HO11 HI11 HI9 HO9 HSE HB1 HX1 hc9 hl60 HKQ;have hfi:=fine_any (w10.alloc (.cells #[.int .i64 0,.int .i64 0] 35))
        go_upto_region 24 with (first
          | (go_at_call 17;refine hfi.mono ?_;rintro e w12 ⟨rfl,hb12⟩;have ho12:Only [] (w10.alloc (.cells #[.int .i64 0,.int .i64 0] 35)) w12:=Only.of_below hb12 [];have HO12:Hid (Only [] (w10.alloc (.cells #[.int .i64 0,.int .i64 0] 35)) w12):=ho12;clear ho12 hb12 hfi)
          | go_in)
        have HF0:Hid (FBox (w12.alloc (.cells #[.int .i64 0,.int .i64 (-1)] 56)) w12.heap.size 0 (-1)):=heap_alloc_last w12 _
        have HB0:Hid (HBox (w12.alloc (.cells #[.int .i64 0,.int .i64 (-1)] 56)) w10.heap.size 0 0):=HBox.kept (show HBox _ w10.heap.size 0 0 from heap_alloc_last w10 _) (HO12.out.alloc _) (by simp)
        have HO0:Hid (Only [] w10 (w12.alloc (.cells #[.int .i64 0,.int .i64 (-1)] 56))):=zo ((Only.refl [] w10).alloc _) (HO12.out.alloc _);have HNE:Hid (w10.heap.size≠w12.heap.size):=(by have:=HO12.out.size;rw [World.size_alloc] at this;show w10.heap.size≠w12.heap.size;omega);have HL28:Hid (w10.heap.size≤w12.heap.size):=(by have:=HO12.out.size;rw [World.size_alloc] at this;show w10.heap.size≤w12.heap.size;omega);have HN20:Hid (b20≠w12.heap.size):=(by have:=(Array.getElem?_eq_some_iff.1 HB20.out).1;have:=HL28.out;show b20≠w12.heap.size;omega);have HM20:Hid (b20≠w10.heap.size):=(by have:=(Array.getElem?_eq_some_iff.1 HB20.out).1;show b20≠w10.heap.size;omega);clear HO12;generalize w12.alloc (.cells #[.int .i64 0,.int .i64 (-1)] 56)=w13 at HF0 HB0 HO0 ⊢;generalize w12.heap.size=b28 at HF0 HNE HL28 HN20 ⊢;generalize hb27:w10.heap.size=b27 at HB0 HNE HM20 ⊢;have HL27:Hid (w10.heap.size≤b27):=Nat.le_of_eq hb27;clear hb27
        go_wp2
        go_loopw [29] (fun i wr=>∃ (j:Nat) (x:Nat×Nat) (c:Nat) (a:Int),i = .int .i64 (j:Nat)∧j≤pn∧Gone D A ps j x c a∧HBox wr b27 x.1 x.2∧FBox wr b28 (c:Nat) a∧Only [] w10 wr) (fun i _=>pn - (intOf i).toNat)
        case atStart=>exact ⟨0,(0,0),0,-1,rfl,Nat.zero_le _,Gone.start _ _ _,HB0.out,HF0.out,HO0.out⟩
        case round =>
          obtain ⟨j,⟨xi,xk⟩,cc,fa,rfl,hj,hg,hb1,hf1,ho1⟩:=hrel;have HG:Hid (Gone D A ps j (xi,xk) cc fa):=hg;have HB27:Hid (HBox wr b27 xi xk):=hb1;have HF28:Hid (FBox wr b28 (cc:Nat) fa):=hf1;have HOR:Hid (Only [] w10 wr):=ho1;clear hg hb1 hf1 ho1 HF0 HB0 HO0;obtain ⟨v0,v1⟩:=HF28.out.cells
          by_cases hcc:cc=0
          · subst hcc
            by_cases hlt:j < pn
            · have hj2:(j:Int) < pn:=by omega
              obtain ⟨s,hs⟩:∃ s,ps[j]?=some s:=⟨_,List.getElem?_eq_getElem (by have:=HPN.out;omega)⟩;have HS:Hid (ps[j]?=some s):=hs;obtain ⟨g,o,rfl,hgc⟩:=HTX.out.2 j s hs;have hgc:wr.cell? ⟨g,o+j,none⟩=some (.string s):=((Pair6.only HB10.out HOR.out).below.cell (p:=⟨g,o+j,none⟩) (zv hgc)).trans hgc;clear hs
              by_cases hbig:100 < ((s.size:Nat):Int)
              · go_wp2
                go_ret
                exact ⟨rfl,(Pair6.only HB10.out HOR.out).below⟩
              · obtain ⟨c2,i2,k2,hc2,hL2,_⟩:=((Pair6.one HB10.out).only HOR.out).look HE.out (xi:Nat) (xk:Nat) s
                have HLR:Hid (LookR D (xi:Nat) (xk:Nat) s c2 i2 k2):=hL2;have HDL:Hid (∀ W1,Only [] wr W1→_):=dlook_both (Pair6.only HB10.out HOR.out) (by omega) hL2;have KS:Hid (∀ W,Only [] wr W→W.cell? ⟨b27,0,none⟩=some (.int .i64 (xi:Nat))∧W.cell? ⟨b27,1,none⟩=some (.int .i64 (xk:Nat))∧W.cell? ⟨g,o+j,none⟩=some (.string s)):=fun W ho=>⟨(HB27.out.kept ho (by simp)).cells.1,(HB27.out.kept ho (by simp)).cells.2,(ho.cell (p:=⟨g,o+j,none⟩) (zv hgc) (by simp)).trans hgc⟩
                go_upto_region 29 with fail
                clear hgc v0 v1 hbig hL2;have HV1:Hid (Only [] wr wr.drew):=(Only.refl [] _).drew;have HV2:Hid (Only [] wr (wr.alloc (.cells #[.int .i64 0,.int .i64 0] 35)).drew):=((Only.refl [] _).alloc _).drew;have HL1:=HDL.out _ HV1.out;have HL2:=HDL.out _ HV2.out;have S1:Hid (_):=KS.out _ HV1.out;have S2:Hid (_):=KS.out _ HV2.out
                go_region_held3 (fun W=>W.cell? ⟨b27,0,none⟩=some (.int .i64 (xi:Nat))∧W.cell? ⟨b27,1,none⟩=some (.int .i64 (xk:Nat))∧W.cell? ⟨g,o+j,none⟩=some (.string s))
                  (with_reducible first
                    | exact S1.out
                    | exact S2.out
                    | exact S3.out
                    | exact S4.out
                    | exact S5.out)
                  (first
                    | (go_at_call 12;(with_reducible (refine HL1.mono ?_));rintro e w2 ⟨rfl,ho2⟩;have HO2:Hid (Only [] wr w2):=zo HV1.out ho2;have S3:Hid (_):=KS.out _ HO2.out;have S4:Hid (_):=KS.out _ (HO2.out.alloc (.cells #[.int .i64 (i2:Nat),.int .i64 (k2:Nat)] 35));have S5:Hid (_):=KS.out _ (HO2.out.alloc (.cells #[.int .i64 0,.int .i64 0] 35));clear ho2)
                    | (go_at_call 12;(with_reducible (refine HL2.mono ?_));rintro e w2 ⟨rfl,ho2⟩;have HO2:Hid (Only [] wr w2):=zo HV2.out ho2;have S3:Hid (_):=KS.out _ HO2.out;have S4:Hid (_):=KS.out _ (HO2.out.two (Nat.le_refl _) (v0 := .int .i64 (i2:Nat)) (v1 := .int .i64 (k2:Nat)));have hq2:HBox w2 wr.heap.size 0 0:=HBox.kept (show HBox (wr.alloc (.cells #[.int .i64 0,.int .i64 0] 35)).drew wr.heap.size 0 0 from heap_alloc_last wr _) ho2 (by simp);have HQ2:Hid (HBox w2 wr.heap.size 0 0):=hq2;have q0:=hq2.cells.1;have q1:=hq2.cells.2;have f1:=hq2.frozen;have hl1:=hq2.lt;clear ho2 hq2))
                · have HZ3:Hid (HBox (w2.alloc (.cells #[.int .i64 (i2:Nat),.int .i64 (k2:Nat)] 35)) w2.heap.size i2 k2):=heap_alloc_last w2 _
                  have HO3:Hid (Only [] wr (w2.alloc (.cells #[.int .i64 (i2:Nat),.int .i64 (k2:Nat)] 35))):=HO2.out.alloc _;have HN3:Hid (w2.heap.size≠b28):=(by have:=HF28.out.lt;have:=HO2.out.size;show w2.heap.size≠b28;omega);clear S1 S2 S3 S4 S5 HL1 HL2 HV1 HV2 KS HDL;generalize w2.alloc (.cells #[.int .i64 (i2:Nat),.int .i64 (k2:Nat)] 35)=w3 at HZ3 HO3 ⊢;generalize w2.heap.size=b30 at HZ3 HN3 ⊢;obtain ⟨z0,z1⟩:=HZ3.out.cells;have hb3:HBox w3 b27 xi xk:=HB27.out.kept HO3.out (by simp);have HB3:Hid (HBox w3 b27 xi xk):=hb3;have hyl:=hb3.lt;have vf:=hb3.frozen;obtain ⟨y0,y1⟩:=hb3.cells;have hf3:FBox w3 b28 0 fa:=HF28.out.kept HO3.out (by simp);have HF3:Hid (FBox w3 b28 0 fa):=hf3;have hfl:=hf3.lt;have vg:=hf3.frozen;have HO4:Hid (Only [] w10 w3):=zo HOR.out HO3.out;clear hb3 hf3;have HZ4:Hid (HBox w3 b30 i2 k2):=HZ3.out;clear HZ3;have HN30:Hid (b30≠b28):=HN3.out
                  by_cases hc0:c2=0
                  · subst hc0
                    go_wp2
                    go_roundw
                    case rel=>exact ⟨j+1,(i2,k2),0,fa,by go_num,by omega,HG.out.step HS.out HLR.out _,HB3.out.fill i2 k2,(HF3.out.other (Ne.symm HNE.out)).other (Ne.symm HNE.out),HO4.out.two HL27.out⟩
                    case measure=>simp [intOf];omega
                  · have dpos:decide ((0:Int) < (c2:Nat))=true:=decide_eq_true (by omega)
                    obtain ⟨u0,u1⟩:=HF3.out.cells
                    go_upto_region 32 with fail
                    have hz4:HBox ((w3.setCell ⟨b28,0,none⟩ (.int .i64 (c2:Nat))).setCell ⟨b28,1,none⟩ (.int .i64 (j:Nat))) b30 i2 k2:=(HZ4.out.other HN30.out).other HN30.out;have hb4:HBox ((w3.setCell ⟨b28,0,none⟩ (.int .i64 (c2:Nat))).setCell ⟨b28,1,none⟩ (.int .i64 (j:Nat))) b27 xi xk:=(HB3.out.other HNE.out).other HNE.out;have HB4:Hid (HBox ((w3.setCell ⟨b28,0,none⟩ (.int .i64 (c2:Nat))).setCell ⟨b28,1,none⟩ (.int .i64 (j:Nat))) b27 xi xk):=hb4;have HF4:Hid (FBox ((w3.setCell ⟨b28,0,none⟩ (.int .i64 (c2:Nat))).setCell ⟨b28,1,none⟩ (.int .i64 (j:Nat))) b28 (c2:Nat) (j:Nat)):=HF3.out.fill _ _;have HO5:Hid (Only [] w10 ((w3.setCell ⟨b28,0,none⟩ (.int .i64 (c2:Nat))).setCell ⟨b28,1,none⟩ (.int .i64 (j:Nat)))):=HO4.out.two HL28.out;clear z0 z1 u0 u1 vg hfl hyl vf y0 y1 HZ4 HB3 HF3 HO4;generalize ((w3.setCell ⟨b28,0,none⟩ (.int .i64 (c2:Nat))).setCell ⟨b28,1,none⟩ (.int .i64 (j:Nat)))=w4 at hz4 hb4 HB4 HF4 HO5 ⊢;obtain ⟨z0,z1⟩:=hz4.cells;have hyl:=hb4.lt;have vf:=hb4.frozen;obtain ⟨y0,y1⟩:=hb4.cells;clear hz4 hb4
                    go_wp2
                    go_roundw
                    case rel=>exact ⟨j+1,(i2,k2),c2,(j:Nat),by go_num,by omega,HG.out.fail HS.out HLR.out hc0 hc2,HB4.out.fill i2 k2,(HF4.out.other (Ne.symm HNE.out)).other (Ne.symm HNE.out),HO5.out.two HL27.out⟩
                    case measure=>simp [intOf];omega
                · have HZ3:Hid (HBox ((w2.setCell ⟨wr.heap.size,0,none⟩ (.int .i64 (i2:Nat))).setCell ⟨wr.heap.size,1,none⟩ (.int .i64 (k2:Nat))) wr.heap.size i2 k2):=HQ2.out.fill i2 k2
                  have HO3:Hid (Only [] wr ((w2.setCell ⟨wr.heap.size,0,none⟩ (.int .i64 (i2:Nat))).setCell ⟨wr.heap.size,1,none⟩ (.int .i64 (k2:Nat)))):=HO2.out.two (Nat.le_refl _);have HN3:Hid (wr.heap.size≠b28):=(by have:=HF28.out.lt;show wr.heap.size≠b28;omega);clear S1 S2 S3 S4 HL1 HL2 HV1 HV2 KS HDL q0 q1 f1 hl1 HQ2;generalize ((w2.setCell ⟨wr.heap.size,0,none⟩ (.int .i64 (i2:Nat))).setCell ⟨wr.heap.size,1,none⟩ (.int .i64 (k2:Nat)))=w3 at HZ3 HO3 ⊢;generalize wr.heap.size=b30 at HZ3 HN3 ⊢;obtain ⟨z0,z1⟩:=HZ3.out.cells;have hb3:HBox w3 b27 xi xk:=HB27.out.kept HO3.out (by simp);have HB3:Hid (HBox w3 b27 xi xk):=hb3;have hyl:=hb3.lt;have vf:=hb3.frozen;obtain ⟨y0,y1⟩:=hb3.cells;have hf3:FBox w3 b28 0 fa:=HF28.out.kept HO3.out (by simp);have HF3:Hid (FBox w3 b28 0 fa):=hf3;have hfl:=hf3.lt;have vg:=hf3.frozen;have HO4:Hid (Only [] w10 w3):=zo HOR.out HO3.out;clear hb3 hf3;have HZ4:Hid (HBox w3 b30 i2 k2):=HZ3.out;clear HZ3;have HN30:Hid (b30≠b28):=HN3.out
                  by_cases hc0:c2=0
                  · subst hc0
                    go_wp2
                    go_roundw
                    case rel=>exact ⟨j+1,(i2,k2),0,fa,by go_num,by omega,HG.out.step HS.out HLR.out _,HB3.out.fill i2 k2,(HF3.out.other (Ne.symm HNE.out)).other (Ne.symm HNE.out),HO4.out.two HL27.out⟩
                    case measure=>simp [intOf];omega
                  · have dpos:decide ((0:Int) < (c2:Nat))=true:=decide_eq_true (by omega)
                    obtain ⟨u0,u1⟩:=HF3.out.cells
                    go_upto_region 32 with fail
                    have hz4:HBox ((w3.setCell ⟨b28,0,none⟩ (.int .i64 (c2:Nat))).setCell ⟨b28,1,none⟩ (.int .i64 (j:Nat))) b30 i2 k2:=(HZ4.out.other HN30.out).other HN30.out;have hb4:HBox ((w3.setCell ⟨b28,0,none⟩ (.int .i64 (c2:Nat))).setCell ⟨b28,1,none⟩ (.int .i64 (j:Nat))) b27 xi xk:=(HB3.out.other HNE.out).other HNE.out;have HB4:Hid (HBox ((w3.setCell ⟨b28,0,none⟩ (.int .i64 (c2:Nat))).setCell ⟨b28,1,none⟩ (.int .i64 (j:Nat))) b27 xi xk):=hb4;have HF4:Hid (FBox ((w3.setCell ⟨b28,0,none⟩ (.int .i64 (c2:Nat))).setCell ⟨b28,1,none⟩ (.int .i64 (j:Nat))) b28 (c2:Nat) (j:Nat)):=HF3.out.fill _ _;have HO5:Hid (Only [] w10 ((w3.setCell ⟨b28,0,none⟩ (.int .i64 (c2:Nat))).setCell ⟨b28,1,none⟩ (.int .i64 (j:Nat)))):=HO4.out.two HL28.out;clear z0 z1 u0 u1 vg hfl hyl vf y0 y1 HZ4 HB3 HF3 HO4;generalize ((w3.setCell ⟨b28,0,none⟩ (.int .i64 (c2:Nat))).setCell ⟨b28,1,none⟩ (.int .i64 (j:Nat)))=w4 at hz4 hb4 HB4 HF4 HO5 ⊢;obtain ⟨z0,z1⟩:=hz4.cells;have hyl:=hb4.lt;have vf:=hb4.frozen;obtain ⟨y0,y1⟩:=hb4.cells;clear hz4 hb4
                    go_wp2
                    go_roundw
                    case rel=>exact ⟨j+1,(i2,k2),c2,(j:Nat),by go_num,by omega,HG.out.fail HS.out HLR.out hc0 hc2,HB4.out.fill i2 k2,(HF4.out.other (Ne.symm HNE.out)).other (Ne.symm HNE.out),HO5.out.two HL27.out⟩
                    case measure=>simp [intOf];omega
            · obtain rfl:pn=j:=by omega
              obtain ⟨fs,hst,hfx⟩:∃ fs,StepsD D A ps fs pn∧fs pn=(xi,xk):=by
                rcases HG.out with ⟨_,h⟩ | ⟨h0,_⟩
                · exact h
                · exact absurd rfl h0
              have HST:Hid (StepsD D A ps fs ps.length):=(by rw [HPN.out];exact hst);have HFX:Hid (fs ps.length=(xi,xk)):=(by rw [HPN.out];exact hfx);clear hst hfx v0 v1;obtain ⟨v0,v1⟩:=HF28.out.cells;have vl28:=HF28.out.lt;have htx:Txt wr pa pcap ps:=HTX.out.below ((Pair6.only HB10.out HOR.out).below);have HTW:Hid (Txt wr pa pcap ps):=htx;clear htx
              go_upto_region 35 with (first
                | (at_builtin;refine append_txt rfl (.tmp 176) (.tmp 177) rfl rfl pa pn pcap ps HPN.out rfl HTW.out (by omega) ?_;intro v5 w5 hv5 ho5;obtain ⟨ad5,cap5,rfl,hc5⟩:=hv5;have hwk:=walk_rep w5 tr D A ad5 ps.length cap5 ps ((Pair6.one HB10.out).only (zo HOR.out ho5)) HE.out rfl (by rw [HPN.out];omega) hc5;have HO5:Hid (Only [] wr w5):=ho5;clear ho5 hc5 v0 v1)
                | (go_at_call 18;refine hwk.mono ?_;rintro e w6 hw6;obtain ⟨rfl,ho6⟩:=walked_all hw6 HST.out;have HO6:Hid (Only [] wr w6):=zo HO5.out ho6;have h20:HBox w6 b20 i1 k1:=HBox.kept (HB20.out.only (zo HOR.out HO6.out)) (Only.refl [] _) (by simp);have H20:Hid (HBox w6 b20 i1 k1):=h20;have hyl:=h20.lt;have vf:=h20.frozen;obtain ⟨p0,p1⟩:=h20.cells;clear hwk hw6 ho6 h20)
                | go_in)
              rw [HFX.out];have HF7:Hid (FBox ((w6.setCell ⟨b20,0,none⟩ (.int .i64 (xi:Nat))).setCell ⟨b20,1,none⟩ (.int .i64 (xk:Nat))) b28 0 fa):=((HF28.out.kept HO6.out (by simp)).other (Ne.symm HN20.out)).other (Ne.symm HN20.out);have H27:Hid (HBox ((w6.setCell ⟨b20,0,none⟩ (.int .i64 (xi:Nat))).setCell ⟨b20,1,none⟩ (.int .i64 (xk:Nat))) b20 xi xk):=H20.out.fill xi xk;have H37:Hid (HBox ((w6.setCell ⟨b20,0,none⟩ (.int .i64 (xi:Nat))).setCell ⟨b20,1,none⟩ (.int .i64 (xk:Nat))) b27 xi xk):=((HB27.out.kept HO6.out (by simp)).other (Ne.symm HM20.out)).other (Ne.symm HM20.out);have HE7:Hid (Below w.heap.size w ((w6.setCell ⟨b20,0,none⟩ (.int .i64 (xi:Nat))).setCell ⟨b20,1,none⟩ (.int .i64 (xk:Nat)))):=((Pair6.only HB10.out (zo HOR.out HO6.out)).below.setCell HL20.out _).setCell HL20.out _;clear HF28 H20 HB27 hyl vf p0 p1;generalize ((w6.setCell ⟨b20,0,none⟩ (.int .i64 (xi:Nat))).setCell ⟨b20,1,none⟩ (.int .i64 (xk:Nat)))=w7 at HF7 H27 H37 HE7 ⊢;obtain ⟨v0,v1⟩:=HF7.out.cells;obtain ⟨t0,t1⟩:=H27.out.cells;obtain ⟨r0,r1⟩:=H37.out.cells
              go_wp2
              go_ret
              exact ⟨rfl,HE7.out⟩
          · obtain ⟨hcl,fs,qq,s,i2,k2,hst,hs,hL2,hfa⟩:cc≤14∧∃ (fs:Nat→Nat×Nat) (qq:Nat) (s:ByteArray) (i k:Nat),StepsD D A ps fs qq∧ps[qq]?=some s∧LookR D ((fs qq).1:Nat) ((fs qq).2:Nat) s cc i k∧fa=(qq:Nat):=by
              rcases HG.out with ⟨h0,_⟩ | ⟨_,h1,h2⟩
              · exact absurd h0 hcc
              · exact ⟨h1,h2⟩
            subst hfa;have HST:Hid (StepsD D A ps fs qq):=hst;have HS:Hid (ps[qq]?=some s):=hs;have HLR:Hid (LookR D ((fs qq).1:Nat) ((fs qq).2:Nat) s cc i2 k2):=hL2;have dz:(((cc:Nat):Int)==0)=false:=beq_eq_false_iff_ne.2 (by omega);clear hst hs hL2 HG
            by_cases hlt:j < pn
            · have hj2:(j:Int) < pn:=by omega
              clear v0 v1;obtain ⟨v0,v1⟩:=HF28.out.cells;have vl28:=HF28.out.lt;have htx:Txt wr pa pcap ps:=HTX.out.below ((Pair6.only HB10.out HOR.out).below);have HTW:Hid (Txt wr pa pcap ps):=htx;clear htx;obtain ⟨kc,rfl⟩:∃ kc,cc=kc+1:=⟨cc - 1,by omega⟩
              go_upto_region 35 with (first
                | (at_builtin;refine append_txt rfl (.tmp 176) (.tmp 177) rfl rfl pa pn pcap ps HPN.out rfl HTW.out (by omega) ?_;intro v5 w5 hv5 ho5;obtain ⟨ad5,cap5,rfl,hc5⟩:=hv5;have hwk:=walk_rep w5 tr D A ad5 ps.length cap5 ps ((Pair6.one HB10.out).only (zo HOR.out ho5)) HE.out rfl (by rw [HPN.out];omega) hc5;have HO5:Hid (Only [] wr w5):=ho5;clear ho5 hc5 v0 v1)
                | (go_at_call 18;refine hwk.mono ?_;rintro e w6 hw6;obtain ⟨bf,rfl,g0,g1,ho6⟩:=walked_err hw6 HST.out HS.out HLR.out (Nat.succ_ne_zero _);have HO6:Hid (Only [] wr w6):=zo HO5.out ho6;have HG6:Hid (w6.cell? ⟨bf,0,none⟩=some (.int .i64 (qq:Nat))∧w6.cell? ⟨bf,1,none⟩=some (.iface 228 (.pointer (some (A kc))))):=⟨g0,g1⟩;have h20:HBox w6 b20 i1 k1:=HBox.kept (HB20.out.only (zo HOR.out HO6.out)) (Only.refl [] _) (by simp);have H20:Hid (HBox w6 b20 i1 k1):=h20;have hyl:=h20.lt;have vf:=h20.frozen;obtain ⟨p0,p1⟩:=h20.cells;clear hwk hw6 g0 g1 ho6 h20)
                | go_in)
              have HF7:Hid (FBox ((w6.setCell ⟨b20,0,none⟩ (.int .i64 0)).setCell ⟨b20,1,none⟩ (.int .i64 0)) b28 ((kc:Int)+1) (qq:Nat)):=((HF28.out.kept HO6.out (by simp)).other (Ne.symm HN20.out)).other (Ne.symm HN20.out);have H27:Hid (HBox ((w6.setCell ⟨b20,0,none⟩ (.int .i64 0)).setCell ⟨b20,1,none⟩ (.int .i64 0)) b20 0 0):=H20.out.fill 0 0;have HE7:Hid (Below w.heap.size w ((w6.setCell ⟨b20,0,none⟩ (.int .i64 0)).setCell ⟨b20,1,none⟩ (.int .i64 0))):=((Pair6.only HB10.out (zo HOR.out HO6.out)).below.setCell HL20.out _).setCell HL20.out _;have HG7:Hid (((w6.setCell ⟨b20,0,none⟩ (.int .i64 0)).setCell ⟨b20,1,none⟩ (.int .i64 0)).cell? ⟨bf,0,none⟩=some (.int .i64 (qq:Nat))∧((w6.setCell ⟨b20,0,none⟩ (.int .i64 0)).setCell ⟨b20,1,none⟩ (.int .i64 0)).cell? ⟨bf,1,none⟩=some (.iface 228 (.pointer (some (A kc))))):=cell_apart HG6.out H20.out;clear HF28 H20 HG6 hyl vf p0 p1;generalize ((w6.setCell ⟨b20,0,none⟩ (.int .i64 0)).setCell ⟨b20,1,none⟩ (.int .i64 0))=w7 at HF7 H27 HE7 HG7 ⊢;obtain ⟨v0,v1⟩:=HF7.out.cells;have hfa:=faulted_fault A kc (by have:=hcl;omega) bf (qq:Nat) w7 (HE.out.below HE7.out (Nat.le_refl _)) HG7.out.1 HG7.out.2;have dpos:decide ((0:Int) < (kc:Int)+1)=true:=decide_eq_true (by omega)
              go_wp2_with (first
                | (go_at_call 19;refine hfa.mono ?_;rintro e w8 ⟨rfl,hb8⟩;have ho8:Only [] w7 w8:=Only.of_below hb8 [];obtain ⟨t0,t1⟩:=(H27.out.kept ho8 (by simp)).cells;have HE8:Hid (Below w.heap.size w w8):=HE7.out.trans (hb8.mono HE7.out.size);clear hb8 ho8 hfa)
                | go_in)
              go_ret
              exact ⟨rfl,HE8.out⟩
            · have hj2:¬ (j:Int) < pn:=by omega
              clear v0 v1;obtain ⟨v0,v1⟩:=HF28.out.cells;have vl28:=HF28.out.lt;have htx:Txt wr pa pcap ps:=HTX.out.below ((Pair6.only HB10.out HOR.out).below);have HTW:Hid (Txt wr pa pcap ps):=htx;clear htx;obtain ⟨kc,rfl⟩:∃ kc,cc=kc+1:=⟨cc - 1,by omega⟩
              go_upto_region 35 with (first
                | (at_builtin;refine append_txt rfl (.tmp 176) (.tmp 177) rfl rfl pa pn pcap ps HPN.out rfl HTW.out (by omega) ?_;intro v5 w5 hv5 ho5;obtain ⟨ad5,cap5,rfl,hc5⟩:=hv5;have hwk:=walk_rep w5 tr D A ad5 ps.length cap5 ps ((Pair6.one HB10.out).only (zo HOR.out ho5)) HE.out rfl (by rw [HPN.out];omega) hc5;have HO5:Hid (Only [] wr w5):=ho5;clear ho5 hc5 v0 v1)
                | (go_at_call 18;refine hwk.mono ?_;rintro e w6 hw6;obtain ⟨bf,rfl,g0,g1,ho6⟩:=walked_err hw6 HST.out HS.out HLR.out (Nat.succ_ne_zero _);have HO6:Hid (Only [] wr w6):=zo HO5.out ho6;have HG6:Hid (w6.cell? ⟨bf,0,none⟩=some (.int .i64 (qq:Nat))∧w6.cell? ⟨bf,1,none⟩=some (.iface 228 (.pointer (some (A kc))))):=⟨g0,g1⟩;have h20:HBox w6 b20 i1 k1:=HBox.kept (HB20.out.only (zo HOR.out HO6.out)) (Only.refl [] _) (by simp);have H20:Hid (HBox w6 b20 i1 k1):=h20;have hyl:=h20.lt;have vf:=h20.frozen;obtain ⟨p0,p1⟩:=h20.cells;clear hwk hw6 g0 g1 ho6 h20)
                | go_in)
              have HF7:Hid (FBox ((w6.setCell ⟨b20,0,none⟩ (.int .i64 0)).setCell ⟨b20,1,none⟩ (.int .i64 0)) b28 ((kc:Int)+1) (qq:Nat)):=((HF28.out.kept HO6.out (by simp)).other (Ne.symm HN20.out)).other (Ne.symm HN20.out);have H27:Hid (HBox ((w6.setCell ⟨b20,0,none⟩ (.int .i64 0)).setCell ⟨b20,1,none⟩ (.int .i64 0)) b20 0 0):=H20.out.fill 0 0;have HE7:Hid (Below w.heap.size w ((w6.setCell ⟨b20,0,none⟩ (.int .i64 0)).setCell ⟨b20,1,none⟩ (.int .i64 0))):=((Pair6.only HB10.out (zo HOR.out HO6.out)).below.setCell HL20.out _).setCell HL20.out _;have HG7:Hid (((w6.setCell ⟨b20,0,none⟩ (.int .i64 0)).setCell ⟨b20,1,none⟩ (.int .i64 0)).cell? ⟨bf,0,none⟩=some (.int .i64 (qq:Nat))∧((w6.setCell ⟨b20,0,none⟩ (.int .i64 0)).setCell ⟨b20,1,none⟩ (.int .i64 0)).cell? ⟨bf,1,none⟩=some (.iface 228 (.pointer (some (A kc))))):=cell_apart HG6.out H20.out;clear HF28 H20 HG6 hyl vf p0 p1;generalize ((w6.setCell ⟨b20,0,none⟩ (.int .i64 0)).setCell ⟨b20,1,none⟩ (.int .i64 0))=w7 at HF7 H27 HE7 HG7 ⊢;obtain ⟨v0,v1⟩:=HF7.out.cells;have hfa:=faulted_fault A kc (by have:=hcl;omega) bf (qq:Nat) w7 (HE.out.below HE7.out (Nat.le_refl _)) HG7.out.1 HG7.out.2;have dpos:decide ((0:Int) < (kc:Int)+1)=true:=decide_eq_true (by omega)
              go_wp2_with (first
                | (go_at_call 19;refine hfa.mono ?_;rintro e w8 ⟨rfl,hb8⟩;have ho8:Only [] w7 w8:=Only.of_below hb8 [];obtain ⟨t0,t1⟩:=(H27.out.kept ho8 (by simp)).cells;have HE8:Hid (Below w.heap.size w w8):=HE7.out.trans (hb8.mono HE7.out.size);clear hb8 ho8 hfa)
                | go_in)
              go_ret
              exact ⟨rfl,HE8.out⟩
end
end Go.Proofs.YtkcabopgajlmdaaGreatDoor
