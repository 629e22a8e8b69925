import Derived.Test.YtkcabopgajlmdaaGreatDoorK33
set_option maxRecDepth 100000
set_option maxHeartbeats 8000000
namespace Go.Proofs.YtkcabopgajlmdaaGreatDoor
section
open Go Go.RowKit Go.Deep Go.Maps
def hC (x:Nat×Nat):List Value:=[zI x.1,zI x.2]
theorem hC_len (x:Nat×Nat):(hC x).length=2:=rfl
structure HandsAt (w:World)(base hb:Nat)(v:Value)(l:List (Nat×Nat)):Prop where
 tab:w.heap[hb]?=some (.cells #[v] 38 (0,0))
 row:w.ownsRow base 35 2 v l.length (rowOf hC l)
theorem HandsAt.lt {w:World}{base hb:Nat}{v:Value}{l:List (Nat×Nat)}(h:HandsAt w base hb v l):hb < w.heap.size:=(Array.getElem?_eq_some_iff.1 h.tab).1
theorem HandsAt.kept {w w':World}{base hb:Nat}{v:Value}{l:List (Nat×Nat)}{K:List Nat}(h:HandsAt w base hb v l)(ho:Only K w w')(h1:hb∉K)(h2:∀ k,v.ownBlock=some k→k∉K):HandsAt w' base hb v l:=⟨(ho.block hb h.lt h1).trans h.tab,ho.owns h.row h2⟩
theorem HandsAt.form {w:World}{base hb:Nat}{v:Value}{l:List (Nat×Nat)}(h:HandsAt w base hb v l):∃ ad cap,v = .slice ad l.length cap∧∀ j x,l[j]?=some x→∃ g,ad=some ⟨g,0,none⟩∧w.cell? ⟨g,j*2,none⟩=some (zI x.1)∧w.cell? ⟨g,j*2+1,none⟩=some (zI x.2):=by
 rcases h.row.2 with ⟨hv,hz⟩ | ⟨g,cap,cur,hv,h1,h2,h3⟩
 · refine ⟨none,0,by rw [hz];exact hv,fun j s hs=>?_⟩
   rw [List.eq_nil_of_length_eq_zero hz] at hs;simp at hs
 · refine ⟨_,_,hv,fun j x hx=>⟨g,rfl,?_⟩⟩
   have hlt:j < l.length:=(List.getElem?_eq_some_iff.1 hx).1;have he:=h.row;rw [hv] at he
   have key:∀ i,i < 2→w.cell? ⟨g,j*2+i,none⟩=(hC x)[i]?:=fun i hi=>by
    rw [World.ownsRow.cellAt he _ (by omega)];exact rowOf_get hC_len l j i x hi hx
   exact ⟨key 0 (by decide),key 1 (by decide)⟩
def handOf (l:List (Nat×Nat))(n:Int):Int×Int:=if 0≤n then match l[n.toNat]? with | some x=>((x.1:Int),(x.2:Int)) | none=>(n,1) else (n,1)
theorem hands_at (w:World)(base hb:Nat)(v:Value)(l:List (Nat×Nat))(n:Int)(h:HandsAt w base hb v l):
   zO 10 #[zP hb,zI n] w (zG ((handOf l n).1) ((handOf l n).2)):=by
 have o1:zQ w (w.alloc (zH 0 0)):=(Only.refl [] w).alloc _;have h1:=h.kept o1 (by simp) (fun _ _=>by simp);have t0:(w.alloc (zH 0 0)).cell? (zA hb 0)=some v:=cell_of_row _ _ 0 _ _ _ h1.tab;obtain ⟨ad,cap,rfl,hf⟩:=h1.form;have hbl:hb < w.heap.size:=h.lt;obtain ⟨k,hk⟩:∃ k,l.length=k:=⟨_,rfl⟩;have HN:Hid (l.length=k):=hk;rw [hk] at t0
 by_cases h0:0≤n
 · obtain ⟨j,rfl⟩:∃ j:Nat,n=(j:Int):=⟨n.toNat,by omega⟩
   by_cases hlt:j < k
   · obtain ⟨x,hx⟩:∃ x,l[j]?=some x:=⟨_,List.getElem?_eq_getElem (by rw [hk];exact hlt)⟩
     obtain ⟨g,rfl,q0,q1⟩:=hf j x hx
     have HE:Hid (handOf l (j:Int)=((x.1:Int),(x.2:Int))):=by show _=_;unfold handOf;rw [if_pos h0,show (Int.toNat (j:Int))=j from rfl,hx]
     rw [HE.out];have d1:decide ((0:Int)≤(j:Int))=true:=decide_eq_true (by omega);have d2:decide ((j:Int) < (k:Int))=true:=decide_eq_true (by omega);clear h h1 o1 hf hx hk
     go_enter Tryz.func10,Tryz.ntmps10
     go_wp2
     exact bodyPost_ret (v:=zG x.1 x.2) (by simp [results,Tryz.results10,go_sem]) rfl ⟨rfl,(Only.refl _ _).alloc _⟩
   · have HE:Hid (handOf l (j:Int)=((j:Int),1)):=by show _=_;unfold handOf;rw [if_pos h0,show (Int.toNat (j:Int))=j from rfl,List.getElem?_eq_none (by rw [hk];omega)]
     rw [HE.out];have d1:decide ((0:Int)≤(j:Int))=true:=decide_eq_true (by omega);have d2:decide ((j:Int) < (k:Int))=false:=decide_eq_false (by omega);clear h h1 o1 hf hk
     go_enter Tryz.func10,Tryz.ntmps10
     go_wp2
     exact bodyPost_ret (v:=zG j 1) (by simp [results,Tryz.results10,go_sem]) rfl ⟨rfl,(Only.refl _ _).alloc _⟩
 · have HE:Hid (handOf l n=(n,1)):=by show _=_;unfold handOf;rw [if_neg h0]
   rw [HE.out];have d1:decide ((0:Int)≤n)=false:=decide_eq_false h0;clear h h1 o1 hf hk
   go_enter Tryz.func10,Tryz.ntmps10
   go_wp2
   exact bodyPost_ret (v:=zG n 1) (by simp [results,Tryz.results10,go_sem]) rfl ⟨rfl,(Only.refl _ _).alloc _⟩
theorem infoInt5:(Tryz.prog.info? 3).map (fun i=>(i.zero,i.size,i.bytes))=some (some (zI 0),1,8):=by kernel_rfl
theorem infoInt5':∃ i,Tryz.prog.info? 3=some i∧i.zero=some (zI 0)∧i.size=1∧i.bytes=8:=by
 obtain ⟨i,hi,hz⟩:=Option.map_eq_some_iff.1 infoInt5;simp only [Prod.mk.injEq] at hz;exact ⟨i,hi,hz⟩
theorem zeros_are (n:Nat):(madeCells (Value.int .i64 0).cells (n*1)).toList=(List.range n).map fun _=>Value.int .i64 0:=by
 apply List.ext_getElem?;intro j;unfold madeCells;rw [List.getElem?_map]
 by_cases h:j < n
 · have e:j % 1=0:=Nat.mod_one j
   simp [h,Value.cells,e]
 · simp [h,Value.cells]
theorem DtM.bare {w w1:World}{most:Nat}(hown:w1.ownsRow w.heap.size 3 1 (.slice (some ⟨w.heap.size,0,none⟩) most most) most ((List.range most).map fun _=>Value.int .i64 0))(ho:zQ w w1):
  DtM (w1.alloc (.cells #[zI most,.slice none 0 0,.slice (some ⟨w.heap.size,0,none⟩) most most] 78)) w.heap.size w1.heap.size (.slice none 0 0) (.slice (some ⟨w.heap.size,0,none⟩) most most) [] ⟨most,[],fun _=>0⟩ :=
 ⟨zh w1 _,World.ownsRow_nil _ _ _ _,by
  show World.ownsRow _ _ _ 1 _ (List.range most).length _;rw [List.length_range]
  exact World.ownsRow.alloc hown _,rfl,fun n hn=>(by cases hn),List.Pairwise.nil,fun a ha=>(by cases ha),ho.size⟩
theorem dnew_any (w:World)(most:Nat)(h1:1≤most)(h2:most≤300):
  zK 8 #[zI most] w fun e w'=>∃ m,e = .returned (zP m)∧w.heap.size≤m∧DM w' w.heap.size m (D0 most)∧zQ w w':=by
 obtain ⟨ii,hii,hy0,hy1,hy2⟩:=infoInt5';obtain ⟨i0,hi0,hz0,hz1,hz2⟩:=infoPt';obtain ⟨w1,hmk,hown,hgr⟩:=run_makeSlice_full (P:=Tryz.prog) (w:=w) w.heap.size 75 3 ii _ 1 Tryz.underlying75 hii hy0 hy1 .i64 .i64 most (by omega) (by rw [hy2];omega) (by unfold maxLen;omega) (Nat.le_refl _);rw [zeros_are] at hown;have ho1:zQ w w1:=(Only.refl [] w).grown hgr (fun k hk=>by cases hk);have hB:=DtM.bare hown ho1;have hT0:=DtM.timed (D:=⟨most,[],fun _=>0⟩) (k:=0) hB (by show 0 < most;omega) 1 rfl;obtain ⟨tb,tcap,htv,htr⟩:=DtM.timesRow (D:=⟨most,[],fun _=>0⟩) (k:=0) hB (by show 0 < most;omega);obtain ⟨t2,tq,tf,tl⟩:=htr _ (Only.refl _ _)
 obtain ⟨rfl,rfl⟩:w.heap.size=tb∧most=tcap:=by
  cases htv
  exact ⟨rfl,rfl⟩
 have hwl:w.heap.size < w1.heap.size:=by
  have:=(own_blk hown (b:=w.heap.size) rfl).2.1;exact this
 have c1:=hB.c1
 go_enter Tryz.func8,Tryz.ntmps8
 go_upto_region 3 with fail
 rw [← World.setCell_alloc_past _ _ _ _ hwl];obtain ⟨hT1,hoT1⟩:=hT0;have HM:Hid (w.heap.size≤w1.heap.size):=ho1.size;have HOB:Hid (zQ w ((w1.alloc (.cells #[zI most,.slice none 0 0,.slice (some ⟨w.heap.size,0,none⟩) most most] 78)).setCell (zA w.heap.size 0) (zI 1))):=(ho1.alloc _).setCell (p:=⟨w.heap.size,0,none⟩) (Or.inr (Nat.le_refl _)) _;have HTB:Hid (DtM ((w1.alloc (.cells #[zI most,.slice none 0 0,.slice (some ⟨w.heap.size,0,none⟩) most most] 78)).setCell (zA w.heap.size 0) (zI 1)) w.heap.size w1.heap.size (.slice none 0 0) (.slice (some ⟨w.heap.size,0,none⟩) most most) [] ⟨most,[],setN (fun _=>0) 0 1⟩):=hT1;clear hT1 hoT1 hB hmk hown hgr htr t2 tq tf tl c1 hwl ho1;generalize (w1.alloc (.cells #[zI most,.slice none 0 0,.slice (some ⟨w.heap.size,0,none⟩) most most] 78)).setCell (zA w.heap.size 0) (zI 1)=wb at HOB HTB ⊢;generalize w1.heap.size=m at HM HTB ⊢;have c1:=HTB.out.c1;have mlt:m < wb.heap.size:=HTB.out.lt (Or.inl rfl)
 have HNW:Hid (∀ (r:Nat) (v:Value),([ptrOf (newNm wb.heap.size 0 0 2)]:List Value)[r]?=some v→((wb.alloc (.cells #[zI 0,zI 0,zI 2,zI 0,.string ⟨#[]⟩,.slice none 0 0,.slice none 0 0,zI 0] 84)).alloc (.cells #[zP wb.heap.size] 79)).cell? ((⟨wb.heap.size+1,0,none⟩:Addr).add r)=some v):=by
  have:=pt_news (w:=wb.alloc (.cells #[zI 0,zI 0,zI 2,zI 0,.string ⟨#[]⟩,.slice none 0 0,.slice none 0 0,zI 0] 84)) (newNm wb.heap.size 0 0 2) 79;rw [World.size_alloc] at this;exact this
 have HGR:Hid (∀ w7 g7 c7,((wb.alloc (.cells #[zI 0,zI 0,zI 2,zI 0,.string ⟨#[]⟩,.slice none 0 0,.slice none 0 0,zI 0] 84)).alloc (.cells #[zP wb.heap.size] 79)).grownBy w7 (Value.slice none 0 0).ownBlock→w7.ownsRow w.heap.size 79 1 (.slice (some ⟨g7,0,none⟩) (0+1) c7) (0+1) ([]++[ptrOf (newNm wb.heap.size 0 0 2)])→w7.cell? (zA m 1)=some (.slice none 0 0)∧w7.frozen? ⟨m,1,none⟩=false∧m < w7.heap.size∧DM (w7.setCell (zA m 1) (.slice (some ⟨g7,0,none⟩) (0+1) c7)) w.heap.size m (D0 most)∧zQ w (w7.setCell (zA m 1) (.slice (some ⟨g7,0,none⟩) (0+1) c7))):=fun w7 g7 c7 hgr hown=>by
  obtain ⟨a1,a2,a3,a4,a5⟩:=HTB.out.grew (k:=0) (c:=0) (K:=2) HOB.out.size hgr hown
  exact ⟨a1,a2,a3,⟨_,_,_,a4⟩,HOB.out.trans a5 (fun z hz=>by
   have hzm:z=m:=by simpa [Value.ownBlock] using hz
   exact Or.inr (by rw [hzm];exact HM.out))⟩
 go_wp2_with (first
  | (at_builtin;refine wpList_append_lies _ rfl (.tmp 18) (.tmp 21) 76 rfl w.heap.size 79 i0 _ 1 8 undPts hi0 hz0 hz1 hz2 rfl (by decide) (.slice none 0 0) 0 [] rfl (World.ownsRow_nil _ _ _ _) ⟨wb.heap.size+1,0,none⟩ 1 1 [ptrOf (newNm wb.heap.size 0 0 2)] rfl rfl HNW.out (by intro u hu;rw [List.mem_singleton.1 hu];rfl) (by decide) (by unfold maxLen;omega) (by omega) (by rw [World.size_alloc,World.size_alloc];exact Nat.le_succ_of_le (Nat.le_succ_of_le HOB.out.size)) (wb.heap.size+1+1) (by rw [World.size_alloc,World.size_alloc]) ?_;intro g7 c7 w7 hown7 hgr7 hat7 hlt7;obtain ⟨k1,k2,k3,k4⟩:=HGR.out w7 g7 c7 hgr7 hown7;have HK7:Hid (DM (w7.setCell (zA m 1) (.slice (some ⟨g7,0,none⟩) (0+1) c7)) w.heap.size m (D0 most)∧zQ w (w7.setCell (zA m 1) (.slice (some ⟨g7,0,none⟩) (0+1) c7))):=k4;clear hown7 hgr7 hat7 hlt7 k4)
  | go_in)
 go_ret
 exact ⟨m,rfl,HM.out,HK7.out⟩
def ups (D:Dt)(i c:Nat):Nat→Nat×Nat
 | 0=>(i,c)
 | n+1=>D.up (ups D i c n).1 (ups D i c n).2
def InD (D:Dt)(i c a b:Nat):Prop:=∃ n,ups D i c n=(a,b)
def RenE (D:Dt)(N1 G1 N2 G2:Int)(s1 s2:ByteArray)(c:Nat):Prop :=
 (dirN D N1 G1≠0∧c=dirN D N1 G1)∨(dirN D N1 G1=0∧dirN D N2 G2≠0∧c=dirN D N2 G2)∨(dirN D N1 G1=0∧dirN D N2 G2=0∧(¬ OkN s1∨¬ OkN s2)∧c=4) ∨
 ∃ x,D.atZ N1 G1=some x∧x.K=2∧dirN D N2 G2=0∧OkN s1∧OkN s2∧findE x.es s1.data.toList=none∧c=5
def RenEP (w w':World)(D:Dt)(N1 G1 N2 G2:Int)(s1 s2:ByteArray)(r:Ending):Prop:=zQ w w'∧∃ c,RenE D N1 G1 N2 G2 s1 s2 c∧r = .returned (zI ((c:Nat):Int))
theorem drename_err (w:World)(base m:Nat)(lv tv:Value)(ns:List Nm)(D:Dt)(N1 G1 N2 G2:Int)(s1 s2:ByteArray)(h:DtM w base m lv tv ns D)(hk:DOk D)
   (hbad:dirN D N1 G1≠0∨dirN D N2 G2≠0∨¬ OkN s1∨¬ OkN s2∨∃ x,D.atZ N1 G1=some x∧findE x.es s1.data.toList=none) :
   zK 34 #[zP m,zG N1 G1,.string s1,zG N2 G2,.string s2] w fun r w'=>RenEP w w' D N1 G1 N2 G2 s1 s2 r:=by
 have o1:zQ w ((w.alloc (zH N1 G1)).alloc (zH N2 G2)):=((Only.refl [] w).alloc _).alloc _;have ht:=TwoH.two w N1 G1 N2 G2;have h1:=h.only o1;generalize hw1:((w.alloc (zH N1 G1)).alloc (zH N2 G2))=w1 at o1 ht h1;have HW1:Hid (((w.alloc (zH N1 G1)).alloc (zH N2 G2))=w1):=hw1;have HO:Hid (zQ w1 w1):=Only.refl _ _;have HOO:Hid (zQ w w1):=o1;have HT:Hid (∀ W,zQ w1 W→TwoH W w.heap.size N1 G1 N2 G2):=fun W ho=>ht.kept ho (by simp) (by simp);obtain ⟨b0,b1,b2,b3,_,_,_⟩:=ht.cells;clear hw1
 have num:∀ N G,dirN D N G=0∨dirN D N G=7∨dirN D N G=10:=fun N G=>by
   rcases dir_cases D N G with ⟨_,_,_,h⟩ | ⟨h,_⟩ | ⟨h,_⟩
   · exact Or.inl h
   · exact Or.inr (Or.inl h)
   · exact Or.inr (Or.inr h)
 rcases num N1 G1 with h1d | h1d | h1d
 · have HD1:Hid (∀ W,zQ w1 W→zO 46 #[zP m,zG N1 G1] W (zI 0)):=fun W ho=>ddir_is (h1.only ho) hk h1d
   have HZ1:Hid (dirN D N1 G1=0):=h1d;rcases num N2 G2 with h2d | h2d | h2d
   · have HD2:Hid (∀ W,zQ w1 W→zO 46 #[zP m,zG N2 G2] W (zI 0)):=fun W ho=>ddir_is (h1.only ho) hk h2d
     have HZ2:Hid (dirN D N2 G2=0):=h2d
     by_cases ho1:OkN s1
     · have HN1:Hid (∀ W,zQ w1 W→zE 47 #[.string s1] W (zI 0)):=fun W _=>name_yes ho1 W
       by_cases ho2:OkN s2
       · have HN2:Hid (∀ W,zQ w1 W→zE 47 #[.string s2] W (zI 0)):=fun W _=>name_yes ho2 W
         obtain ⟨x,hx,hf⟩:∃ x,D.atZ N1 G1=some x∧findE x.es s1.data.toList=none:=by
           rcases hbad with e | e | e | e | e
           · exact (e h1d).elim
           · exact (e h2d).elim
           · exact (e ho1).elim
           · exact (e ho2).elim
           · exact e
         obtain ⟨x2,hx2,_,_⟩:∃ x,D.atZ N2 G2=some x∧x.K=2∧dirN D N2 G2=0:=by
           rcases dir_cases D N2 G2 with e | ⟨e,_⟩ | ⟨e,_⟩
           · exact e
           · rw [h2d] at e;cases e
           · rw [h2d] at e;cases e
         have hxK:x.K=2:=by
           rcases dir_cases D N1 G1 with ⟨y,e1,e2,_⟩ | ⟨e,_⟩ | ⟨e,_⟩
           · rw [hx] at e1;cases e1;exact e2
           · rw [h1d] at e;cases e
           · rw [h1d] at e;cases e
         obtain ⟨hxm,hxN,hxG⟩:=atZ_some hx;obtain ⟨hxm2,hxN2,hxG2⟩:=atZ_some hx2;obtain ⟨na,hna,rfl⟩:=h.mem hxm;obtain ⟨nb,hnb,rfl⟩:=h.mem hxm2;have HX:Hid (D.atZ N1 G1=some na.x∧na.x.K=2∧OkN s1∧OkN s2∧findE na.x.es s1.data.toList=none):=⟨hx,hxK,ho1,ho2,hf⟩
         have HA1:Hid (∀ W,zQ w1 W→zO 48 #[zP m,zG N1 G1] W (zP na.b)):=fun W ho=>by
           rw [← hxN,← hxG];exact dat_at (h1.only ho) hk hna
         have HA2:Hid (∀ W,zQ w1 W→zO 48 #[zP m,zG N2 G2] W (zP nb.b)):=fun W ho=>by
           rw [← hxN2,← hxG2];exact dat_at (h1.only ho) hk hnb
         have HFI:Hid (∀ W,zQ w1 W→zE 49 #[zP na.b,.string s1] W (zI (-1))):=fun W ho=>dfind_no (((h1.only ho).each na hna).2) (hk.es _ hxm) hf;clear h h1 hk o1 ht hbad num h1d h2d ho1 ho2 hx hx2 hxK hxm hxm2 hna hnb hf
         go_enter Tryz.func34,Tryz.ntmps34
         go_upto_region 1 with fail
         rw [HW1.out]
         go_wp2_with (first
           | (go_at_call 46;refine (HD1.out _ HO.out).mono ?_;rintro eq wz ⟨rfl,hoz⟩;replace HO:=zT HO hoz;clear hoz b0 b1 b2 b3;obtain ⟨b0,b1,b2,b3,_,_,_⟩:=(HT.out wz HO.out).cells;clear HD1)
           | (go_at_call 46;refine (HD2.out _ HO.out).mono ?_;rintro eq wz ⟨rfl,hoz⟩;replace HO:=zT HO hoz;clear hoz b0 b1 b2 b3;obtain ⟨b0,b1,b2,b3,_,_,_⟩:=(HT.out wz HO.out).cells)
           | (go_at_call 47;refine (HN1.out _ HO.out).mono ?_;rintro eq wz2 ⟨rfl,rfl⟩;clear HN1)
           | (go_at_call 47;refine (HN2.out _ HO.out).mono ?_;rintro eq wz2 ⟨rfl,rfl⟩)
           | (go_at_call 48;refine (HA1.out _ HO.out).mono ?_;rintro eq wz ⟨rfl,hoz⟩;replace HO:=zT HO hoz;clear hoz b0 b1 b2 b3;obtain ⟨b0,b1,b2,b3,_,_,_⟩:=(HT.out wz HO.out).cells;clear HA1)
           | (go_at_call 48;refine (HA2.out _ HO.out).mono ?_;rintro eq wz ⟨rfl,hoz⟩;replace HO:=zT HO hoz;clear hoz b0 b1 b2 b3;obtain ⟨b0,b1,b2,b3,_,_,_⟩:=(HT.out wz HO.out).cells)
           | (go_at_call 49;refine (HFI.out _ HO.out).mono ?_;rintro eq wz2 ⟨rfl,rfl⟩)
           | go_in)
         go_ret
         exact ⟨zo HOO.out HO.out,5,Or.inr (Or.inr (Or.inr ⟨na.x,HX.out.1,HX.out.2.1,HZ2.out,HX.out.2.2.1,HX.out.2.2.2.1,HX.out.2.2.2.2,rfl⟩)),rfl⟩
       · have HN2:Hid (∀ W,zQ w1 W→zE 47 #[.string s2] W (zI 4)):=fun W _=>name_bad ho2 W
         have HS:Hid (¬ OkN s1∨¬ OkN s2):=Or.inr ho2;clear h h1 hk o1 ht hbad num h1d h2d ho1 ho2
         go_enter Tryz.func34,Tryz.ntmps34
         go_upto_region 1 with fail
         rw [HW1.out]
         go_wp2_with (first
           | (go_at_call 46;refine (HD1.out _ HO.out).mono ?_;rintro eq wz ⟨rfl,hoz⟩;replace HO:=zT HO hoz;clear hoz b0 b1 b2 b3;obtain ⟨b0,b1,b2,b3,_,_,_⟩:=(HT.out wz HO.out).cells;clear HD1)
           | (go_at_call 46;refine (HD2.out _ HO.out).mono ?_;rintro eq wz ⟨rfl,hoz⟩;replace HO:=zT HO hoz;clear hoz b0 b1 b2 b3;obtain ⟨b0,b1,b2,b3,_,_,_⟩:=(HT.out wz HO.out).cells)
           | (go_at_call 47;refine (HN1.out _ HO.out).mono ?_;rintro eq wz2 ⟨rfl,rfl⟩;clear HN1)
           | (go_at_call 47;refine (HN2.out _ HO.out).mono ?_;rintro eq wz2 ⟨rfl,rfl⟩)
           | go_in)
         go_ret
         exact ⟨zo HOO.out HO.out,4,Or.inr (Or.inr (Or.inl ⟨HZ1.out,HZ2.out,HS.out,rfl⟩)),rfl⟩
     · have HN1:Hid (∀ W,zQ w1 W→zE 47 #[.string s1] W (zI 4)):=fun W _=>name_bad ho1 W
       have HS:Hid (¬ OkN s1∨¬ OkN s2):=Or.inl ho1;clear h h1 hk o1 ht hbad num h1d h2d ho1
       go_enter Tryz.func34,Tryz.ntmps34
       go_upto_region 1 with fail
       rw [HW1.out]
       go_wp2_with (first
         | (go_at_call 46;refine (HD1.out _ HO.out).mono ?_;rintro eq wz ⟨rfl,hoz⟩;replace HO:=zT HO hoz;clear hoz b0 b1 b2 b3;obtain ⟨b0,b1,b2,b3,_,_,_⟩:=(HT.out wz HO.out).cells;clear HD1)
         | (go_at_call 46;refine (HD2.out _ HO.out).mono ?_;rintro eq wz ⟨rfl,hoz⟩;replace HO:=zT HO hoz;clear hoz b0 b1 b2 b3;obtain ⟨b0,b1,b2,b3,_,_,_⟩:=(HT.out wz HO.out).cells)
         | (go_at_call 47;refine (HN1.out _ HO.out).mono ?_;rintro eq wz2 ⟨rfl,rfl⟩;clear HN1)
         | go_in)
       go_ret
       exact ⟨zo HOO.out HO.out,4,Or.inr (Or.inr (Or.inl ⟨HZ1.out,HZ2.out,HS.out,rfl⟩)),rfl⟩
   · have HD2:Hid (∀ W,zQ w1 W→zO 46 #[zP m,zG N2 G2] W (zI 7)):=fun W ho=>ddir_is (h1.only ho) hk h2d
     have HC:Hid (dirN D N2 G2=7):=h2d;clear h h1 hk o1 ht hbad num h1d h2d
     go_enter Tryz.func34,Tryz.ntmps34
     go_upto_region 1 with fail
     rw [HW1.out]
     go_wp2_with (first
       | (go_at_call 46;refine (HD1.out _ HO.out).mono ?_;rintro eq wz ⟨rfl,hoz⟩;replace HO:=zT HO hoz;clear hoz b0 b1 b2 b3;obtain ⟨b0,b1,b2,b3,_,_,_⟩:=(HT.out wz HO.out).cells;clear HD1)
       | (go_at_call 46;refine (HD2.out _ HO.out).mono ?_;rintro eq wz ⟨rfl,hoz⟩;replace HO:=zT HO hoz;clear hoz b0 b1 b2 b3;obtain ⟨b0,b1,b2,b3,_,_,_⟩:=(HT.out wz HO.out).cells)
       | go_in)
     go_ret
     exact ⟨zo HOO.out HO.out,7,Or.inr (Or.inl ⟨HZ1.out,by rw [HC.out];decide,HC.out.symm⟩),rfl⟩
   · have HD2:Hid (∀ W,zQ w1 W→zO 46 #[zP m,zG N2 G2] W (zI 10)):=fun W ho=>ddir_is (h1.only ho) hk h2d
     have HC:Hid (dirN D N2 G2=10):=h2d;clear h h1 hk o1 ht hbad num h1d h2d
     go_enter Tryz.func34,Tryz.ntmps34
     go_upto_region 1 with fail
     rw [HW1.out]
     go_wp2_with (first
       | (go_at_call 46;refine (HD1.out _ HO.out).mono ?_;rintro eq wz ⟨rfl,hoz⟩;replace HO:=zT HO hoz;clear hoz b0 b1 b2 b3;obtain ⟨b0,b1,b2,b3,_,_,_⟩:=(HT.out wz HO.out).cells;clear HD1)
       | (go_at_call 46;refine (HD2.out _ HO.out).mono ?_;rintro eq wz ⟨rfl,hoz⟩;replace HO:=zT HO hoz;clear hoz b0 b1 b2 b3;obtain ⟨b0,b1,b2,b3,_,_,_⟩:=(HT.out wz HO.out).cells)
       | go_in)
     go_ret
     exact ⟨zo HOO.out HO.out,10,Or.inr (Or.inl ⟨HZ1.out,by rw [HC.out];decide,HC.out.symm⟩),rfl⟩
 · have HD1:Hid (∀ W,zQ w1 W→zO 46 #[zP m,zG N1 G1] W (zI 7)):=fun W ho=>ddir_is (h1.only ho) hk h1d
   have HC:Hid (dirN D N1 G1=7):=h1d;clear h h1 hk o1 ht hbad num h1d
   go_enter Tryz.func34,Tryz.ntmps34
   go_upto_region 1 with fail
   rw [HW1.out]
   go_wp2_with (first
     | (go_at_call 46;refine (HD1.out _ HO.out).mono ?_;rintro eq wz ⟨rfl,hoz⟩;replace HO:=zT HO hoz;clear hoz b0 b1 b2 b3;obtain ⟨b0,b1,b2,b3,_,_,_⟩:=(HT.out wz HO.out).cells)
     | go_in)
   go_ret
   exact ⟨zo HOO.out HO.out,7,Or.inl ⟨by rw [HC.out];decide,HC.out.symm⟩,rfl⟩
 · have HD1:Hid (∀ W,zQ w1 W→zO 46 #[zP m,zG N1 G1] W (zI 10)):=fun W ho=>ddir_is (h1.only ho) hk h1d
   have HC:Hid (dirN D N1 G1=10):=h1d;clear h h1 hk o1 ht hbad num h1d
   go_enter Tryz.func34,Tryz.ntmps34
   go_upto_region 1 with fail
   rw [HW1.out]
   go_wp2_with (first
     | (go_at_call 46;refine (HD1.out _ HO.out).mono ?_;rintro eq wz ⟨rfl,hoz⟩;replace HO:=zT HO hoz;clear hoz b0 b1 b2 b3;obtain ⟨b0,b1,b2,b3,_,_,_⟩:=(HT.out wz HO.out).cells)
     | go_in)
   go_ret
   exact ⟨zo HOO.out HO.out,10,Or.inl ⟨by rw [HC.out];decide,HC.out.symm⟩,rfl⟩
theorem ups_still {D:Dt}{i c n:Nat}(h:ups D i c (n+1)=ups D i c n):∀ k,ups D i c (n+k)=ups D i c n:=fun k=>by
 induction k with
 | zero=>rfl
 | succ k ih =>
  show D.up (ups D i c (n+k)).1 (ups D i c (n+k)).2=_;rw [ih];exact h
theorem ups_out {D:Dt}{i c n a b:Nat}(h:ups D i c (n+1)=ups D i c n)(hno:∀ j,j≤n→ups D i c j≠(a,b)):¬ InD D i c a b:=by
 rintro ⟨k,hk⟩;rcases Nat.lt_or_ge n k with h1 | h1
 · obtain ⟨d,rfl⟩:∃ d,k=n+d:=⟨k - n,by omega⟩
   rw [ups_still h] at hk;exact hno n (Nat.le_refl _) hk
 · exact hno k h1 hk
theorem up_step {D:Dt}(hI:DInv D){r:Nat→Nat}(hr:∀ x∈D.L,∀ e∈x.es,(∃ y∈D.L,y.i=e.i∧y.K=2)→r x.i < r e.i){v:Dn}(hv:v∈D.L)(hK:v.K=2):(D.up v.i v.c=(v.i,v.c))∨∃ y∈D.L,y.K=2∧D.up v.i v.c=(y.i,y.c)∧r y.i < r v.i:=by
 unfold Dt.up
 cases h:D.L.find? (fun x=>x.es.any (·.to v.i v.c)) with
 | none=>exact Or.inl rfl
 | some y =>
  right;have hy:=List.mem_of_find?_eq_some h;have ht:=List.find?_some h;obtain ⟨e,he,h2⟩:=List.any_eq_true.1 ht;obtain ⟨h3,_⟩:=to_iff.1 h2;refine ⟨y,hy,?_,rfl,?_⟩
  · rcases hI.kind y hy with ⟨_,h4⟩ | ⟨h4,_⟩
    · rw [h4] at he
      cases he
    · exact h4
  · have:=hr y hy e he ⟨v,hv,h3.symm,hK⟩
    rw [h3] at this;exact this
def measU (r:Nat→Nat)(p:Value)(w:World):Nat:=match p with
 | .pointer (some a)=>match w.cell? (zA a.block 0) with
  | some (.int _ z)=>r z.toNat
  | _=>0
 | _=>0
theorem measU_is {r:Nat→Nat}{w:World}{B i c:Nat}(h:HBox w B i c):measU r (zP B) w=r i:=by
 unfold measU;dsimp only;rw [h.cells.1];rfl
theorem up_again {wX wu:World}{B7:Nat}{y:Nat×Nat}(ho:zQ wX wu)(hge:wX.heap.size≤B7):
  HBox ((((wu.setCell (zA B7 0) (zI y.1)).setCell (zA B7 1) (zI y.2)).alloc (zH y.1 y.2)).alloc (zH y.1 y.2)) (wu.heap.size+1) y.1 y.2 ∧
  zQ wX ((((wu.setCell (zA B7 0) (zI y.1)).setCell (zA B7 1) (zI y.2)).alloc (zH y.1 y.2)).alloc (zH y.1 y.2)):=by
 have h1:=zh (((wu.setCell (zA B7 0) (zI y.1)).setCell (zA B7 1) (zI y.2)).alloc (zH y.1 y.2)) (zH y.1 y.2);rw [World.size_alloc] at h1
 have h2:((wu.setCell (zA B7 0) (zI y.1)).setCell (zA B7 1) (zI y.2)).heap.size=wu.heap.size:=by simp
 rw [h2] at h1;exact ⟨h1,(((ho.setCell (p:=⟨B7,0,none⟩) (Or.inr hge) _).setCell (p:=⟨B7,1,none⟩) (Or.inr hge) _).alloc _).alloc _⟩
structure UpAt (wX wr:World)(D:Dt)(i c a b B:Nat)(v:Dn):Prop where
 box:HBox wr B v.i v.c
 ge:wX.heap.size≤B
 mem:v∈D.L
 dir:v.K=2
 only:zQ wX wr
 chain:∃ n,ups D i c n=(v.i,v.c)∧∀ j,j < n→ups D i c j≠(a,b)
theorem up_next {wX wr:World}{D:Dt}{i c a b B:Nat}{v:Dn}(hU:UpAt wX wr D i c a b B v)(hi:¬ (v.i=a∧v.c=b)){y:Dn}(hst:D.up v.i v.c=(y.i,y.c))(hy:y∈D.L)(hyK:y.K=2){W:World}{B':Nat}(hb:HBox W B' y.i y.c)(hge:wX.heap.size≤B')(ho:zQ wX W):UpAt wX W D i c a b B' y:=by
 obtain ⟨n,hn,hno⟩:=hU.chain;refine ⟨hb,hge,hy,hyK,ho,n+1,?_,fun j hj=>?_⟩
 · show D.up (ups D i c n).1 (ups D i c n).2=_
   rw [hn];exact hst
 · rcases Nat.lt_or_ge j n with h1 | h1
   · exact hno j h1
   · obtain rfl:j=n:=by omega
     rw [hn];exact fun e2=>hi ⟨congrArg Prod.fst e2,congrArg Prod.snd e2⟩
structure RenPre (w:World)(base m:Nat)(lv tv:Value)(ns:List Nm)(D:Dt)(na nb ny:Nm)(e:Ent)(k:Nat)(s1 s2:ByteArray):Prop where
 h:DtM w base m lv tv ns D
 hI:DInv D
 hk:DOk D
 hna:na∈ns
 hnb:nb∈ns
 hny:ny∈ns
 haK:na.x.K=2
 hbK:nb.x.K=2
 ho1:OkN s1
 ho2:OkN s2
 hf:findE na.x.es s1.data.toList=some e
 hq:na.x.es[k]?=some e
 hyi:ny.x.i=e.i
 hyc:ny.x.c=e.c
theorem ren_pre {w:World}{base m:Nat}{lv tv:Value}{ns:List Nm}{D:Dt}{na nb ny:Nm}{e:Ent}{k:Nat}{s1 s2:ByteArray}(H:RenPre w base m lv tv ns D na nb ny e k s1 s2):∃ w1 la ada capa,Hid (((w.alloc (zH na.x.i na.x.c)).alloc (zH nb.x.i nb.x.c))=w1)∧Hid (zQ w w1)∧Hid (∀ W,zQ w1 W→TwoH W w.heap.size (na.x.i:Nat) (na.x.c:Nat) (nb.x.i:Nat) (nb.x.c:Nat))∧Hid (∀ W,zQ w1 W→zO 46 #[zP m,zG na.x.i na.x.c] W (zI 0))∧Hid (∀ W,zQ w1 W→zO 46 #[zP m,zG nb.x.i nb.x.c] W (zI 0))∧Hid (∀ W,zQ w1 W→zE 47 #[.string s1] W (zI 0))∧Hid (∀ W,zQ w1 W→zE 47 #[.string s2] W (zI 0))∧Hid (∀ W,zQ w1 W→zO 48 #[zP m,zG na.x.i na.x.c] W (zP na.b))∧Hid (∀ W,zQ w1 W→zO 48 #[zP m,zG nb.x.i nb.x.c] W (zP nb.b))∧Hid (∀ W,zQ w1 W→zO 48 #[zP m,zG e.i e.c] W (zP ny.b))∧Hid (∀ W,zQ w1 W→zE 49 #[zP na.b,.string s1] W (zI k))∧Hid (∀ W,zQ w1 W→W.cell? (zA na.b 6)=some (.slice ada la capa))∧Hid (∀ W,zQ w1 W→∀ j f,na.x.es[j]?=some f→∃ g,W.cell? (zA na.b 6)=some (.slice (some ⟨g,0,none⟩) la capa)∧W.cell? ⟨g,j*3+1,none⟩=some (zI f.i)∧W.cell? ⟨g,j*3+2,none⟩=some (zI f.c))∧Hid (∀ W,zQ w1 W→W.cell? (zA ny.b 2)=some (zI ny.x.K))∧Hid (∀ W i c,zQ w1 W→zO 67 #[zP m,zG ((i:Nat):Int) ((c:Nat):Int)] W (zG ((D.up i c).1:Nat) ((D.up i c).2:Nat)))∧Hid (DtM w1 base m lv tv ns D)∧Hid (DInv D∧DOk D∧nb.x∈D.L∧nb.x.K=2)∧k < la∧la≤1000∧na.x.es.length=la:=by
 obtain ⟨h,hI,hk,hna,hnb,hny,haK,hbK,ho1,ho2,hf,hq,hyi,hyc⟩:=H;have o1:zQ w ((w.alloc (zH na.x.i na.x.c)).alloc (zH nb.x.i nb.x.c)):=((Only.refl [] w).alloc _).alloc _;have ht:=TwoH.two w (na.x.i:Nat) (na.x.c:Nat) (nb.x.i:Nat) (nb.x.c:Nat);have h1:=h.only o1;generalize ((w.alloc (zH na.x.i na.x.c)).alloc (zH nb.x.i nb.x.c))=w1 at o1 ht h1 ⊢;obtain ⟨la,hlaa⟩:∃ la,na.x.es.length=la:=⟨_,rfl⟩;obtain ⟨ada,capa,_,hrowa⟩:=ent_row (h1.each na hna).2 hlaa
 exact ⟨w1,la,ada,capa,(rfl:w1=w1),o1,fun W ho=>ht.kept ho (by simp) (by simp),fun W ho=>ddir_is (h1.only ho) hk (dir_no (atZ_of hk.nos (h.inL hna) (isB_iff.2 ⟨rfl,rfl⟩)) haK),fun W ho=>ddir_is (h1.only ho) hk (dir_no (atZ_of hk.nos (h.inL hnb) (isB_iff.2 ⟨rfl,rfl⟩)) hbK),fun W _=>name_yes ho1 W,fun W _=>name_yes ho2 W,fun W ho=>dat_at (h1.only ho) hk hna,fun W ho=>dat_at (h1.only ho) hk hnb,fun W ho=>by
  have:=dat_at (h1.only ho) hk hny;rw [hyi,hyc] at this
  exact this,fun W ho=>dfind_at (((h1.only ho).each na hna).2) (hk.es _ (h.inL hna)) ((hI.rise _ (h.inL hna)).1) hf hq,fun W ho=>(hrowa W ho).1,fun W ho j f hj=>by
  obtain ⟨r1,_,_,r2⟩:=hrowa W ho;obtain ⟨g,rfl,_,r3,r4⟩:=r2 j f hj
  exact ⟨g,r1,r3,r4⟩,fun W ho=>(((h1.only ho).each ny hny).2).c2,fun W i c ho=>dup_any W base m lv tv ns D i c (h1.only ho) (h.nlen hk) hk.es,h1,⟨hI,hk,h.inL hnb,hbK⟩,by rw [← hlaa];exact (List.getElem?_eq_some_iff.1 hq).1,by rw [← hlaa];exact hk.es _ (h.inL hna),hlaa⟩
theorem ren_way {wX wr:World}{D:Dt}{i c a b B:Nat}{v:Dn}{K:Int}{r:Nat→Nat}(hI:DInv D)(hr:∀ x∈D.L,∀ e∈x.es,(∃ y∈D.L,y.i=e.i∧y.K=2)→r x.i < r e.i)(hU:UpAt wX wr D i c a b B v)(hout:K=2→¬ InD D i c a b):
   (∃ y,K=2∧¬ (v.i=a∧v.c=b)∧D.up v.i v.c=(y.i,y.c)∧r y.i < r v.i∧∀ W B',HBox W B' y.i y.c→wX.heap.size≤B'→zQ wX W→UpAt wX W D i c a b B' y)∨K≠2∨(K=2∧¬ (v.i=a∧v.c=b)∧D.up v.i v.c=(v.i,v.c)∧v.i=a)∨(K=2∧¬ (v.i=a∧v.c=b)∧D.up v.i v.c=(v.i,v.c)∧v.i≠a):=by
 by_cases hK:K=2
 · have hi:¬ (v.i=a∧v.c=b):=fun hi=>by
     obtain ⟨n,hn,_⟩:=hU.chain;exact hout hK ⟨n,by rw [hn,hi.1,hi.2]⟩
   rcases up_step hI hr hU.mem hU.dir with hst | ⟨y,hy,hyK,hst,hlt⟩
   · by_cases hv:v.i=a
     · exact Or.inr (Or.inr (Or.inl ⟨hK,hi,hst,hv⟩))
     · exact Or.inr (Or.inr (Or.inr ⟨hK,hi,hst,hv⟩))
   · exact Or.inl ⟨y,hK,hi,hst,hlt,fun W B' hb hge ho=>up_next hU hi hst hy hyK hb hge ho⟩
 · exact Or.inr (Or.inl hK)
theorem ren_over {w1:World}{base m:Nat}{lv tv:Value}{ns:List Nm}{D:Dt}{nb nz:Nm}{f:Ent}{j:Nat}{s2:ByteArray}(h1:DtM w1 base m lv tv ns D)(hI:DInv D)(hk:DOk D)(hnb:nb∈ns)(hf2:findE nb.x.es s2.data.toList=some f)(hq2:nb.x.es[j]?=some f)(hnz:nz∈ns)(hzi:nz.x.i=f.i)(hzc:nz.x.c=f.c):
  ∃ lb adb capb lz adz capz,Hid (∀ W,zQ w1 W→zE 49 #[zP nb.b,.string s2] W (zI j))∧Hid (∀ W,zQ w1 W→∃ g,W.cell? (zA nb.b 6)=some (.slice (some ⟨g,0,none⟩) lb capb)∧W.cell? ⟨g,j*3+1,none⟩=some (zI f.i)∧W.cell? ⟨g,j*3+2,none⟩=some (zI f.c))∧Hid (∀ W,zQ w1 W→zO 48 #[zP m,zG f.i f.c] W (zP nz.b))∧Hid (∀ W,zQ w1 W→W.cell? (zA nz.b 0)=some (zI nz.x.i)∧W.cell? (zA nz.b 1)=some (zI nz.x.c)∧W.cell? (zA nz.b 2)=some (zI nz.x.K)∧W.cell? (zA nz.b 6)=some (.slice adz lz capz))∧j < lb∧lb≤1000∧lz≤1000∧nb.x.es.length=lb∧nz.x.es.length=lz∧nb.ev = .slice adb lb capb:=by
 obtain ⟨lb,hlbb⟩:∃ lb,nb.x.es.length=lb:=⟨_,rfl⟩;obtain ⟨adb,capb,hevb,hrowb⟩:=ent_row (h1.each nb hnb).2 hlbb;obtain ⟨lz,hlzz⟩:∃ lz,nz.x.es.length=lz:=⟨_,rfl⟩;obtain ⟨adz,capz,_,hrowz⟩:=ent_row (h1.each nz hnz).2 hlzz
 exact ⟨lb,adb,capb,lz,adz,capz,fun W ho=>dfind_at (((h1.only ho).each nb hnb).2) (hk.es _ (h1.inL hnb)) ((hI.rise _ (h1.inL hnb)).1) hf2 hq2,fun W ho=>by
  obtain ⟨r1,_,_,r2⟩:=hrowb W ho;obtain ⟨g,rfl,_,r3,r4⟩:=r2 j f hq2
  exact ⟨g,r1,r3,r4⟩,fun W ho=>by
  have:=dat_at (h1.only ho) hk hnz;rw [hzi,hzc] at this
  exact this,fun W ho=>⟨(((h1.only ho).each nz hnz).2).c0,(((h1.only ho).each nz hnz).2).c1,(((h1.only ho).each nz hnz).2).c2,(hrowz W ho).1⟩,by rw [← hlbb];exact (List.getElem?_eq_some_iff.1 hq2).1,by rw [← hlbb];exact hk.es _ (h1.inL hnb),by rw [← hlzz];exact hk.es _ (h1.inL hnz),hlbb,hlzz,hevb⟩
def RenQP (w w':World)(c:Nat)(r:Ending):Prop:=zQ w w'∧r = .returned (zI ((c:Nat):Int))
theorem drename_in {w:World}{base m:Nat}{lv tv:Value}{ns:List Nm}{D:Dt}{na nb ny:Nm}{e:Ent}{k:Nat}{s1 s2:ByteArray}(H:RenPre w base m lv tv ns D na nb ny e k s1 s2)(hyK:ny.x.K=2)(hin:InD D nb.x.i nb.x.c e.i e.c):
  zK 34 #[zP m,zG na.x.i na.x.c,.string s1,zG nb.x.i nb.x.c,.string s2] w fun r w'=>RenQP w w' 3 r:=by
 obtain ⟨w1,la,ada,capa,HW1,HOO,HT,HD1,HD2,HN1,HN2,HA1,HA2,HA3,HFI,HBA,HCA,HYK,HUPC,HH1,HII,hkl,hla,hlaa⟩:=ren_pre H;obtain ⟨h,hI,hk,hna,hnb,hny,haK,hbK,ho1,ho2,hf,hq,hyi,hyc⟩:=H;have HO:Hid (zQ w1 w1):=Only.refl _ _;have h1:=HH1.out;have o1:=HOO.out;obtain ⟨b0,b1,b2,b3,_,_,_⟩:=(HT.out w1 HO.out).cells;have HCE:Hid (∀ W,zQ w1 W→_):=fun W ho=>HCA.out W ho k e hq;have HIN:Hid (InD D nb.x.i nb.x.c e.i e.c):=hin;have HYD:Hid (ny.x.K=2):=hyK;clear h1 o1 hlaa h hI hk hna hnb hny haK hbK ho1 ho2 hf hq hyi hyc hin hyK
 go_enter Tryz.func34,Tryz.ntmps34
 go_upto_region 1 with fail
 rw [HW1.out]
 go_upto_region 16 with (first
  | (go_at_call 46;refine (HD1.out _ HO.out).mono ?_;rintro eq wz ⟨rfl,hoz⟩;replace HO:=zT HO hoz;clear hoz b0 b1 b2 b3;obtain ⟨b0,b1,b2,b3,_,_,_⟩:=(HT.out wz HO.out).cells;clear HD1)
  | (go_at_call 46;refine (HD2.out _ HO.out).mono ?_;rintro eq wz ⟨rfl,hoz⟩;replace HO:=zT HO hoz;clear hoz b0 b1 b2 b3;obtain ⟨b0,b1,b2,b3,_,_,_⟩:=(HT.out wz HO.out).cells)
  | (go_at_call 47;refine (HN1.out _ HO.out).mono ?_;rintro eq wz2 ⟨rfl,rfl⟩;clear HN1)
  | (go_at_call 47;refine (HN2.out _ HO.out).mono ?_;rintro eq wz2 ⟨rfl,rfl⟩)
  | (go_at_call 48;refine (HA1.out _ HO.out).mono ?_;rintro eq wz ⟨rfl,hoz⟩;replace HO:=zT HO hoz;clear hoz b0 b1 b2 b3;obtain ⟨b0,b1,b2,b3,_,_,_⟩:=(HT.out wz HO.out).cells;clear HA1)
  | (go_at_call 48;refine (HA2.out _ HO.out).mono ?_;rintro eq wz ⟨rfl,hoz⟩;replace HO:=zT HO hoz;clear hoz b0 b1 b2 b3;obtain ⟨b0,b1,b2,b3,_,_,_⟩:=(HT.out wz HO.out).cells)
  | (go_at_call 49;refine (HFI.out _ HO.out).mono ?_;rintro eq wz2 ⟨rfl,rfl⟩;obtain ⟨g6,q6,q1,q2⟩:=HCE.out _ HO.out)
  | go_in)
 have HBX:Hid (HBox (wz.alloc (zH e.i e.c)) wz.heap.size e.i e.c):=zh wz _;have HOX:Hid (zQ w1 (wz.alloc (zH e.i e.c))):=HO.out.alloc _;clear HO b0 b1 b2 b3 q6 q1 q2;generalize wz.alloc (zH e.i e.c)=wX at HBX HOX ⊢;generalize wz.heap.size=b15 at HBX ⊢;have HBUN:Hid (∀ W,zQ wX W→TwoH W w.heap.size (na.x.i:Nat) (na.x.c:Nat) (nb.x.i:Nat) (nb.x.c:Nat)∧HBox W b15 e.i e.c):=fun W ho=>⟨HT.out W (zo HOX.out ho),HBX.out.kept ho (by simp)⟩;obtain ⟨b0,b1,b2,b3,_,_,_⟩:=(HBUN.out wX (Only.refl _ _)).1.cells;obtain ⟨z0,z1⟩:=(HBUN.out wX (Only.refl _ _)).2.cells;have HO:Hid (zQ wX wX):=Only.refl _ _
 go_wp2_with (first
  | (go_at_call 48;refine (HA3.out _ (zo HOX.out HO.out)).mono ?_;rintro eq wy ⟨rfl,hoz⟩;replace HO:=zT HO hoz;clear hoz b0 b1 b2 b3 z0 z1;obtain ⟨b0,b1,b2,b3,_,_,_⟩:=(HBUN.out wy HO.out).1.cells;obtain ⟨z0,z1⟩:=(HBUN.out wy HO.out).2.cells)
  | go_in)
 have HU0:Hid (UpAt wX (wy.alloc (zH nb.x.i nb.x.c)) D nb.x.i nb.x.c e.i e.c wy.heap.size nb.x):=⟨zh wy _,HO.out.size,HII.out.2.2.1,HII.out.2.2.2,HO.out.alloc _,0,rfl,fun j hj=>by omega⟩;clear HO b0 b1 b2 b3 z0 z1;obtain ⟨r,hr⟩:=HII.out.1.rank;have HRK:Hid (∀ x∈D.L,∀ e∈x.es,(∃ y∈D.L,y.i=e.i∧y.K=2)→r x.i < r e.i):=hr;clear hr
 go_loopw [17] (fun p wr=>∃ B v,p=zP B∧UpAt wX wr D nb.x.i nb.x.c e.i e.c B v) (fun p wr=>measU r p wr)
 case atStart=>exact ⟨_,_,rfl,HU0.out⟩
 case round =>
  obtain ⟨B7,v,rfl,hU⟩:=hrel;clear HU0;have HU:Hid (UpAt wX wr D nb.x.i nb.x.c e.i e.c B7 v):=hU;have HO:Hid (zQ wX wr):=hU.only;have yK:=HYK.out wr (zo HOX.out hU.only);obtain ⟨b0,b1,b2,b3,_,_,_⟩:=(HBUN.out wr hU.only).1.cells;obtain ⟨z0,z1⟩:=(HBUN.out wr hU.only).2.cells;obtain ⟨u0,u1⟩:=hU.box.cells;have hml:=measU_is (r:=r) hU.box;clear hU;rw [HYD.out] at yK
  by_cases hi:v.i=e.i∧v.c=e.c
  · obtain ⟨hi1,hi2⟩:=hi
    have d1:((v.i:Int)==(e.i:Int))=true:=by rw [hi1];simp
    have d2:((v.c:Int)==(e.c:Int))=true:=by rw [hi2];simp
    clear hi1 hi2
    go_wp2
    go_ret
    exact ⟨zo HOO.out (zo HOX.out HO.out),rfl⟩
  · obtain ⟨y,hyD,hst,hlt,hnx⟩:∃ y:Dn,ny.x.K=2∧D.up v.i v.c=(y.i,y.c)∧r y.i < r v.i∧∀ W B',HBox W B' y.i y.c→wX.heap.size≤B'→zQ wX W→UpAt wX W D nb.x.i nb.x.c e.i e.c B' y:=by
      rcases up_step HII.out.1 HRK.out HU.out.mem HU.out.dir with hst | ⟨y,hy,hyK,hst,hlt⟩
      · exfalso
        obtain ⟨n,hn,hno⟩:=HU.out.chain;refine ups_out (n:=n) (D:=D) (i:=nb.x.i) (c:=nb.x.c) ?_ (fun j hj=>?_) HIN.out
        · show D.up (ups D nb.x.i nb.x.c n).1 (ups D nb.x.i nb.x.c n).2=_
          rw [hn];exact hst
        · rcases Nat.lt_or_ge j n with h1 | h1
          · exact hno j h1
          · obtain rfl:j=n:=by omega
            rw [hn];exact fun e2=>hi ⟨congrArg Prod.fst e2,congrArg Prod.snd e2⟩
      · exact ⟨y,HYD.out,hst,hlt,fun W B' hb hge ho=>up_next HU.out hi hst hy hyK hb hge ho⟩
    have hup:=HUPC.out wr v.i v.c (zo HOX.out HO.out);rw [hst] at hup
    have hyv:y.i≠v.i:=fun e2=>by rw [e2] at hlt;omega
    have dd:((y.i:Int)==(v.i:Int))=false:=zb (by omega);have HLT:Hid (r y.i < r v.i):=hlt;have HNX:Hid (∀ W B',HBox W B' y.i y.c→wX.heap.size≤B'→zQ wX W→UpAt wX W D nb.x.i nb.x.c e.i e.c B' y):=hnx;have HGE:Hid (wX.heap.size≤B7):=HU.out.ge;clear hst hlt hnx hyv
    by_cases hvi:v.i=e.i
    all_goals first | (have dc:((v.c:Int)==(e.c:Int))=false:=zb (fun e2=>hi ⟨hvi,by omega⟩);have dv:((v.i:Int)==(e.i:Int))=true:=by rw [hvi];simp) | (have dc:((v.i:Int)==(e.i:Int))=false:=zb (by omega))
    all_goals
      clear hi hvi
      go_wp2_with (first
        | (go_at_call 67;refine hup.mono ?_;rintro eq wu ⟨rfl,hou⟩;have HOn:Hid (zQ wX wu):=zo HO.out hou;have HB7:Hid (HBox wu B7 v.i v.c):=HU.out.box.kept hou (by simp);clear HO u0 u1;have HO:=HOn;clear HOn hou hup;obtain ⟨u0,u1⟩:=HB7.out.cells;have fz0:=HB7.out.frozen 0;have fz1:=HB7.out.frozen 1;have hl7:=HB7.out.lt)
        | go_in)
      obtain ⟨hb9,ho9⟩:=up_again (y:=(y.i,y.c)) HO.out HGE.out;refine ⟨⟨_,y,rfl,HNX.out _ _ hb9 (Nat.le_succ_of_le HO.out.size) ho9⟩,?_⟩;rw [measU_is hb9,hml];exact HLT.out
end
end Go.Proofs.YtkcabopgajlmdaaGreatDoor
