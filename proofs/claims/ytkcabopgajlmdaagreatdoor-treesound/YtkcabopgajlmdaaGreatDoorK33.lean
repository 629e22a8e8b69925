import Derived.Test.YtkcabopgajlmdaaGreatDoorK32
set_option maxRecDepth 100000
set_option maxHeartbeats 8000000
namespace Go.Proofs.YtkcabopgajlmdaaGreatDoor
section
open Go Go.RowKit Go.Deep Go.Maps
theorem DtM.timesRow {w:World}{base m:Nat}{lv tv:Value}{ns:List Nm}{D:Dt}(h:DtM w base m lv tv ns D){k:Nat}(hk:k < D.most):∃ tb cap,tv = .slice (some ⟨tb,0,none⟩) D.most cap∧∀ W,zQ w W→W.cell? (zA m 2)=some tv∧W.cell? ⟨tb,k,none⟩=some (zI (D.t k:Nat))∧W.frozen? ⟨tb,k,none⟩=false∧tb < W.heap.size:=by
 obtain ⟨ad,cap,e,hf⟩:=row_cells1 h.times;obtain ⟨g,rfl,_,hg,hc⟩:=hf k k (by rw [List.getElem?_range hk]);refine ⟨g,cap,by rw [e,List.length_range],fun W ho=>?_⟩
 have hfz:w.frozen? ⟨g,k,none⟩=false:=by
  obtain ⟨_,_,cur,hb⟩:=own_blk h.times (b:=g) (by rw [e];rfl);exact frozen_of_row _ _ _ _ _ hb
 exact ⟨(h.only ho).c2,(ho.cell (p:=⟨g,k,none⟩) (zv hc) (by simp)).trans hc,(ho.frozen (p:=⟨g,k,none⟩) hg (by simp)).trans hfz,Nat.lt_of_lt_of_le hg ho.size⟩
theorem range_set (t:Nat→Nat)(n k v:Nat)(hk:k < n):((List.range n).map fun j=>Value.int .i64 (t j:Nat)).set k (zI v)=(List.range n).map fun j=>Value.int .i64 (setN t k v j:Nat):=by
 apply List.ext_getElem?;intro j;rw [List.getElem?_set,List.getElem?_map,List.getElem?_map]
 by_cases h1:k=j
 · subst h1
   simp [hk,setN_same]
 · rw [if_neg h1]
   by_cases h2:j < n
   · simp [h2,setN_other t v (fun e=>h1 e.symm)]
   · simp [h2]
theorem DtM.timed {w:World}{base m tb cap k:Nat}{lv:Value}{ns:List Nm}{D:Dt}(h:DtM w base m lv (.slice (some ⟨tb,0,none⟩) D.most cap) ns D)(hk:k < D.most)(z:Int)(hz:z=((D.t k+1:Nat):Int)):
   DtM (w.setCell ⟨tb,k,none⟩ (zI z)) base m lv (.slice (some ⟨tb,0,none⟩) D.most cap) ns { D with t:=setN D.t k (D.t k+1) }∧Only [tb] w (w.setCell ⟨tb,k,none⟩ (zI z)):=by
 subst hz;have hs:Only [tb] w (w.setCell ⟨tb,k,none⟩ (zI ((D.t k+1:Nat):Int))):=(Only.refl [tb] w).setCell (Or.inl (by simp)) _;obtain ⟨_,_,cur,htb⟩:=own_blk h.times (b:=tb) rfl
 have away:∀ k cs ty,w.heap[k]?=some (.cells cs ty (0,0))→ty≠3→k∉[tb]:=fun k cs ty hc ht hk=>by
   rw [List.mem_singleton.1 hk,htb] at hc;simp at hc;exact ht hc.2.symm
 refine ⟨⟨(hs.block m (h.lt (Or.inl rfl)) (away m _ _ h.tab (by decide))).trans h.tab,hs.owns h.row (fun q hq=>?_),?_,h.nodes,fun n hn=>?_,h.nod,h.hol,h.bm⟩,hs⟩
 · obtain ⟨_,_,cur2,hc⟩:=own_blk h.row hq
   exact away q _ _ hc (by decide)
 · have h3:w.ownsRow base 3 1 (.slice (some ⟨tb,0,none⟩) D.most cap) D.most ((List.range D.most).map fun j=>Value.int .i64 (D.t j:Nat)):=by
     have:=h.times;rw [List.length_range] at this;exact this
   have h1:=(World.ownsRow.stored h3 k (zI ((D.t k+1:Nat):Int))).1;rw [range_set _ _ _ _ hk] at h1;show World.ownsRow _ base _ 1 _ (List.range D.most).length _;rw [List.length_range];exact h1
 · obtain ⟨h1,h2⟩:=h.each n hn
   refine ⟨h1,h2.kept hs (away _ _ _ h2.blk (by decide)) (fun q hq=>?_) (fun q hq=>?_)⟩
   · obtain ⟨_,_,cur2,hc⟩:=own_blk h2.holes hq
     exact away q _ _ hc (by decide)
   · obtain ⟨_,_,cur2,hc⟩:=own_blk h2.ents hq
     exact away q _ _ hc (by decide)
def newNm (b k c:Nat)(K:Int):Nm:=⟨b,.slice none 0 0,.slice none 0 0,⟨k,c,K,0,⟨#[]⟩,[],[],0⟩⟩
theorem DtM.grew {w w4:World}{base m:Nat}{lv tv v':Value}{ns:List Nm}{D:Dt}{k c:Nat}{K:Int}(h:DtM w base m lv tv ns D)(hb:base≤w.heap.size)
   (hgr:((w.alloc (.cells (newNm w.heap.size k c K).cells 84)).alloc (.cells #[zP w.heap.size] 79)).grownBy w4 lv.ownBlock) (hown:w4.ownsRow base 79 1 v' (ns.length+1) (ns.map ptrOf++[ptrOf (newNm w.heap.size k c K)])) :
   w4.cell? (zA m 1)=some lv∧w4.frozen? ⟨m,1,none⟩=false∧m < w4.heap.size∧DtM (w4.setCell (zA m 1) v') base m v' tv (ns++[newNm w.heap.size k c K]) { D with L:=D.L++[(newNm w.heap.size k c K).x] }∧Only (m::lv.ownBlock.toList) w (w4.setCell (zA m 1) v'):=by
 have o1:zQ w ((w.alloc (.cells (newNm w.heap.size k c K).cells 84)).alloc (.cells #[zP w.heap.size] 79)):=((Only.refl [] w).alloc _).alloc _;have o4:Only lv.ownBlock.toList w w4:=(o1.mono (fun _ hk=>by cases hk)).grown hgr (fun q hq=>Or.inl (by simp [hq]));have o5:Only (m::lv.ownBlock.toList) w (w4.setCell (zA m 1) v'):=(o4.mono (fun q hq=>Or.inl (List.mem_cons_of_mem _ hq))).setCell (Or.inl (by simp)) _;have mlt:=h.lt (Or.inl rfl)
 have awayL:∀ q cs ty,w.heap[q]?=some (.cells cs ty (0,0))→ty≠79→q∉lv.ownBlock.toList:=fun q cs ty hc ht hq=>by
   obtain ⟨_,_,cur,hb⟩:=own_blk h.row (b:=q) (by simpa using hq);rw [hb] at hc;simp at hc;exact ht hc.2.symm
 have away:∀ q cs ty,w.heap[q]?=some (.cells cs ty (0,0))→ty≠79→ty≠78→q∉m::lv.ownBlock.toList:=fun q cs ty hc h1 h2 hq=>by
   rcases List.mem_cons.1 hq with e | e
   · rw [e,h.tab] at hc
     simp at hc;exact h2 hc.2.symm
   · exact awayL q cs ty hc h1 e
 have t4:w4.heap[m]?=some (.cells #[zI D.most,lv,tv] 78 (0,0)):=(o4.block m mlt (awayL m _ _ h.tab (by decide))).trans h.tab
 have hnb:w4.heap[w.heap.size]?=some (.cells (newNm w.heap.size k c K).cells 84 (0,0)):=by
   have h1:(w.alloc (.cells (newNm w.heap.size k c K).cells 84)).heap[w.heap.size]?=some (.cells (newNm w.heap.size k c K).cells 84 (0,0)):=zh w _;have h2:((w.alloc (.cells (newNm w.heap.size k c K).cells 84)).alloc (.cells #[zP w.heap.size] 79)).heap[w.heap.size]?=some (.cells (newNm w.heap.size k c K).cells 84 (0,0)):=(((Only.refl [] _).alloc _).block w.heap.size (by rw [World.size_alloc];omega) (by simp)).trans h1;refine (hgr.block w.heap.size (by rw [World.size_alloc,World.size_alloc];omega) (fun e=>?_)).trans h2;have:=(own_blk h.row e.symm).2.1;omega
 have hnm:m≠w.heap.size:=by omega
 refine ⟨cell_of_row _ _ 1 _ _ _ t4,frozen_of_row _ _ _ _ _ t4,(Array.getElem?_eq_some_iff.1 t4).1,⟨heap_setCell_same w4 m 1 _ _ _ t4,?_,o5.owns h.times (fun q hq=>?_),?_,fun n hn=>?_,?_,fun a ha b hbm hab q hqa hqb=>?_,h.bm⟩,o5⟩
 · have hs4:Only [m] w4 (w4.setCell (zA m 1) v'):=(Only.refl [m] w4).setCell (Or.inl (by simp)) _
   have:=hs4.owns hown (fun q hq hqm=>by
     obtain ⟨_,_,cur,hc⟩:=own_blk hown hq;rw [List.mem_singleton.1 hqm,t4] at hc
     simp at hc)
   rw [List.length_append,List.map_append];exact this
 · obtain ⟨_,_,cur,hc⟩:=own_blk h.times hq
   exact away q _ _ hc (by decide) (by decide)
 · show D.L++[_]=_
   rw [h.nodes,List.map_append];rfl
 · rcases List.mem_append.1 hn with hn | hn
   · obtain ⟨h1,h2⟩:=h.each n hn
     refine ⟨h1,h2.kept o5 (away _ _ _ h2.blk (by decide) (by decide)) (fun q hq=>?_) (fun q hq=>?_)⟩
     · obtain ⟨_,_,cur2,hc⟩:=own_blk h2.holes hq
       exact away q _ _ hc (by decide) (by decide)
     · obtain ⟨_,_,cur2,hc⟩:=own_blk h2.ents hq
       exact away q _ _ hc (by decide) (by decide)
   · obtain rfl:=List.mem_singleton.1 hn
     refine ⟨hb,?_,World.ownsRow_nil _ _ _ _,Ents.nil _ _⟩;have hs4:Only [m] w4 (w4.setCell (zA m 1) v'):=(Only.refl [m] w4).setCell (Or.inl (by simp)) _;exact (hs4.block w.heap.size (Array.getElem?_eq_some_iff.1 hnb).1 (by simpa using hnm.symm)).trans hnb
 · rw [List.map_append,List.nodup_append]
   refine ⟨h.nod,by simp,?_⟩;intro a ha b hbm e;obtain ⟨n,hn,rfl⟩:=List.mem_map.1 ha;have h1:=(h.each n hn).2.lt;simp at hbm;rw [e,hbm] at h1;exact Nat.lt_irrefl _ h1
 · rcases List.mem_append.1 ha with ha | ha
   · rcases List.mem_append.1 hbm with hbm | hbm
     · exact h.hol a ha b hbm hab q hqa hqb
     · obtain rfl:=List.mem_singleton.1 hbm
       cases hqb
   · obtain rfl:=List.mem_singleton.1 ha
     cases hqa
theorem DtM.handle {w:World}{base m:Nat}{lv tv:Value}{ns:List Nm}{D:Dt}(h:DtM w base m lv tv ns D){k:Nat}{cs:Array Value}{fr:Nat×Nat}(hk:w.heap[k]?=some (.cells cs 35 fr)):¬ FootM m lv tv ns k:=fun hf=>by
 obtain ⟨_,cs2,ty,hc,ht⟩:=h.foot hf;rw [hk] at hc;simp at hc;rw [← hc.2.1] at ht;exact absurd ht (by decide)
theorem DocW.fresh {base:Nat}{a b:World}(h:DocW base a b){p:Addr}(hp:a.heap.size≤p.block)(u:Value):DocW base a (b.setCell p u):=by
 obtain ⟨K,o,hK⟩:=h;exact ⟨K,o.setCell (Or.inr hp) u,hK⟩
theorem made_is {D:Dt}{x:Dn}{s:List UInt8}{k:Nat}{K:Int}(hk:∀ y∈D.L,y.i≠k)(hx:x∈D.L):({ D with t:=setN D.t k (D.t k+1),L:=D.L++[⟨k,D.t k,K,0,⟨#[]⟩,[],[],0⟩] }:Dt).turn x.i x.c (Dn.entered ⟨s,k,D.t k⟩)=D.made x.i x.c s k K:=by
 unfold Dt.turn Dt.made;congr 1;show turnL _ _ _ (D.L++_)=_;unfold turnL;rw [List.map_append];congr 1;have h:¬ ((⟨k,D.t k,K,0,⟨#[]⟩,[],[],0⟩:Dn).is x.i x.c=true):=fun e=>hk x hx (is_iff.1 e).1.symm;show [if _ then _ else _]=_;rw [if_neg h]
def MakeR (D:Dt)(N G:Int)(s:ByteArray)(K:Int)(c i g:Nat)(D':Dt):Prop :=
 (dirN D N G≠0∧c=dirN D N G∧i=0∧g=0∧D'=D)∨(dirN D N G=0∧¬ OkN s∧c=4∧i=0∧g=0∧D'=D) ∨
 ∃ x,D.atZ N G=some x∧x.K=2∧OkN s∧(((K≠1∧K≠2)∧c=3∧i=0∧g=0∧D'=D)∨((K=1∨K=2)∧findE x.es s.data.toList≠none∧c=6∧i=0∧g=0∧D'=D) ∨
  ((K=1∨K=2)∧findE x.es s.data.toList=none∧(60≤x.es.length∨∀ j,j < D.most→∃ y∈D.L,y.i=j)∧c=9∧i=0∧g=0∧D'=D) ∨
  ((K=1∨K=2)∧findE x.es s.data.toList=none∧x.es.length < 60∧i < D.most∧(∀ j,j < i→∃ y∈D.L,y.i=j)∧(∀ y∈D.L,y.i≠i)∧c=0∧g=D.t i∧D'=D.made x.i x.c s.data.toList i K))
def MakeP (w w':World)(base m:Nat)(D:Dt)(N G:Int)(s:ByteArray)(K:Int)(r:Ending):Prop:=∃ c i g D',r = .returned (.tuple #[zG ((i:Nat):Int) ((g:Nat):Int),zI ((c:Nat):Int)])∧MakeR D N G s K c i g D'∧DM w' base m D'∧DocW base w w'
theorem dmake_go (w:World)(base m:Nat)(D:Dt)(N G:Int)(s:ByteArray)(K:Int)(B:Nat)(lv tv:Value)(ns:List Nm)(nx:Nm)(w1:World)(lx:Nat)(adx:Option Addr)(capx:Nat)(h:DtM w base m lv tv ns D)(h1:DtM w1 base m lv tv ns D)(hI:DInv D)(hk:DOk D)(hb:DB D B)(hB:B≤999000)(hbs:base≤w.heap.size)(o1:zQ w w1)(hs1:w.heap.size+2≤w1.heap.size)
   (HW1:Hid (((w.alloc (zH N G)).alloc (zH 0 0))=w1)) (HT:Hid (∀ W,zQ w1 W→TwoH W w.heap.size N G 0 0)) (HX:Hid (D.atZ N G=some nx.x∧nx.x.K=2∧dirN D N G=0)) (HS:Hid (OkN s)) (HKK:Hid (K=1∨K=2)) (hnx:nx∈ns) (hxm:nx.x∈D.L)
   (HDI:Hid (∀ W,zQ w1 W→zO 46 #[zP m,zG N G] W (zI 0)))
   (HATX:Hid (∀ W,zQ w1 W→zO 48 #[zP m,zG N G] W (zP nx.b)))
   (HNM:Hid (∀ W,zQ w1 W→zE 47 #[.string s] W (zI 0))) (HFF:Hid (findE nx.x.es s.data.toList=none))
   (HFI:Hid (∀ W,zQ w1 W→zE 49 #[zP nx.b,.string s] W (zI (-1)))) (HLX:Hid (nx.x.es.length=lx)) (HX6:Hid (∀ W,zQ w1 W→W.cell? (zA nx.b 6)=some (.slice adx lx capx))) (h60:¬ 60≤lx) :
   zK 28 #[zP m,zG N G,.string s,zI K] w fun r w'=>MakeP w w' base m D N G s K r:=by
 have HO:Hid (zQ w1 w1):=Only.refl _ _;have HSET:Hid (∀ W a b,zQ w1 W→zQ w ((W.setCell (zA (w.heap.size+1) 0) a).setCell (zA (w.heap.size+1) 1) b)):=fun W a b ho=>((zo o1 ho).setCell (p:=⟨w.heap.size+1,0,none⟩) (Or.inr (Nat.le_succ _)) _).setCell (p:=⟨w.heap.size+1,1,none⟩) (Or.inr (Nat.le_succ _)) _;have HDM:Hid (∀ W,zQ w W→DM W base m D):=fun W ho=>⟨lv,tv,ns,h.only ho⟩;obtain ⟨b0,b1,v0,v1,f0,f1,hbl⟩:=(HT.out w1 HO.out).cells
 have dK:((K != 1)&&(K != 2))=false:=by rcases HKK.out with rfl | rfl<;>rfl
 have H1:Hid (DtM w1 base m lv tv ns D):=h1;have HI:Hid (DInv D):=hI;have HK:Hid (DOk D):=hk;have HDB:Hid (DB D B):=hb;have HNX:Hid (nx∈ns∧nx.x∈D.L):=⟨hnx,hxm⟩;have HOO:Hid (zQ w w1∧w.heap.size+2≤w1.heap.size∧base≤w.heap.size):=⟨o1,hs1,hbs⟩;obtain ⟨ad,cap,hlv,hlies⟩:=h1.lies;have HL:Hid (∀ W,zQ w1 W→Lies W m ad cap ns):=hlies;have HC0:Hid (∀ W,zQ w1 W→W.cell? (zA m 0)=some (zI D.most)):=fun W ho=>(h1.only ho).c0;have hmost:=hI.most;obtain ⟨k,hkk⟩:∃ k,ns.length=k:=⟨_,rfl⟩;have HN:Hid (ns.length=k):=hkk
 have hkb:k≤1000:=by rw [← hkk];exact h1.nlen hk
 have HUS:Hid (∀ q,(ns.any fun n=>n.x.i==q)=true↔∃ y∈D.L,y.i=q):=fun q=>by
   rw [List.any_eq_true]
   constructor
   · rintro ⟨n,hn,e⟩
     exact ⟨n.x,h1.inL hn,by simpa using e⟩
   · rintro ⟨y,hy,e⟩
     obtain ⟨n,hn,rfl⟩:=h1.mem hy;exact ⟨n,hn,by simpa using e⟩
 obtain ⟨mo,hmo⟩:∃ mo,D.most=mo:=⟨_,rfl⟩;have HMO:Hid (D.most=mo):=hmo;rw [hmo] at HC0 hmost;clear h h1 hI hk hb hbs o1 hs1 hnx hxm hlies hkk hmo hlv;rcases HKK.out with rfl | rfl
 · go_enter Tryz.func28,Tryz.ntmps28
   go_upto_region 1 with fail
   rw [HW1.out]
   go_wp2_with (first
     | (go_at_call 46;refine (HDI.out _ HO.out).mono ?_;rintro eq wz ⟨rfl,hoz⟩;replace HO:=zT HO hoz;clear hoz b0 b1 v0 v1 f0 f1 hbl;obtain ⟨b0,b1,v0,v1,f0,f1,hbl⟩:=(HT.out wz HO.out).cells)
     | (go_at_call 47;refine (HNM.out _ HO.out).mono ?_;rintro eq wz ⟨rfl,rfl⟩)
     | (go_at_call 48;refine (HATX.out _ HO.out).mono ?_;rintro eq wz ⟨rfl,hoz⟩;replace HO:=zT HO hoz;clear hoz b0 b1 v0 v1 f0 f1 hbl;obtain ⟨b0,b1,v0,v1,f0,f1,hbl⟩:=(HT.out wz HO.out).cells;have x6:=HX6.out wz HO.out)
     | (go_at_call 49;refine (HFI.out _ HO.out).mono ?_;rintro eq wz ⟨rfl,rfl⟩)
     | go_in)
   have HOA:Hid (zQ w1 wz):=HO.out;clear HO x6 b0 b1 v0 v1 f0 f1 hbl
   go_loopw [12] (fun kv wr=>∃ q:Nat,kv=zI q∧q≤mo∧(∀ j,j < q→∃ y∈D.L,y.i=j)∧zQ w1 wr) (fun kv _=>mo - (intOf kv).toNat)
   case atStart=>exact ⟨0,rfl,Nat.zero_le _,fun j hj=>by omega,HOA.out⟩
   case round =>
     obtain ⟨q,rfl,hq,hus,ho⟩:=hrel;have HU:Hid (∀ j,j < q→∃ y∈D.L,y.i=j):=hus;have HO:Hid (zQ w1 wr):=ho;have c0:=HC0.out wr ho;obtain ⟨b0,b1,v0,v1,f0,f1,hbl⟩:=(HT.out wr ho).cells;clear hus
     by_cases hlt:q < mo
     · clear ho
       go_wp2
       clear c0 b0 b1 v0 v1 f0 f1 hbl
       go_loopw [13,14] (fun uv iv wq=>∃ p:Nat,iv=zI p∧p≤k∧uv = .bool ((ns.take p).any fun n=>n.x.i==q)∧zQ w1 wq) (fun _ iv _=>k - (intOf iv).toNat)
       case atStart=>exact ⟨0,rfl,Nat.zero_le _,rfl,HO.out⟩
       case round =>
         clear HO;obtain ⟨p,rfl,hp,rfl,ho⟩:=hrel;have HO:Hid (zQ w1 wr):=ho;have hW:=HL.out wr ho;have c1:=hW.c1;rw [HN.out] at c1
         by_cases hlt2:p < k
         · obtain ⟨a,hx⟩:∃ a,ns[p]?=some a:=⟨_,List.getElem?_eq_getElem (by rw [HN.out];exact hlt2)⟩
           obtain ⟨g,rfl,r0⟩:=hW.row p a hx;have d0:=(hW.has a (List.mem_of_getElem? hx)).c0
           have HTK:Hid ((ns.take (p+1)).any (fun n=>n.x.i==q)=((ns.take p).any (fun n=>n.x.i==q) || a.x.i==q)):=by
            show _=_;rw [List.take_add_one,hx,List.any_append];simp
           generalize (ns.take p).any (fun n=>n.x.i==q)=us at HTK ⊢;clear ho hW hx
           by_cases hi:a.x.i=q
           all_goals first | (have HR:Hid ((ns.take (p+1)).any (fun n=>n.x.i==q)=true):=(by show _=_;rw [HTK.out,hi];simp);rw [hi] at d0) | (have HR:Hid ((ns.take (p+1)).any (fun n=>n.x.i==q)=us):=(by show _=_;rw [HTK.out,zb hi];simp);have db:((a.x.i:Int)==(q:Int))=false:=zb (by omega))
           all_goals
            clear hi
            go_wp2
            go_roundw
            case rel=>exact ⟨p+1,by go_num,by omega,by rw [HR.out],HO.out⟩
            case measure=>simp [intOf];omega
         · obtain rfl:k=p:=by omega
           have hall:(ns.take k).any (fun n=>n.x.i==q)=ns.any (fun n=>n.x.i==q):=by rw [← HN.out,List.take_length]
           rw [hall];clear hall hW
           cases hu:ns.any (fun n=>n.x.i==q) with
           | true =>
            have HR:Hid (∀ j,j < q+1→∃ y∈D.L,y.i=j):=fun j hj=>by
             rcases Nat.lt_or_ge j q with h1 | h1
             · exact HU.out j h1
             · obtain rfl:j=q:=by omega
               exact (HUS.out j).1 hu
            clear hu ho
            go_wp2
            go_roundw
            case rel=>exact ⟨q+1,by go_num,by omega,HR.out,HO.out⟩
            case measure=>simp [intOf];omega
           | false =>
            have HFR:Hid (∀ y∈D.L,y.i≠q):=fun y hy e=>by
             have:=(HUS.out q).2 ⟨y,hy,e⟩;rw [hu] at this
             cases this
            obtain ⟨tb,tcap,htv,htr⟩:=H1.out.timesRow (k:=q) (by rw [HMO.out];exact hlt);obtain ⟨t2,tq,tf,tl⟩:=htr wr ho;have mlt:m < wr.heap.size:=zv t2;have c1':=c1;have ht1:D.t q≤B:=HDB.out.2 q;rw [htv,HMO.out] at t2;clear hu ho htr;subst htv;have HTV:Hid (DtM wr base m lv (.slice (some ⟨tb,0,none⟩) D.most tcap) ns D):=H1.out.only HO.out;obtain ⟨hT1,hoT1⟩:=HTV.out.timed (k:=q) (by rw [HMO.out];exact hlt) ((D.t q:Int)+1) (by omega);have hD1:DocW base w (wr.setCell ⟨tb,q,none⟩ (zI ((D.t q:Int)+1))):=(DocW.none (zo HOO.out.1 HO.out)).trans (HTV.out.docW hoT1 (fun z hz=>Or.inr (Or.inr (Or.inl (by rw [List.mem_singleton.1 hz];rfl)))));have hoA:zQ (wr.setCell ⟨tb,q,none⟩ (zI ((D.t q:Int)+1))) ((wr.setCell ⟨tb,q,none⟩ (zI ((D.t q:Int)+1))).alloc (zH q (D.t q:Nat))):=(Only.refl _ _).alloc _;have HTB:Hid (DtM ((wr.setCell ⟨tb,q,none⟩ (zI ((D.t q:Int)+1))).alloc (zH q (D.t q:Nat))).drew base m lv (.slice (some ⟨tb,0,none⟩) D.most tcap) ns { D with t:=setN D.t q (D.t q+1) }):=hT1.only hoA.drew;have HDB2:Hid (DocW base w ((wr.setCell ⟨tb,q,none⟩ (zI ((D.t q:Int)+1))).alloc (zH q (D.t q:Nat))).drew):=hD1.trans (DocW.none hoA.drew)
            have hszr:(wr.setCell ⟨tb,q,none⟩ (zI ((D.t q:Int)+1))).heap.size=wr.heap.size:=by simp
            have HBH:Hid (((wr.setCell ⟨tb,q,none⟩ (zI ((D.t q:Int)+1))).alloc (zH q (D.t q:Nat))).drew.heap[wr.heap.size]?=some (.cells #[zI q,zI (D.t q:Nat)] 35 (0,0))):=by
             have:=zh (wr.setCell ⟨tb,q,none⟩ (zI ((D.t q:Int)+1))) (zH q (D.t q:Nat));rw [hszr] at this;exact this
            have HTW:Hid (TwoH ((wr.setCell ⟨tb,q,none⟩ (zI ((D.t q:Int)+1))).alloc (zH q (D.t q:Nat))).drew w.heap.size N G 0 0):=by
             have h0:=HT.out wr HO.out;have dw:DocW base wr ((wr.setCell ⟨tb,q,none⟩ (zI ((D.t q:Int)+1))).alloc (zH q (D.t q:Nat))).drew:=(HTV.out.docW hoT1 (fun z hz=>Or.inr (Or.inr (Or.inl (by rw [List.mem_singleton.1 hz];rfl))))).trans (DocW.none hoA.drew);exact ⟨dw.stays h0.x (by decide),dw.stays h0.y (by decide)⟩
            go_upto_region 25 with fail
            generalize ((wr.setCell ⟨tb,q,none⟩ (zI ((D.t q:Int)+1))).alloc (zH q (D.t q:Nat)))=wb at HTB HDB2 HBH HTW ⊢;generalize wr.heap.size=bh at HBH ⊢;clear hT1 hoT1 hD1 hoA hszr t2 tq tf tl mlt c1 c1';obtain ⟨i0,hi0,hz0,hz1,hz2⟩:=infoPt';have HOW:Hid (∀ W,zQ wb.drew W→W.cell? (zA m 1)=some lv∧W.cell? (zA bh 0)=some (zI q)∧W.cell? (zA bh 1)=some (zI (D.t q:Nat))):=fun W ho=>⟨(HTB.out.only ho).c1,cell_of_row _ _ 0 _ _ _ ((ho.block bh (Array.getElem?_eq_some_iff.1 HBH.out).1 (by simp)).trans HBH.out),cell_of_row _ _ 1 _ _ _ ((ho.block bh (Array.getElem?_eq_some_iff.1 HBH.out).1 (by simp)).trans HBH.out)⟩;have HS0:Hid (wb.drew.cell? (zA m 1)=some lv∧wb.drew.cell? (zA bh 0)=some (zI q)∧wb.drew.cell? (zA bh 1)=some (zI (D.t q:Nat))):=HOW.out _ (Only.refl _ _);have HSA:Hid ((wb.alloc (.cells #[zI q,zI (D.t q:Nat),zI 1,zI 0,.string ⟨#[]⟩,.slice none 0 0,.slice none 0 0,zI 0] 84)).drew.cell? (zA m 1)=some lv∧(wb.alloc (.cells #[zI q,zI (D.t q:Nat),zI 1,zI 0,.string ⟨#[]⟩,.slice none 0 0,.slice none 0 0,zI 0] 84)).drew.cell? (zA bh 0)=some (zI q)∧(wb.alloc (.cells #[zI q,zI (D.t q:Nat),zI 1,zI 0,.string ⟨#[]⟩,.slice none 0 0,.slice none 0 0,zI 0] 84)).drew.cell? (zA bh 1)=some (zI (D.t q:Nat))):=HOW.out _ ((Only.refl _ _).alloc _);have HSB:Hid (((wb.alloc (.cells #[zI q,zI (D.t q:Nat),zI 1,zI 0,.string ⟨#[]⟩,.slice none 0 0,.slice none 0 0,zI 0] 84)).alloc (.cells #[zP wb.heap.size] 79)).drew.cell? (zA m 1)=some lv∧((wb.alloc (.cells #[zI q,zI (D.t q:Nat),zI 1,zI 0,.string ⟨#[]⟩,.slice none 0 0,.slice none 0 0,zI 0] 84)).alloc (.cells #[zP wb.heap.size] 79)).drew.cell? (zA bh 0)=some (zI q)∧((wb.alloc (.cells #[zI q,zI (D.t q:Nat),zI 1,zI 0,.string ⟨#[]⟩,.slice none 0 0,.slice none 0 0,zI 0] 84)).alloc (.cells #[zP wb.heap.size] 79)).drew.cell? (zA bh 1)=some (zI (D.t q:Nat))):=HOW.out _ (((Only.refl _ _).alloc _).alloc _)
            have HROW:Hid (((wb.alloc (.cells #[zI q,zI (D.t q:Nat),zI 1,zI 0,.string ⟨#[]⟩,.slice none 0 0,.slice none 0 0,zI 0] 84)).alloc (.cells #[zP wb.heap.size] 79)).drew.ownsRow base 79 1 lv k (ns.map ptrOf)):=Pts.own HN.out (Pts.only HTB.out.row (show zQ wb.drew ((wb.alloc (.cells #[zI q,zI (D.t q:Nat),zI 1,zI 0,.string ⟨#[]⟩,.slice none 0 0,.slice none 0 0,zI 0] 84)).alloc (.cells #[zP wb.heap.size] 79)).drew from ((Only.refl [] wb.drew).alloc _).alloc _) (fun _ _=>by simp))
            have HNW:Hid (∀ (r:Nat) (v:Value),([ptrOf (newNm wb.heap.size q (D.t q) 1)]:List Value)[r]?=some v→((wb.alloc (.cells #[zI q,zI (D.t q:Nat),zI 1,zI 0,.string ⟨#[]⟩,.slice none 0 0,.slice none 0 0,zI 0] 84)).alloc (.cells #[zP wb.heap.size] 79)).drew.cell? ((⟨wb.heap.size+1,0,none⟩:Addr).add r)=some v):=by
             have:=pt_news (w:=wb.alloc (.cells #[zI q,zI (D.t q:Nat),zI 1,zI 0,.string ⟨#[]⟩,.slice none 0 0,.slice none 0 0,zI 0] 84)) (newNm wb.heap.size q (D.t q) 1) 79;rw [World.size_alloc] at this;exact this
            have hbw:base≤wb.drew.heap.size:=Nat.le_trans HOO.out.2.2 HDB2.out.size
            have HGR:Hid (∀ w7 g7 c7,((wb.alloc (.cells #[zI q,zI (D.t q:Nat),zI 1,zI 0,.string ⟨#[]⟩,.slice none 0 0,.slice none 0 0,zI 0] 84)).alloc (.cells #[zP wb.heap.size] 79)).drew.grownBy w7 lv.ownBlock→w7.ownsRow base 79 1 (.slice (some ⟨g7,0,none⟩) (k+1) c7) (k+1) (ns.map ptrOf++[ptrOf (newNm wb.heap.size q (D.t q) 1)])→(w7.cell? (zA m 1)=some lv∧w7.cell? (zA bh 0)=some (zI q)∧w7.cell? (zA bh 1)=some (zI (D.t q:Nat)))∧w7.frozen? ⟨m,1,none⟩=false∧m < w7.heap.size∧DtM (w7.setCell (zA m 1) (.slice (some ⟨g7,0,none⟩) (k+1) c7)) base m (.slice (some ⟨g7,0,none⟩) (k+1) c7) (.slice (some ⟨tb,0,none⟩) D.most tcap) (ns++[(newNm wb.heap.size q (D.t q) 1)]) { D with t:=setN D.t q (D.t q+1),L:=D.L++[⟨q,D.t q,1,0,⟨#[]⟩,[],[],0⟩] }∧DocW base w (w7.setCell (zA m 1) (.slice (some ⟨g7,0,none⟩) (k+1) c7))∧(w7.setCell (zA m 1) (.slice (some ⟨g7,0,none⟩) (k+1) c7)).heap[bh]?=some (.cells #[zI q,zI (D.t q:Nat)] 35 (0,0))∧TwoH (w7.setCell (zA m 1) (.slice (some ⟨g7,0,none⟩) (k+1) c7)) w.heap.size N G 0 0):=fun w7 g7 c7 hgr hown=>by
             have hgr':((wb.drew.alloc (.cells (newNm wb.heap.size q (D.t q) 1).cells 84)).alloc (.cells #[zP wb.drew.heap.size] 79)).grownBy w7 lv.ownBlock:=hgr
             have hown':w7.ownsRow base 79 1 (.slice (some ⟨g7,0,none⟩) (k+1) c7) (ns.length+1) (ns.map ptrOf++[ptrOf (newNm wb.heap.size q (D.t q) 1)]):=by rw [HN.out];exact hown
             obtain ⟨a1,a2,a3,a4,a5⟩:=HTB.out.grew hbw hgr' hown';have dw:DocW base wb.drew (w7.setCell (zA m 1) (.slice (some ⟨g7,0,none⟩) (k+1) c7)):=HTB.out.docW a5 (fun z hz=>(List.mem_cons.1 hz).elim Or.inl (fun e=>Or.inr (Or.inl (by simpa using e))))
             have hb7:w7.heap[bh]?=some (.cells #[zI q,zI (D.t q:Nat)] 35 (0,0)):=by
               have o7:Only lv.ownBlock.toList wb.drew w7:=(((Only.refl _ wb.drew).alloc _).alloc _).grown hgr' (fun z hz=>Or.inl (by simp [hz]));refine (o7.block bh (Array.getElem?_eq_some_iff.1 HBH.out).1 (fun hm=>?_)).trans HBH.out;exact HTB.out.handle HBH.out (Or.inr (Or.inl (by simpa using hm)))
             exact ⟨⟨a1,cell_of_row _ _ 0 _ _ _ hb7,cell_of_row _ _ 1 _ _ _ hb7⟩,a2,a3,a4,HDB2.out.trans dw,dw.stays HBH.out (by decide),dw.stays HTW.out.x (by decide),dw.stays HTW.out.y (by decide)⟩
            go_region_held3 (fun W=>W.cell? (zA m 1)=some lv∧W.cell? (zA bh 0)=some (zI q)∧W.cell? (zA bh 1)=some (zI (D.t q:Nat))) (with_reducible first | exact HS0.out | exact HSA.out | exact HSB.out | exact HS7.out)
             (first
               | (refine step_append_lies _ (by rfl) (.tmp 102) (.tmp 107) 76 (by rfl) base 79 i0 _ 1 8 undPts hi0 hz0 hz1 hz2 rfl (by decide) lv k (ns.map ptrOf) (by rfl) HROW.out ⟨wb.heap.size+1,0,none⟩ 1 1 [ptrOf (newNm wb.heap.size q (D.t q) 1)] (by rfl) rfl HNW.out (by intro u hu;rw [List.mem_singleton.1 hu];rfl) (by decide) (by unfold maxLen;omega) (by omega) (by show base≤((wb.alloc _).alloc _).heap.size;rw [World.size_alloc,World.size_alloc];exact Nat.le_succ_of_le (Nat.le_succ_of_le hbw)) (wb.heap.size+1+1) (by show ((wb.alloc _).alloc _).heap.size=_;rw [World.size_alloc,World.size_alloc]) ?_;intro g7 c7 w7 hown7 hgr7 hat7 hlt7;have hq7:=HGR.out w7 g7 c7 hgr7 hown7;have HS7:Hid (w7.cell? (zA m 1)=some lv∧w7.cell? (zA bh 0)=some (zI q)∧w7.cell? (zA bh 1)=some (zI (D.t q:Nat))):=hq7.1;have HG7:Hid (w7.frozen? ⟨m,1,none⟩=false∧m < w7.heap.size∧DtM (w7.setCell (zA m 1) (.slice (some ⟨g7,0,none⟩) (k+1) c7)) base m (.slice (some ⟨g7,0,none⟩) (k+1) c7) (.slice (some ⟨tb,0,none⟩) D.most tcap) (ns++[(newNm wb.heap.size q (D.t q) 1)]) { D with t:=setN D.t q (D.t q+1),L:=D.L++[⟨q,D.t q,1,0,⟨#[]⟩,[],[],0⟩] }∧DocW base w (w7.setCell (zA m 1) (.slice (some ⟨g7,0,none⟩) (k+1) c7))∧(w7.setCell (zA m 1) (.slice (some ⟨g7,0,none⟩) (k+1) c7)).heap[bh]?=some (.cells #[zI q,zI (D.t q:Nat)] 35 (0,0))∧TwoH (w7.setCell (zA m 1) (.slice (some ⟨g7,0,none⟩) (k+1) c7)) w.heap.size N G 0 0):=hq7.2;clear hown7 hgr7 hat7 hlt7 hq7))
            obtain ⟨a1,a2,hD8,hw8,hb8,ht8⟩:=HG7.out;obtain ⟨s1,s2,s3⟩:=HS7.out;have z0:=cell_of_row _ _ 0 _ _ _ hb8;have z1:=cell_of_row _ _ 1 _ _ _ hb8;have hnx8:nx∈ns++[(newNm wb.heap.size q (D.t q) 1)]:=List.mem_append_left _ HNX.out.1;have hen:=denter_any (w7.setCell (zA m 1) (.slice (some ⟨g7,0,none⟩) (k+1) c7)) nx ⟨s.data.toList,q,D.t q⟩ (hD8.each nx hnx8).2 (HK.out.es _ HNX.out.2);dsimp only at hen;rw [bs_self] at hen
            have HN8:Hid (((({ D with t:=setN D.t q (D.t q+1),L:=D.L++[⟨q,D.t q,1,0,⟨#[]⟩,[],[],0⟩] }:Dt).L).map (·.i)).Nodup):=by
             show (List.map (fun y:Dn=>y.i) (D.L++[_])).Nodup;rw [List.map_append,List.nodup_append];refine ⟨HK.out.nos,by simp,?_⟩;intro a ha b hb e;obtain ⟨y,hy,rfl⟩:=List.mem_map.1 ha;simp at hb;exact HFR.out y hy (e.trans hb)
            have HEND:Hid (∀ w9,EnterR (w7.setCell (zA m 1) (.slice (some ⟨g7,0,none⟩) (k+1) c7)) w9 nx (insE ⟨s.data.toList,q,D.t q⟩ nx.x.es)→w9.cell? (zA nx.b 3)=some (zI nx.x.C)∧w9.frozen? ⟨nx.b,3,none⟩=false∧nx.b < w9.heap.size∧(w9.setCell (zA nx.b 3) (zI (nx.x.C+1))).heap[bh]?=some (.cells #[zI q,zI (D.t q:Nat)] 35 (0,0))∧TwoH (w9.setCell (zA nx.b 3) (zI (nx.x.C+1))) w.heap.size N G 0 0∧DM (((w9.setCell (zA nx.b 3) (zI (nx.x.C+1))).setCell (zA (w.heap.size+1) 0) (zI q)).setCell (zA (w.heap.size+1) 1) (zI (D.t q:Nat))) base m (D.made nx.x.i nx.x.c s.data.toList q 1)∧DocW base w (((w9.setCell (zA nx.b 3) (zI (nx.x.C+1))).setCell (zA (w.heap.size+1) 0) (zI q)).setCell (zA (w.heap.size+1) 1) (zI (D.t q:Nat)))):=fun w9 hE=>by
             obtain ⟨v',k1,k2,k3,hD,hoD⟩:=hD8.entered HN8.out hnx8 hE;have dw:=hD8.docW hoD (fun z hz=>Or.inr (Or.inr (Or.inr ⟨nx,hnx8,Or.inl (by simpa using hz)⟩)));have hy9:=dw.stays ht8.y (by decide);have hle:w.heap.size≤w.heap.size+1:=Nat.le_succ _;have ho2:Only [w.heap.size+1] (w9.setCell (zA nx.b 3) (zI (nx.x.C+1))) (((w9.setCell (zA nx.b 3) (zI (nx.x.C+1))).setCell (zA (w.heap.size+1) 0) (zI q)).setCell (zA (w.heap.size+1) 1) (zI (D.t q:Nat))):=((Only.refl _ _).setCell (p:=⟨w.heap.size+1,0,none⟩) (Or.inl (by simp)) _).setCell (p:=⟨w.heap.size+1,1,none⟩) (Or.inl (by simp)) _
             have hDM:DM (((w9.setCell (zA nx.b 3) (zI (nx.x.C+1))).setCell (zA (w.heap.size+1) 0) (zI q)).setCell (zA (w.heap.size+1) 1) (zI (D.t q:Nat))) base m (D.made nx.x.i nx.x.c s.data.toList q 1):=by
               rw [← made_is HFR.out HNX.out.2];exact ⟨_,_,_,hD.kept ho2 (fun z hz hzm=>hD.handle hy9 (by rw [List.mem_singleton.1 hzm] at hz;exact hz))⟩
             exact ⟨k1,k2,k3,dw.stays hb8 (by decide),⟨dw.stays ht8.x (by decide),hy9⟩,hDM,((hw8.trans dw).fresh (p:=⟨w.heap.size+1,0,none⟩) hle _).fresh (p:=⟨w.heap.size+1,1,none⟩) hle _⟩
            have hC:=HDB.out.1 _ HNX.out.2;have hC0:=hC.1;have hC1:=hC.2.1;clear hD8 hw8 hb8 ht8 hC
            go_wp2_with (first
             | (go_at_call 59;refine hen.mono ?_;rintro eq w9 ⟨rfl,hE9⟩;obtain ⟨k1,k2,k3,k4,k5,k6,k7⟩:=HEND.out w9 hE9;have HF9:Hid (DM (((w9.setCell (zA nx.b 3) (zI (nx.x.C+1))).setCell (zA (w.heap.size+1) 0) (zI q)).setCell (zA (w.heap.size+1) 1) (zI (D.t q:Nat))) base m (D.made nx.x.i nx.x.c s.data.toList q 1)∧DocW base w (((w9.setCell (zA nx.b 3) (zI (nx.x.C+1))).setCell (zA (w.heap.size+1) 0) (zI q)).setCell (zA (w.heap.size+1) 1) (zI (D.t q:Nat)))):=⟨k6,k7⟩;clear z0 z1;have z0:=cell_of_row _ _ 0 _ _ _ k4;have z1:=cell_of_row _ _ 1 _ _ _ k4;obtain ⟨b0,b1,v0,v1,f0,f1,hbl⟩:=k5.cells;clear hen k4 k5 k6 k7 hE9)
             | go_in)
            exact bodyPost_ret (v := .tuple #[zG q (D.t q:Nat),zI 0]) (by simp [results,Tryz.results28,go_sem,v0,v1]) rfl ⟨0,q,D.t q,_,rfl,Or.inr (Or.inr ⟨nx.x,HX.out.1,HX.out.2.1,HS.out,Or.inr (Or.inr (Or.inr ⟨(by first | exact Or.inl rfl | exact Or.inr rfl),HFF.out,by rw [HLX.out];omega,by rw [HMO.out];exact hlt,HU.out,HFR.out,rfl,rfl,rfl⟩))⟩),HF9.out.1,HF9.out.2⟩
     · obtain rfl:q=mo:=by omega
       have HR:Hid (60≤nx.x.es.length∨∀ j,j < D.most→∃ y∈D.L,y.i=j):=Or.inr (by rw [HMO.out];exact HU.out);clear ho
       go_wp2
       exact bodyPost_ret (v := .tuple #[zG 0 0,zI 9]) (by simp [results,Tryz.results28,go_sem,v0,v1]) rfl ⟨9,0,0,D,rfl,Or.inr (Or.inr ⟨nx.x,HX.out.1,HX.out.2.1,HS.out,Or.inr (Or.inr (Or.inl ⟨(by first | exact Or.inl rfl | exact Or.inr rfl),HFF.out,HR.out,rfl,rfl,rfl,rfl⟩))⟩),HDM.out _ (HSET.out _ _ _ HO.out),DocW.none (HSET.out _ _ _ HO.out)⟩
 · go_enter Tryz.func28,Tryz.ntmps28
   go_upto_region 1 with fail
   rw [HW1.out]
   go_wp2_with (first
     | (go_at_call 46;refine (HDI.out _ HO.out).mono ?_;rintro eq wz ⟨rfl,hoz⟩;replace HO:=zT HO hoz;clear hoz b0 b1 v0 v1 f0 f1 hbl;obtain ⟨b0,b1,v0,v1,f0,f1,hbl⟩:=(HT.out wz HO.out).cells)
     | (go_at_call 47;refine (HNM.out _ HO.out).mono ?_;rintro eq wz ⟨rfl,rfl⟩)
     | (go_at_call 48;refine (HATX.out _ HO.out).mono ?_;rintro eq wz ⟨rfl,hoz⟩;replace HO:=zT HO hoz;clear hoz b0 b1 v0 v1 f0 f1 hbl;obtain ⟨b0,b1,v0,v1,f0,f1,hbl⟩:=(HT.out wz HO.out).cells;have x6:=HX6.out wz HO.out)
     | (go_at_call 49;refine (HFI.out _ HO.out).mono ?_;rintro eq wz ⟨rfl,rfl⟩)
     | go_in)
   have HOA:Hid (zQ w1 wz):=HO.out;clear HO x6 b0 b1 v0 v1 f0 f1 hbl
   go_loopw [12] (fun kv wr=>∃ q:Nat,kv=zI q∧q≤mo∧(∀ j,j < q→∃ y∈D.L,y.i=j)∧zQ w1 wr) (fun kv _=>mo - (intOf kv).toNat)
   case atStart=>exact ⟨0,rfl,Nat.zero_le _,fun j hj=>by omega,HOA.out⟩
   case round =>
     obtain ⟨q,rfl,hq,hus,ho⟩:=hrel;have HU:Hid (∀ j,j < q→∃ y∈D.L,y.i=j):=hus;have HO:Hid (zQ w1 wr):=ho;have c0:=HC0.out wr ho;obtain ⟨b0,b1,v0,v1,f0,f1,hbl⟩:=(HT.out wr ho).cells;clear hus
     by_cases hlt:q < mo
     · clear ho
       go_wp2
       clear c0 b0 b1 v0 v1 f0 f1 hbl
       go_loopw [13,14] (fun uv iv wq=>∃ p:Nat,iv=zI p∧p≤k∧uv = .bool ((ns.take p).any fun n=>n.x.i==q)∧zQ w1 wq) (fun _ iv _=>k - (intOf iv).toNat)
       case atStart=>exact ⟨0,rfl,Nat.zero_le _,rfl,HO.out⟩
       case round =>
         clear HO;obtain ⟨p,rfl,hp,rfl,ho⟩:=hrel;have HO:Hid (zQ w1 wr):=ho;have hW:=HL.out wr ho;have c1:=hW.c1;rw [HN.out] at c1
         by_cases hlt2:p < k
         · obtain ⟨a,hx⟩:∃ a,ns[p]?=some a:=⟨_,List.getElem?_eq_getElem (by rw [HN.out];exact hlt2)⟩
           obtain ⟨g,rfl,r0⟩:=hW.row p a hx;have d0:=(hW.has a (List.mem_of_getElem? hx)).c0
           have HTK:Hid ((ns.take (p+1)).any (fun n=>n.x.i==q)=((ns.take p).any (fun n=>n.x.i==q) || a.x.i==q)):=by
            show _=_;rw [List.take_add_one,hx,List.any_append];simp
           generalize (ns.take p).any (fun n=>n.x.i==q)=us at HTK ⊢;clear ho hW hx
           by_cases hi:a.x.i=q
           all_goals first | (have HR:Hid ((ns.take (p+1)).any (fun n=>n.x.i==q)=true):=(by show _=_;rw [HTK.out,hi];simp);rw [hi] at d0) | (have HR:Hid ((ns.take (p+1)).any (fun n=>n.x.i==q)=us):=(by show _=_;rw [HTK.out,zb hi];simp);have db:((a.x.i:Int)==(q:Int))=false:=zb (by omega))
           all_goals
            clear hi
            go_wp2
            go_roundw
            case rel=>exact ⟨p+1,by go_num,by omega,by rw [HR.out],HO.out⟩
            case measure=>simp [intOf];omega
         · obtain rfl:k=p:=by omega
           have hall:(ns.take k).any (fun n=>n.x.i==q)=ns.any (fun n=>n.x.i==q):=by rw [← HN.out,List.take_length]
           rw [hall];clear hall hW
           cases hu:ns.any (fun n=>n.x.i==q) with
           | true =>
            have HR:Hid (∀ j,j < q+1→∃ y∈D.L,y.i=j):=fun j hj=>by
             rcases Nat.lt_or_ge j q with h1 | h1
             · exact HU.out j h1
             · obtain rfl:j=q:=by omega
               exact (HUS.out j).1 hu
            clear hu ho
            go_wp2
            go_roundw
            case rel=>exact ⟨q+1,by go_num,by omega,HR.out,HO.out⟩
            case measure=>simp [intOf];omega
           | false =>
            have HFR:Hid (∀ y∈D.L,y.i≠q):=fun y hy e=>by
             have:=(HUS.out q).2 ⟨y,hy,e⟩;rw [hu] at this
             cases this
            obtain ⟨tb,tcap,htv,htr⟩:=H1.out.timesRow (k:=q) (by rw [HMO.out];exact hlt);obtain ⟨t2,tq,tf,tl⟩:=htr wr ho;have mlt:m < wr.heap.size:=zv t2;have c1':=c1;have ht1:D.t q≤B:=HDB.out.2 q;rw [htv,HMO.out] at t2;clear hu ho htr;subst htv;have HTV:Hid (DtM wr base m lv (.slice (some ⟨tb,0,none⟩) D.most tcap) ns D):=H1.out.only HO.out;obtain ⟨hT1,hoT1⟩:=HTV.out.timed (k:=q) (by rw [HMO.out];exact hlt) ((D.t q:Int)+1) (by omega);have hD1:DocW base w (wr.setCell ⟨tb,q,none⟩ (zI ((D.t q:Int)+1))):=(DocW.none (zo HOO.out.1 HO.out)).trans (HTV.out.docW hoT1 (fun z hz=>Or.inr (Or.inr (Or.inl (by rw [List.mem_singleton.1 hz];rfl)))));have hoA:zQ (wr.setCell ⟨tb,q,none⟩ (zI ((D.t q:Int)+1))) ((wr.setCell ⟨tb,q,none⟩ (zI ((D.t q:Int)+1))).alloc (zH q (D.t q:Nat))):=(Only.refl _ _).alloc _;have HTB:Hid (DtM ((wr.setCell ⟨tb,q,none⟩ (zI ((D.t q:Int)+1))).alloc (zH q (D.t q:Nat))).drew base m lv (.slice (some ⟨tb,0,none⟩) D.most tcap) ns { D with t:=setN D.t q (D.t q+1) }):=hT1.only hoA.drew;have HDB2:Hid (DocW base w ((wr.setCell ⟨tb,q,none⟩ (zI ((D.t q:Int)+1))).alloc (zH q (D.t q:Nat))).drew):=hD1.trans (DocW.none hoA.drew)
            have hszr:(wr.setCell ⟨tb,q,none⟩ (zI ((D.t q:Int)+1))).heap.size=wr.heap.size:=by simp
            have HBH:Hid (((wr.setCell ⟨tb,q,none⟩ (zI ((D.t q:Int)+1))).alloc (zH q (D.t q:Nat))).drew.heap[wr.heap.size]?=some (.cells #[zI q,zI (D.t q:Nat)] 35 (0,0))):=by
             have:=zh (wr.setCell ⟨tb,q,none⟩ (zI ((D.t q:Int)+1))) (zH q (D.t q:Nat));rw [hszr] at this;exact this
            have HTW:Hid (TwoH ((wr.setCell ⟨tb,q,none⟩ (zI ((D.t q:Int)+1))).alloc (zH q (D.t q:Nat))).drew w.heap.size N G 0 0):=by
             have h0:=HT.out wr HO.out;have dw:DocW base wr ((wr.setCell ⟨tb,q,none⟩ (zI ((D.t q:Int)+1))).alloc (zH q (D.t q:Nat))).drew:=(HTV.out.docW hoT1 (fun z hz=>Or.inr (Or.inr (Or.inl (by rw [List.mem_singleton.1 hz];rfl))))).trans (DocW.none hoA.drew);exact ⟨dw.stays h0.x (by decide),dw.stays h0.y (by decide)⟩
            go_upto_region 25 with fail
            generalize ((wr.setCell ⟨tb,q,none⟩ (zI ((D.t q:Int)+1))).alloc (zH q (D.t q:Nat)))=wb at HTB HDB2 HBH HTW ⊢;generalize wr.heap.size=bh at HBH ⊢;clear hT1 hoT1 hD1 hoA hszr t2 tq tf tl mlt c1 c1';obtain ⟨i0,hi0,hz0,hz1,hz2⟩:=infoPt';have HOW:Hid (∀ W,zQ wb.drew W→W.cell? (zA m 1)=some lv∧W.cell? (zA bh 0)=some (zI q)∧W.cell? (zA bh 1)=some (zI (D.t q:Nat))):=fun W ho=>⟨(HTB.out.only ho).c1,cell_of_row _ _ 0 _ _ _ ((ho.block bh (Array.getElem?_eq_some_iff.1 HBH.out).1 (by simp)).trans HBH.out),cell_of_row _ _ 1 _ _ _ ((ho.block bh (Array.getElem?_eq_some_iff.1 HBH.out).1 (by simp)).trans HBH.out)⟩;have HS0:Hid (wb.drew.cell? (zA m 1)=some lv∧wb.drew.cell? (zA bh 0)=some (zI q)∧wb.drew.cell? (zA bh 1)=some (zI (D.t q:Nat))):=HOW.out _ (Only.refl _ _);have HSA:Hid ((wb.alloc (.cells #[zI q,zI (D.t q:Nat),zI 2,zI 0,.string ⟨#[]⟩,.slice none 0 0,.slice none 0 0,zI 0] 84)).drew.cell? (zA m 1)=some lv∧(wb.alloc (.cells #[zI q,zI (D.t q:Nat),zI 2,zI 0,.string ⟨#[]⟩,.slice none 0 0,.slice none 0 0,zI 0] 84)).drew.cell? (zA bh 0)=some (zI q)∧(wb.alloc (.cells #[zI q,zI (D.t q:Nat),zI 2,zI 0,.string ⟨#[]⟩,.slice none 0 0,.slice none 0 0,zI 0] 84)).drew.cell? (zA bh 1)=some (zI (D.t q:Nat))):=HOW.out _ ((Only.refl _ _).alloc _);have HSB:Hid (((wb.alloc (.cells #[zI q,zI (D.t q:Nat),zI 2,zI 0,.string ⟨#[]⟩,.slice none 0 0,.slice none 0 0,zI 0] 84)).alloc (.cells #[zP wb.heap.size] 79)).drew.cell? (zA m 1)=some lv∧((wb.alloc (.cells #[zI q,zI (D.t q:Nat),zI 2,zI 0,.string ⟨#[]⟩,.slice none 0 0,.slice none 0 0,zI 0] 84)).alloc (.cells #[zP wb.heap.size] 79)).drew.cell? (zA bh 0)=some (zI q)∧((wb.alloc (.cells #[zI q,zI (D.t q:Nat),zI 2,zI 0,.string ⟨#[]⟩,.slice none 0 0,.slice none 0 0,zI 0] 84)).alloc (.cells #[zP wb.heap.size] 79)).drew.cell? (zA bh 1)=some (zI (D.t q:Nat))):=HOW.out _ (((Only.refl _ _).alloc _).alloc _)
            have HROW:Hid (((wb.alloc (.cells #[zI q,zI (D.t q:Nat),zI 2,zI 0,.string ⟨#[]⟩,.slice none 0 0,.slice none 0 0,zI 0] 84)).alloc (.cells #[zP wb.heap.size] 79)).drew.ownsRow base 79 1 lv k (ns.map ptrOf)):=Pts.own HN.out (Pts.only HTB.out.row (show zQ wb.drew ((wb.alloc (.cells #[zI q,zI (D.t q:Nat),zI 2,zI 0,.string ⟨#[]⟩,.slice none 0 0,.slice none 0 0,zI 0] 84)).alloc (.cells #[zP wb.heap.size] 79)).drew from ((Only.refl [] wb.drew).alloc _).alloc _) (fun _ _=>by simp))
            have HNW:Hid (∀ (r:Nat) (v:Value),([ptrOf (newNm wb.heap.size q (D.t q) 2)]:List Value)[r]?=some v→((wb.alloc (.cells #[zI q,zI (D.t q:Nat),zI 2,zI 0,.string ⟨#[]⟩,.slice none 0 0,.slice none 0 0,zI 0] 84)).alloc (.cells #[zP wb.heap.size] 79)).drew.cell? ((⟨wb.heap.size+1,0,none⟩:Addr).add r)=some v):=by
             have:=pt_news (w:=wb.alloc (.cells #[zI q,zI (D.t q:Nat),zI 2,zI 0,.string ⟨#[]⟩,.slice none 0 0,.slice none 0 0,zI 0] 84)) (newNm wb.heap.size q (D.t q) 2) 79;rw [World.size_alloc] at this;exact this
            have hbw:base≤wb.drew.heap.size:=Nat.le_trans HOO.out.2.2 HDB2.out.size
            have HGR:Hid (∀ w7 g7 c7,((wb.alloc (.cells #[zI q,zI (D.t q:Nat),zI 2,zI 0,.string ⟨#[]⟩,.slice none 0 0,.slice none 0 0,zI 0] 84)).alloc (.cells #[zP wb.heap.size] 79)).drew.grownBy w7 lv.ownBlock→w7.ownsRow base 79 1 (.slice (some ⟨g7,0,none⟩) (k+1) c7) (k+1) (ns.map ptrOf++[ptrOf (newNm wb.heap.size q (D.t q) 2)])→(w7.cell? (zA m 1)=some lv∧w7.cell? (zA bh 0)=some (zI q)∧w7.cell? (zA bh 1)=some (zI (D.t q:Nat)))∧w7.frozen? ⟨m,1,none⟩=false∧m < w7.heap.size∧DtM (w7.setCell (zA m 1) (.slice (some ⟨g7,0,none⟩) (k+1) c7)) base m (.slice (some ⟨g7,0,none⟩) (k+1) c7) (.slice (some ⟨tb,0,none⟩) D.most tcap) (ns++[(newNm wb.heap.size q (D.t q) 2)]) { D with t:=setN D.t q (D.t q+1),L:=D.L++[⟨q,D.t q,2,0,⟨#[]⟩,[],[],0⟩] }∧DocW base w (w7.setCell (zA m 1) (.slice (some ⟨g7,0,none⟩) (k+1) c7))∧(w7.setCell (zA m 1) (.slice (some ⟨g7,0,none⟩) (k+1) c7)).heap[bh]?=some (.cells #[zI q,zI (D.t q:Nat)] 35 (0,0))∧TwoH (w7.setCell (zA m 1) (.slice (some ⟨g7,0,none⟩) (k+1) c7)) w.heap.size N G 0 0):=fun w7 g7 c7 hgr hown=>by
             have hgr':((wb.drew.alloc (.cells (newNm wb.heap.size q (D.t q) 2).cells 84)).alloc (.cells #[zP wb.drew.heap.size] 79)).grownBy w7 lv.ownBlock:=hgr
             have hown':w7.ownsRow base 79 1 (.slice (some ⟨g7,0,none⟩) (k+1) c7) (ns.length+1) (ns.map ptrOf++[ptrOf (newNm wb.heap.size q (D.t q) 2)]):=by rw [HN.out];exact hown
             obtain ⟨a1,a2,a3,a4,a5⟩:=HTB.out.grew hbw hgr' hown';have dw:DocW base wb.drew (w7.setCell (zA m 1) (.slice (some ⟨g7,0,none⟩) (k+1) c7)):=HTB.out.docW a5 (fun z hz=>(List.mem_cons.1 hz).elim Or.inl (fun e=>Or.inr (Or.inl (by simpa using e))))
             have hb7:w7.heap[bh]?=some (.cells #[zI q,zI (D.t q:Nat)] 35 (0,0)):=by
               have o7:Only lv.ownBlock.toList wb.drew w7:=(((Only.refl _ wb.drew).alloc _).alloc _).grown hgr' (fun z hz=>Or.inl (by simp [hz]));refine (o7.block bh (Array.getElem?_eq_some_iff.1 HBH.out).1 (fun hm=>?_)).trans HBH.out;exact HTB.out.handle HBH.out (Or.inr (Or.inl (by simpa using hm)))
             exact ⟨⟨a1,cell_of_row _ _ 0 _ _ _ hb7,cell_of_row _ _ 1 _ _ _ hb7⟩,a2,a3,a4,HDB2.out.trans dw,dw.stays HBH.out (by decide),dw.stays HTW.out.x (by decide),dw.stays HTW.out.y (by decide)⟩
            go_region_held3 (fun W=>W.cell? (zA m 1)=some lv∧W.cell? (zA bh 0)=some (zI q)∧W.cell? (zA bh 1)=some (zI (D.t q:Nat))) (with_reducible first | exact HS0.out | exact HSA.out | exact HSB.out | exact HS7.out)
             (first
               | (refine step_append_lies _ (by rfl) (.tmp 102) (.tmp 107) 76 (by rfl) base 79 i0 _ 1 8 undPts hi0 hz0 hz1 hz2 rfl (by decide) lv k (ns.map ptrOf) (by rfl) HROW.out ⟨wb.heap.size+1,0,none⟩ 1 1 [ptrOf (newNm wb.heap.size q (D.t q) 2)] (by rfl) rfl HNW.out (by intro u hu;rw [List.mem_singleton.1 hu];rfl) (by decide) (by unfold maxLen;omega) (by omega) (by show base≤((wb.alloc _).alloc _).heap.size;rw [World.size_alloc,World.size_alloc];exact Nat.le_succ_of_le (Nat.le_succ_of_le hbw)) (wb.heap.size+1+1) (by show ((wb.alloc _).alloc _).heap.size=_;rw [World.size_alloc,World.size_alloc]) ?_;intro g7 c7 w7 hown7 hgr7 hat7 hlt7;have hq7:=HGR.out w7 g7 c7 hgr7 hown7;have HS7:Hid (w7.cell? (zA m 1)=some lv∧w7.cell? (zA bh 0)=some (zI q)∧w7.cell? (zA bh 1)=some (zI (D.t q:Nat))):=hq7.1;have HG7:Hid (w7.frozen? ⟨m,1,none⟩=false∧m < w7.heap.size∧DtM (w7.setCell (zA m 1) (.slice (some ⟨g7,0,none⟩) (k+1) c7)) base m (.slice (some ⟨g7,0,none⟩) (k+1) c7) (.slice (some ⟨tb,0,none⟩) D.most tcap) (ns++[(newNm wb.heap.size q (D.t q) 2)]) { D with t:=setN D.t q (D.t q+1),L:=D.L++[⟨q,D.t q,2,0,⟨#[]⟩,[],[],0⟩] }∧DocW base w (w7.setCell (zA m 1) (.slice (some ⟨g7,0,none⟩) (k+1) c7))∧(w7.setCell (zA m 1) (.slice (some ⟨g7,0,none⟩) (k+1) c7)).heap[bh]?=some (.cells #[zI q,zI (D.t q:Nat)] 35 (0,0))∧TwoH (w7.setCell (zA m 1) (.slice (some ⟨g7,0,none⟩) (k+1) c7)) w.heap.size N G 0 0):=hq7.2;clear hown7 hgr7 hat7 hlt7 hq7))
            obtain ⟨a1,a2,hD8,hw8,hb8,ht8⟩:=HG7.out;obtain ⟨s1,s2,s3⟩:=HS7.out;have z0:=cell_of_row _ _ 0 _ _ _ hb8;have z1:=cell_of_row _ _ 1 _ _ _ hb8;have hnx8:nx∈ns++[(newNm wb.heap.size q (D.t q) 2)]:=List.mem_append_left _ HNX.out.1;have hen:=denter_any (w7.setCell (zA m 1) (.slice (some ⟨g7,0,none⟩) (k+1) c7)) nx ⟨s.data.toList,q,D.t q⟩ (hD8.each nx hnx8).2 (HK.out.es _ HNX.out.2);dsimp only at hen;rw [bs_self] at hen
            have HN8:Hid (((({ D with t:=setN D.t q (D.t q+1),L:=D.L++[⟨q,D.t q,2,0,⟨#[]⟩,[],[],0⟩] }:Dt).L).map (·.i)).Nodup):=by
             show (List.map (fun y:Dn=>y.i) (D.L++[_])).Nodup;rw [List.map_append,List.nodup_append];refine ⟨HK.out.nos,by simp,?_⟩;intro a ha b hb e;obtain ⟨y,hy,rfl⟩:=List.mem_map.1 ha;simp at hb;exact HFR.out y hy (e.trans hb)
            have HEND:Hid (∀ w9,EnterR (w7.setCell (zA m 1) (.slice (some ⟨g7,0,none⟩) (k+1) c7)) w9 nx (insE ⟨s.data.toList,q,D.t q⟩ nx.x.es)→w9.cell? (zA nx.b 3)=some (zI nx.x.C)∧w9.frozen? ⟨nx.b,3,none⟩=false∧nx.b < w9.heap.size∧(w9.setCell (zA nx.b 3) (zI (nx.x.C+1))).heap[bh]?=some (.cells #[zI q,zI (D.t q:Nat)] 35 (0,0))∧TwoH (w9.setCell (zA nx.b 3) (zI (nx.x.C+1))) w.heap.size N G 0 0∧DM (((w9.setCell (zA nx.b 3) (zI (nx.x.C+1))).setCell (zA (w.heap.size+1) 0) (zI q)).setCell (zA (w.heap.size+1) 1) (zI (D.t q:Nat))) base m (D.made nx.x.i nx.x.c s.data.toList q 2)∧DocW base w (((w9.setCell (zA nx.b 3) (zI (nx.x.C+1))).setCell (zA (w.heap.size+1) 0) (zI q)).setCell (zA (w.heap.size+1) 1) (zI (D.t q:Nat)))):=fun w9 hE=>by
             obtain ⟨v',k1,k2,k3,hD,hoD⟩:=hD8.entered HN8.out hnx8 hE;have dw:=hD8.docW hoD (fun z hz=>Or.inr (Or.inr (Or.inr ⟨nx,hnx8,Or.inl (by simpa using hz)⟩)));have hy9:=dw.stays ht8.y (by decide);have hle:w.heap.size≤w.heap.size+1:=Nat.le_succ _;have ho2:Only [w.heap.size+1] (w9.setCell (zA nx.b 3) (zI (nx.x.C+1))) (((w9.setCell (zA nx.b 3) (zI (nx.x.C+1))).setCell (zA (w.heap.size+1) 0) (zI q)).setCell (zA (w.heap.size+1) 1) (zI (D.t q:Nat))):=((Only.refl _ _).setCell (p:=⟨w.heap.size+1,0,none⟩) (Or.inl (by simp)) _).setCell (p:=⟨w.heap.size+1,1,none⟩) (Or.inl (by simp)) _
             have hDM:DM (((w9.setCell (zA nx.b 3) (zI (nx.x.C+1))).setCell (zA (w.heap.size+1) 0) (zI q)).setCell (zA (w.heap.size+1) 1) (zI (D.t q:Nat))) base m (D.made nx.x.i nx.x.c s.data.toList q 2):=by
               rw [← made_is HFR.out HNX.out.2];exact ⟨_,_,_,hD.kept ho2 (fun z hz hzm=>hD.handle hy9 (by rw [List.mem_singleton.1 hzm] at hz;exact hz))⟩
             exact ⟨k1,k2,k3,dw.stays hb8 (by decide),⟨dw.stays ht8.x (by decide),hy9⟩,hDM,((hw8.trans dw).fresh (p:=⟨w.heap.size+1,0,none⟩) hle _).fresh (p:=⟨w.heap.size+1,1,none⟩) hle _⟩
            have hC:=HDB.out.1 _ HNX.out.2;have hC0:=hC.1;have hC1:=hC.2.1;clear hD8 hw8 hb8 ht8 hC
            go_wp2_with (first
             | (go_at_call 59;refine hen.mono ?_;rintro eq w9 ⟨rfl,hE9⟩;obtain ⟨k1,k2,k3,k4,k5,k6,k7⟩:=HEND.out w9 hE9;have HF9:Hid (DM (((w9.setCell (zA nx.b 3) (zI (nx.x.C+1))).setCell (zA (w.heap.size+1) 0) (zI q)).setCell (zA (w.heap.size+1) 1) (zI (D.t q:Nat))) base m (D.made nx.x.i nx.x.c s.data.toList q 2)∧DocW base w (((w9.setCell (zA nx.b 3) (zI (nx.x.C+1))).setCell (zA (w.heap.size+1) 0) (zI q)).setCell (zA (w.heap.size+1) 1) (zI (D.t q:Nat)))):=⟨k6,k7⟩;clear z0 z1;have z0:=cell_of_row _ _ 0 _ _ _ k4;have z1:=cell_of_row _ _ 1 _ _ _ k4;obtain ⟨b0,b1,v0,v1,f0,f1,hbl⟩:=k5.cells;clear hen k4 k5 k6 k7 hE9)
             | go_in)
            exact bodyPost_ret (v := .tuple #[zG q (D.t q:Nat),zI 0]) (by simp [results,Tryz.results28,go_sem,v0,v1]) rfl ⟨0,q,D.t q,_,rfl,Or.inr (Or.inr ⟨nx.x,HX.out.1,HX.out.2.1,HS.out,Or.inr (Or.inr (Or.inr ⟨(by first | exact Or.inl rfl | exact Or.inr rfl),HFF.out,by rw [HLX.out];omega,by rw [HMO.out];exact hlt,HU.out,HFR.out,rfl,rfl,rfl⟩))⟩),HF9.out.1,HF9.out.2⟩
     · obtain rfl:q=mo:=by omega
       have HR:Hid (60≤nx.x.es.length∨∀ j,j < D.most→∃ y∈D.L,y.i=j):=Or.inr (by rw [HMO.out];exact HU.out);clear ho
       go_wp2
       exact bodyPost_ret (v := .tuple #[zG 0 0,zI 9]) (by simp [results,Tryz.results28,go_sem,v0,v1]) rfl ⟨9,0,0,D,rfl,Or.inr (Or.inr ⟨nx.x,HX.out.1,HX.out.2.1,HS.out,Or.inr (Or.inr (Or.inl ⟨(by first | exact Or.inl rfl | exact Or.inr rfl),HFF.out,HR.out,rfl,rfl,rfl,rfl⟩))⟩),HDM.out _ (HSET.out _ _ _ HO.out),DocW.none (HSET.out _ _ _ HO.out)⟩
theorem dmake_any (w:World)(base m:Nat)(D:Dt)(N G:Int)(s:ByteArray)(K:Int)(B:Nat)(h0:DM w base m D)(hI:DInv D)(hb:DB D B)(hB:B≤999000)(hbs:base≤w.heap.size):
   zK 28 #[zP m,zG N G,.string s,zI K] w fun r w'=>MakeP w w' base m D N G s K r:=by
 obtain ⟨lv,tv,ns,h⟩:=h0;have hk:=hI.ok hb hB;have o1:zQ w ((w.alloc (zH N G)).alloc (zH 0 0)):=((Only.refl [] w).alloc _).alloc _;have ht:=TwoH.made w N G;have h1:=h.only o1;have HSET:Hid (∀ W a b,zQ ((w.alloc (zH N G)).alloc (zH 0 0)) W→zQ w ((W.setCell (zA (w.heap.size+1) 0) a).setCell (zA (w.heap.size+1) 1) b)):=fun W a b ho=>((zo o1 ho).setCell (p:=⟨w.heap.size+1,0,none⟩) (Or.inr (Nat.le_succ _)) _).setCell (p:=⟨w.heap.size+1,1,none⟩) (Or.inr (Nat.le_succ _)) _;have HDM:Hid (∀ W,zQ w W→DM W base m D):=fun W ho=>⟨lv,tv,ns,h.only ho⟩
 have hs1:w.heap.size+2≤((w.alloc (zH N G)).alloc (zH 0 0)).heap.size:=by rw [World.size_alloc,World.size_alloc];omega
 generalize hw1:((w.alloc (zH N G)).alloc (zH 0 0))=w1 at o1 ht h1 HSET hs1;have HW1:Hid (((w.alloc (zH N G)).alloc (zH 0 0))=w1):=hw1;have HO:Hid (zQ w1 w1):=Only.refl _ _;have HT:Hid (∀ W,zQ w1 W→TwoH W w.heap.size N G 0 0):=fun W ho=>ht.kept ho (by simp) (by simp);obtain ⟨b0,b1,v0,v1,f0,f1,hbl⟩:=ht.cells;clear hw1;rcases dir_cases D N G with ⟨x,hx,hxK,hd⟩ | hbad
 · have HDI:Hid (∀ W,zQ w1 W→zO 46 #[zP m,zG N G] W (zI 0)):=fun W ho=>ddir_is (h1.only ho) hk hd
   obtain ⟨hxm,hxN,hxG⟩:=atZ_some hx;obtain ⟨nx,hnx,rfl⟩:=h.mem hxm;have HX:Hid (D.atZ N G=some nx.x∧nx.x.K=2∧dirN D N G=0):=⟨hx,hxK,hd⟩
   have HATX:Hid (∀ W,zQ w1 W→zO 48 #[zP m,zG N G] W (zP nx.b)):=fun W ho=>by
     rw [← hxN,← hxG];exact dat_at (h1.only ho) hk hnx
   by_cases hs:OkN s
   · have HS:Hid (OkN s):=hs
     have HNM:Hid (∀ W,zQ w1 W→zE 47 #[.string s] W (zI 0)):=fun W _=>name_yes HS.out W
     by_cases hKK:K=1∨K=2
     · have HKK:Hid (K=1∨K=2):=hKK
       have dK:(K != 1)=false∨(K != 2)=false:=hKK.elim (fun e=>Or.inl (by rw [e];rfl)) (fun e=>Or.inr (by rw [e];rfl));have hlx:=hk.es _ hxm
       cases hf:findE nx.x.es s.data.toList with
       | some e =>
        obtain ⟨q,hq,_⟩:=findE_idx hf;have HFI:Hid (∀ W,zQ w1 W→zE 49 #[zP nx.b,.string s] W (zI q)):=fun W ho=>dfind_at (((h1.only ho).each nx hnx).2) hlx ((hI.rise _ hxm).1) hf hq
        have HFF:Hid (findE nx.x.es s.data.toList≠none):=by show _≠_;rw [hf];simp
        clear h h1 hx hk hI hb o1 ht hd hxm hnx hs1 hbs hs hf hq;rcases hKK with rfl | rfl
        ·  skip
           go_enter Tryz.func28,Tryz.ntmps28
           go_upto_region 1 with fail
           rw [HW1.out]
           go_wp2_with (first
             | (go_at_call 46;refine (HDI.out _ HO.out).mono ?_;rintro eq wz ⟨rfl,hoz⟩;replace HO:=zT HO hoz;clear hoz b0 b1 v0 v1 f0 f1 hbl;obtain ⟨b0,b1,v0,v1,f0,f1,hbl⟩:=(HT.out wz HO.out).cells)
             | (go_at_call 47;refine (HNM.out _ HO.out).mono ?_;rintro eq wz ⟨rfl,rfl⟩)
             | (go_at_call 48;refine (HATX.out _ HO.out).mono ?_;rintro eq wz ⟨rfl,hoz⟩;replace HO:=zT HO hoz;clear hoz b0 b1 v0 v1 f0 f1 hbl;obtain ⟨b0,b1,v0,v1,f0,f1,hbl⟩:=(HT.out wz HO.out).cells)
             | (go_at_call 49;refine (HFI.out _ HO.out).mono ?_;rintro eq wz ⟨rfl,rfl⟩)
             | go_in)
           exact bodyPost_ret (v := .tuple #[zG 0 0,zI 6]) (by simp [results,Tryz.results28,go_sem,v0,v1]) rfl ⟨6,0,0,D,rfl,Or.inr (Or.inr ⟨nx.x,HX.out.1,HX.out.2.1,HS.out,Or.inr (Or.inl ⟨(by first | exact Or.inl rfl | exact Or.inr rfl),HFF.out,rfl,rfl,rfl,rfl⟩)⟩),HDM.out _ (HSET.out _ _ _ HO.out),DocW.none (HSET.out _ _ _ HO.out)⟩
        ·  skip
           go_enter Tryz.func28,Tryz.ntmps28
           go_upto_region 1 with fail
           rw [HW1.out]
           go_wp2_with (first
             | (go_at_call 46;refine (HDI.out _ HO.out).mono ?_;rintro eq wz ⟨rfl,hoz⟩;replace HO:=zT HO hoz;clear hoz b0 b1 v0 v1 f0 f1 hbl;obtain ⟨b0,b1,v0,v1,f0,f1,hbl⟩:=(HT.out wz HO.out).cells)
             | (go_at_call 47;refine (HNM.out _ HO.out).mono ?_;rintro eq wz ⟨rfl,rfl⟩)
             | (go_at_call 48;refine (HATX.out _ HO.out).mono ?_;rintro eq wz ⟨rfl,hoz⟩;replace HO:=zT HO hoz;clear hoz b0 b1 v0 v1 f0 f1 hbl;obtain ⟨b0,b1,v0,v1,f0,f1,hbl⟩:=(HT.out wz HO.out).cells)
             | (go_at_call 49;refine (HFI.out _ HO.out).mono ?_;rintro eq wz ⟨rfl,rfl⟩)
             | go_in)
           exact bodyPost_ret (v := .tuple #[zG 0 0,zI 6]) (by simp [results,Tryz.results28,go_sem,v0,v1]) rfl ⟨6,0,0,D,rfl,Or.inr (Or.inr ⟨nx.x,HX.out.1,HX.out.2.1,HS.out,Or.inr (Or.inl ⟨(by first | exact Or.inl rfl | exact Or.inr rfl),HFF.out,rfl,rfl,rfl,rfl⟩)⟩),HDM.out _ (HSET.out _ _ _ HO.out),DocW.none (HSET.out _ _ _ HO.out)⟩
       | none =>
        have HFF:Hid (findE nx.x.es s.data.toList=none):=hf;have HFI:Hid (∀ W,zQ w1 W→zE 49 #[zP nx.b,.string s] W (zI (-1))):=fun W ho=>dfind_no (((h1.only ho).each nx hnx).2) hlx hf;obtain ⟨lx,hlxx⟩:∃ lx,nx.x.es.length=lx:=⟨_,rfl⟩;have HLX:Hid (nx.x.es.length=lx):=hlxx;obtain ⟨adx,capx,_,hrowx⟩:=ent_row (h1.each nx hnx).2 hlxx;have HX6:Hid (∀ W,zQ w1 W→W.cell? (zA nx.b 6)=some (.slice adx lx capx)):=fun W ho=>(hrowx W ho).1;rw [hlxx] at hlx
        by_cases h60:60≤lx
        ·  have HR:Hid (60≤nx.x.es.length∨∀ j,j < D.most→∃ y∈D.L,y.i=j):=Or.inl (by rw [HLX.out];exact h60)
           clear h h1 hx hk hI hb o1 ht hd hxm hnx hs1 hbs hs hf hrowx hlxx;rcases hKK with rfl | rfl
           · skip
             go_enter Tryz.func28,Tryz.ntmps28
             go_upto_region 1 with fail
             rw [HW1.out]
             go_wp2_with (first
              | (go_at_call 46;refine (HDI.out _ HO.out).mono ?_;rintro eq wz ⟨rfl,hoz⟩;replace HO:=zT HO hoz;clear hoz b0 b1 v0 v1 f0 f1 hbl;obtain ⟨b0,b1,v0,v1,f0,f1,hbl⟩:=(HT.out wz HO.out).cells)
              | (go_at_call 47;refine (HNM.out _ HO.out).mono ?_;rintro eq wz ⟨rfl,rfl⟩)
              | (go_at_call 48;refine (HATX.out _ HO.out).mono ?_;rintro eq wz ⟨rfl,hoz⟩;replace HO:=zT HO hoz;clear hoz b0 b1 v0 v1 f0 f1 hbl;obtain ⟨b0,b1,v0,v1,f0,f1,hbl⟩:=(HT.out wz HO.out).cells;have x6:=HX6.out wz HO.out)
              | (go_at_call 49;refine (HFI.out _ HO.out).mono ?_;rintro eq wz ⟨rfl,rfl⟩)
              | go_in)
             exact bodyPost_ret (v := .tuple #[zG 0 0,zI 9]) (by simp [results,Tryz.results28,go_sem,v0,v1]) rfl ⟨9,0,0,D,rfl,Or.inr (Or.inr ⟨nx.x,HX.out.1,HX.out.2.1,HS.out,Or.inr (Or.inr (Or.inl ⟨(by first | exact Or.inl rfl | exact Or.inr rfl),HFF.out,HR.out,rfl,rfl,rfl,rfl⟩))⟩),HDM.out _ (HSET.out _ _ _ HO.out),DocW.none (HSET.out _ _ _ HO.out)⟩
           · skip
             go_enter Tryz.func28,Tryz.ntmps28
             go_upto_region 1 with fail
             rw [HW1.out]
             go_wp2_with (first
              | (go_at_call 46;refine (HDI.out _ HO.out).mono ?_;rintro eq wz ⟨rfl,hoz⟩;replace HO:=zT HO hoz;clear hoz b0 b1 v0 v1 f0 f1 hbl;obtain ⟨b0,b1,v0,v1,f0,f1,hbl⟩:=(HT.out wz HO.out).cells)
              | (go_at_call 47;refine (HNM.out _ HO.out).mono ?_;rintro eq wz ⟨rfl,rfl⟩)
              | (go_at_call 48;refine (HATX.out _ HO.out).mono ?_;rintro eq wz ⟨rfl,hoz⟩;replace HO:=zT HO hoz;clear hoz b0 b1 v0 v1 f0 f1 hbl;obtain ⟨b0,b1,v0,v1,f0,f1,hbl⟩:=(HT.out wz HO.out).cells;have x6:=HX6.out wz HO.out)
              | (go_at_call 49;refine (HFI.out _ HO.out).mono ?_;rintro eq wz ⟨rfl,rfl⟩)
              | go_in)
             exact bodyPost_ret (v := .tuple #[zG 0 0,zI 9]) (by simp [results,Tryz.results28,go_sem,v0,v1]) rfl ⟨9,0,0,D,rfl,Or.inr (Or.inr ⟨nx.x,HX.out.1,HX.out.2.1,HS.out,Or.inr (Or.inr (Or.inl ⟨(by first | exact Or.inl rfl | exact Or.inr rfl),HFF.out,HR.out,rfl,rfl,rfl,rfl⟩))⟩),HDM.out _ (HSET.out _ _ _ HO.out),DocW.none (HSET.out _ _ _ HO.out)⟩
        ·  exact dmake_go w base m D N G s K B lv tv ns nx w1 lx adx capx h h1 hI hk hb hB hbs o1 hs1 HW1 HT HX HS HKK hnx hxm HDI HATX HNM HFF HFI HLX HX6 h60
     · have HKN:Hid (K≠1∧K≠2):=⟨fun e=>hKK (Or.inl e),fun e=>hKK (Or.inr e)⟩
       have d1:(K != 1)=true:=by simpa using HKN.out.1
       have d2:(K != 2)=true:=by simpa using HKN.out.2
       clear h h1 hx hk hI hb o1 ht hd hxm hnx hs1 hbs hs hKK
       go_enter Tryz.func28,Tryz.ntmps28
       go_upto_region 1 with fail
       rw [HW1.out]
       go_wp2_with (first
        |  (go_at_call 46;refine (HDI.out _ HO.out).mono ?_;rintro eq wz ⟨rfl,hoz⟩;replace HO:=zT HO hoz;clear hoz b0 b1 v0 v1 f0 f1 hbl;obtain ⟨b0,b1,v0,v1,f0,f1,hbl⟩:=(HT.out wz HO.out).cells)
        |  (go_at_call 47;refine (HNM.out _ HO.out).mono ?_;rintro eq wz ⟨rfl,rfl⟩)
        | go_in)
       exact bodyPost_ret (v := .tuple #[zG 0 0,zI 3]) (by simp [results,Tryz.results28,go_sem,v0,v1]) rfl ⟨3,0,0,D,rfl,Or.inr (Or.inr ⟨nx.x,HX.out.1,HX.out.2.1,HS.out,Or.inl ⟨HKN.out,rfl,rfl,rfl,rfl⟩⟩),HDM.out _ (HSET.out _ _ _ HO.out),DocW.none (HSET.out _ _ _ HO.out)⟩
   · have HS:Hid (¬ OkN s):=hs
     have HNM:Hid (∀ W,zQ w1 W→zE 47 #[.string s] W (zI 4)):=fun W _=>name_bad HS.out W;clear h h1 hx hk hI hb o1 ht hd hxm hnx hs1 hbs hs
     go_enter Tryz.func28,Tryz.ntmps28
     go_upto_region 1 with fail
     rw [HW1.out]
     go_wp2_with (first
       | (go_at_call 46;refine (HDI.out _ HO.out).mono ?_;rintro eq wz ⟨rfl,hoz⟩;replace HO:=zT HO hoz;clear hoz b0 b1 v0 v1 f0 f1 hbl;obtain ⟨b0,b1,v0,v1,f0,f1,hbl⟩:=(HT.out wz HO.out).cells)
       | (go_at_call 47;refine (HNM.out _ HO.out).mono ?_;rintro eq wz ⟨rfl,rfl⟩)
       | go_in)
     exact bodyPost_ret (v := .tuple #[zG 0 0,zI 4]) (by simp [results,Tryz.results28,go_sem,v0,v1]) rfl ⟨4,0,0,D,rfl,Or.inr (Or.inl ⟨HX.out.2.2,HS.out,rfl,rfl,rfl,rfl⟩),HDM.out _ (HSET.out _ _ _ HO.out),DocW.none (HSET.out _ _ _ HO.out)⟩
 · have hd:dirN D N G=7∨dirN D N G=10:=hbad.elim (fun h=>Or.inl h.1) (fun h=>Or.inr h.1)
   rcases hd with hc | hc
   · have HC:Hid (dirN D N G=7):=hc
     have HDI:Hid (∀ W,zQ w1 W→zO 46 #[zP m,zG N G] W (zI 7)):=fun W ho=>ddir_is (h1.only ho) hk hc;clear h h1 hk hI hb o1 ht hbad hs1 hbs hc
     go_enter Tryz.func28,Tryz.ntmps28
     go_upto_region 1 with fail
     rw [HW1.out]
     go_wp2_with (first
       | (go_at_call 46;refine (HDI.out _ HO.out).mono ?_;rintro eq wz ⟨rfl,hoz⟩;replace HO:=zT HO hoz;clear hoz b0 b1 v0 v1 f0 f1 hbl;obtain ⟨b0,b1,v0,v1,f0,f1,hbl⟩:=(HT.out wz HO.out).cells)
       | go_in)
     exact bodyPost_ret (v := .tuple #[zG 0 0,zI 7]) (by simp [results,Tryz.results28,go_sem,v0,v1]) rfl ⟨7,0,0,D,rfl,Or.inl ⟨by rw [HC.out];decide,HC.out.symm,rfl,rfl,rfl⟩,HDM.out _ (HSET.out _ _ _ HO.out),DocW.none (HSET.out _ _ _ HO.out)⟩
   · have HC:Hid (dirN D N G=10):=hc
     have HDI:Hid (∀ W,zQ w1 W→zO 46 #[zP m,zG N G] W (zI 10)):=fun W ho=>ddir_is (h1.only ho) hk hc;clear h h1 hk hI hb o1 ht hbad hs1 hbs hc
     go_enter Tryz.func28,Tryz.ntmps28
     go_upto_region 1 with fail
     rw [HW1.out]
     go_wp2_with (first
       | (go_at_call 46;refine (HDI.out _ HO.out).mono ?_;rintro eq wz ⟨rfl,hoz⟩;replace HO:=zT HO hoz;clear hoz b0 b1 v0 v1 f0 f1 hbl;obtain ⟨b0,b1,v0,v1,f0,f1,hbl⟩:=(HT.out wz HO.out).cells)
       | go_in)
     exact bodyPost_ret (v := .tuple #[zG 0 0,zI 10]) (by simp [results,Tryz.results28,go_sem,v0,v1]) rfl ⟨10,0,0,D,rfl,Or.inl ⟨by rw [HC.out];decide,HC.out.symm,rfl,rfl,rfl⟩,HDM.out _ (HSET.out _ _ _ HO.out),DocW.none (HSET.out _ _ _ HO.out)⟩
end
end Go.Proofs.YtkcabopgajlmdaaGreatDoor
