import Derived.Test.YtkcabopgajlmdaaGreatDoorK31
set_option maxRecDepth 100000
set_option maxHeartbeats 8000000
namespace Go.Proofs.YtkcabopgajlmdaaGreatDoor
section
open Go Go.RowKit Go.Deep Go.Maps
theorem gone_turn (D:Dt){y:Dn}{f:Dn→Dn}(hf:∀ x,(f x).i=x.i∧(f x).c=x.c):(D.turn y.i y.c f).gone y.i y.c=D.gone y.i y.c:=by
 unfold Dt.gone Dt.turn
 have:∀ L:List Dn,(turnL y.i y.c f L).filter (fun x=>!x.is y.i y.c)=L.filter (fun x=>!x.is y.i y.c):=by
  intro L
  induction L with
  | nil=>rfl
  | cons x L ih =>
   show ((if x.is y.i y.c then f x else x)::turnL y.i y.c f L).filter _=_;rw [List.filter_cons,List.filter_cons,ih]
   by_cases e:x.is y.i y.c=true
   · have e2:(f x).is y.i y.c=true:=by
      rw [is_iff,(hf x).1,(hf x).2];exact is_iff.1 e
     rw [if_pos e,e,e2];rfl
   · rw [if_neg e]
 rw [this]
theorem Rep.alone {T T':Tr}{D:Dt}(h:Rep T D)(hI:DInv D){y:Dn}(hy:y∈D.L)(hes:y.es=[])(hI':DInv (D.gone y.i y.c))(hg:∀ i,T'.g i=if i=y.i then y.c+1 else T.g i)(hmost:T'.most=T.most)(hpn:∀ i,T'.pn i=if i=y.i then 0 else T.pn i)(hds:∀ i,T'.ds i=if i=y.i then none else T.ds i)(hnd:∀ i,T'.nd i=if i=y.i then none else T.nd i):Rep T' (D.gone y.i y.c):=by
 have hm:∀ v∈(D.gone y.i y.c).L,v∈D.L∧v.i≠y.i:=fun v hv=>by
   obtain ⟨h1,h2⟩:=List.mem_filter.1 hv;refine ⟨h1,fun q=>?_⟩;rw [same_no hI.nos h1 hy q,is_iff.2 ⟨rfl,rfl⟩] at h2
   cases h2
 have hb:∀ z∈D.L,z.i≠y.i→z∈(D.gone y.i y.c).L:=fun z hz e=>List.mem_filter.2 ⟨hz,by rw [Bool.not_eq_true',Bool.eq_false_iff];exact fun q=>e (is_iff.1 q).1⟩
 have hnoy:∀ v∈(D.gone y.i y.c).L,∀ q∈v.es,q.i≠y.i:=fun v hv q hq k=>by
   obtain ⟨_,⟨u,hu,u1,_⟩,_⟩:=hI'.live v hv q hq;exact (hm u hu).2 (u1.trans k)
 have hc:∀ i c,(D.gone y.i y.c).cnt i c=D.cnt i c:=fun i c=>cntL_filter _ _ _ fun v hv q=>by
   have q1:v.is y.i y.c=true:=by simpa using q
   rw [same_no hI.nos hv hy (is_iff.1 q1).1];exact hes
 refine Rep.build hI' (by rw [hmost];exact h.most) (fun v hv=>?_) (fun i hi=>?_) (fun v hv=>?_) (fun v hv=>?_) (fun v hv=>?_)
 · rw [hg,if_neg (hm v hv).2]
   exact h.g v (hm v hv).1
 · by_cases hiy:i=y.i
   · rw [hg,hnd,hds,hpn,if_pos hiy,if_pos hiy,if_pos hiy,if_pos hiy]
     refine ⟨?_,rfl,rfl,rfl⟩;show y.c+1=D.t i;rw [hiy];exact (hI.lt y hy).2.symm
   · rw [hg,hnd,hds,hpn,if_neg hiy,if_neg hiy,if_neg hiy,if_neg hiy]
     exact h.t i fun z hz q=>hi z (hb z hz (fun k=>hiy (q.symm.trans k))) q
 · rw [hds,if_neg (hm v hv).2]
   exact h.ds v (hm v hv).1
 · rw [hpn,if_neg (hm v hv).2]
   exact h.pn v (hm v hv).1
 · obtain ⟨hz,z1⟩:=hm v hv
   obtain ⟨n,n0,n1,n2,n3,n4,n5,n6⟩:=h.counted hI hz;refine ⟨n,by rw [hnd,if_neg z1];exact n0,n1,n2,n3,n4,fun q=>⟨?_,(n5 q).2⟩,fun q=>⟨?_,(n6 q).2.1,?_⟩⟩
   · rw [hc]
     exact (n5 q).1
   · rw [dirsIn_same (ds:=T.ds) fun q hq=>by rw [hds,if_neg (hnoy v hv q hq)]]
     exact (n6 q).1
   · rw [up_follows hI hI' hz hv rfl rfl q q fun u hu hue=>?_]
     · exact (n6 q).2.2
     · refine ⟨u,hb u hu (fun k=>?_),rfl,rfl,hue⟩
       have:=same_no hI.nos hu hy k;subst this;rw [hes] at hue
       cases hue
def Dn.pinned (k:Nat)(x:Dn):Dn:={ x with p:=k }
theorem DInv.unpinned {D:Dt}(h:DInv D){y:Dn}(hy:y∈D.L)(hK:y.K=1)(hc:D.cnt y.i y.c=0):(D.turn y.i y.c (Dn.pinned 0)).sweep=D.gone y.i y.c∧DInv (D.gone y.i y.c):=by
 have hes:y.es=[]:=by
  rcases h.kind y hy with k | k
  · exact k.2
  · omega
 have hy0:y.i≠0:=fun e=>by
  obtain ⟨z,hz,e1,_,e3⟩:=h.root;have:=same_no h.nos hy hz (e.trans e1.symm);subst this;omega
 have hM:=h.mid y.i
 have hI':DInv (D.gone y.i y.c):=hM.gone hy hy0 hes fun c=>by
  by_cases e1:c=y.c
  · rw [e1];exact hc
  · exact cnt_other_times hM hy e1
 refine ⟨?_,hI'⟩;rw [← gone_turn D (y:=y) (f:=Dn.pinned 0) (fun _=>⟨rfl,rfl⟩)];have hct:∀ a b,(D.turn y.i y.c (Dn.pinned 0)).cnt a b=D.cnt a b:=fun a b=>cntL_quiet (f:=Dn.pinned 0) _ (fun _=>rfl) _
 have:(D.turn y.i y.c (Dn.pinned 0)).L.filter (D.turn y.i y.c (Dn.pinned 0)).held=(D.turn y.i y.c (Dn.pinned 0)).L.filter fun x=>!x.is y.i y.c:=by
  apply List.filter_congr;intro v hv;obtain ⟨z,hz,rfl⟩:=mem_turnL.1 hv
  by_cases e:z.i=y.i
  · have:=same_no h.nos hz hy e
    subst this
    rw [if_pos (is_iff.2 ⟨rfl,rfl⟩),not_held (x:=Dn.pinned 0 z) hK rfl (by rw [hct];exact hc),show (Dn.pinned 0 z).is z.i z.c=true from is_iff.2 ⟨rfl,rfl⟩]
    rfl
  · have h1:z.is y.i y.c=false:=by
      rw [Bool.eq_false_iff];exact fun k=>e (is_iff.1 k).1
    rw [if_neg (by rw [h1];simp),h1];show _=true;rcases h.kind z hz with ⟨k,_⟩ | ⟨k,_⟩
    · rcases (h.files z hz k).2 with h2 | h2
      · exact held_of (Or.inr (Or.inr ⟨k,by rw [hct];exact h2⟩))
      · exact held_of (Or.inr (Or.inl h2))
    · exact held_of (Or.inl k)
 unfold Dt.sweep Dt.gone;rw [this]
def DZ (D:Dt):Prop:=∀ x∈D.L,x.S.size≤4096∧x.H.length≤64
def OneH (w:World)(B:Nat)(N G:Int):Prop:=w.heap[B]?=some (.cells #[zI N,zI G] 35 (0,0))
theorem OneH.kept {w w':World}{B:Nat}{N G:Int}{K:List Nat}(h:OneH w B N G)(ho:Only K w w')(h1:B∉K):OneH w' B N G:=(ho.block B (Array.getElem?_eq_some_iff.1 h).1 h1).trans h
theorem OneH.cells {w:World}{B:Nat}{N G:Int}(h:OneH w B N G):w.cell? (zA B 0)=some (zI N)∧w.cell? (zA B 1)=some (zI G):=⟨cell_of_row _ _ 0 _ _ _ h,cell_of_row _ _ 1 _ _ _ h⟩
theorem file_cases (D:Dt)(N G:Int):(∃ x,D.atZ N G=some x∧x.K=1∧fileN D N G=0)∨fileN D N G=8∨fileN D N G=10:=by
 unfold fileN
 cases h:D.atZ N G with
 | none=>exact Or.inr (Or.inr rfl)
 | some x =>
  by_cases hK:x.K=1
  · exact Or.inl ⟨x,rfl,hK,by simp [hK]⟩
  · exact Or.inr (Or.inl (by simp [hK]))
def Dn.wroteD (a:Nat)(s:ByteArray)(x:Dn):Dn:={ x with S:=writeS x.S a s,H:=marksH x.H (a / 64) ((a+s.size - 1) / 64+1 - a / 64),C:=x.C+1 }
def Dn.sizedD (n:Nat)(x:Dn):Dn:={ x with S:=resizeS x.S n,H:=resizeH x.S x.H n,C:=x.C+1 }
theorem DtM.rewrote {w w1:World}{base m:Nat}{lv tv v':Value}{ns:List Nm}{D:Dt}(h:DtM w base m lv tv ns D)(hn:(D.L.map (·.i)).Nodup){n:Nm}(hm:n∈ns){S':ByteArray}{H':List Bool}(hb:BytesN (fun j=>n.cells[j]?) w1 (n.b+1) n.b S' H' v')(ho:Only (footN n.b n.hv) w w1)(hv:∀ k,v'.ownBlock=some k→k∈footN n.b n.hv∨w.heap.size≤k){f:Dn→Dn}(hf:f n.x={ n.x with S:=S',H:=H',C:=n.x.C+1 }):
   w1.cell? (zA n.b 3)=some (zI n.x.C)∧w1.frozen? ⟨n.b,3,none⟩=false∧n.b < w1.heap.size∧DM (w1.setCell (zA n.b 3) (zI (n.x.C+1))) base m (D.turn n.x.i n.x.c f)∧DocW base w (w1.setCell (zA n.b 3) (zI (n.x.C+1))):=by
 have hN:=(h.each n hm).2
 have hf1:∀ k∈footN n.b n.hv,k=n.b∨n.hv.ownBlock=some k:=fun k hk=>by
   rcases List.mem_cons.1 hk with e | e
   · exact Or.inl e
   · exact Or.inr (by simpa using e)
 have he:Ents w1 (n.b+1) n.ev n.x.es:=hN.ents.only ho (fun k hk hkf=>by
   obtain ⟨_,_,cur,hc⟩:=own_blk hN.ents hk;rcases hf1 k hkf with e | e
   · rw [e,hN.blk] at hc
     simp at hc
   · obtain ⟨_,_,cur2,hc2⟩:=own_blk hN.holes e
     rw [hc2] at hc
     simp at hc)
 have h1:=NmAt.of_bytes hb he;obtain ⟨h2,ho2⟩:=h1.touch (n.x.C+1);have ho3:Only (footN n.b n.hv) w (w1.setCell (zA n.b 3) (zI (n.x.C+1))):=ho.trans ho2 (fun k hk=>Or.inl (by rw [List.mem_singleton.1 hk];exact List.mem_cons_self ..));refine ⟨h1.c3,h1.fz 3,h1.lt,⟨lv,tv,_,h.turned (n':=⟨n.b,v',n.ev,f n.x⟩) hn hm rfl (by rw [hf]) ho3 hf1 (by rw [hf];exact h2) (fun k hk=>?_) rfl⟩,h.docW ho3 (fun k hk=>Or.inr (Or.inr (Or.inr ⟨n,hm,(hf1 k hk).elim Or.inl (fun e=>Or.inr (Or.inl e))⟩)))⟩;rcases hv k hk with e | e
 · rcases hf1 k e with e2 | e2
   · have h3:=(own_blk h2.holes hk).1
     have h4:n.b+1≤k:=h3;omega
   · exact Or.inl e2
 · exact Or.inr e
def WriteR (D:Dt)(N G a:Int)(s:ByteArray)(c:Nat)(D':Dt):Prop :=
 (fileN D N G≠0∧c=fileN D N G∧D'=D)∨∃ y,D.atZ N G=some y∧y.K=1∧(((a < 0∨4096 < a+(s.size:Int))∧c=2∧D'=D)∨(0≤a∧a+(s.size:Int)≤4096∧s.size=0∧c=0∧D'=D)∨(0≤a∧a+(s.size:Int)≤4096∧1≤s.size∧c=0∧D'=D.turn y.i y.c (Dn.wroteD a.toNat s)))
def WriteP (w w':World)(base m:Nat)(D:Dt)(N G a:Int)(s:ByteArray)(r:Ending):Prop:=∃ c D',r = .returned (zI ((c:Nat):Int))∧WriteR D N G a s c D'∧DM w' base m D'∧DocW base w w'
theorem size0 {s:ByteArray}(h:s.size=0):s=⟨#[]⟩:=by
 cases s with
 | mk d =>
  congr 1;exact Array.eq_empty_of_size_eq_zero h
theorem dtwrite_any (w:World)(base m:Nat)(D:Dt)(N G:Int)(a:Int)(s:ByteArray)(B:Nat)(h0:DM w base m D)(hI:DInv D)(hb:DB D B)(hB:B≤999000)(hz:DZ D)(ha:a < 9223372036854775808):
   zK 36 #[zP m,zG N G,zI a,.string s] w fun r w'=>WriteP w w' base m D N G a s r:=by
 obtain ⟨lv,tv,ns,h⟩:=h0;have hk:=hI.ok hb hB;have o1:zQ w (w.alloc (zH N G)):=(Only.refl [] w).alloc _;have ht:OneH (w.alloc (zH N G)) w.heap.size N G:=zh w _;have h1:=h.only o1;have HDW:Hid (∀ W,zQ (w.alloc (zH N G)) W→DocW base w W):=fun W ho=>DocW.none (zo o1 ho);have HDM:Hid (∀ W,zQ (w.alloc (zH N G)) W→DM W base m D):=fun W ho=>⟨lv,tv,ns,h1.only ho⟩
 have hsz:w.heap.size+1≤(w.alloc (zH N G)).heap.size:=by rw [World.size_alloc];omega
 generalize hw1:(w.alloc (zH N G))=w1 at o1 ht h1 HDW HDM hsz;have HW1:Hid ((w.alloc (zH N G))=w1):=hw1;have HO:Hid (zQ w1 w1):=Only.refl _ _;have HT:Hid (∀ W,zQ w1 W→OneH W w.heap.size N G):=fun W ho=>ht.kept ho (by simp);obtain ⟨b0,b1⟩:=ht.cells;clear hw1;rcases file_cases D N G with ⟨x,hx,hxK,hd⟩ | hbad
 · have HFE:Hid (∀ W,zQ w1 W→zO 70 #[zP m,zG N G] W (zI 0)):=fun W ho=>dfile_is (h1.only ho) hk hd
   obtain ⟨hxm,hxN,hxG⟩:=atZ_some hx;obtain ⟨n,hn,rfl⟩:=h.mem hxm;have HX:Hid (D.atZ N G=some n.x∧n.x.K=1∧fileN D N G=0):=⟨hx,hxK,hd⟩
   have HAT:Hid (∀ W,zQ w1 W→zO 48 #[zP m,zG N G] W (zP n.b)):=fun W ho=>by
     rw [← hxN,← hxG];exact dat_at (h1.only ho) hk hn
   have HNM:Hid (∀ W,zQ w1 W→NmAt W n):=fun W ho=>(((h1.only ho).each n hn).2);obtain ⟨hS,hH⟩:=hz _ hxm;obtain ⟨hC0,hC1,hp1⟩:=hb.1 _ hxm;have hbl:n.b+1≤w1.heap.size:=(h1.each n hn).2.lt
   by_cases hr:a < 0∨4096 < a+(s.size:Int)
   · have HR:Hid (a < 0∨4096 < a+(s.size:Int)):=hr
     have HBW:Hid (∀ W,zQ w1 W→zE 71 #[.pointer (some ⟨n.b,4,none⟩),zI a,.string s] W (zI 2)):=fun W _=>nwrite_bound W n.b s a HR.out ha;clear h h1 hI o1 ht hx hd hxm hn hxN hxG hxK hk hb hz hsz hr
     go_enter Tryz.func36,Tryz.ntmps36
     go_upto_region 1 with fail
     rw [HW1.out]
     go_wp2_with (first
       | (go_at_call 70;refine (HFE.out _ HO.out).mono ?_;rintro eq wz ⟨rfl,hoz⟩;replace HO:=zT HO hoz;clear hoz b0 b1;obtain ⟨b0,b1⟩:=(HT.out wz HO.out).cells)
       | (go_at_call 48;refine (HAT.out _ HO.out).mono ?_;rintro eq wz ⟨rfl,hoz⟩;replace HO:=zT HO hoz;clear hoz b0 b1;obtain ⟨b0,b1⟩:=(HT.out wz HO.out).cells)
       | (go_at_call 71;refine (HBW.out _ HO.out).mono ?_;rintro eq wz ⟨rfl,rfl⟩)
       | go_in)
     go_ret
     exact ⟨2,D,rfl,Or.inr ⟨n.x,HX.out.1,HX.out.2.1,Or.inl ⟨HR.out,rfl,rfl⟩⟩,HDM.out _ HO.out,HDW.out _ HO.out⟩
   · obtain ⟨a0,rfl⟩:∃ a0:Nat,a=(a0:Int):=⟨a.toNat,by omega⟩
     by_cases hs0:s.size=0
     · have HR:Hid (0≤(a0:Int)∧(a0:Int)+(s.size:Int)≤4096∧s.size=0):=⟨by omega,by omega,hs0⟩
       have hse:=size0 hs0;subst hse;have HBW:Hid (∀ W,zQ w1 W→zE 71 #[.pointer (some ⟨n.b,4,none⟩),zI a0,.string ⟨#[]⟩] W (zI 0)):=fun W _=>nwrite_none W n.b a0 (by have:=HR.out;omega);clear h h1 hI o1 ht hx hd hxm hn hxN hxG hxK hk hb hz hsz hr hs0
       go_enter Tryz.func36,Tryz.ntmps36
       go_upto_region 1 with fail
       rw [HW1.out]
       go_wp2_with (first
        | (go_at_call 70;refine (HFE.out _ HO.out).mono ?_;rintro eq wz ⟨rfl,hoz⟩;replace HO:=zT HO hoz;clear hoz b0 b1;obtain ⟨b0,b1⟩:=(HT.out wz HO.out).cells)
        | (go_at_call 48;refine (HAT.out _ HO.out).mono ?_;rintro eq wz ⟨rfl,hoz⟩;replace HO:=zT HO hoz;clear hoz b0 b1;obtain ⟨b0,b1⟩:=(HT.out wz HO.out).cells)
        | (go_at_call 71;refine (HBW.out _ HO.out).mono ?_;rintro eq wz ⟨rfl,rfl⟩)
        | go_in)
       go_ret
       exact ⟨0,D,rfl,Or.inr ⟨n.x,HX.out.1,HX.out.2.1,Or.inr (Or.inl ⟨HR.out.1,HR.out.2.1,HR.out.2.2,rfl,rfl⟩)⟩,HDM.out _ HO.out,HDW.out _ HO.out⟩
     · have HR:Hid (0≤(a0:Int)∧(a0:Int)+(s.size:Int)≤4096∧1≤s.size):=⟨by omega,by omega,by omega⟩
       have hse:(s.toList==[])=false:=by
        rw [Lib.toList_data,beq_eq_false_iff_ne];intro k;have:s.data.toList.length=s.size:=rfl;rw [k] at this;simp at this;omega
       have HBW:Hid (∀ W,zQ w1 W→zK 71 #[.pointer (some ⟨n.b,4,none⟩),zI a0,.string s] W fun e W1=>e = .returned (zI 0)∧W1.cell? (zA n.b 3)=some (zI n.x.C)∧W1.frozen? ⟨n.b,3,none⟩=false∧n.b < W1.heap.size∧DM (W1.setCell (zA n.b 3) (zI (n.x.C+1))) base m (D.turn n.x.i n.x.c (Dn.wroteD a0 s))∧DocW base w (W1.setCell (zA n.b 3) (zI (n.x.C+1)))):=fun W ho=>(nwrite_walk W (n.b+1) n.b n.x.S s n.x.H n.hv a0 (HNM.out W ho).bytes hS hH HR.out.2.2 (by have:=HR.out.2.1;omega) (Nat.le_trans hbl ho.size)).mono fun e W1 hh=>by
        obtain ⟨he,v',hB2,hoB,hvB⟩:=hh;obtain ⟨k1,k2,k3,k4,k5⟩:=(h1.only ho).rewrote hk.nos hn hB2 hoB hvB (f:=Dn.wroteD a0 s) rfl;exact ⟨he,k1,k2,k3,k4,(HDW.out W ho).trans k5⟩
       clear h h1 hI o1 ht hx hd hxm hn hxN hxG hxK hk hb hz hsz hr hs0
       go_enter Tryz.func36,Tryz.ntmps36
       go_upto_region 1 with fail
       rw [HW1.out]
       go_wp2_with (first
        | (go_at_call 70;refine (HFE.out _ HO.out).mono ?_;rintro eq wz ⟨rfl,hoz⟩;replace HO:=zT HO hoz;clear hoz b0 b1;obtain ⟨b0,b1⟩:=(HT.out wz HO.out).cells)
        | (go_at_call 48;refine (HAT.out _ HO.out).mono ?_;rintro eq wz ⟨rfl,hoz⟩;replace HO:=zT HO hoz;clear hoz b0 b1;obtain ⟨b0,b1⟩:=(HT.out wz HO.out).cells)
        | (go_at_call 71;refine (HBW.out _ HO.out).mono ?_;rintro eq w7 ⟨rfl,k1,k2,k3,k4,k5⟩;have HK7:Hid (DM (w7.setCell (zA n.b 3) (zI (n.x.C+1))) base m (D.turn n.x.i n.x.c (Dn.wroteD a0 s))∧DocW base w (w7.setCell (zA n.b 3) (zI (n.x.C+1)))):=⟨k4,k5⟩;clear k4 k5)
        | go_in)
       go_ret
       exact ⟨0,_,rfl,Or.inr ⟨n.x,HX.out.1,HX.out.2.1,Or.inr (Or.inr ⟨HR.out.1,HR.out.2.1,HR.out.2.2,rfl,rfl⟩)⟩,HK7.out.1,HK7.out.2⟩
 · rcases hbad with hc | hc
   · have HC:Hid (fileN D N G=8):=hc
     have HFE:Hid (∀ W,zQ w1 W→zO 70 #[zP m,zG N G] W (zI 8)):=fun W ho=>dfile_is (h1.only ho) hk hc;clear h h1 hI o1 ht hk hb hz hsz hc
     go_enter Tryz.func36,Tryz.ntmps36
     go_upto_region 1 with fail
     rw [HW1.out]
     go_wp2_with (first
       | (go_at_call 70;refine (HFE.out _ HO.out).mono ?_;rintro eq wz ⟨rfl,hoz⟩;replace HO:=zT HO hoz;clear hoz b0 b1;obtain ⟨b0,b1⟩:=(HT.out wz HO.out).cells)
       | go_in)
     go_ret
     exact ⟨8,D,rfl,Or.inl ⟨by rw [HC.out];decide,HC.out.symm,rfl⟩,HDM.out _ HO.out,HDW.out _ HO.out⟩
   · have HC:Hid (fileN D N G=10):=hc
     have HFE:Hid (∀ W,zQ w1 W→zO 70 #[zP m,zG N G] W (zI 10)):=fun W ho=>dfile_is (h1.only ho) hk hc;clear h h1 hI o1 ht hk hb hz hsz hc
     go_enter Tryz.func36,Tryz.ntmps36
     go_upto_region 1 with fail
     rw [HW1.out]
     go_wp2_with (first
       | (go_at_call 70;refine (HFE.out _ HO.out).mono ?_;rintro eq wz ⟨rfl,hoz⟩;replace HO:=zT HO hoz;clear hoz b0 b1;obtain ⟨b0,b1⟩:=(HT.out wz HO.out).cells)
       | go_in)
     go_ret
     exact ⟨10,D,rfl,Or.inl ⟨by rw [HC.out];decide,HC.out.symm,rfl⟩,HDM.out _ HO.out,HDW.out _ HO.out⟩
def SizeR (D:Dt)(N G a:Int)(c:Nat)(D':Dt):Prop :=
 (fileN D N G≠0∧c=fileN D N G∧D'=D)∨∃ y,D.atZ N G=some y∧y.K=1∧(((a < 0∨4096 < a)∧c=2∧D'=D)∨(0≤a∧a≤4096∧c=0∧D'=D.turn y.i y.c (Dn.sizedD a.toNat)))
def SizeP (w w':World)(base m:Nat)(D:Dt)(N G a:Int)(r:Ending):Prop:=∃ c D',r = .returned (zI ((c:Nat):Int))∧SizeR D N G a c D'∧DM w' base m D'∧DocW base w w'
theorem dtresize_any (w:World)(base m:Nat)(D:Dt)(N G:Int)(a:Int)(B:Nat)(h0:DM w base m D)(hI:DInv D)(hb:DB D B)(hB:B≤999000)(hz:DZ D):
   zK 38 #[zP m,zG N G,zI a] w fun r w'=>SizeP w w' base m D N G a r:=by
 obtain ⟨lv,tv,ns,h⟩:=h0;have hk:=hI.ok hb hB;have o1:zQ w (w.alloc (zH N G)):=(Only.refl [] w).alloc _;have ht:OneH (w.alloc (zH N G)) w.heap.size N G:=zh w _;have h1:=h.only o1;have HDW:Hid (∀ W,zQ (w.alloc (zH N G)) W→DocW base w W):=fun W ho=>DocW.none (zo o1 ho);have HDM:Hid (∀ W,zQ (w.alloc (zH N G)) W→DM W base m D):=fun W ho=>⟨lv,tv,ns,h1.only ho⟩
 have hsz:w.heap.size+1≤(w.alloc (zH N G)).heap.size:=by rw [World.size_alloc];omega
 generalize hw1:(w.alloc (zH N G))=w1 at o1 ht h1 HDW HDM hsz;have HW1:Hid ((w.alloc (zH N G))=w1):=hw1;have HO:Hid (zQ w1 w1):=Only.refl _ _;have HT:Hid (∀ W,zQ w1 W→OneH W w.heap.size N G):=fun W ho=>ht.kept ho (by simp);obtain ⟨b0,b1⟩:=ht.cells;clear hw1;rcases file_cases D N G with ⟨x,hx,hxK,hd⟩ | hbad
 · have HFE:Hid (∀ W,zQ w1 W→zO 70 #[zP m,zG N G] W (zI 0)):=fun W ho=>dfile_is (h1.only ho) hk hd
   obtain ⟨hxm,hxN,hxG⟩:=atZ_some hx;obtain ⟨n,hn,rfl⟩:=h.mem hxm;have HX:Hid (D.atZ N G=some n.x∧n.x.K=1∧fileN D N G=0):=⟨hx,hxK,hd⟩
   have HAT:Hid (∀ W,zQ w1 W→zO 48 #[zP m,zG N G] W (zP n.b)):=fun W ho=>by
     rw [← hxN,← hxG];exact dat_at (h1.only ho) hk hn
   have HNM:Hid (∀ W,zQ w1 W→NmAt W n):=fun W ho=>(((h1.only ho).each n hn).2);obtain ⟨hS,hH⟩:=hz _ hxm;obtain ⟨hC0,hC1,hp1⟩:=hb.1 _ hxm;have hbl:n.b+1≤w1.heap.size:=(h1.each n hn).2.lt
   by_cases hr:a < 0∨4096 < a
   · have HR:Hid (a < 0∨4096 < a):=hr
     have HBW:Hid (∀ W,zQ w1 W→zE 73 #[.pointer (some ⟨n.b,4,none⟩),zI a] W (zI 2)):=fun W _=>nresize_bound W n.b a HR.out;clear h h1 hI o1 ht hx hd hxm hn hxN hxG hxK hk hb hz hsz hr
     go_enter Tryz.func38,Tryz.ntmps38
     go_upto_region 1 with fail
     rw [HW1.out]
     go_wp2_with (first
      | (go_at_call 70;refine (HFE.out _ HO.out).mono ?_;rintro eq wz ⟨rfl,hoz⟩;replace HO:=zT HO hoz;clear hoz b0 b1;obtain ⟨b0,b1⟩:=(HT.out wz HO.out).cells)
      | (go_at_call 48;refine (HAT.out _ HO.out).mono ?_;rintro eq wz ⟨rfl,hoz⟩;replace HO:=zT HO hoz;clear hoz b0 b1;obtain ⟨b0,b1⟩:=(HT.out wz HO.out).cells)
      | (go_at_call 73;refine (HBW.out _ HO.out).mono ?_;rintro eq wz ⟨rfl,rfl⟩)
      | go_in)
     go_ret
     exact ⟨2,D,rfl,Or.inr ⟨n.x,HX.out.1,HX.out.2.1,Or.inl ⟨HR.out,rfl,rfl⟩⟩,HDM.out _ HO.out,HDW.out _ HO.out⟩
   · obtain ⟨a0,rfl⟩:∃ a0:Nat,a=(a0:Int):=⟨a.toNat,by omega⟩
     have HR:Hid (0≤(a0:Int)∧(a0:Int)≤4096):=⟨by omega,by omega⟩
     have HBW:Hid (∀ W,zQ w1 W→zK 73 #[.pointer (some ⟨n.b,4,none⟩),zI a0] W fun e W1=>e = .returned (zI 0)∧W1.cell? (zA n.b 3)=some (zI n.x.C)∧W1.frozen? ⟨n.b,3,none⟩=false∧n.b < W1.heap.size∧DM (W1.setCell (zA n.b 3) (zI (n.x.C+1))) base m (D.turn n.x.i n.x.c (Dn.sizedD a0))∧DocW base w (W1.setCell (zA n.b 3) (zI (n.x.C+1)))):=fun W ho=>(nresize_any W (n.b+1) n.b n.x.S n.x.H n.hv a0 (HNM.out W ho).bytes hS (by omega) (by have:=HR.out.2;omega)).mono fun e W1 hh=>by
      obtain ⟨he,hB2,hoB⟩:=hh;obtain ⟨k1,k2,k3,k4,k5⟩:=(h1.only ho).rewrote hk.nos hn hB2 hoB (fun k hk=>Or.inl (List.mem_cons_of_mem _ (by rw [hk];simp))) (f:=Dn.sizedD a0) rfl;exact ⟨he,k1,k2,k3,k4,(HDW.out W ho).trans k5⟩
     clear h h1 hI o1 ht hx hd hxm hn hxN hxG hxK hk hb hz hsz hr
     go_enter Tryz.func38,Tryz.ntmps38
     go_upto_region 1 with fail
     rw [HW1.out]
     go_wp2_with (first
      | (go_at_call 70;refine (HFE.out _ HO.out).mono ?_;rintro eq wz ⟨rfl,hoz⟩;replace HO:=zT HO hoz;clear hoz b0 b1;obtain ⟨b0,b1⟩:=(HT.out wz HO.out).cells)
      | (go_at_call 48;refine (HAT.out _ HO.out).mono ?_;rintro eq wz ⟨rfl,hoz⟩;replace HO:=zT HO hoz;clear hoz b0 b1;obtain ⟨b0,b1⟩:=(HT.out wz HO.out).cells)
      | (go_at_call 73;refine (HBW.out _ HO.out).mono ?_;rintro eq w7 ⟨rfl,k1,k2,k3,k4,k5⟩;have HK7:Hid (DM (w7.setCell (zA n.b 3) (zI (n.x.C+1))) base m (D.turn n.x.i n.x.c (Dn.sizedD a0))∧DocW base w (w7.setCell (zA n.b 3) (zI (n.x.C+1)))):=⟨k4,k5⟩;clear k4 k5)
      | go_in)
     go_ret
     exact ⟨0,_,rfl,Or.inr ⟨n.x,HX.out.1,HX.out.2.1,Or.inr ⟨HR.out.1,HR.out.2,rfl,rfl⟩⟩,HK7.out.1,HK7.out.2⟩
 · rcases hbad with hc | hc
   · have HC:Hid (fileN D N G=8):=hc
     have HFE:Hid (∀ W,zQ w1 W→zO 70 #[zP m,zG N G] W (zI 8)):=fun W ho=>dfile_is (h1.only ho) hk hc;clear h h1 hI o1 ht hk hb hz hsz hc
     go_enter Tryz.func38,Tryz.ntmps38
     go_upto_region 1 with fail
     rw [HW1.out]
     go_wp2_with (first
      | (go_at_call 70;refine (HFE.out _ HO.out).mono ?_;rintro eq wz ⟨rfl,hoz⟩;replace HO:=zT HO hoz;clear hoz b0 b1;obtain ⟨b0,b1⟩:=(HT.out wz HO.out).cells)
      | go_in)
     go_ret
     exact ⟨8,D,rfl,Or.inl ⟨by rw [HC.out];decide,HC.out.symm,rfl⟩,HDM.out _ HO.out,HDW.out _ HO.out⟩
   · have HC:Hid (fileN D N G=10):=hc
     have HFE:Hid (∀ W,zQ w1 W→zO 70 #[zP m,zG N G] W (zI 10)):=fun W ho=>dfile_is (h1.only ho) hk hc;clear h h1 hI o1 ht hk hb hz hsz hc
     go_enter Tryz.func38,Tryz.ntmps38
     go_upto_region 1 with fail
     rw [HW1.out]
     go_wp2_with (first
      | (go_at_call 70;refine (HFE.out _ HO.out).mono ?_;rintro eq wz ⟨rfl,hoz⟩;replace HO:=zT HO hoz;clear hoz b0 b1;obtain ⟨b0,b1⟩:=(HT.out wz HO.out).cells)
      | go_in)
     go_ret
     exact ⟨10,D,rfl,Or.inl ⟨by rw [HC.out];decide,HC.out.symm,rfl⟩,HDM.out _ HO.out,HDW.out _ HO.out⟩
theorem DtM.repin {w:World}{base m:Nat}{lv tv:Value}{ns:List Nm}{D:Dt}(h:DtM w base m lv tv ns D)(hn:(D.L.map (·.i)).Nodup){n:Nm}(hm:n∈ns)(p:Nat)(z:Int)(hz:z=(p:Int)):
  DtM (w.setCell (zA n.b 7) (zI z)) base m lv tv (putNm { n with x:=Dn.pinned p n.x } ns) (D.turn n.x.i n.x.c (Dn.pinned p))∧DocW base w (w.setCell (zA n.b 7) (zI z)):=by
 obtain ⟨h1,h2⟩:=(h.each n hm).2.repin p z hz;exact ⟨h.turned (n':={ n with x:=Dn.pinned p n.x }) hn hm rfl rfl h2 (fun k hk=>Or.inl (by simpa using hk)) h1 (fun k hk=>Or.inl hk) rfl,h.docW h2 (fun k hk=>Or.inr (Or.inr (Or.inr ⟨n,hm,Or.inl (by simpa using hk)⟩)))⟩
def PinR (D:Dt)(N G:Int)(c:Nat)(D':Dt):Prop :=
 (fileN D N G≠0∧c=fileN D N G∧D'=D)∨∃ y,D.atZ N G=some y∧y.K=1∧c=0∧D'=D.turn y.i y.c (Dn.pinned (y.p+1))
def PinP (w w':World)(base m:Nat)(D:Dt)(N G:Int)(r:Ending):Prop:=∃ c D',r = .returned (zI ((c:Nat):Int))∧PinR D N G c D'∧DM w' base m D'∧DocW base w w'
theorem dtpin_any (w:World)(base m:Nat)(D:Dt)(N G:Int)  (B:Nat) (h0:DM w base m D) (hI:DInv D) (hb:DB D B) (hB:B≤999000) (hz:DZ D) :
   zK 40 #[zP m,zG N G] w fun r w'=>PinP w w' base m D N G r:=by
 obtain ⟨lv,tv,ns,h⟩:=h0;have hk:=hI.ok hb hB;have o1:zQ w (w.alloc (zH N G)):=(Only.refl [] w).alloc _;have ht:OneH (w.alloc (zH N G)) w.heap.size N G:=zh w _;have h1:=h.only o1;have HDW:Hid (∀ W,zQ (w.alloc (zH N G)) W→DocW base w W):=fun W ho=>DocW.none (zo o1 ho);have HDM:Hid (∀ W,zQ (w.alloc (zH N G)) W→DM W base m D):=fun W ho=>⟨lv,tv,ns,h1.only ho⟩
 have hsz:w.heap.size+1≤(w.alloc (zH N G)).heap.size:=by rw [World.size_alloc];omega
 generalize hw1:(w.alloc (zH N G))=w1 at o1 ht h1 HDW HDM hsz;have HW1:Hid ((w.alloc (zH N G))=w1):=hw1;have HO:Hid (zQ w1 w1):=Only.refl _ _;have HT:Hid (∀ W,zQ w1 W→OneH W w.heap.size N G):=fun W ho=>ht.kept ho (by simp);obtain ⟨b0,b1⟩:=ht.cells;clear hw1;rcases file_cases D N G with ⟨x,hx,hxK,hd⟩ | hbad
 · have HFE:Hid (∀ W,zQ w1 W→zO 70 #[zP m,zG N G] W (zI 0)):=fun W ho=>dfile_is (h1.only ho) hk hd
   obtain ⟨hxm,hxN,hxG⟩:=atZ_some hx;obtain ⟨n,hn,rfl⟩:=h.mem hxm;have HX:Hid (D.atZ N G=some n.x∧n.x.K=1∧fileN D N G=0):=⟨hx,hxK,hd⟩
   have HAT:Hid (∀ W,zQ w1 W→zO 48 #[zP m,zG N G] W (zP n.b)):=fun W ho=>by
     rw [← hxN,← hxG];exact dat_at (h1.only ho) hk hn
   have HNM:Hid (∀ W,zQ w1 W→NmAt W n):=fun W ho=>(((h1.only ho).each n hn).2);obtain ⟨hS,hH⟩:=hz _ hxm;obtain ⟨hC0,hC1,hp1⟩:=hb.1 _ hxm;have hbl:n.b+1≤w1.heap.size:=(h1.each n hn).2.lt
   have HKEY:Hid (∀ W,zQ w1 W→W.cell? (zA n.b 7)=some (zI n.x.p)∧W.frozen? ⟨n.b,7,none⟩=false∧n.b < W.heap.size∧DM (W.setCell (zA n.b 7) (zI ((n.x.p:Int)+1))) base m (D.turn n.x.i n.x.c (Dn.pinned (n.x.p+1)))∧DocW base w (W.setCell (zA n.b 7) (zI ((n.x.p:Int)+1)))):=fun W ho=>by
     obtain ⟨k1,k2⟩:=(h1.only ho).repin hk.nos hn (n.x.p+1) ((n.x.p:Int)+1) (by omega);exact ⟨(HNM.out W ho).c7,(HNM.out W ho).fz 7,(HNM.out W ho).lt,⟨_,_,_,k1⟩,(HDW.out W ho).trans k2⟩
   clear h h1 hI o1 ht hx hd hxm hn hxN hxG hxK hk hb hz hsz
   go_enter Tryz.func40,Tryz.ntmps40
   go_upto_region 1 with fail
   rw [HW1.out]
   go_wp2_with (first
     | (go_at_call 70;refine (HFE.out _ HO.out).mono ?_;rintro eq wz ⟨rfl,hoz⟩;replace HO:=zT HO hoz;clear hoz b0 b1;obtain ⟨b0,b1⟩:=(HT.out wz HO.out).cells)
     | (go_at_call 48;refine (HAT.out _ HO.out).mono ?_;rintro eq wz ⟨rfl,hoz⟩;replace HO:=zT HO hoz;clear hoz b0 b1;obtain ⟨b0,b1⟩:=(HT.out wz HO.out).cells;obtain ⟨k1,k2,k3,k4⟩:=HKEY.out wz HO.out;have HK7:Hid (DM (wz.setCell (zA n.b 7) (zI ((n.x.p:Int)+1))) base m (D.turn n.x.i n.x.c (Dn.pinned (n.x.p+1)))∧DocW base w (wz.setCell (zA n.b 7) (zI ((n.x.p:Int)+1)))):=k4;clear k4)
     | go_in)
   go_ret
   exact ⟨0,_,rfl,Or.inr ⟨n.x,HX.out.1,HX.out.2.1,rfl,rfl⟩,HK7.out.1,HK7.out.2⟩
 · rcases hbad with hc | hc
   · have HC:Hid (fileN D N G=8):=hc
     have HFE:Hid (∀ W,zQ w1 W→zO 70 #[zP m,zG N G] W (zI 8)):=fun W ho=>dfile_is (h1.only ho) hk hc;clear h h1 hI o1 ht hk hb hz hsz hc
     go_enter Tryz.func40,Tryz.ntmps40
     go_upto_region 1 with fail
     rw [HW1.out]
     go_wp2_with (first
      | (go_at_call 70;refine (HFE.out _ HO.out).mono ?_;rintro eq wz ⟨rfl,hoz⟩;replace HO:=zT HO hoz;clear hoz b0 b1;obtain ⟨b0,b1⟩:=(HT.out wz HO.out).cells)
      | go_in)
     go_ret
     exact ⟨8,D,rfl,Or.inl ⟨by rw [HC.out];decide,HC.out.symm,rfl⟩,HDM.out _ HO.out,HDW.out _ HO.out⟩
   · have HC:Hid (fileN D N G=10):=hc
     have HFE:Hid (∀ W,zQ w1 W→zO 70 #[zP m,zG N G] W (zI 10)):=fun W ho=>dfile_is (h1.only ho) hk hc;clear h h1 hI o1 ht hk hb hz hsz hc
     go_enter Tryz.func40,Tryz.ntmps40
     go_upto_region 1 with fail
     rw [HW1.out]
     go_wp2_with (first
      | (go_at_call 70;refine (HFE.out _ HO.out).mono ?_;rintro eq wz ⟨rfl,hoz⟩;replace HO:=zT HO hoz;clear hoz b0 b1;obtain ⟨b0,b1⟩:=(HT.out wz HO.out).cells)
      | go_in)
     go_ret
     exact ⟨10,D,rfl,Or.inl ⟨by rw [HC.out];decide,HC.out.symm,rfl⟩,HDM.out _ HO.out,HDW.out _ HO.out⟩
def UnpinR (D:Dt)(N G:Int)(c:Nat)(D':Dt):Prop :=
 (fileN D N G≠0∧c=fileN D N G∧D'=D)∨∃ y,D.atZ N G=some y∧y.K=1∧((y.p=0∧c=5∧D'=D)∨(0 < y.p∧c=0∧D'=(D.turn y.i y.c (Dn.pinned (y.p - 1))).sweep))
def UnpinP (w w':World)(base m:Nat)(D:Dt)(N G:Int)(r:Ending):Prop:=∃ c D',r = .returned (zI ((c:Nat):Int))∧UnpinR D N G c D'∧DM w' base m D'∧DocW base w w'
theorem dtunpin_any (w:World)(base m:Nat)(D:Dt)(N G:Int)  (B:Nat) (h0:DM w base m D) (hI:DInv D) (hb:DB D B) (hB:B≤999000) (hz:DZ D) (hbs:base≤w.heap.size) :
   zK 42 #[zP m,zG N G] w fun r w'=>UnpinP w w' base m D N G r:=by
 obtain ⟨lv,tv,ns,h⟩:=h0;have hk:=hI.ok hb hB;have o1:zQ w (w.alloc (zH N G)):=(Only.refl [] w).alloc _;have ht:OneH (w.alloc (zH N G)) w.heap.size N G:=zh w _;have h1:=h.only o1;have HDW:Hid (∀ W,zQ (w.alloc (zH N G)) W→DocW base w W):=fun W ho=>DocW.none (zo o1 ho);have HDM:Hid (∀ W,zQ (w.alloc (zH N G)) W→DM W base m D):=fun W ho=>⟨lv,tv,ns,h1.only ho⟩
 have hsz:w.heap.size+1≤(w.alloc (zH N G)).heap.size:=by rw [World.size_alloc];omega
 generalize hw1:(w.alloc (zH N G))=w1 at o1 ht h1 HDW HDM hsz;have HW1:Hid ((w.alloc (zH N G))=w1):=hw1;have HO:Hid (zQ w1 w1):=Only.refl _ _;have HT:Hid (∀ W,zQ w1 W→OneH W w.heap.size N G):=fun W ho=>ht.kept ho (by simp);obtain ⟨b0,b1⟩:=ht.cells;clear hw1;rcases file_cases D N G with ⟨x,hx,hxK,hd⟩ | hbad
 · have HFE:Hid (∀ W,zQ w1 W→zO 70 #[zP m,zG N G] W (zI 0)):=fun W ho=>dfile_is (h1.only ho) hk hd
   obtain ⟨hxm,hxN,hxG⟩:=atZ_some hx;obtain ⟨n,hn,rfl⟩:=h.mem hxm;have HX:Hid (D.atZ N G=some n.x∧n.x.K=1∧fileN D N G=0):=⟨hx,hxK,hd⟩
   have HAT:Hid (∀ W,zQ w1 W→zO 48 #[zP m,zG N G] W (zP n.b)):=fun W ho=>by
     rw [← hxN,← hxG];exact dat_at (h1.only ho) hk hn
   have HNM:Hid (∀ W,zQ w1 W→NmAt W n):=fun W ho=>(((h1.only ho).each n hn).2);obtain ⟨hS,hH⟩:=hz _ hxm;obtain ⟨hC0,hC1,hp1⟩:=hb.1 _ hxm;have hbl:n.b+1≤w1.heap.size:=(h1.each n hn).2.lt;have HC7:Hid (∀ W,zQ w1 W→W.cell? (zA n.b 7)=some (zI n.x.p)∧W.frozen? ⟨n.b,7,none⟩=false∧n.b < W.heap.size):=fun W ho=>⟨(HNM.out W ho).c7,(HNM.out W ho).fz 7,(HNM.out W ho).lt⟩
   by_cases hp:n.x.p=0
   · have HP:Hid (n.x.p=0):=hp
     have HC0:Hid (∀ W,zQ w1 W→W.cell? (zA n.b 7)=some (zI 0)):=fun W ho=>by have:=(HC7.out W ho).1;rw [HP.out] at this;exact this
     clear h h1 hI o1 ht hx hd hxm hn hxN hxG hxK hk hb hz hsz hp
     go_enter Tryz.func42,Tryz.ntmps42
     go_upto_region 1 with fail
     rw [HW1.out]
     go_wp2_with (first
      | (go_at_call 70;refine (HFE.out _ HO.out).mono ?_;rintro eq wz ⟨rfl,hoz⟩;replace HO:=zT HO hoz;clear hoz b0 b1;obtain ⟨b0,b1⟩:=(HT.out wz HO.out).cells)
      | (go_at_call 48;refine (HAT.out _ HO.out).mono ?_;rintro eq wz ⟨rfl,hoz⟩;replace HO:=zT HO hoz;clear hoz b0 b1;obtain ⟨b0,b1⟩:=(HT.out wz HO.out).cells;have k1:=HC0.out wz HO.out)
      | go_in)
     go_ret
     exact ⟨5,D,rfl,Or.inr ⟨n.x,HX.out.1,HX.out.2.1,Or.inl ⟨HP.out,rfl,rfl⟩⟩,HDM.out _ HO.out,HDW.out _ HO.out⟩
   · have HP:Hid (0 < n.x.p):=by show 0 < _;omega
     have dp:((n.x.p:Int)==0)=false:=zb (by omega)
     have HKEY:Hid (∀ W,zQ w1 W→zK 76 #[zP m] (W.setCell (zA n.b 7) (zI ((n.x.p:Int) - 1))) fun e w'=>e = .returned (.tuple #[])∧DM w' base m (D.turn n.x.i n.x.c (Dn.pinned (n.x.p - 1))).sweep∧DocW base w w'):=fun W ho=>by
      have hp':=HP.out;obtain ⟨k1,k2⟩:=(h1.only ho).repin hk.nos hn (n.x.p - 1) ((n.x.p:Int) - 1) (by omega)
      have hk3:DOk (D.turn n.x.i n.x.c (Dn.pinned (n.x.p - 1))):=hk.turn (fun _=>⟨rfl,rfl⟩) (fun _=>rfl) (fun x hx hi=>by
       have e:=same_no hk.nos hx hxm hi;have h9:=hk.num x hx;rw [e] at h9 ⊢
       exact ⟨h9.1,h9.2.1,by show n.x.p - 1≤1000000;omega⟩)
      have hle:base≤(W.setCell (zA n.b 7) (zI ((n.x.p:Int) - 1))).heap.size:=Nat.le_trans (Nat.le_trans hbs (Nat.le_trans o1.size ho.size)) k2.size;refine (dsweep_any _ base m lv tv _ _ k1 hk3.nos (k1.nlen hk3) hle hk3.es (fun x hx _=>hk3.live x hx)).mono fun e w' hh=>?_;obtain ⟨he,v',h4,ho4⟩:=hh;exact ⟨he,⟨_,_,_,h4⟩,((HDW.out W ho).trans k2).trans (k1.docW ho4 (fun k hk=>Or.inl (by simpa using hk)))⟩
     clear h h1 hI o1 ht hx hd hxm hn hxN hxG hxK hk hb hz hsz hp hbs
     go_enter Tryz.func42,Tryz.ntmps42
     go_upto_region 1 with fail
     rw [HW1.out]
     go_wp2_with (first
      | (go_at_call 70;refine (HFE.out _ HO.out).mono ?_;rintro eq wz ⟨rfl,hoz⟩;replace HO:=zT HO hoz;clear hoz b0 b1;obtain ⟨b0,b1⟩:=(HT.out wz HO.out).cells)
      | (go_at_call 48;refine (HAT.out _ HO.out).mono ?_;rintro eq wz ⟨rfl,hoz⟩;replace HO:=zT HO hoz;clear hoz b0 b1;obtain ⟨b0,b1⟩:=(HT.out wz HO.out).cells;obtain ⟨k1,k2,k3⟩:=HC7.out wz HO.out;have hsw:=HKEY.out wz HO.out)
      | (go_at_call 76;refine hsw.mono ?_;rintro eq w8 ⟨rfl,hD8,hw8⟩;have HD8:Hid (DM w8 base m (D.turn n.x.i n.x.c (Dn.pinned (n.x.p - 1))).sweep∧DocW base w w8):=⟨hD8,hw8⟩;clear hsw hD8 hw8)
      | go_in)
     go_ret
     exact ⟨0,_,rfl,Or.inr ⟨n.x,HX.out.1,HX.out.2.1,Or.inr ⟨HP.out,rfl,rfl⟩⟩,HD8.out.1,HD8.out.2⟩
 · rcases hbad with hc | hc
   · have HC:Hid (fileN D N G=8):=hc
     have HFE:Hid (∀ W,zQ w1 W→zO 70 #[zP m,zG N G] W (zI 8)):=fun W ho=>dfile_is (h1.only ho) hk hc;clear h h1 hI o1 ht hk hb hz hsz hbs hc
     go_enter Tryz.func42,Tryz.ntmps42
     go_upto_region 1 with fail
     rw [HW1.out]
     go_wp2_with (first
      | (go_at_call 70;refine (HFE.out _ HO.out).mono ?_;rintro eq wz ⟨rfl,hoz⟩;replace HO:=zT HO hoz;clear hoz b0 b1;obtain ⟨b0,b1⟩:=(HT.out wz HO.out).cells)
      | go_in)
     go_ret
     exact ⟨8,D,rfl,Or.inl ⟨by rw [HC.out];decide,HC.out.symm,rfl⟩,HDM.out _ HO.out,HDW.out _ HO.out⟩
   · have HC:Hid (fileN D N G=10):=hc
     have HFE:Hid (∀ W,zQ w1 W→zO 70 #[zP m,zG N G] W (zI 10)):=fun W ho=>dfile_is (h1.only ho) hk hc;clear h h1 hI o1 ht hk hb hz hsz hbs hc
     go_enter Tryz.func42,Tryz.ntmps42
     go_upto_region 1 with fail
     rw [HW1.out]
     go_wp2_with (first
      | (go_at_call 70;refine (HFE.out _ HO.out).mono ?_;rintro eq wz ⟨rfl,hoz⟩;replace HO:=zT HO hoz;clear hoz b0 b1;obtain ⟨b0,b1⟩:=(HT.out wz HO.out).cells)
      | go_in)
     go_ret
     exact ⟨10,D,rfl,Or.inl ⟨by rw [HC.out];decide,HC.out.symm,rfl⟩,HDM.out _ HO.out,HDW.out _ HO.out⟩
end
end Go.Proofs.YtkcabopgajlmdaaGreatDoor
