import Derived.Test.YtmnidbnaneagjaaGreatDoorK23
set_option maxRecDepth 100000
set_option maxHeartbeats 8000000
namespace Go.Proofs.YtmnidbnaneagjaaGreatDoor
section
open Go Go.RowKit Go.Deep
structure Lc where
 N:Nat
 g:Nat→Nat
 nd:Nat→Option Nod
 ds:Nat→Option (List Ent)
def bareN (n:Nod):Nod:={ n with b:=0,m:=none }
def absT (T:Tr):Lc:=⟨T.p.N,T.g,fun i=>(T.nd i).map bareN,fun i=>(T.ds i).map (·.l)⟩
def tabC (l:List Nmb)(j:Nat):Lc:=⟨l.length,gL l,fun i=>(cL l i).map (fun x=>if x.k=2∧i < j then { resNod 0 x with Z:=0,L:=2 } else resNod 0 x),fun i=>(cL l i).bind (fun x=>if x.k=2∧i < j then some [] else none)⟩
theorem Lc.ext' {a b:Lc}(h1:a.N=b.N)(h2:a.g=b.g)(h3:∀ i,a.nd i=b.nd i)(h4:∀ i,a.ds i=b.ds i):a=b:=by
 obtain ⟨a1,a2,a3,a4⟩:=a;obtain ⟨b1,b2,b3,b4⟩:=b;simp only at h1 h2 h3 h4;rw [h1,h2,funext h3,funext h4]
theorem absT_bare {B t most db pb:Nat}{p:Row}{l:List Nmb}{nd:Nat→Option Nod}(h:NdIs B l nd)(hN:p.N=l.length):absT (Tr.bare t p most (gL l) nd db pb)=tabC l 0:=by
 refine Lc.ext' hN rfl (fun i=>?_) (fun i=>?_)
 · have:=h i
   show (nd i).map bareN=(cL l i).map _
   cases e:cL l i with
   | none=>rw [e] at this;simp only at this;rw [this];rfl
   | some x =>
    rw [e] at this;simp only at this;obtain ⟨b,hb,_⟩:=this;rw [hb];simp [bareN,resNod,newNod]
 · show (none:Option DirM).map (·.l)=(cL l i).bind _
   cases cL l i<;>simp
theorem tabC_same {l:List Nmb}{j:Nat}(h:∀ x,cL l j=some x→x.k≠2):tabC l (j+1)=tabC l j:=by
 refine Lc.ext' rfl rfl (fun i=>?_) (fun i=>?_)
 all_goals
  show _=_;unfold tabC;simp only
  cases e:cL l i with
  | none=>rfl
  | some x =>
   by_cases hi:i=j
   · subst hi
     have:=h x e;simp [this]
   · have:(i < j+1)=(i < j):=by rw [eq_iff_iff];omega
     simp only [this]
theorem absT_open {T:Tr}{l:List Nmb}{j B:Nat}{n:Nod}{x:Nmb}(h:absT T=tabC l j)(hx:cL l j=some x)(hk:x.k=2)(hn:T.nd j=some n):absT { T.opened j B with nd:=setN T.nd j (some { n with Z:=0,L:=2 }) }=tabC l (j+1):=by
 have hN:T.p.N=l.length:=congrArg Lc.N h;have hg:T.g=gL l:=congrArg Lc.g h;have hnd:∀ i,(T.nd i).map bareN=(tabC l j).nd i:=fun i=>congrFun (congrArg Lc.nd h) i;have hds:∀ i,(T.ds i).map (·.l)=(tabC l j).ds i:=fun i=>congrFun (congrArg Lc.ds h) i;refine Lc.ext' hN hg (fun i=>?_) (fun i=>?_)
 · show (setN T.nd j (some { n with Z:=0,L:=2 }) i).map bareN=(cL l i).map _
   by_cases hi:i=j
   · subst hi
     have:=hnd i;rw [hn] at this;simp only [tabC,hx,Option.map_some,Option.some.injEq,Nat.lt_irrefl,and_false,if_false] at this;rw [setN_same,hx];simp only [Option.map_some,Option.some.injEq,hk,Nat.lt_succ_self,and_self,if_true,← this];rfl
   · rw [setN_other _ _ hi,hnd i]
     show (cL l i).map _=_
     have:(i < j+1)=(i < j):=by rw [eq_iff_iff];omega
     simp only [this]
 · show (setN T.ds j (some ⟨B,[]⟩) i).map (·.l)=(cL l i).bind _
   by_cases hi:i=j
   · subst hi
     rw [setN_same,hx];simp [hk]
   · rw [setN_other _ _ hi,hds i]
     show (cL l i).bind _=_
     have:(i < j+1)=(i < j):=by rw [eq_iff_iff];omega
     simp only [this]
structure Ld (w:World)(A:Nat→Addr)(R B lb xb tr:Nat)(T:Tr)(v:Value)(l:List Nmb)(t:ByteArray):Prop where
 ld:LdR w A lb xb (.pointer (some ⟨tr,0,none⟩)) v t
 row:Nrs w R v l
 tree:TreeAt w tr T
 fresh:∀ k,FootT tr T k→B≤k
 low:lb < B∧xb < B∧∀ k,v.ownBlock=some k→k < B
 err:Low A B
 pn:T.pn=fun _=>0
theorem Ld.blt {w:World}{A:Nat→Addr}{R B lb xb tr:Nat}{T:Tr}{v:Value}{l:List Nmb}{t:ByteArray}(h:Ld w A R B lb xb tr T v l t):B≤w.heap.size:=Nat.le_trans (h.fresh tr (Or.inl rfl)) (Nat.le_of_lt (lt_of_cell h.tree.c0))
theorem Ld.step {w w':World}{A:Nat→Addr}{R B lb xb tr:Nat}{T T':Tr}{v:Value}{l:List Nmb}{t:ByteArray}{L:List Nat}(h:Ld w A R B lb xb tr T v l t)(o:Only L w w')(hL:∀ k∈L,B≤k)(hT:TreeAt w' tr T')(hf:∀ k,FootT tr T' k→FootT tr T k∨w.heap.size≤k)(hp:T'.pn=T.pn):Ld w' A R B lb xb tr T' v l t:=by
 obtain ⟨l1,l2,l3⟩:=h.low;refine ⟨h.ld.kept o (fun hm=>by have:=hL _ hm;omega) (fun hm=>by have:=hL _ hm;omega) h.err hL,h.row.only o (fun k hk hm=>by have:=hL _ hm;have:=l3 k hk;omega),hT,fun k hk=>?_,h.low,h.err,hp.trans h.pn⟩;rcases hf k hk with e | e
 · exact h.fresh k e
 · exact Nat.le_trans h.blt e
theorem Ld.only {w w':World}{A:Nat→Addr}{R B lb xb tr:Nat}{T:Tr}{v:Value}{l:List Nmb}{t:ByteArray}(h:Ld w A R B lb xb tr T v l t)(o:Only [] w w'):Ld w' A R B lb xb tr T v l t:=h.step o (fun _ hk=>by cases hk) (h.tree.only o) (fun _ hk=>Or.inl hk) rfl
theorem foot_opened {tr j Bn:Nat}{T:Tr}{n:Nod}(hn:T.nd j=some n){k:Nat}(hk:FootT tr { T.opened j Bn with nd:=setN T.nd j (some { n with Z:=0,L:=2 }) } k):FootT tr T k∨k=Bn:=by
 rcases hk with e | e | e | ⟨i,d,hd,e⟩ | e | e | ⟨i,m,hm,hf⟩
 · exact Or.inl (Or.inl e)
 · exact Or.inl (Or.inr (Or.inl e))
 · exact Or.inl (Or.inr (Or.inr (Or.inl e)))
 · by_cases hi:i=j
   · subst hi
     have hd':setN T.ds i (some ⟨Bn,[]⟩) i=some d:=hd;rw [setN_same] at hd';obtain rfl:=Option.some.inj hd';exact Or.inr e
   · have hd':setN T.ds j (some ⟨Bn,[]⟩) i=some d:=hd
     rw [setN_other _ _ hi] at hd';exact Or.inl (Or.inr (Or.inr (Or.inr (Or.inl ⟨i,d,hd',e⟩))))
 · exact Or.inl (Or.inr (Or.inr (Or.inr (Or.inr (Or.inl e)))))
 · exact Or.inl (Or.inr (Or.inr (Or.inr (Or.inr (Or.inr (Or.inl e))))))
 · refine Or.inl (Or.inr (Or.inr (Or.inr (Or.inr ?_))))
   have hm':setN T.nd j (some { n with Z:=0,L:=2 }) i=some m:=hm
   by_cases hi:i=j
   · subst hi
     rw [setN_same] at hm';obtain rfl:=Option.some.inj hm';exact InFoot.node hn hf
   · rw [setN_other _ _ hi] at hm'
     exact InFoot.node hm' hf
theorem Ld.opened {w w7 w0:World}{A:Nat→Addr}{R B lb xb tr j Bn:Nat}{T:Tr}{v:Value}{l:List Nmb}{t:ByteArray}{n:Nod}{L:List Nat}(h:Ld w A R B lb xb tr T v l t)(hn:T.nd j=some n)(hT:TreeAt w7 tr { T.opened j Bn with nd:=setN T.nd j (some { n with Z:=0,L:=2 }) })(o:Only [n.b,T.db] w w7)(hB:w.heap.size≤Bn)(o0:Only L w0 w)(h0:w0.heap.size≤B):Ld w7 A R B lb xb tr { T.opened j Bn with nd:=setN T.nd j (some { n with Z:=0,L:=2 }) } v l t∧Only L w0 w7:=by
 have hL:∀ k∈[n.b,T.db],B≤k:=fun k hk=>by
   rcases List.mem_cons.1 hk with e | e
   · rw [e]
     exact h.fresh _ (Or.inr (Or.inr (Or.inr (Or.inr (InFoot.node hn (List.mem_cons_self ..))))))
   · rw [List.mem_singleton.1 e]
     exact h.fresh _ (Or.inr (Or.inl rfl))
 refine ⟨h.step o hL hT (fun k hk=>?_) rfl,o0.trans o (fun k hk=>Or.inr (Nat.le_trans h0 (hL k hk)))⟩;rcases foot_opened hn hk with e | e
 · exact Or.inl e
 · exact Or.inr (by rw [e];exact hB)
theorem NdIs.foot {B:Nat}{l:List Nmb}{nd:Nat→Option Nod}(h:NdIs B l nd){i k:Nat}{m:Nod}(hm:nd i=some m)(hf:k∈m.foot):B≤k:=by
 have:=h i
 cases e:cL l i with
 | none=>rw [e] at this;simp only at this;rw [this] at hm;cases hm
 | some x =>
  rw [e] at this;simp only at this;obtain ⟨b,hb,hB⟩:=this;rw [hb] at hm;obtain rfl:=Option.some.inj hm;have hf':(resNod b x).foot=[b]:=rfl;rw [hf'] at hf;rw [List.mem_singleton.1 hf];exact hB
def TabEnd (A:Nat→Addr)(w:World)(lb xb most:Nat)(t:ByteArray)(e:Ending)(w':World):Prop :=
 (∃ l t' R B tr T v,pTab most t=some (l,t')∧e = .returned (.tuple #[])∧Ld w' A R B lb xb tr T v l t'∧absT T=tabC l l.length∧T.most=most∧Only [lb,xb] w w'∧w.heap.size≤B∧l.length≤300∧(∀ x∈l,x.k≤2∧x.g≤4611686018427387903∧x.c≤4611686018427387903))∨(pTab most t=none∧e = .panicked (thr A)∧Only [lb,xb] w w')
theorem table_ends (A:Nat→Addr)(w:World)(lb xb most:Nat)(t:ByteArray)(h:LdR w A lb xb (.pointer none) (.slice none 0 0) t)(he:Low A w.heap.size)(h1:1≤most)(h2:most≤300):
  Calls Tryz.prog 75 #[.pointer (some ⟨lb,0,none⟩),.int .i64 (most:Nat)] w (TabEnd A w lb xb most t):=by
 have hnum:=number_ends A lb xb _ _ t 300 w h;have HLOW:Hid (Low A w.heap.size):=he;have HLB:Hid (lb < w.heap.size∧xb < w.heap.size):=⟨h.lt,h.ltx⟩;have HP:Hid (∀ W,Only [lb,xb] w W→pTab most t=none→TabEnd A w lb xb most t (.panicked (thr A)) W):=fun W ho hp=>Or.inr ⟨hp,rfl,ho⟩;have HGV:Hid (∀ W tj tp v,LdR W A lb xb tp v tj→Calls Tryz.prog 130 #[.pointer (some ⟨lb,0,none⟩)] W (REnd A lb xb tp v W tj pGiven nmV)):=fun W tj tp v hl=>given_ends A lb xb tp v tj W hl;clear h he
 go_enter Tryz.func75,Tryz.ntmps75
 go_wp2_with fail
 refine hnum.mono ?_;rintro e w1 (⟨n,t1,hp,rfl,o1,hl1⟩ | ⟨hp,rfl,o1⟩)
 case inr=>exact ⟨rfl,HP.out w1 (o1.mono (fun _ hk=>by simp at hk;simp [hk])) (bindP_none hp)⟩
 have HN:Hid (pNum 300 t=some (n,t1)):=hp
 have hn3:n≤300:=by have:=(pNum_le hp).1;omega
 have HO1:Hid (Only [lb,xb] w w1):=o1.mono (fun _ hk=>by simp at hk;simp [hk]);have HL1:Hid (LdR w1 A lb xb (.pointer none) (.slice none 0 0) t1):=hl1;clear hnum hp o1 hl1
 go_wp2
 go_loopw [10] (fun q wr=>∃ (j:Nat) (l:List Nmb) (tj:ByteArray) (ad:Option Addr) (cap:Nat),q = .int .i64 (j:Nat)∧j≤n∧l.length=j∧LdR wr A lb xb (.pointer none) (.slice ad j cap) tj∧Nrs wr w.heap.size (.slice ad j cap) l∧Only [lb,xb] w wr∧pTimes pGiven n t1=(pTimes pGiven (n - j) tj).map (fun y=>(l++y.1,y.2))∧(∀ x∈l,x.k≤2∧x.g≤4611686018427387903∧x.c≤4611686018427387903)) (fun q _=>n - (intOf q).toNat)
 case atStart =>
  refine ⟨0,[],t1,none,0,rfl,Nat.zero_le _,rfl,HL1.out,World.ownsRow_nil _ _ _ _,HO1.out,?_,fun x hx=>by cases hx⟩;show _=_
  cases pTimes pGiven (n - 0) t1<;>simp_all
 case round =>
  obtain ⟨j,l,tj,ad,cap,rfl,hj,hlj,hL,hR,hO,hT,hG⟩:=hrel;have HL:Hid (LdR wr A lb xb (.pointer none) (.slice ad j cap) tj):=hL;have HR:Hid (Nrs wr w.heap.size (.slice ad j cap) l):=hR;have HO:Hid (Only [lb,xb] w wr):=hO;have HT:Hid (pTimes pGiven n t1=(pTimes pGiven (n - j) tj).map (fun y=>(l++y.1,y.2))):=hT;have HG:Hid (∀ x∈l,x.k≤2∧x.g≤4611686018427387903∧x.c≤4611686018427387903):=hG;have HLJ:Hid (l.length=j):=hlj;clear hL hR hO hT hG hlj HL1 HO1
  by_cases hlt:j < n
  · have HNM:Hid (n - j=(n - j - 1)+1):=by show _=_;omega
    go_upto_region 2 with fail
    obtain ⟨i0,hi0,hz0,hz1,hz2⟩:=nmInfo';have hgv:=HGV.out wr.drew tj _ _ (HL.out.only (Only.refl [] wr).drew)
    have mixed:Tryz.prog.follows Departure.mixedOrders=true:=by kernel_rfl
    have a1:=HL.out.c2;have a5:=HL.out.lt
    go_region_law_o (first
     | (refine step_append_lies _ (by rfl) (.tmp 16) (.tmp 19) 198 (by rfl) w.heap.size 233 i0 _ 3 24 nmsUnd hi0 hz0 hz1 hz2 (by rfl) (by decide) (.slice ad j cap) j (rowOf nmC l) (by rfl) (HR3.out.alloc _) ⟨w3.heap.size,0,none⟩ 1 1 (nmC x) (by rfl) (by rfl) (World.news_of_block (heap_alloc_last w3 _)) (nm_one x) (by decide) (by unfold maxLen;omega) (by omega) HSZ.out (w3.heap.size+1) (by simp) ?_;intro g5 c5 w5 hown5 hgr5 hat5 hlt5;obtain ⟨k0,k1,k2,hR⟩:=HAP.out w5 g5 c5 hgr5 hown5;have HRR:Hid (LdR (w5.setCell ⟨lb,2,none⟩ (.slice (some ⟨g5,0,none⟩) (j+1) c5)) A lb xb (.pointer none) (.slice (some ⟨g5,0,none⟩) (j+1) c5) t'∧Nrs (w5.setCell ⟨lb,2,none⟩ (.slice (some ⟨g5,0,none⟩) (j+1) c5)) w.heap.size (.slice (some ⟨g5,0,none⟩) (j+1) c5) (l++[x])∧Only [lb,xb] w (w5.setCell ⟨lb,2,none⟩ (.slice (some ⟨g5,0,none⟩) (j+1) c5))):=hR;clear hown5 hgr5 hat5 hlt5 hR a1)
     | (go_simp;refine hgv.mono ?_;rintro e w3 (⟨x,t',hp,rfl,o3,h3⟩ | ⟨hp,rfl,o3⟩);rotate_left;exact ⟨rfl,HP.out w3 (HO.out.drew.trans o3 (fun k hk=>by simp at hk;simp [hk])) (by unfold pTab;rw [bindP_some HN.out,bindP_none (pTimes_stop (m:=n - j - 1) (by rw [← HNM.out];exact HT.out) hp)])⟩;have HX:Hid (pGiven tj=some (x,t')):=hp;have HO3:Hid (Only [lb,xb] w w3):=HO.out.drew.trans o3 (fun k hk=>by simp at hk;simp [hk]);have HL3:Hid (LdR w3 A lb xb (.pointer none) (.slice ad j cap) t'):=h3;have HN3:Hid (Nrs w3 w.heap.size (.slice ad j cap) l):=(show Nrs w3 w.heap.size (.slice ad j cap) l from (HR.out.only (Only.refl [] wr).drew (fun _ _=>by simp)).only o3 (fun k hk=>by have:=(HL.out.row_ne HR.out hk).2.2.2;simpa using this));have HR3:Hid (w3.ownsRow w.heap.size 233 3 (.slice ad j cap) j (rowOf nmC l)):=(show w3.ownsRow w.heap.size 233 3 (.slice ad j cap) j (rowOf nmC l) from by have:=HN3.out;unfold Nrs at this;rw [HLJ.out] at this;exact this);have HSZ:Hid (w.heap.size≤(w3.alloc (.cells #[.int .i64 (x.g:Nat),.int .i64 (x.k:Nat),.int .i64 (x.c:Nat)] 233)).heap.size):=(show w.heap.size≤_ from by rw [World.size_alloc];have:=HO3.out.size;omega);have HAP:Hid (∀ w5 g5 c5,(w3.alloc (.cells #[.int .i64 (x.g:Nat),.int .i64 (x.k:Nat),.int .i64 (x.c:Nat)] 233)).grownBy w5 (Value.slice ad j cap).ownBlock→w5.ownsRow w.heap.size 233 3 (.slice (some ⟨g5,0,none⟩) (j+1) c5) (j+1) (rowOf nmC l++nmC x)→w5.cell? ⟨lb,2,none⟩=some (.slice ad j cap)∧w5.frozen? ⟨lb,2,none⟩=false∧lb < w5.heap.size∧LdR (w5.setCell ⟨lb,2,none⟩ (.slice (some ⟨g5,0,none⟩) (j+1) c5)) A lb xb (.pointer none) (.slice (some ⟨g5,0,none⟩) (j+1) c5) t'∧Nrs (w5.setCell ⟨lb,2,none⟩ (.slice (some ⟨g5,0,none⟩) (j+1) c5)) w.heap.size (.slice (some ⟨g5,0,none⟩) (j+1) c5) (l++[x])∧Only [lb,xb] w (w5.setCell ⟨lb,2,none⟩ (.slice (some ⟨g5,0,none⟩) (j+1) c5))):=(fun w5 g5 c5 hg ho=>by have hm:=num_more (w:=w) (g5:=g5) (c5:=c5) HL3.out HN3.out HLOW.out rfl HO3.out hg (by rw [HLJ.out];exact ho);rw [HLJ.out] at hm;exact hm);clear a1 a5;have a1:=h3.c2;have a5:=h3.lt;clear hgv hp o3 h3))
    all_goals go_wp2
    all_goals go_roundw
    all_goals first
     | (refine ⟨j+1,l++[x],t',_,_,by go_num,by omega,by rw [List.length_append,HLJ.out];rfl,HRR.out.1,HRR.out.2.1,HRR.out.2.2,?_,fun y hy=>?_⟩
        · have:=pTimes_more (m:=n - j - 1) (by rw [← HNM.out];exact HT.out) HX.out
          rw [show n - (j+1)=n - j - 1 by omega];exact this
        · rcases List.mem_append.1 hy with e | e
          · exact HG.out y e
          · rw [List.mem_singleton.1 e]
            exact ⟨(pGiven_le HX.out).1,(pGiven_le HX.out).2.1,(pGiven_le HX.out).2.2.1⟩)
     | (simp [intOf];omega)
  · obtain rfl:n=j:=by omega
    have hj2:decide ((n:Int) < n)=false:=decide_eq_false (by omega);have HPT:Hid (pTimes pGiven n t1=some (l,tj)):=pTimes_done (by have:=HT.out;rw [Nat.sub_self] at this;exact this)
    have HTAB:Hid (pTab most t=if (pHead l&&pGood l most)=true then some (l,tj) else none):=by
     show _=_;unfold pTab;rw [bindP_some HN.out,bindP_some HPT.out]
     split<;>rfl
    have c2:=HL.out.c2;have hlb:=HL.out.lt;have hEr:=HL.out.err;have HER:Hid (Errs wr A):=hEr
    cases hx0:l[0]? with
    | none =>
     obtain rfl:n=0:=by have:=List.getElem?_eq_none_iff.1 hx0;have:=HLJ.out;omega
     have HF:Hid (pTab most t=none):=by show _=_;rw [HTAB.out,if_neg];simp [pHead,hx0]
     have hmu:=must_no A lb wr hEr;clear hx0 hEr
     go_wp2_with (go_at_call 78;refine hmu.mono ?_;rintro e w2 ⟨rfl,rfl⟩)
     exact ⟨rfl,HP.out _ HO.out HF.out⟩
    | some x0 =>
     have hpos:0 < n:=by have:=(List.getElem?_eq_some_iff.1 hx0).1;have:=HLJ.out;omega
     obtain ⟨g,rfl⟩:∃ g,ad=some ⟨g,0,none⟩:=by
       rcases HR.out.2 with ⟨e,_⟩ | ⟨g,cap',cur,e,_⟩
       · simp only [Value.slice.injEq] at e;omega
       · simp only [Value.slice.injEq] at e;exact ⟨g,e.1⟩
     obtain ⟨y0,y1,y2⟩:=HR.out.cells HLJ.out hx0;have hmn:=must_no A lb wr hEr
     by_cases hk:x0.k=2
     · by_cases hg:x0.g=0
       · have HH:Hid (pHead l=true):=by show _=_;simp [pHead,hx0,hk,hg]
         have z0:wr.cell? ⟨g,0,none⟩=some (.int .i64 0):=by have:=y0;rw [hg] at this;simpa using this
         have z1:wr.cell? ⟨g,1,none⟩=some (.int .i64 2):=by have:=y1;rw [hk] at this;simpa using this
         have hres:=restore_any A wr w.heap.size _ l most hEr HR.out (by rw [HLJ.out];omega) (fun x hx=>(HG.out x hx).1) h1 h2
         have HGL:Hid (∀ i,gL l i≤5000000000000000000):=fun i=>by
           unfold gL
           cases e:l[i]? with
           | none=>simp
           | some x=>have:=(HG.out x (List.mem_of_getElem? e)).2.1;simp only;omega
         clear y0 y1 y2 hmn hEr hx0 hk hg
         go_wp2_with (go_at_call 78;refine (must_yes _ _).mono ?_;rintro e w2 ⟨rfl,rfl⟩)
         refine hres.mono ?_;rintro e w2 (⟨hno,⟨k,rfl⟩,o2⟩ | ⟨hok,tb,p,nd,rfl,hTb,hN,hND,o2,htb,hpa⟩)
         · have HF:Hid (pTab most t=none):=by show _=_;rw [HTAB.out,if_neg];intro hc;simp only [Bool.and_eq_true] at hc;exact hno ((pGood_iff l most).1 hc.2)
           have hmu:=must_no A lb w2 (HL.out.only o2).err;have HO2:Hid (Only [lb,xb] w w2):=HO.out.trans o2 (fun _ hk=>by cases hk);clear hres hno o2 z0 z1 c2 hlb
           go_wp2_with (go_at_call 78;refine hmu.mono ?_;rintro e w3 ⟨rfl,rfl⟩)
           exact ⟨rfl,HP.out _ HO2.out HF.out⟩
         · have HF:Hid (pTab most t=some (l,tj)):=by show _=_;rw [HTAB.out,if_pos];simp only [Bool.and_eq_true];exact ⟨HH.out,(pGood_iff l most).2 hok⟩
           have hov:=over_ok w2 tb p most (gL l) nd hTb (by rw [hN,HLJ.out];omega) HGL.out;have HO2:Hid (Only [] wr w2):=o2;have HND:Hid (NdIs wr.heap.size l nd):=hND;have HPN:Hid (p.N=l.length):=hN;have HTB:Hid (wr.heap.size≤tb∧∀ b,p.a=some b→wr.heap.size≤b):=⟨htb,hpa⟩;clear hres hok hTb hN hND o2 htb hpa z0 z1 c2 hlb
           go_upto_region 8 with (first
             | (go_at_call 78;refine (must_yes _ _).mono ?_;rintro e w3 ⟨rfl,rfl⟩)
             | (go_at_call 90;refine hov.mono ?_;rintro e w3 ⟨tr,db,pb,rfl,hT3,o3,htr,hdb,hpb⟩;have HO3:Hid (Only [] wr w3):=HO2.out.trans o3 (fun _ hk=>by cases hk);have HT3:Hid (TreeAt w3 tr (Tr.bare tb p most (gL l) nd db pb)):=hT3;have HTR:Hid (wr.heap.size≤tr∧wr.heap.size≤db∧wr.heap.size≤pb):=(show wr.heap.size≤tr∧wr.heap.size≤db∧wr.heap.size≤pb from by have:=HO2.out.size;omega);have c1:=(HL.out.only HO3.out).c1;have f1:=(HL.out.only HO3.out).fz 1;have hl3:=(HL.out.only HO3.out).lt;clear hov hT3 o3 htr hdb hpb))
           have HD4:Hid (Ld (w3.setCell ⟨lb,1,none⟩ (.pointer (some ⟨tr,0,none⟩))) A w.heap.size wr.heap.size lb xb tr (Tr.bare tb p most (gL l) nd db pb) (.slice (some ⟨g,0,none⟩) n cap) l tj):=by
             have hfr:∀ k,FootT tr (Tr.bare tb p most (gL l) nd db pb) k→wr.heap.size≤k:=by
               rintro k (e | e | e | ⟨i,d,hd,e⟩ | e | e | ⟨i,m,hm,hf⟩)
               · rw [e];exact HTR.out.1
               · rw [e];exact HTR.out.2.1
               · rw [e];exact HTR.out.2.2
               · cases hd
               · rw [e];exact HTB.out.1
               · exact HTB.out.2 k e
               · exact HND.out.foot hm hf
             have hL3:=HL.out.only HO3.out;have hlr:=HL.out.lt;have o4:Only [lb] w3 (w3.setCell ⟨lb,1,none⟩ (.pointer (some ⟨tr,0,none⟩))):=(Only.refl [lb] w3).setCell (p:=⟨lb,1,none⟩) (Or.inl (by simp)) _;refine ⟨hL3.put1 _,(HR.out.only HO3.out (fun _ _=>by simp)).only o4 (fun k hk=>by have:=(HL.out.row_ne HR.out hk).2.2.1;simpa using this),HT3.out.kept o4 (fun k hk hm=>by have:=hfr k hk;have:=List.mem_singleton.1 hm;omega),hfr,⟨HL.out.lt,HL.out.ltx,fun k hk=>(HL.out.row_ne HR.out hk).2.1⟩,HLOW.out.mono HO.out.size,rfl⟩
           have HO4:Hid (Only [lb,xb] w (w3.setCell ⟨lb,1,none⟩ (.pointer (some ⟨tr,0,none⟩)))):=(HO.out.trans HO3.out (fun _ hk=>by cases hk)).setCell (p:=⟨lb,1,none⟩) (Or.inl (by simp)) _;have HA4:Hid (absT (Tr.bare tb p most (gL l) nd db pb)=tabC l 0):=absT_bare HND.out HPN.out;have HBB:Hid (w.heap.size≤wr.heap.size):=HO.out.size;clear c1 f1 hl3 HT3 HTR HTB HND HPN HO3 HO2 HL HR HER HO;generalize wr.heap.size=B at HD4 HBB;have HD5:Hid (∃ T,Ld (w3.setCell ⟨lb,1,none⟩ (.pointer (some ⟨tr,0,none⟩))) A w.heap.size B lb xb tr T (.slice (some ⟨g,0,none⟩) n cap) l tj∧absT T=tabC l 0∧T.most=most):=⟨_,HD4.out,HA4.out,rfl⟩;clear HD4 HA4;generalize w3.setCell ⟨lb,1,none⟩ (.pointer (some ⟨tr,0,none⟩))=w4 at HD5 HO4 ⊢
           have c2:w4.cell? ⟨lb,2,none⟩=some (.slice (some ⟨g,0,none⟩) n cap):=by obtain ⟨T,hd,_⟩:=HD5.out;exact hd.ld.c2
           have hl4:lb < w4.heap.size:=by obtain ⟨T,hd,_⟩:=HD5.out;exact hd.ld.lt
           go_wp2
           clear c2 hl4
           go_loopw [75] (fun q wq=>∃ (j:Nat) (T:Tr),q = .int .i64 (j:Nat)∧j≤n∧Ld wq A w.heap.size B lb xb tr T (.slice (some ⟨g,0,none⟩) n cap) l tj∧absT T=tabC l j∧T.most=most∧Only [lb,xb] w wq) (fun q _=>n - (intOf q).toNat)
           case atStart=>obtain ⟨T,d1,d2,d3⟩:=HD5.out;exact ⟨0,T,rfl,Nat.zero_le _,d1,d2,d3,HO4.out⟩
           case round =>
             obtain ⟨j,T,rfl,hj,hD,hA,hM,hO⟩:=hrel;have HD:Hid (Ld wr A w.heap.size B lb xb tr T (.slice (some ⟨g,0,none⟩) n cap) l tj):=hD;have HA:Hid (absT T=tabC l j):=hA;have HM:Hid (T.most=most):=hM;have HO:Hid (Only [lb,xb] w wr):=hO;clear hD hA hM hO HD5 HO4
             by_cases hlt:j < n
             · obtain ⟨x,hx⟩:∃ x,l[j]?=some x:=⟨l[j]'(by have:=HLJ.out;omega),List.getElem?_eq_getElem _⟩
               have HX:Hid (l[j]?=some x):=hx;obtain ⟨y0,y1,y2⟩:=HD.out.row.cells HLJ.out hx;have hgl:g < wr.heap.size:=lt_of_cell y0;clear hx
               go_upto_region 11 with fail
               have HDA:Hid (Ld (wr.alloc (.cells #[.int .i64 (x.g:Nat),.int .i64 (x.k:Nat),.int .i64 (x.c:Nat)] 233)) A w.heap.size B lb xb tr T (.slice (some ⟨g,0,none⟩) n cap) l tj):=HD.out.only ((Only.refl [] wr).alloc _);have HOA:Hid (Only [lb,xb] w (wr.alloc (.cells #[.int .i64 (x.g:Nat),.int .i64 (x.k:Nat),.int .i64 (x.c:Nat)] 233))):=HO.out.alloc _;have HBX:=heap_alloc_last wr (.cells #[.int .i64 (x.g:Nat),.int .i64 (x.k:Nat),.int .i64 (x.c:Nat)] 233);have x1:(wr.alloc (.cells #[.int .i64 (x.g:Nat),.int .i64 (x.k:Nat),.int .i64 (x.c:Nat)] 233)).cell? ⟨wr.heap.size,1,none⟩=some (.int .i64 (x.k:Nat)):=cell_of_row _ _ 1 _ _ _ HBX;clear y0 y1 y2 hgl HBX HD HO;generalize wr.alloc (.cells #[.int .i64 (x.g:Nat),.int .i64 (x.k:Nat),.int .i64 (x.c:Nat)] 233)=wb at HDA HOA x1 ⊢;generalize wr.heap.size=bx at x1 ⊢
               by_cases hk:x.k=2
               · have z1:wb.cell? ⟨bx,1,none⟩=some (.int .i64 2):=by have:=x1;rw [hk] at this;simpa using this
                 have HCL:Hid (cL l j=some x):=by show _=_;unfold cL;rw [HX.out];simp only;rw [if_neg (by omega)]
                 have HK:Hid (x.k=2):=hk
                 obtain ⟨nn,hnn⟩:∃ nn,T.nd j=some nn:=by
                   have:=congrFun (congrArg Lc.nd HA.out) j;simp only [absT,tabC,HCL.out,Option.map_some] at this
                   cases e:T.nd j with
                   | none=>rw [e] at this;cases this
                   | some nn=>exact ⟨nn,rfl⟩
                 have HNN:Hid (T.nd j=some nn∧nn.K=2):=by
                   refine ⟨hnn,?_⟩;have:=congrFun (congrArg Lc.nd HA.out) j;simp only [absT,tabC,HCL.out,hnn,Option.map_some,Nat.lt_irrefl,and_false,if_false,Option.some.injEq] at this;have h2:=congrArg Nod.K this;have h3:nn.K=(x.k:Int):=h2;rw [h3,hk];rfl
                 have HDS:Hid (T.ds j=none):=by
                   have:=congrFun (congrArg Lc.ds HA.out) j;simp only [absT,tabC,HCL.out,Option.bind_some,Nat.lt_irrefl,and_false,if_false] at this
                   have h2:∀ o:Option DirM,o.map (·.l)=none→o=none:=fun o ho=>by cases o;rfl;cases ho
                   exact h2 _ this
                 have HGJ:Hid (T.g j=x.g):=by
                   have:T.g=gL l:=congrArg Lc.g HA.out;show T.g j=x.g;rw [this];unfold gL;rw [HX.out]
                 clear hk x1 hnn
                 go_upto_region 12 with fail
                 clear z1;have c1:=HDA.out.ld.c1;have hlb:=HDA.out.ld.lt;have hhd:=lhandle_ok wb.drew A lb xb _ _ tj w.heap.size l j x (HDA.out.only (Only.refl [] wb).drew).ld (HDA.out.only (Only.refl [] wb).drew).row HX.out
                 go_region_with (first
                   | (go_at_call 133;refine hhd.mono ?_;rintro e w6 ⟨rfl,o6⟩;have HD6:Hid (Ld w6 A w.heap.size B lb xb tr T (.slice (some ⟨g,0,none⟩) n cap) l tj):=(HDA.out.only (Only.refl [] wb).drew).only o6;have HO6:Hid (Only [lb,xb] w w6):=HOA.out.drew.trans o6 (fun _ hk=>by cases hk);have hop:=open_ok w6 tr T j nn HD6.out.tree HNN.out.1 HNN.out.2 HDS.out;rw [HGJ.out] at hop;clear hhd o6 c1 hlb;have c1:=HD6.out.ld.c1;have hlb:=HD6.out.ld.lt)
                   | (go_at_call 132;refine hop.mono ?_;rintro e w7 ⟨rfl,Bn,hT7,o7,hBn⟩;have HD7:Hid (Ld w7 A w.heap.size B lb xb tr { T.opened j Bn with nd:=setN T.nd j (some { nn with Z:=0,L:=2 }) } (.slice (some ⟨g,0,none⟩) n cap) l tj∧Only [lb,xb] w w7):=(HD6.out.opened HNN.out.1 hT7 o7 hBn HO6.out HBB.out);clear hop hT7 o7 hBn c1 hlb))
                 all_goals go_wp2
                 all_goals go_roundw
                 all_goals first
                   | exact ⟨j+1,_,by go_num,by omega,HD7.out.1,absT_open HA.out HCL.out HK.out HNN.out.1,HM.out,HD7.out.2⟩
                   | (simp [intOf];omega)
               · have d1:((x.k:Int)==2)=false:=by simp;omega
                 have HSM:Hid (tabC l (j+1)=tabC l j):=tabC_same (fun y hy=>by
                   unfold cL at hy;rw [HX.out] at hy;simp only at hy
                   split at hy
                   · cases hy
                   · obtain rfl:=Option.some.inj hy
                     exact hk)
                 clear hk
                 go_wp2
                 go_roundw
                 · exact ⟨j+1,T,by go_num,by omega,HDA.out,by rw [HSM.out];exact HA.out,HM.out,HOA.out⟩
                 · simp [intOf];omega
             · obtain rfl:n=j:=by omega
               go_wp2
               go_end0
               exact Or.inl ⟨l,tj,_,B,tr,T,_,HF.out,rfl,HD.out,by rw [HLJ.out];exact HA.out,HM.out,HO.out,HBB.out,by rw [HLJ.out];exact hn3,HG.out⟩
       · have HF:Hid (pTab most t=none):=by show _=_;rw [HTAB.out,if_neg];simp [pHead,hx0,hg]
         have z0:wr.cell? ⟨g,0,none⟩=some (.int .i64 (x0.g:Nat)):=by simpa using y0
         have z1:wr.cell? ⟨g,1,none⟩=some (.int .i64 2):=by have:=y1;rw [hk] at this;simpa using this
         have d0:((x0.g:Int)==0)=false:=by simp;omega
         clear y0 y1 y2 hEr hx0 hk hg
         go_wp2_with (go_at_call 78;refine hmn.mono ?_;rintro e w2 ⟨rfl,rfl⟩)
         exact ⟨rfl,HP.out _ HO.out HF.out⟩
     · have HF:Hid (pTab most t=none):=by show _=_;rw [HTAB.out,if_neg];simp [pHead,hx0,hk]
       have z1:wr.cell? ⟨g,1,none⟩=some (.int .i64 (x0.k:Nat)):=by simpa using y1
       have d0:((x0.k:Int)==2)=false:=by simp;omega
       clear y0 y1 y2 hEr hx0 hk
       go_wp2_with (go_at_call 78;refine hmn.mono ?_;rintro e w2 ⟨rfl,rfl⟩)
       exact ⟨rfl,HP.out _ HO.out HF.out⟩
end
end Go.Proofs.YtmnidbnaneagjaaGreatDoor
