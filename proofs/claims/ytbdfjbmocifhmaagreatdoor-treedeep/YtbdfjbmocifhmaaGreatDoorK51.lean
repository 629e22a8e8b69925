import Derived.Test.YtbdfjbmocifhmaaGreatDoorK50
set_option maxRecDepth 100000
set_option maxHeartbeats 8000000
namespace Go.Proofs.YtbdfjbmocifhmaaGreatDoor
section
open Go Go.RowKit Go.Deep Go.Maps
theorem over_okN (w:World)(t:Nat)(p:Row)(most:Nat)(g:Nat→Nat)(nd:Nat→Option Nod)(h:TabAt w t p most g nd)(hN:p.N≤1000)(hg:∀ i,g i≤5000000000000000000):
   Calls Tryz.prog 22 #[.pointer (some ⟨t,0,none⟩)] w fun e w'=>∃ tr db pb,e = .returned (.pointer (some ⟨tr,0,none⟩))∧TreeAt w' tr (Tr.bare t p most g nd db pb)∧Only [] w w'∧w.heap.size≤tr∧w.heap.size≤db∧w.heap.size≤pb∧Ty w' tr 130∧tr≠t∧tr≠db:=by
 have hm1:=run_makeMap (P:=Tryz.prog) 127 w;have hm2:=run_makeMap (P:=Tryz.prog) 128 (w.alloc (.map #[] 0));have H:Hid (TabAt w t p most g nd):=h;clear h
 go_enter Tryz.func22,Tryz.ntmps22
 go_wp2
 go_ret
 have ho:Only [] w (((w.alloc (.map #[] 0)).alloc (.map #[] 0)).alloc (.cells #[.pointer (some ⟨t,0,none⟩),.map (some w.heap.size),.map (some (w.heap.size+1))] 130)):=(((Only.refl [] w).alloc _).alloc _).alloc _;refine ⟨w.heap.size+1+1,w.heap.size,w.heap.size+1,rfl,?_,ho,by omega,by omega,by omega,?tyy,by have:=H.out.tlt;omega,by omega⟩
 case tyy=>exact ⟨_,_,by have:=heap_alloc_last ((w.alloc (.map #[] 0)).alloc (.map #[] 0)) (.cells #[.pointer (some ⟨t,0,none⟩),.map (some w.heap.size),.map (some (w.heap.size+1))] 130);simp only [World.size_alloc] at this;exact this⟩
 have hh:=heap_alloc_last ((w.alloc (.map #[] 0)).alloc (.map #[] 0)) (.cells #[.pointer (some ⟨t,0,none⟩),.map (some w.heap.size),.map (some (w.heap.size+1))] 130);simp only [World.size_alloc] at hh
 have hno:∀ k,w.heap.size≤k→¬ InFoot t p most nd k:=fun k hk hf=>by have:=H.out.foot_lt k hf;omega
 have hd:(((w.alloc (.map #[] 0)).alloc (.map #[] 0)).alloc (.cells #[.pointer (some ⟨t,0,none⟩),.map (some w.heap.size),.map (some (w.heap.size+1))] 130)).ownsMap Tryz.prog 34 mapElem w.heap.size 0 (.map []:DataW Unit):=((World.ownsMap_made (H:=Unit) w Tryz.prog 34 mapElem).alloc _).alloc _
 have hp:(((w.alloc (.map #[] 0)).alloc (.map #[] 0)).alloc (.cells #[.pointer (some ⟨t,0,none⟩),.map (some w.heap.size),.map (some (w.heap.size+1))] 130)).ownsMap Tryz.prog 34 (plainElem Tryz.prog 3) (w.heap.size+1) 0 (.map []:DataW Unit):=by
   have:=World.ownsMap_made (H:=Unit) (w.alloc (.map #[] 0)) Tryz.prog 34 (plainElem Tryz.prog 3);rw [World.size_alloc] at this;exact this.alloc _
 refine ⟨cell_of_row _ _ 0 _ _ _ hh,cell_of_row _ _ 1 _ _ _ hh,cell_of_row _ _ 2 _ _ _ hh,H.out.kept ho (fun _ _=>by simp),⟨_,0,hd,by omega,Reads.empty.congr (fun k=>?_)⟩,(fun i d e=>by cases e),⟨_,0,hp,by omega,Reads.empty.congr (fun k=>?_)⟩,(fun i j d d' e=>by cases e),⟨hN,hg⟩,hno (w.heap.size+1+1) (by omega),hno w.heap.size (Nat.le_refl _),hno (w.heap.size+1) (by omega),(fun i d e=>by cases e),?_,(fun i d e=>by cases e),(fun i e=>by cases e)⟩
 · show (if k.2=g k.1 then (none:Option DirM).map (·.b) else none)=none
   split<;>rfl
 · simp [Tr.pinsF,Tr.bare]
 · show w.heap.size≠w.heap.size+1
   omega
theorem tree_newN (w:World)(most:Nat)(h1:1≤most)(h2:most≤300):
  Calls Tryz.prog 8 #[.int .i64 most] w fun e w'=>∃ tr t p b db B pb,e = .returned (.tuple #[.pointer (some ⟨tr,0,none⟩),.nilIface])∧TreeAt w' tr (Tr.fresh t p most b db B pb)∧Only [] w w'∧p.N=1∧w.heap.size≤tr∧w.heap.size≤t∧w.heap.size≤b∧w.heap.size≤db∧w.heap.size≤B∧w.heap.size≤pb∧(∀ k,p.a=some k→w.heap.size≤k)∧Ty w' tr 130:=by
 have hnew:=tnew w most h1 h2
 go_enter Tryz.func8,Tryz.ntmps8
 go_wp2_with (first
  | (go_at_call 21;go_must (refine hnew.mono ?_);rintro e w1 ⟨t,rfl,hT1,ho1,ht⟩;have hov:=over_okN w1 t noRow most (fun _=>0) (fun _=>none) hT1 (by decide) (fun _=>by omega);have HO1:Hid (Only [] w w1):=ho1;have HTT:Hid (w.heap.size≤t):=ht;clear hT1 ho1 hnew ht)
  | (go_at_call 22;go_must (refine hov.mono ?_);rintro e w2 ⟨tr,db,pb,rfl,hT2,ho2,htr,hdb,hpb,hty,hnt,hnd⟩;have HTY:Hid (Ty w2 tr 130):=hty;have HNT:Hid (tr≠t):=hnt;have HND:Hid (tr≠db):=hnd;have hadd:=add_dir w2 tr (Tr.bare t noRow most (fun _=>0) (fun _=>none) db pb) 0 hT2 (by decide) (show countTo (fun _=>none) 0 < most from h1) rfl rfl (fun j hj=>by omega);have HO2:Hid (Only [] w w2):=HO1.out.trans ho2 (fun _ hk=>by cases hk);have HS:Hid (w.heap.size≤tr∧w.heap.size≤db∧w.heap.size≤pb):=(show w.heap.size≤tr∧w.heap.size≤db∧w.heap.size≤pb from by have:=HO1.out.size;omega);clear hT2 ho2 hov htr hdb hpb hty hnt hnd)
  | (go_at_call 23;go_must (refine hadd.mono ?_);rintro e w3 ⟨rfl,p,b,B,hT3,ho3,hb3,hB3,hN3,hA3⟩;clear hadd)
  | go_in)
 have ho:Only [] w w3:=HO2.out.trans ho3 (fun k hk=>Or.inr (by
  have h1:=HS.out;have h2:=HTT.out;rcases List.mem_cons.1 hk with e | e
  · rw [e];exact h1.2.1
  · rcases List.mem_cons.1 e with e | e
    · rw [e];exact h2
    · cases e))
 have hs2:=HO2.out.size;refine bodyPost_ret (v := .tuple #[.pointer (some ⟨tr,0,none⟩),.nilIface]) (by simp [results,Tryz.results8,go_sem]) rfl ?_;exact ⟨tr,t,p,b,db,B,pb,rfl,TreeAt.only (T:=Tr.fresh t p most b db B pb) hT3 ((Only.refl [] w3).alloc _),ho.alloc _,by rw [hN3];rfl,HS.out.1,HTT.out,by omega,HS.out.2.1,by omega,HS.out.2.2,fun k hk=>(hA3 k hk).elim (fun e=>by cases e) (fun e=>by omega),(HTY.out.only ho3 (by show tr∉[db,t];simp only [List.mem_cons,List.not_mem_nil,or_false,not_or];exact ⟨HND.out,HNT.out⟩)).only ((Only.refl [] w3).alloc _) (by simp)⟩
theorem new_treeN (w:World)(most:Nat)(h1:1≤most)(h2:most≤300):Calls Tryz.prog 8 #[.int .i64 most] w fun e w'=>∃ tr,e = .returned (.tuple #[.pointer (some ⟨tr,0,none⟩),.nilIface])∧∃ T,Prg w.heap.size w' tr T∧Rep T (D0 most)∧Only [] w w'∧T.p.N=1:=by
 refine (tree_newN w most h1 h2).mono fun e w' hh=>?_;obtain ⟨tr,t,p,b,db,B,pb,rfl,hT,ho,hN,q1,q2,q3,q4,q5,q6,q7,q8⟩:=hh;refine ⟨tr,rfl,_,⟨hT,fun k hk=>?_,q8,ho.size⟩,Rep.fresh t p most b db B pb,ho,hN⟩;rcases mem_blocks.1 hk with e | e | e | e | ⟨i,_,⟨n,r1,r2⟩ | ⟨d,r1,r2⟩⟩
 · rw [e];exact q2
 · rw [e];exact q4
 · rw [e];exact q6
 · exact q7 k e
 · have r1':setN (fun _=>none) 0 (some { newNod b 2 with Z:=0,L:=2 }) i=some n:=r1
   by_cases e:i=0
   · rw [e,setN_same] at r1'
     cases r1'
     have:k=b:=by simpa [newNod,Nod.foot,footD] using r2
     rw [this];exact q3
   · rw [setN_other _ _ e] at r1'
     cases r1'
 · have r1':setN (fun _=>none) 0 (some (⟨B,[]⟩:DirM)) i=some d:=r1
   by_cases e:i=0
   · rw [e,setN_same] at r1'
     cases r1'
     rw [r2];exact q5
   · rw [setN_other _ _ e] at r1'
     cases r1'
def hC2 (i:Nat):List Value:=[.int .i64 (i:Nat),.int .i64 0]
theorem hC2_len (i:Nat):(hC2 i).length=2:=rfl
theorem hC2_one (i:Nat):∀ v∈hC2 i,v.oneCell'=true:=by
 intro v hv;simp [hC2] at hv;rcases hv with rfl | rfl<;>rfl
def Ways (w:World)(base:Nat)(v:Value)(j:Nat):Prop:=w.ownsRow base 34 2 v j (rowOf hC2 (List.range j))
theorem Ways.block {w:World}{base j:Nat}{v:Value}(h:Ways w base v j){k:Nat}(hk:v.ownBlock=some k):base≤k∧∃ cs,w.heap[k]?=some (.cells cs 34 (0,0)):=by
 rcases h.2 with ⟨h1,_⟩ | ⟨g,cap,cur,h1,h2,h3,_⟩
 · rw [h1] at hk;cases hk
 · rw [h1] at hk;cases hk;exact ⟨h2,cur,h3⟩
theorem Ways.tree {w w':World}{base j B:Nat}{v:Value}(h:Ways w base v j)(hW:TreeW B w w'):Ways w' base v j:=by
 refine ⟨h.1,?_⟩;rcases h.2 with h1 | ⟨g,cap,cur,h1,h2,h3,h4⟩
 · exact Or.inl h1
 · exact Or.inr ⟨g,cap,cur,h1,h2,hW.stays h3 (by decide),h4⟩
theorem Ways.only {w w':World}{base j:Nat}{v:Value}{L:List Nat}(h:Ways w base v j)(ho:Only L w w')(hn:∀ k,v.ownBlock=some k→k∉L):Ways w' base v j:=ho.owns h hn
theorem Ways.form {w:World}{base j:Nat}{v:Value}(h:Ways w base v j):∃ ad cap,v = .slice ad j cap∧(0 < j→∃ g,ad=some ⟨g,0,none⟩):=by
 rcases h.2 with ⟨h1,h2⟩ | ⟨g,cap,cur,h1,_⟩
 · exact ⟨none,0,by rw [h1,h2],fun h=>by omega⟩
 · exact ⟨_,_,h1,fun _=>⟨g,rfl⟩⟩
theorem Ways.cells {w:World}{base j g cap i:Nat}(h:Ways w base (.slice (some ⟨g,0,none⟩) j cap) j)(hi:i < j):w.cell? ⟨g,i*2,none⟩=some (.int .i64 (i:Nat))∧w.cell? ⟨g,i*2+1,none⟩=some (.int .i64 0):=by
 have key:∀ q,q < 2→w.cell? ⟨g,i*2+q,none⟩=(hC2 i)[q]?:=fun q hq=>by
  rw [World.ownsRow.cellAt h _ (by omega)];exact rowOf_get hC2_len (List.range j) i q i hq (List.getElem?_range hi)
 exact ⟨key 0 (by decide),key 1 (by decide)⟩
theorem HBox.tree {w w':World}{b i c B:Nat}(h:HBox w b i c)(hW:TreeW B w w'):HBox w' b i c:=hW.stays h (by decide)
theorem Prg.hands {B:Nat}{w w':World}{tr:Nat}{T:Tr}{L:List Nat}(h:Prg B w tr T)(ho:Only L w w')(hL:∀ k∈L,(∃ cs fr,w.heap[k]?=some (.cells cs 34 fr))∨w.heap.size≤k):Prg B w' tr T:=by
 have hn:∀ k,FootT tr T k→k∉L:=fun k hk hm=>by
  rcases hL k hm with ⟨cs,fr,h1⟩ | h1
  · rcases h.tree.in_blocks hk with rfl | hk
    · obtain ⟨cs',fr',hc⟩:=h.trt
      rw [h1] at hc
      cases hc
    · exact absurd (h.tree.ty hk _ _ _ h1) (by decide)
  · have:=h.tree.foot_lt k hk
    omega
 exact ⟨h.tree.kept ho hn,h.low,h.trt.only ho (hn tr (Or.inl rfl)),Nat.le_trans h.lo ho.size⟩
structure Deep (W w:World)(tr:Nat)(v:Value)(m:Nat)(c:Int)(j:Nat)(t:Nat→Nat):Prop where
 prg:∃ T,Prg W.heap.size w tr T∧Rep T (Dch m c t)∧(c=0→T.p.N=m+1)
 I:DInv (Dch m c t)
 t0:c=0→∀ i,m < i→t i=0
 t1:∀ i,t i≤1
 way:Ways w W.heap.size v j
 below:Below W.heap.size W w
section
variable {W w w':World}{tr m j:Nat}{v:Value}{c:Int}{t:Nat→Nat}{A:Nat→Addr}
theorem Deep.only (h:Deep W w tr v m c j t)(ho:Only [] w w'):Deep W w' tr v m c j t:=by
 obtain ⟨T,P,R,hN⟩:=h.prg;exact ⟨⟨T,P.only ho,R,hN⟩,h.I,h.t0,h.t1,h.way.only ho (fun _ _=>by simp),h.below.trans (ho.to_below h.below.size (fun k hk=>by cases hk))⟩
theorem Deep.errs (h:Deep W w tr v m c j t)(hE:Errs W A):Errs w A:=hE.below h.below (Nat.le_refl _)
theorem Deep.nodes (h:Deep W w tr v m c j t):Calls Tryz.prog 17 #[.pointer (some ⟨tr,0,none⟩)] w fun e w'=>e = .returned (.int .i64 ((m+1:Nat):Int))∧Only [] w w':=by
 obtain ⟨T,P,R,_⟩:=h.prg;have:=nodes_any w tr T P.tree;rw [R.count h.I P.tree,ch_len] at this;exact this
theorem Deep.make (h:Deep W w tr v m 0 j t)(hE:Errs W A)(hm:m+1 < 300):Calls Tryz.prog 19 #[.pointer (some ⟨tr,0,none⟩),.agg #[.int .i64 (m:Nat),.int .i64 0],.string (bs [100]),.int .i64 2] w fun e w'=>e = .returned (.tuple #[.agg #[.int .i64 ((m+1:Nat):Int),.int .i64 0],.nilIface])∧Deep W w' tr v (m+1) 0 j (setN t (m+1) 1)∧TreeW W.heap.size w w':=by
 obtain ⟨T,P,R,hN⟩:=h.prg;obtain ⟨d1,d2,d3,d4,d5,d6⟩:=chD_i m 0 m
 have hes:(chD m 0 m).es=[]:=by unfold chD;rw [if_neg (by omega)]
 have hmem:∀ i,i≤m→∃ y∈(Dch m 0 t).L,y.i=i:=fun i hi=>⟨chD m 0 i,mem_chL.2 ⟨i,hi,rfl⟩,(chD_i _ _ _).1⟩;have hat:=ch_atZ h.I (Nat.le_refl m)
 have hmk:=make_dirN P R h.I (h.errs hE) (ch_bd (by omega) h.t1) (by decide) (x:=chD m 0 m) (s:=bs [100]) (i:=m+1) (by rw [d1,d2];exact hat) d3 okD (by rw [hes];rfl) (by rw [hes];simp) (by show m+1 < 300;exact hm) (fun q hq=>hmem q (by omega)) (fun y hy e=>by
   obtain ⟨i,hi,rfl⟩:=mem_chL.1 hy;rw [(chD_i _ _ _).1] at e
   omega)
 have ht:t (m+1)=0:=h.t0 rfl _ (by omega)
 have hmade:(Dch m 0 t).made (chD m 0 m).i (chD m 0 m).c (bs [100]).data.toList (m+1) 2=Dch (m+1) 0 (setN t (m+1) 1):=by
   rw [d1,d2,show (bs [100]).data.toList=[100] by simp [bs]];exact ch_made m t ht
 rw [hmade,d1,d2] at hmk;refine hmk.2.mono fun e w' hh=>?_;obtain ⟨T',he,P',R',hW,hN'⟩:=hh
 rw [show (Dch m 0 t).t (m+1)=0 from ht] at he
 refine ⟨he,⟨⟨T',P',R',fun _=>by rw [hN',hN rfl];omega⟩,hmk.1,fun _ i hi=>?_,fun i=>?_,h.way.tree hW,h.below.trans (hW.below h.below.size)⟩,hW⟩
 · rw [setN_other _ _ (by omega)]
   exact h.t0 rfl i (by omega)
 · by_cases e:i=m+1
   · rw [e,setN_same];exact Nat.le_refl _
   · rw [setN_other _ _ e];exact h.t1 i
theorem Deep.full (h:Deep W w tr v m 0 j t)(hE:Errs W A)(hm:m=299):Calls Tryz.prog 19 #[.pointer (some ⟨tr,0,none⟩),.agg #[.int .i64 (m:Nat),.int .i64 0],.string (bs [100]),.int .i64 2] w fun e w'=>e = .returned (.tuple #[.agg #[.int .i64 0,.int .i64 0],.iface 300 (.pointer (some (A 8)))])∧Below W.heap.size W w'∧∀ W1,Only [] w' W1→Calls Tryz.prog 17 #[.pointer (some ⟨tr,0,none⟩)] W1 fun e w2=>e = .returned (.int .i64 300)∧Only [] W1 w2:=by
 obtain ⟨T,P,R,hN⟩:=h.prg;obtain ⟨d1,d2,d3,d4,d5,d6⟩:=chD_i m 0 m
 have hes:(chD m 0 m).es=[]:=by unfold chD;rw [if_neg (by omega)]
 have hat:=ch_atZ h.I (Nat.le_refl m);have hmk:=make_rep (A:=A) P R h.I (h.errs hE) (ch_bd (by omega) h.t1) (by decide) (N:=(m:Nat)) (G:=0) (s:=bs [100]) (K:=2) (c:=9) (i:=0) (g:=0) (D':=Dch m 0 t) (Or.inr (Or.inr ⟨chD m 0 m,hat,d3,okD,Or.inr (Or.inr (Or.inl ⟨Or.inr rfl,by rw [hes];rfl,Or.inr (fun q hq=>⟨chD m 0 q,mem_chL.2 ⟨q,by have:q < 300:=hq;omega,rfl⟩,(chD_i _ _ _).1⟩),rfl,rfl,rfl,rfl⟩))⟩));unfold makeArgs at hmk;refine hmk.2.mono fun e w' hh=>?_;obtain ⟨T',he,P',R',hW⟩:=hh;refine ⟨he,h.below.trans (hW.below h.below.size),fun W1 ho=>?_⟩;have P1:=P'.only ho;have:=nodes_any W1 tr T' P1.tree;rw [R'.count h.I P1.tree,ch_len,hm] at this;exact this
theorem Deep.remove (h:Deep W w tr v (m+1) c j t)(hc:c=0∨c=2)(hE:Errs W A):Calls Tryz.prog 20 #[.pointer (some ⟨tr,0,none⟩),.agg #[.int .i64 (m:Nat),.int .i64 0],.string (bs [100])] w fun e w'=>e = .returned .nilIface∧Deep W w' tr v m 2 j t:=by
 obtain ⟨T,P,R,hN⟩:=h.prg;have hat:=ch_atZ h.I (show m≤m+1 by omega);obtain ⟨d1,d2,d3,d4,d5,d6⟩:=chD_i (m+1) c m
 have hes:(chD (m+1) c m).es=[entD1 m]:=by unfold chD;rw [if_pos (by omega)]
 have hes2:(chD (m+1) c (m+1)).es=[]:=by unfold chD;rw [if_neg (by omega)]
 have hrm:=remove_rep (A:=A) P R h.I (h.errs hE) (ch_bd (by omega) h.t1) (by decide) (N:=(m:Nat)) (G:=0) (s:=bs [100]) (c:=0) (D':=Dch m 2 t) (Or.inr ⟨chD (m+1) c m,entD1 m,chD (m+1) c (m+1),hat,d3,okD,by rw [hes];rfl,mem_chL.2 ⟨m+1,Nat.le_refl _,rfl⟩,(chD_i _ _ _).1,(chD_i _ _ _).2.1,Or.inr ⟨hes2,rfl,by rw [d1,d2];exact (ch_lost m c t).symm⟩⟩);unfold remArgs at hrm;refine hrm.2.mono fun e w' hh=>?_;obtain ⟨T',he,P',R',hW⟩:=hh;exact ⟨he,⟨⟨T',P',R',fun q=>absurd q (by decide)⟩,hrm.1,(fun q=>absurd q (by decide)),h.t1,h.way.tree hW,h.below.trans (hW.below h.below.size)⟩⟩
theorem Deep.snap (h:Deep W w tr v m 0 j t)(hE:Errs W A):Calls Tryz.prog 11 #[.pointer (some ⟨tr,0,none⟩)] w fun e w'=>e = .returned (.string (bs (chT m)))∧Only [] w w':=by
 obtain ⟨T,P,R,hN⟩:=h.prg;have habs:=ch_abs R h.I (hN rfl) (h.t0 rfl)
 have:=snapshot_any A w tr T P.tree (h.errs hE) ⟨fun i n hn=>by
  obtain ⟨x,hx,rfl⟩:=R.node hn;obtain ⟨n',hn',k1,k2,_⟩:=R.nd x hx;rw [hn] at hn'
  cases hn'
  obtain ⟨q,_,rfl⟩:=mem_chL.1 hx;refine ⟨Or.inr (by rw [k1];exact (chD_i _ _ _).2.2.1),?_⟩;rw [k2];unfold chD
  split
  · show (0:Int)≤1∧(1:Int) < 9223372036854775808
    omega
  · show (0:Int)≤0∧(0:Int) < 9223372036854775808
    omega,fun i n hn hK=>by
  obtain ⟨x,hx,rfl⟩:=R.node hn;obtain ⟨q,_,rfl⟩:=mem_chL.1 hx;obtain ⟨b,hb⟩:=(R.ds _ hx).1 (chD_i _ _ _).2.2.1;refine ⟨_,hb,?_⟩;show (chD m 0 q).es.length≤60∧∀ e∈(chD m 0 q).es,EntOk e
  have hq:q≤299:=by have:=(h.I.lt _ hx).1;rw [(chD_i _ _ _).1] at this;have:q < 300:=this;omega
  unfold chD
  split
  · exact ⟨by simp,fun e he=>by rw [List.mem_singleton.1 he];exact ⟨by simp,by show q+1 < _;omega⟩⟩
  · exact ⟨by simp,fun e he=>by cases he⟩⟩
 rw [snap_ch habs] at this;exact this
theorem Deep.load (h:Deep W w tr v m 0 j t)(hE:Errs W A)(hm:m≤299):Calls Tryz.prog 14 #[.string (bs (chT m)),.int .i64 300] w fun e w'=>∃ ur,e = .returned (.tuple #[.pointer (some ⟨ur,0,none⟩),.nilIface])∧(∀ W1,Only [] w' W1→Calls Tryz.prog 17 #[.pointer (some ⟨ur,0,none⟩)] W1 fun e w2=>e = .returned (.int .i64 ((m+1:Nat):Int))∧Only [] W1 w2)∧Only [] w w':=by
 obtain ⟨T,P,R,hN⟩:=h.prg;have habs:=ch_abs R h.I (hN rfl) (h.t0 rfl);have hld:Calls Tryz.prog 14 #[.string (bs (chT m)),.int .i64 ((300:Nat):Int)] w fun e w'=>LoadR A (bs (chT m)) 300 w w' e:=load_any A w (bs (chT m)) 300 (h.errs hE) (by rw [bs_size];exact chT_len hm) (by decide) (by decide);refine hld.mono fun e w' hh=>?_;obtain ⟨(⟨ur,U,d,r,he,hp,_,hU⟩ | ⟨hno,_⟩),ho⟩:=hh
 · rw [chLoad hm] at hp
   have hUa:absT U=absT T:=hU.abs.trans ((Option.some.inj hp).symm.trans habs.symm);refine ⟨ur,he,fun W1 ho1=>?_,ho⟩;have:=nodes_any W1 ur U (hU.at_.only ho1);rw [count_abs hUa,R.count h.I P.tree,ch_len] at this;exact this
 · exact absurd (by rw [snap_ch habs]) (hno T (by rw [habs];exact chLoad hm))
end
theorem handleInfoD:(Tryz.prog.info? 34).map (fun i=>(i.zero,i.size,i.bytes))=some (some (.agg #[.int .i64 0,.int .i64 0]),2,16):=by kernel_rfl
theorem handlesUndD:Tryz.prog.underlying 35=some (.slice 34):=by kernel_rfl
theorem pair_newsD (w:World)(a:Nat):∀ (j:Nat) (u:Value),(hC2 a)[j]?=some u→(w.alloc (.cells #[.int .i64 (a:Nat),.int .i64 0] 34)).cell? ((⟨w.heap.size,0,none⟩:Addr).add j)=some u:=by
 intro j u hu;have hh:=heap_alloc_last w (.cells #[.int .i64 (a:Nat),.int .i64 0] 34)
 have hadd:(⟨w.heap.size,0,none⟩:Addr).add j=⟨w.heap.size,j,none⟩:=by unfold Addr.add;split<;>simp_all
 rw [hadd,cell_of_row _ _ _ _ _ _ hh]
 simpa [hC2] using hu
theorem Deep.appended {W w w':World}{tr m j g cp cap:Nat}{ad:Option Addr}{c:Int}{t:Nat→Nat}{o:Obj}(h:Deep W w tr (.slice ad j cap) m c j t)(hown:w'.ownsRow W.heap.size 34 2 (.slice (some ⟨g,0,none⟩) (j+1) cp) (j+1) (rowOf hC2 (List.range j)++hC2 j))(hgr:(w.alloc o).grownBy w' (Value.slice ad j cap).ownBlock):Deep W w' tr (.slice (some ⟨g,0,none⟩) (j+1) cp) m c (j+1) t∧Only (Value.slice ad j cap).ownBlock.toList w w':=by
 have ho:Only (Value.slice ad j cap).ownBlock.toList w w':=((Only.refl _ w).alloc o).grown hgr (fun k hk=>Or.inl (by rw [hk];simp));obtain ⟨T,P,R,hN⟩:=h.prg;have hb:∀ k∈(Value.slice ad j cap).ownBlock.toList,W.heap.size≤k∧∃ cs,w.heap[k]?=some (.cells cs 34 (0,0)):=fun k hk=>h.way.block (by simpa using hk);refine ⟨⟨⟨T,P.hands ho (fun k hk=>Or.inl (by obtain ⟨_,cs,hc⟩:=hb k hk;exact ⟨cs,_,hc⟩)),R,hN⟩,h.I,h.t0,h.t1,?_,h.below.trans (ho.to_below h.below.size (fun k hk=>(hb k hk).1))⟩,ho⟩;unfold Ways;rw [List.range_succ,rowOf_append,rowOf_single];exact hown
theorem Deep.boxed {W w w':World}{tr m j b i k:Nat}{v:Value}{c:Int}{t:Nat→Nat}(h:Deep W w tr v m c j t)(hb:HBox w b i k)(hW:W.heap.size≤b)(hv:v.ownBlock≠some b)(ho:Only [b] w w'):Deep W w' tr v m c j t:=by
 obtain ⟨T,P,R,hN⟩:=h.prg;refine ⟨⟨T,P.hands ho (fun q hq=>Or.inl (by rw [List.mem_singleton.1 hq];exact ⟨_,_,hb⟩)),R,hN⟩,h.I,h.t0,h.t1,h.way.only ho (fun q hq hm=>hv (by rw [← List.mem_singleton.1 hm];exact hq)),h.below.trans (ho.to_below h.below.size (fun q hq=>by rw [List.mem_singleton.1 hq];exact hW))⟩
theorem Deep.start {W w1 w2 w3:World}{tr:Nat}{T:Tr}(hb:Below W.heap.size W w1)(P:Prg w1.heap.size w2 tr T)(R:Rep T (D0 300))(ho:Only [] w1 w2)(hN:T.p.N=1)(o3:Only [] w2 w3):Deep W w3 tr (.slice none 0 0) 0 0 0 (setN (fun _=>0) 0 1):=by
 refine Deep.only ⟨⟨T,⟨P.tree,fun k hk=>Nat.le_trans hb.size (P.low k hk),P.trt,Nat.le_trans hb.size P.lo⟩,R,fun _=>hN⟩,D0_inv (by decide) (by decide),fun _ i hi=>setN_other _ _ (by omega),fun i=>?_,World.ownsRow_nil _ _ _ _,hb.trans (ho.to_below hb.size (fun k hk=>by cases hk))⟩ o3
 by_cases e:i=0
 · rw [e,setN_same];exact Nat.le_refl _
 · rw [setN_other _ _ e];exact Nat.zero_le _
theorem deep_walk (N:Nat)(A:Nat→Addr)(w:World)(hE:Errs w A)(hN:N≤310):Calls Tryz.prog 5 #[.int .i64 (N:Nat)] w fun e w'=>e = .returned (.bool true)∧Below w.heap.size w w':=by
 have hroot:=rooted_any A w hE;have HE:Hid (Errs w A):=hE;have d1:decide ((N:Int) < 0)=false:=decide_eq_false (by omega);have d2:decide ((310:Int) < (N:Int))=false:=decide_eq_false (by omega);clear hE
 go_enter Tryz.func5,Tryz.ntmps5
 go_wp2_with (first
  | (go_at_call 6;refine hroot.mono ?_;rintro e w1 ⟨rfl,hb1⟩;have HB1:Hid (Below w.heap.size w w1):=hb1;have hnew:Calls Tryz.prog 8 #[.int .i64 300] w1 fun e w'=>∃ tr,e = .returned (.tuple #[.pointer (some ⟨tr,0,none⟩),.nilIface])∧∃ T,Prg w1.heap.size w' tr T∧Rep T (D0 300)∧Only [] w1 w'∧T.p.N=1:=new_treeN w1 300 (by decide) (by decide);clear hroot hb1)
  | (go_at_call 8;refine hnew.mono ?_;rintro e w2 ⟨tr,rfl,T,hP,hR,ho2,hTN⟩;have HST:Hid (∀ W,Only [] w2 W→Deep w W tr (.slice none 0 0) 0 0 0 (setN (fun _=>0) 0 1)):=fun W ho=>Deep.start HB1.out hP hR ho2 hTN ho;have hrt:=root_any w2 (.pointer (some ⟨tr,0,none⟩));clear hnew hP hR ho2 hTN)
  | (go_at_call 18;refine hrt.mono ?_;rintro e w3 ⟨rfl,o3⟩;have HD3:Hid (Deep w (w3.alloc (.cells #[.int .i64 0,.int .i64 0] 34)) tr (.slice none 0 0) 0 0 0 (setN (fun _=>0) 0 1)):=HST.out _ (o3.alloc _);have HX3:Hid (HBox (w3.alloc (.cells #[.int .i64 0,.int .i64 0] 34)) w3.heap.size 0 0):=heap_alloc_last w3 _;have HG3:Hid (w.heap.size≤w3.heap.size):=(HST.out _ o3).below.size;clear hrt o3)
  | go_in)
 clear HST HB1 d1 d2;generalize w3.alloc (.cells #[.int .i64 0,.int .i64 0] 34)=w4 at HD3 HX3 ⊢;generalize w3.heap.size=b at HX3 HG3 ⊢
 go_loopw [7,8] (fun gv i wr=>∃ (j:Nat) (ad:Option Addr) (cap:Nat) (t:Nat→Nat),j≤N∧j≤299∧i = .int .i64 (j:Nat)∧gv = .slice ad j cap∧Deep w wr tr (.slice ad j cap) j 0 j t∧HBox wr b j 0∧(Value.slice ad j cap).ownBlock≠some b) (fun _ i _=>N - (intOf i).toNat)
 case atStart=>exact ⟨0,none,0,_,Nat.zero_le _,by decide,rfl,rfl,HD3.out,HX3.out,by simp [Value.ownBlock]⟩
 case round =>
  obtain ⟨j,ad,cap,t,hj,hj9,rfl,rfl,hD,hX,hne⟩:=hrel;have HD:Hid (Deep w wr tr (.slice ad j cap) j 0 j t):=hD;have HX:Hid (HBox wr b j 0):=hX;have HNE:Hid ((Value.slice ad j cap).ownBlock≠some b):=hne;clear HD3 HX3 hD hX hne;obtain ⟨b0,b1'⟩:=HX.out.cells;have b1:wr.cell? ⟨b,1,none⟩=some (.int .i64 0):=b1';clear b1'
  by_cases hlt:j < N
  · have hl:decide ((j:Int) < (N:Int))=true:=decide_eq_true (by omega)
    obtain ⟨i0,hi0,hz⟩:=Option.map_eq_some_iff.1 handleInfoD;simp only [Prod.mk.injEq] at hz;obtain ⟨hz0,hz1,hz2⟩:=hz
    go_upto_region 13 with (first
      | (at_builtin;refine wpList_append_lies _ rfl (.tmp 42) (.tmp 44) 35 rfl w.heap.size 34 i0 _ 2 16 handlesUndD hi0 hz0 hz1 hz2 rfl (by decide) _ j (rowOf hC2 (List.range j)) rfl (World.ownsRow.alloc HD.out.way _) ⟨wr.heap.size,0,none⟩ 1 1 (hC2 j) rfl rfl (pair_newsD wr _) (hC2_one _) (by decide) (by unfold maxLen;omega) (by omega) (Nat.le_trans HD.out.below.size (by simp)) _ rfl ?_;intro gl cp w5 hown5 hgr5 hat5 hlt5;obtain ⟨hD5,ho5⟩:=HD.out.appended hown5 hgr5;have HD5:Hid (Deep w w5 tr (.slice (some ⟨gl,0,none⟩) (j+1) cp) j 0 (j+1) t):=hD5;have HX5:Hid (HBox w5 b j 0):=HX.out.kept ho5 (fun hm=>HNE.out (by simpa using hm));have HG5:Hid (gl≠b):=(show gl≠b from by rcases hat5 with e | e;(exact fun e2=>HNE.out (e2 ▸ e));(have:=HX.out.lt;rw [World.size_alloc] at e;omega));clear hown5 hgr5 hat5 hlt5 hD5 ho5 b0 b1)
      | go_in)
    obtain ⟨b0,b1'⟩:=HX5.out.cells;have b1:w5.cell? ⟨b,1,none⟩=some (.int .i64 0):=b1';clear b1' HD HX HNE
    by_cases hfull:j=299
    · subst hfull
      have HFU:Hid (Calls Tryz.prog 19 #[.pointer (some ⟨tr,0,none⟩),.agg #[.int .i64 ((299:Nat):Int),.int .i64 0],.string { data:=#[100] },.int .i64 2] w5 fun e w'=>e = .returned (.tuple #[.agg #[.int .i64 0,.int .i64 0],.iface 300 (.pointer (some (A 8)))])∧Below w.heap.size w w'∧∀ W1,Only [] w' W1→Calls Tryz.prog 17 #[.pointer (some ⟨tr,0,none⟩)] W1 fun e w2=>e = .returned (.int .i64 300)∧Only [] W1 w2):=HD5.out.full HE.out rfl;have hmk:=HFU.out;have HEB:Hid (∀ W,Below w.heap.size w W→Errs W A):=fun W hb=>HE.out.below hb (Nat.le_refl _)
      go_wp2_with (first
       |  (go_at_call 19;refine hmk.mono ?_;rintro e w6 ⟨rfl,hb6,hn6⟩;have HB6:Hid (Below w.heap.size w (w6.alloc (.cells #[.int .i64 0,.int .i64 0] 34))):=hb6.trans (((Only.refl [] w6).alloc _).to_below hb6.size (fun k hk=>by cases hk));have HN6:Hid (∀ W1,Only [] (w6.alloc (.cells #[.int .i64 0,.int .i64 0] 34)) W1→Calls Tryz.prog 17 #[.pointer (some ⟨tr,0,none⟩)] W1 fun e w2=>e = .returned (.int .i64 300)∧Only [] W1 w2):=fun W1 ho=>hn6 W1 (((Only.refl [] w6).alloc _).trans ho (fun _ hk=>by cases hk));have hcd:=coded_err A 8 (by decide) _ (HEB.out _ HB6.out);clear hmk hb6 hn6 b0 b1)
       |  (go_at_call 16;refine hcd.mono ?_;rintro e w7 ⟨rfl,hb7⟩;have HB7:Hid (Below w.heap.size w w7):=HB6.out.trans (hb7.mono HB6.out.size);have hnd:=HN6.out w7 (Only.of_below hb7 []);clear hcd hb7)
       |  (go_at_call 17;refine hnd.mono ?_;rintro e w8 ⟨rfl,o8⟩;have HB8:Hid (Below w.heap.size w w8):=HB7.out.trans (o8.to_below HB7.out.size (fun k hk=>by cases hk));clear hnd o8)
       | go_in)
      go_ret
      exact ⟨rfl,HB8.out⟩
    · have h99:j < 299:=by omega
      have hge:decide ((300:Int)≤(j:Int)+1)=false:=decide_eq_false (by omega);have HMK:Hid (Calls Tryz.prog 19 #[.pointer (some ⟨tr,0,none⟩),.agg #[.int .i64 (j:Nat),.int .i64 0],.string { data:=#[100] },.int .i64 2] w5 fun e w'=>e = .returned (.tuple #[.agg #[.int .i64 ((j+1:Nat):Int),.int .i64 0],.nilIface])∧Deep w w' tr (.slice (some ⟨gl,0,none⟩) (j+1) cp) (j+1) 0 (j+1) (setN t (j+1) 1)∧TreeW w.heap.size w5 w'):=HD5.out.make HE.out (by omega);have hmk:=HMK.out;have hnq:decide (¬ ((j:Int)+2=(j:Int)+2))=false:=decide_eq_false (by omega)
      go_wp2_with (first
       |  (go_at_call 19;refine hmk.mono ?_;rintro e w6 ⟨rfl,hD6,hW6⟩;have HD6:Hid (Deep w (w6.alloc (.cells #[.int .i64 ((j+1:Nat):Int),.int .i64 0] 34)) tr (.slice (some ⟨gl,0,none⟩) (j+1) cp) (j+1) 0 (j+1) (setN t (j+1) 1)):=hD6.only ((Only.refl [] w6).alloc _);have HX6:Hid (HBox (w6.alloc (.cells #[.int .i64 ((j+1:Nat):Int),.int .i64 0] 34)) b j 0∧b < w6.heap.size):=⟨(HX5.out.tree hW6).kept ((Only.refl [] w6).alloc _) (by simp),(HX5.out.tree hW6).lt⟩;have HY6:Hid (HBox (w6.alloc (.cells #[.int .i64 ((j+1:Nat):Int),.int .i64 0] 34)) w6.heap.size (j+1) 0):=heap_alloc_last w6 _;have hnd:Calls Tryz.prog 17 #[.pointer (some ⟨tr,0,none⟩)] (w6.alloc (.cells #[.int .i64 ((j+1:Nat):Int),.int .i64 0] 34)) fun e w'=>e = .returned (.int .i64 ((j:Int)+2))∧Only [] (w6.alloc (.cells #[.int .i64 ((j+1:Nat):Int),.int .i64 0] 34)) w':=(by have:=HD6.out.nodes;rw [show ((j+1+1:Nat):Int)=(j:Int)+2 by omega] at this;exact this);clear hmk hD6 hW6 b0 b1)
       |  (go_at_call 17;refine hnd.mono ?_;rintro e w7 ⟨rfl,o7⟩;have HD7:Hid (Deep w w7 tr (.slice (some ⟨gl,0,none⟩) (j+1) cp) (j+1) 0 (j+1) (setN t (j+1) 1)):=HD6.out.only o7;have HX7:Hid (HBox w7 b j 0):=HX6.out.1.kept o7 (by simp);have HY7:Hid (HBox w7 w6.heap.size (j+1) 0):=HY6.out.kept o7 (by simp);have f0:=HX7.out.frozen 0;have f1:=HX7.out.frozen 1;have hbl:=HX7.out.lt;obtain ⟨x0,x1⟩:=HX7.out.cells;have y0:w7.cell? ⟨w6.heap.size,0,none⟩=some (.int .i64 ((j+1:Nat):Int)):=HY7.out.cells.1;have y1:w7.cell? ⟨w6.heap.size,1,none⟩=some (.int .i64 0):=HY7.out.cells.2;have hnb:=HX6.out.2;clear hnd o7)
       | go_in)
      go_roundw
      case rel =>
       have hof:Only [b] w7 ((w7.setCell ⟨b,0,none⟩ (.int .i64 ((j+1:Nat):Int))).setCell ⟨b,1,none⟩ (.int .i64 0)):=((Only.refl [b] w7).setCell (p:=⟨b,0,none⟩) (Or.inl (by simp)) _).setCell (p:=⟨b,1,none⟩) (Or.inl (by simp)) _;exact ⟨j+1,some ⟨gl,0,none⟩,cp,_,by omega,by omega,by go_num,rfl,HD7.out.boxed HX7.out HG3.out (by simpa [Value.ownBlock] using HG5.out) hof,HX7.out.fill (j+1) 0,by simpa [Value.ownBlock] using HG5.out⟩
      case measure=>simp [intOf];omega
  · obtain rfl:N=j:=by omega
    have hl:decide ((N:Int) < (N:Int))=false:=decide_eq_false (by omega);have HSN:Hid (Calls Tryz.prog 11 #[.pointer (some ⟨tr,0,none⟩)] wr fun e w'=>e = .returned (.string (bs (chT N)))∧Only [] wr w'):=HD.out.snap HE.out
    have HLD:Hid (∀ W,Only [] wr W→Calls Tryz.prog 14 #[.string (bs (chT N)),.int .i64 300] W fun e w'=>∃ ur,e = .returned (.tuple #[.pointer (some ⟨ur,0,none⟩),.nilIface])∧(∀ W1,Only [] w' W1→Calls Tryz.prog 17 #[.pointer (some ⟨ur,0,none⟩)] W1 fun e w2=>e = .returned (.int .i64 ((N:Int)+1))∧Only [] W1 w2)∧Only [] W w'):=fun W ho=>by
      have:=(HD.out.only ho).load HE.out hj9;rw [show ((N+1:Nat):Int)=(N:Int)+1 by omega] at this;exact this
    have hnq:decide (¬ ((N:Int)+1=(N:Int)+1))=false:=decide_eq_false (by omega);have hsn:=HSN.out;generalize bs (chT N)=s at hsn HLD;clear HSN b0 b1
    go_wp2_with (first
      | (go_at_call 11;refine hsn.mono ?_;rintro e w5 ⟨rfl,o5⟩;have HO5:Hid (Only [] wr w5):=o5;have hld:=HLD.out w5 o5;clear hsn o5)
      | (go_at_call 14;refine hld.mono ?_;rintro e w6 ⟨ur,rfl,hn6,o6⟩;have HO6:Hid (Only [] wr w6):=HO5.out.trans o6 (fun _ hk=>by cases hk);have hnd:=hn6 w6 (Only.refl _ _);clear hld o6 hn6)
      | (go_at_call 17;refine hnd.mono ?_;rintro e w7 ⟨rfl,o7⟩;have HD7:Hid (Deep w w7 tr (.slice ad N cap) N 0 N t):=HD.out.only (HO6.out.trans o7 (fun _ hk=>by cases hk));clear hnd o7)
      | go_in)
    clear HO5 HO6 HLD HD HX HNE
    go_loopw [12] (fun k wx=>∃ (m:Nat) (c:Int),k = .int .i64 ((m:Int) - 1)∧m≤N∧(c=0∨c=2)∧Deep w wx tr (.slice ad N cap) m c N t) (fun k _=>(intOf k+1).toNat)
    case atStart=>exact ⟨N,0,rfl,Nat.le_refl _,Or.inl rfl,HD7.out⟩
    case round =>
      obtain ⟨m,c,rfl,hm,hc,hDm⟩:=hrel;have HDm:Hid (Deep w wr tr (.slice ad N cap) m c N t):=hDm;clear HD7 hDm
      cases m with
      | zero =>
       have hg:decide ((0:Int)≤((0:Nat):Int) - 1)=false:=by decide
       have hnd:Calls Tryz.prog 17 #[.pointer (some ⟨tr,0,none⟩)] wr fun e w'=>e = .returned (.int .i64 1)∧Only [] wr w':=HDm.out.nodes
       go_wp2_with (first
          | (go_at_call 17;refine hnd.mono ?_;rintro e w8 ⟨rfl,o8⟩;have HB8:Hid (Below w.heap.size w w8):=(HDm.out.only o8).below;clear hnd o8)
          | go_in)
       go_ret
       exact ⟨rfl,HB8.out⟩
      | succ q =>
       obtain ⟨ad',cap',he,hgo⟩:=HDm.out.way.form
       obtain ⟨g,rfl⟩:∃ g,ad=some ⟨g,0,none⟩:=by
          cases he
          exact hgo (by omega)
       obtain ⟨c0,c1⟩:=Ways.cells HDm.out.way (show q < N by omega);have hrm:Calls Tryz.prog 20 #[.pointer (some ⟨tr,0,none⟩),.agg #[.int .i64 (q:Nat),.int .i64 0],.string { data:=#[100] }] wr fun e w'=>e = .returned .nilIface∧Deep w w' tr (.slice (some ⟨g,0,none⟩) N cap) q 2 N t:=HDm.out.remove hc HE.out;rw [show ((q+1:Nat):Int) - 1=(q:Int) by omega] at *;have hg:decide ((0:Int)≤(q:Int))=true:=decide_eq_true (by omega);clear he hgo
       go_wp2_with (first
          | (go_at_call 20;refine hrm.mono ?_;rintro e w8 ⟨rfl,hD8⟩;have HD8:Hid (Deep w w8 tr (.slice (some ⟨g,0,none⟩) N cap) q 2 N t):=hD8;clear hrm hD8)
          | go_in)
       go_roundw
       case rel=>exact ⟨q,2,by go_num,by omega,Or.inr rfl,HD8.out⟩
       case measure=>simp [intOf]
theorem deep_out (n:Int)(A:Nat→Addr)(w:World)(hE:Errs w A)(h:n < 0∨310 < n):Calls Tryz.prog 5 #[.int .i64 n] w fun e w'=>e = .returned (.bool true)∧Below w.heap.size w w':=by
 have hroot:=rooted_any A w hE;clear hE
 by_cases h0:n < 0
 · have d1:decide (n < 0)=true:=decide_eq_true h0
   go_enter Tryz.func5,Tryz.ntmps5
   go_wp2_with (go_at_call 6;refine hroot.mono ?_;rintro e w1 ⟨rfl,hb1⟩;have HB:Hid (Below w.heap.size w w1):=hb1;clear hroot hb1)
   go_ret
   exact ⟨rfl,HB.out⟩
 · have d1:decide (n < 0)=false:=decide_eq_false h0
   have d2:decide (310 < n)=true:=decide_eq_true (by omega);clear h
   go_enter Tryz.func5,Tryz.ntmps5
   go_wp2_with (go_at_call 6;refine hroot.mono ?_;rintro e w1 ⟨rfl,hb1⟩;have HB:Hid (Below w.heap.size w w1):=hb1;clear hroot hb1)
   go_ret
   exact ⟨rfl,HB.out⟩
theorem deep_all (n:Int)(A:Nat→Addr)(w:World)(hE:Errs w A):Calls Tryz.prog 5 #[.int .i64 n] w fun e w'=>e = .returned (.bool true)∧Below w.heap.size w w':=by
 by_cases h:n < 0∨310 < n
 · exact deep_out n A w hE h
 · obtain ⟨N,rfl⟩:∃ N:Nat,n=(N:Int):=⟨n.toNat,by omega⟩
   exact deep_walk N A w hE (by omega)
end
end Go.Proofs.YtbdfjbmocifhmaaGreatDoor
