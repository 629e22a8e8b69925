import Derived.Test.YtbdfjbmocifhmaaGreatDoorK8
import Derived.Deep.AppendLies
set_option maxRecDepth 100000
set_option maxHeartbeats 8000000
namespace Go.Proofs.YtbdfjbmocifhmaaGreatDoor
section
open Go Go.RowKit Go.Deep Go.Maps
theorem free_none {N:Nat}{nd:Nat→Option Nod}{r:Int}(hf:∀ j,j < N→(nd j).isSome=true)(hr:leastFree N nd r):r = -1:=by
 rcases hr with ⟨h1,_⟩ | ⟨i,_,hi,hn,_⟩
 · exact h1
 · have:=hf i hi
   rw [hn] at this
   cases this
theorem free_some {most:Nat}{nd:Nat→Option Nod}{r:Int}{i:Nat}(hi:i < most)(hn:nd i=none)(hb:∀ j,j < i→(nd j).isSome=true)(hr:leastFree most nd r):r=(i:Int):=by
 rcases hr with ⟨_,h1⟩ | ⟨j,rfl,hj,hjn,hjb⟩
 · have:=h1 i hi
   rw [hn] at this
   cases this
 · rcases Nat.lt_trichotomy i j with h | h | h
   · have:=hjb i h
     rw [hn] at this
     cases this
   · rw [h]
   · have:=hb j h
     rw [hjn] at this
     cases this
def newNod (b:Nat)(K:Int):Nod:=⟨b,K,0,0,0,0,0,⟨#[]⟩,[],none⟩
def nodeCells (K:Int):Array Value:=#[.int .i64 K,.int .i64 0,.int .i64 0,.int .i64 0,.int .i64 0,.int .i64 0,.int .i64 0,.map none]
theorem newNod_at (w:World)(K:Int):NodAt (w.alloc (.cells (nodeCells K) 205)) (newNod w.heap.size K):=by
 have hh:=heap_alloc_last w (.cells (nodeCells K) 205);refine ⟨cell_of_row _ _ 0 _ _ _ hh,cell_of_row _ _ 1 _ _ _ hh,cell_of_row _ _ 2 _ _ _ hh,cell_of_row _ _ 3 _ _ _ hh,cell_of_row _ _ 4 _ _ _ hh,cell_of_row _ _ 5 _ _ _ hh,cell_of_row _ _ 6 _ _ _ hh,cell_of_row _ _ 7 _ _ _ hh,fun k=>?_,⟨_,_,hh⟩,_,Same.start,rfl⟩;show World.frozen? _ ⟨w.heap.size,k,none⟩=false;unfold World.frozen?;rw [hh];simp
theorem rowOf_single {α:Type}(c:α→List Value)(x:α):rowOf c [x]=c x:=by simp [rowOf]
theorem places_more (N:Nat)(g:Nat→Nat)(nd:Nat→Option Nod):places (N+1) g nd=places N g nd++[(g N,nd N)]:=by simp [places,List.range_succ]
theorem TabAt.more {w w1:World}{t most b cap:Nat}{p:Row}{g:Nat→Nat}{nd:Nat→Option Nod}(h:TabAt w t p most g nd)(ho:Only p.a.toList w w1)(hr:w1.ownsRow 0 196 2 (.slice (some ⟨b,0,none⟩) (p.N+1) cap) (p.N+1) (rowOf placeCells (places p.N g nd)++[.int .i64 0,.pointer none]))
   (hb:p.a=some b∨w.heap.size≤b):TabAt (w1.setCell ⟨t,1,none⟩ (.slice (some ⟨b,0,none⟩) (p.N+1) cap)) t ⟨some b,p.N+1,cap⟩ most g nd∧Only (t::p.a.toList) w (w1.setCell ⟨t,1,none⟩ (.slice (some ⟨b,0,none⟩) (p.N+1) cap)):=by
 have ht:=h.tlt;have htp:t∉p.a.toList:=fun hm=>h.pt (by simpa using hm)
 have hbt:b≠t:=by
   rcases hb with h1 | h1
   · exact fun e=>h.pt (by rw [h1,e])
   · omega
 have o2:Only (t::p.a.toList) w (w1.setCell ⟨t,1,none⟩ (.slice (some ⟨b,0,none⟩) (p.N+1) cap)):=(ho.mono (L':=t::p.a.toList) (fun i hi=>Or.inl (List.mem_cons_of_mem _ hi))).setCell (Or.inl (by simp)) _;have c1:=(ho.cell (p:=⟨t,1,none⟩) ht htp).trans h.tab
 have hfoot:∀ i n,nd i=some n→∀ k∈n.foot,k∉t::p.a.toList:=fun i n hn k hk hm=>by
   obtain ⟨o1,o2⟩:=h.own i n hn;rcases List.mem_cons.1 hm with rfl | hm
   · exact o1 hk
   · exact o2 k (by simpa using hm) hk
 refine ⟨⟨?_,World.cell?_setCell_same _ _ _ c1,fun o=>?_,(h.ty.only ho htp).set _ _,?_,fun i hi=>h.out i (by simp only at hi;omega),by simpa using hbt,fun i n hn=>(h.node i n hn).kept o2 (hfoot i n hn),h.apart,fun i n hn=>⟨(h.own i n hn).1,fun b' hb' hk=>?_⟩⟩,o2⟩
 · rw [World.cell?_setCell_other _ _ _ _ (by simp)]
   exact (ho.cell (p:=⟨t,0,none⟩) ht htp).trans h.most
 · rw [World.frozen?_setCell]
   exact (ho.frozen (p:=⟨t,o,none⟩) ht htp).trans (h.tfz o)
 · rw [places_more,rowOf_append,rowOf_single,(h.out p.N (Nat.le_refl _)).1,(h.out p.N (Nat.le_refl _)).2]
   exact (Only.refl [t] w1).setCell (p:=⟨t,1,none⟩) (Or.inl (by simp)) _ |>.owns hr (fun k hk=>by have e:b=k:=Option.some.inj ((Row.own ⟨some b,p.N+1,cap⟩).symm.trans hk);subst e;simpa using hbt)
 · simp only [Option.some.injEq] at hb'
   subst hb';rcases hb with h1 | h1
   · exact (h.own i n hn).2 b h1 hk
   · have:=(h.node i n hn).foot_lt b hk
     omega
theorem two_news (w:World)(a b:Value)(ty:TypeId):∀ j u,[a,b][j]?=some u→(w.alloc (.cells #[a,b] ty)).cell? ((⟨w.heap.size,0,none⟩:Addr).add j)=some u:=by
 intro j u hu;have hh:=heap_alloc_last w (.cells #[a,b] ty)
 have hadd:(⟨w.heap.size,0,none⟩:Addr).add j=⟨w.heap.size,j,none⟩:=by unfold Addr.add;split<;>simp_all
 rw [hadd,cell_of_row _ _ _ _ _ _ hh]
 simpa using hu
def Roomed (w w':World)(t:Nat)(p p':Row)(i:Nat):Prop:=p'.N=max p.N (i+1)∧Only (t::p.a.toList) w w'∧(p'.a=p.a∨∃ k,p'.a=some k∧w.heap.size≤k)
theorem troom (w:World)(t:Nat)(p:Row)(most i:Nat)(g:Nat→Nat)(nd:Nat→Option Nod)(h:TabAt w t p most g nd)(hm:p.N≤1000)(hn:nd i=none)(hb:∀ j,j < i→(nd j).isSome=true):
   Calls Tryz.prog 126 #[.pointer (some ⟨t,0,none⟩)] w fun e w'=>e = .returned (.int .i64 i)∧∃ p',TabAt w' t p' most g nd∧Roomed w w' t p p' i:=by
 have hle:i≤p.N:=by
   rcases Nat.lt_or_ge p.N i with h1 | h1
   · have:=hb p.N h1
     rw [(h.out p.N (Nat.le_refl _)).2] at this
     cases this
   · exact h1
 have hcall:=indexFree w t p most g nd h hm;have ct:=h.tab;have htl:t < w.heap.size:=h.tlt;have H:Hid (TabAt w t p most g nd):=h;rcases Nat.lt_or_ge i p.N with hi | hi
 · have HB:Hid (∀ r,leastFree p.N nd r→r=(i:Int)):=fun r hr=>free_some hi hn hb hr
   clear h hb hn;generalize p.v=pv at hcall ct
   go_enter Tryz.func126,Tryz.ntmps126
   go_wp2_with (go_at_call 153;go_must (refine hcall.mono ?_);rintro e w2 ⟨⟨r,rfl,hr⟩,ho2⟩;obtain rfl:r=(i:Int):=HB.out r hr;clear hr)
   go_ret
   exact ⟨rfl,p,H.out.kept ho2 (fun _ _=>by simp),by omega,ho2.mono (fun _ hk=>by cases hk),Or.inl rfl⟩
 · obtain rfl:i=p.N:=by omega
   have HB:Hid (∀ r,leastFree p.N nd r→r = -1):=fun r hr=>free_none hb hr;obtain ⟨i0,hi0,hz⟩:=Option.map_eq_some_iff.1 placeInfo;simp only [Prod.mk.injEq] at hz;obtain ⟨hz0,hz1,hz2⟩:=hz;have hv:p.v = .slice (p.a.map (fun b=>⟨b,0,none⟩)) p.N p.cap:=rfl;clear h hb hn hle hi;obtain ⟨ad,had⟩:∃ ad,ad=p.a.map (fun b=>(⟨b,0,none⟩:Addr)):=⟨_,rfl⟩;rw [← had] at hv;rw [hv] at hcall ct;have HV:Hid (p.v = .slice ad p.N p.cap):=hv;clear hv had
   go_enter Tryz.func126,Tryz.ntmps126
   go_wp2_with (first
     | (go_at_call 153;go_must (refine hcall.mono ?_);rintro e w2 ⟨⟨r,rfl,hr⟩,ho2⟩;obtain rfl:r = -1:=HB.out r hr;clear hr;have HT2:Hid (TabAt w2 t p most g nd):=H.out.kept ho2 (fun _ _=>by simp);have ct2:=HT2.out.tab;rw [HV.out] at ct2;have ft2:=HT2.out.tfz;have htl2:=HT2.out.tlt)
     | (at_builtin;go_must (refine wpList_append_lies _ rfl (.tmp 20) (.tmp 22) 138 rfl 0 196 i0 _ 2 16 placesUnd hi0 hz0 hz1 hz2 rfl (by decide) _ p.N (rowOf placeCells (places p.N g nd)) rfl ((show w2.ownsRow 0 196 2 (.slice ad p.N p.cap) p.N (rowOf placeCells (places p.N g nd)) from by have:=HT2.out.row;rw [HV.out] at this;exact this).alloc _) ⟨w2.heap.size,0,none⟩ 1 1 [.int .i64 0,.pointer none] rfl rfl (two_news w2 _ _ _) (by intro u hu;simp at hu;rcases hu with rfl | rfl<;>rfl) (by decide) (by unfold maxLen;omega) (by omega) (Nat.zero_le _) _ rfl ?_);intro gl cp w4 hown4 hgr4 hat4 hlt4;have HO4:Hid (Only p.a.toList w2 w4):=((Only.refl _ w2).alloc _).grown hgr4 (fun k hk=>Or.inl (by have hk2:(Value.slice ad p.N p.cap).ownBlock=some k:=hk;rw [← HV.out,p.own] at hk2;rw [hk2];simp));have htp:t∉p.a.toList:=(fun hm=>H.out.pt (by simpa using hm));have ct4:=(HO4.out.cell (p:=⟨t,1,none⟩) htl2 htp).trans ct2;have ft4:=(HO4.out.frozen (p:=⟨t,1,none⟩) htl2 htp).trans (ft2 1);have HOWN:Hid (w4.ownsRow 0 196 2 (.slice (some ⟨gl,0,none⟩) (p.N+1) cp) (p.N+1) (rowOf placeCells (places p.N g nd)++[.int .i64 0,.pointer none])):=hown4;have HAT:Hid (p.a=some gl∨w2.heap.size≤gl):=(show p.a=some gl∨w2.heap.size≤gl from by have hat5:(Value.slice ad p.N p.cap).ownBlock=some gl∨_:=hat4;rw [← HV.out,p.own] at hat5;rcases hat5 with h | h;exact Or.inl h;exact Or.inr (by rw [h];simp));clear hown4 hgr4 hat4 hlt4)
     | go_in)
   go_ret
   obtain ⟨hT5,ho5⟩:=HT2.out.more HO4.out HOWN.out HAT.out;refine ⟨rfl,_,hT5,by simp,(ho2.mono (L':=t::p.a.toList) (fun _ hk=>by cases hk)).trans ho5 (fun _ hk=>Or.inl hk),?_⟩;rcases HAT.out with h | h
   · exact Or.inl h.symm
   · exact Or.inr ⟨gl,rfl,Nat.le_trans ho2.size h⟩
theorem added {w:World}{t most i b B:Nat}{p:Row}{g:Nat→Nat}{nd:Nat→Option Nod}{K x y:Int}(h:TabAt w t p most g nd)(hb:p.a=some b)(hi:i < p.N)(hB:¬ InFoot t p most nd B)(hBl:B < w.heap.size):
   TabAt ((((w.setCell ⟨b,i*2+1,none⟩ (.pointer (some ⟨w.heap.size,0,none⟩))).setCell ⟨B,0,none⟩ (.int .i64 x)).setCell ⟨B,1,none⟩ (.int .i64 y)).alloc (.cells (nodeCells K) 205)) t p most g (setN nd i (some (newNod w.heap.size K))) ∧
   Only [b,B] w ((((w.setCell ⟨b,i*2+1,none⟩ (.pointer (some ⟨w.heap.size,0,none⟩))).setCell ⟨B,0,none⟩ (.int .i64 x)).setCell ⟨B,1,none⟩ (.int .i64 y)).alloc (.cells (nodeCells K) 205)):=by
 have hbl:=h.plt hb;have hBt:t≠B:=fun e=>hB (Or.inl e.symm);have hBb:b≠B:=fun e=>hB (Or.inr (Or.inl (by rw [hb,e])))
 have e:((((w.setCell ⟨b,i*2+1,none⟩ (.pointer (some ⟨w.heap.size,0,none⟩))).setCell ⟨B,0,none⟩ (.int .i64 x)).setCell ⟨B,1,none⟩ (.int .i64 y)).alloc (.cells (nodeCells K) 205))=((((w.alloc (.cells (nodeCells K) 205)).setCell ⟨b,i*2+1,none⟩ (.pointer (some ⟨w.heap.size,0,none⟩))).setCell ⟨B,0,none⟩ (.int .i64 x)).setCell ⟨B,1,none⟩ (.int .i64 y)):=by
   rw [World.setCell_alloc_past (w:=w) _ b _ _ hbl,World.setCell_alloc_past (w:=w.setCell _ _) _ B _ _ (by simpa using hBl),World.setCell_alloc_past (w:=(w.setCell _ _).setCell _ _) _ B _ _ (by simpa using hBl)]
 rw [e];clear e;have hal:Only [] w (w.alloc (.cells (nodeCells K) 205)):=(Only.refl _ _).alloc _;have hrow:=(h.kept hal (fun _ _=>by simp)).row;have cn:=newNod_at w K;generalize w.alloc (.cells (nodeCells K) 205)=wa at hal hrow cn ⊢;have o1:Only [b] w (wa.setCell ⟨b,i*2+1,none⟩ (.pointer (some ⟨w.heap.size,0,none⟩))):=(hal.mono (L':=[b]) (by simp)).setCell (Or.inl (by simp)) _
 have hT1:TabAt (wa.setCell ⟨b,i*2+1,none⟩ (.pointer (some ⟨w.heap.size,0,none⟩))) t p most g (setN nd i (some (newNod w.heap.size K))):=by
   refine h.place (i:=i) hb hi o1 ?_ (fun _ _=>rfl) (fun j hj=>setN_other _ _ hj) ?_
   · have hv:p.v = .slice (some ⟨b,0,none⟩) p.N p.cap:=by simp [Row.v,hb]
     rw [hv] at hrow ⊢;have:=(hrow.stored (i*2+1) (.pointer (some ⟨w.heap.size,0,none⟩))).1;rw [rowOf_set placeCells_len (places p.N g nd) i 1 (g i,nd i) (g i,setN nd i (some (newNod w.heap.size K)) i) _ (by decide) (places_get g nd hi) (by simp [placeCells,setN_same,newNod])] at this;exact this
   · intro n hn
     rw [setN_same] at hn
     cases hn
     have hfoot:∀ k,k∈(newNod w.heap.size K).foot→k=w.heap.size:=fun k hk=>by simpa [newNod,Nod.foot,footD] using hk
     refine ⟨cn.kept ((Only.refl [b] wa).setCell (Or.inl (by simp)) _) (fun k hk hm=>?_),fun k hk=>by have:=hfoot k hk;omega⟩;have:=hfoot k hk;simp at hm;omega
 have o2:Only [B] (wa.setCell ⟨b,i*2+1,none⟩ (.pointer (some ⟨w.heap.size,0,none⟩))) (((wa.setCell ⟨b,i*2+1,none⟩ (.pointer (some ⟨w.heap.size,0,none⟩))).setCell ⟨B,0,none⟩ (.int .i64 x)).setCell ⟨B,1,none⟩ (.int .i64 y)):=((Only.refl [B] _).setCell (Or.inl (by simp)) _).setCell (Or.inl (by simp)) _;refine ⟨hT1.kept o2 (fun k hk hm=>?_),(o1.mono (L':=[b,B]) (fun i hi=>Or.inl (by simp at hi;simp [hi]))).trans o2 (fun i hi=>Or.inl (by simp at hi;simp [hi]))⟩;simp at hm;subst hm;rcases hk with h1 | h1 | ⟨j,n,hn,hk⟩
 · exact hBt h1.symm
 · exact hB (Or.inr (Or.inl h1))
 · by_cases hji:j=i
   · subst hji
     rw [setN_same] at hn
     cases hn
     have:k=w.heap.size:=by simpa [newNod,Nod.foot,footD] using hk
     omega
   · rw [setN_other _ _ hji] at hn
     exact hB (.node hn hk)
theorem own_not_foot {w w2:World}{t most:Nat}{p p':Row}{g:Nat→Nat}{nd:Nat→Option Nod}(h:TabAt w t p most g nd)(hp:p'.a=p.a∨∃ k,p'.a=some k∧w2.heap.size≤k)(hl:w.heap.size < w2.heap.size):¬ InFoot t p' most nd w.heap.size:=by
 rintro (h1 | h1 | ⟨j,n,hn,hk⟩)
 · have:=h.tlt;omega
 · rcases hp with h2 | ⟨k,h2,h3⟩
   · have:=h.plt (h2.symm.trans h1);omega
   · rw [h2] at h1;cases h1;omega
 · have:=(h.node j n hn).foot_lt _ hk;omega
def AddedAt (w w':World)(t:Nat)(p:Row)(most i:Nat)(g:Nat→Nat)(nd:Nat→Option Nod)(K:Int):Prop:=∃ p' b,TabAt w' t p' most g (setN nd i (some (newNod b K)))∧Roomed w w' t p p' i∧w.heap.size≤b
theorem tadd_ok (w:World)(t:Nat)(p:Row)(most i:Nat)(g:Nat→Nat)(nd:Nat→Option Nod)(K:Int)(h:TabAt w t p most g nd)(hm:p.N≤1000)(hK:K=1∨K=2)(hc:countTo nd p.N < most)(hn:nd i=none)(hb:∀ j,j < i→(nd j).isSome=true):
  Calls Tryz.prog 73 #[.pointer (some ⟨t,0,none⟩),.int .i64 K] w fun e w'=>e = .returned (.tuple #[.agg #[.int .i64 i,.int .i64 (g i:Nat)],.nilIface])∧AddedAt w w' t p most i g nd K:=by
 have htl:t < w.heap.size:=h.tlt;have hal:Only [] w (w.alloc (.cells #[.int .i64 0,.int .i64 0] 34)).drew:=((Only.refl _ _).alloc _).drew;have hcall:=tcount _ t p most g nd (h.kept hal (fun _ _=>by simp)) hm;have HR:Hid (∀ w2,Only [] w w2→_):=fun w2 (ho:Only [] w w2)=>troom w2 t p most i g nd (h.kept ho (fun _ _=>by simp)) hm hn hb;have H:Hid (TabAt w t p most g nd):=h;have HA:Hid (Only [] w (w.alloc (.cells #[.int .i64 0,.int .i64 0] 34)).drew):=hal;have hS0:=(hal.cell (p:=⟨t,0,none⟩) htl (by simp)).trans h.most;have hle:=countTo_le nd p.N;generalize countTo nd p.N=cn at hcall hc hle;clear h hn hb hal;rcases hK with rfl | rfl
 all_goals go_enter Tryz.func73,Tryz.ntmps73
 all_goals go_wp2
 all_goals go_region_held3 (fun W=>W.cell? ⟨t,0,none⟩=some (.int .i64 most)) (first | exact hS0 | exact hS2)
  (first | (go_at_call 64;refine hcall.mono ?_;rintro e w2 ⟨rfl,ho2⟩;have HO:Hid (Only [] w w2):=HA.out.trans ho2 (fun _ hk=>by cases hk);have hS2:=(H.out.kept HO.out (fun _ _=>by simp)).most;obtain ⟨r0,r1,f0,hl0⟩:=own_pair ho2.of_drew))
 all_goals have hroom:=HR.out w2 HO.out
 all_goals have hpw:∀ q,p.a=some q→q < w.heap.size:=fun q hq=>H.out.plt hq
 all_goals have HPW:Hid (∀ q,p.a=some q→q < w.heap.size):=hpw
 all_goals clear hpw hS0 hS2 hcall
 all_goals go_wp2_with (go_at_call 126;go_must (refine hroom.mono ?_);rintro e w3 ⟨rfl,p',hT3,hN3,ho3,hp3⟩;obtain ⟨b,hb,c0,c1,fb,hbl⟩:=hT3.place_at (i:=i) (by omega);have ct3:=hT3.tab;rw [show p'.v = .slice (some ⟨b,0,none⟩) p'.N p'.cap by simp [Row.v,hb]] at ct3;have hnB:w.heap.size∉t::p.a.toList:=(fun hm=>by rcases List.mem_cons.1 hm with h | h;omega;have:=HPW.out w.heap.size (by simpa using h);omega);have r3:=(ho3.cell (p:=⟨w.heap.size,0,none⟩) hl0 hnB).trans r0;have r4:=(ho3.cell (p:=⟨w.heap.size,1,none⟩) hl0 hnB).trans r1;have f3:∀ o,w3.frozen? ⟨w.heap.size,o,none⟩=false:=(fun o=>(ho3.frozen (p:=⟨w.heap.size,o,none⟩) hl0 hnB).trans (f0 o));have hl3:w.heap.size < w3.heap.size:=Nat.lt_of_lt_of_le hl0 ho3.size;have hi3:i < p'.N:=(by omega);have hbt:b≠t:=(fun e=>hT3.pt (by rw [hb,e]));have htl3:=hT3.tlt;have HT3:Hid (TabAt w3 t p' most g nd):=hT3;have HN3:Hid (p'.N=max p.N (i+1)):=hN3;have HO3:Hid (Only (t::p.a.toList) w2 w3):=ho3;have HP3:Hid (p'.a=p.a∨∃ k,p'.a=some k∧w2.heap.size≤k):=hp3;have HB:Hid (p'.a=some b):=hb;have hbB:b≠w.heap.size:=(fun e=>by rcases hp3 with h | ⟨k,h,hk⟩;have:=HPW.out b (by rw [← h];exact hb);omega;rw [h] at hb;cases hb;omega);clear hT3 hN3 ho3 hp3 hb hroom r0 r1 f0)
 all_goals have hnF:¬ InFoot t p' most nd w.heap.size:=own_not_foot H.out HP3.out hl0
 all_goals refine bodyPost_ret (v := .tuple #[.agg #[.int .i64 i,.int .i64 (g i:Nat)],.nilIface]) (by simp [results,Tryz.results73,go_sem,r3,r4,hl3]) rfl ⟨rfl,p',w3.heap.size,(added HT3.out HB.out hi3 hnF hl3).1,⟨HN3.out,?_,?_⟩,by omega⟩
 all_goals first
  | (refine ((HO.out.mono (L':=t::p.a.toList) (fun _ hk=>by cases hk)).trans HO3.out (fun _ hk=>Or.inl hk)).trans (added HT3.out HB.out hi3 hnF hl3).2 (fun k hk=>?_)
     simp only [List.mem_cons,List.not_mem_nil,or_false] at hk;rcases hk with rfl | rfl
     · rcases HP3.out with h | ⟨q,h,hq⟩
       · exact Or.inl (List.mem_cons_of_mem _ (by rw [← h,HB.out];simp))
       · rw [HB.out] at h;cases h;exact Or.inr (Nat.le_trans HO.out.size hq)
     · exact Or.inr (Nat.le_refl _))
  | (rcases HP3.out with h | ⟨q,h,hq⟩
     · exact Or.inl h
     · exact Or.inr ⟨q,h,Nat.le_trans HO.out.size hq⟩)
end
end Go.Proofs.YtbdfjbmocifhmaaGreatDoor
