import Derived.Test.YtbdfjbmocifhmaaGreatDoorK6
import Derived.Deep.AppendLies
set_option maxRecDepth 100000
set_option maxHeartbeats 8000000
namespace Go.Proofs.YtbdfjbmocifhmaaGreatDoor
section
open Go Go.RowKit Go.Deep Go.Maps
theorem free_none {N:Nat}{nd:Nat→Option Nod}{r:Int}(hf:∀ j,j < N→(nd j).isSome=true)(hr:leastFree N nd r):r = -1:=by
 rcases hr with ⟨h1,_⟩ | ⟨i,_,hi,hn,_⟩
 · exact h1
 · have:=hf i hi
   rw [hn] at this
   cases this
theorem free_some {most:Nat}{nd:Nat→Option Nod}{r:Int}{i:Nat}(hi:i < most)(hn:nd i=none)(hb:∀ j,j < i→(nd j).isSome=true)(hr:leastFree most nd r):r=(i:Int):=by
 rcases hr with ⟨_,h1⟩ | ⟨j,rfl,hj,hjn,hjb⟩
 · have:=h1 i hi
   rw [hn] at this
   cases this
 · rcases Nat.lt_trichotomy i j with h | h | h
   · have:=hjb i h
     rw [hn] at this
     cases this
   · rw [h]
   · have:=hb j h
     rw [hjn] at this
     cases this
def newNod (b:Nat)(K:Int):Nod:=⟨b,K,0,0,0,0,0,⟨#[]⟩,[],none⟩
def nodeCells (K:Int):Array Value:=#[.int .i64 K,.int .i64 0,.int .i64 0,.int .i64 0,.int .i64 0,.int .i64 0,.int .i64 0,.map none]
theorem newNod_at (w:World)(K:Int):NodAt (w.alloc (.cells (nodeCells K) 205)) (newNod w.heap.size K):=by
 have hh:=heap_alloc_last w (.cells (nodeCells K) 205);refine ⟨cell_of_row _ _ 0 _ _ _ hh,cell_of_row _ _ 1 _ _ _ hh,cell_of_row _ _ 2 _ _ _ hh,cell_of_row _ _ 3 _ _ _ hh,cell_of_row _ _ 4 _ _ _ hh,cell_of_row _ _ 5 _ _ _ hh,cell_of_row _ _ 6 _ _ _ hh,cell_of_row _ _ 7 _ _ _ hh,fun k=>?_,⟨_,_,hh⟩,_,Same.start,rfl⟩;show World.frozen? _ ⟨w.heap.size,k,none⟩=false;unfold World.frozen?;rw [hh];simp
theorem rowOf_single {α:Type}(c:α→List Value)(x:α):rowOf c [x]=c x:=by simp [rowOf]
theorem places_more (N:Nat)(g:Nat→Nat)(nd:Nat→Option Nod):places (N+1) g nd=places N g nd++[(g N,nd N)]:=by simp [places,List.range_succ]
theorem TabAt.more {w w1:World}{t most b cap:Nat}{p:Row}{g:Nat→Nat}{nd:Nat→Option Nod}(h:TabAt w t p most g nd)(ho:Only p.a.toList w w1)(hr:w1.ownsRow 0 196 2 (.slice (some ⟨b,0,none⟩) (p.N+1) cap) (p.N+1) (rowOf placeCells (places p.N g nd)++[.int .i64 0,.pointer none]))
   (hb:p.a=some b∨w.heap.size≤b):TabAt (w1.setCell ⟨t,1,none⟩ (.slice (some ⟨b,0,none⟩) (p.N+1) cap)) t ⟨some b,p.N+1,cap⟩ most g nd∧Only (t::p.a.toList) w (w1.setCell ⟨t,1,none⟩ (.slice (some ⟨b,0,none⟩) (p.N+1) cap)):=by
 have ht:=h.tlt;have htp:t∉p.a.toList:=fun hm=>h.pt (by simpa using hm)
 have hbt:b≠t:=by
   rcases hb with h1 | h1
   · exact fun e=>h.pt (by rw [h1,e])
   · omega
 have o2:Only (t::p.a.toList) w (w1.setCell ⟨t,1,none⟩ (.slice (some ⟨b,0,none⟩) (p.N+1) cap)):=(ho.mono (L':=t::p.a.toList) (fun i hi=>Or.inl (List.mem_cons_of_mem _ hi))).setCell (Or.inl (by simp)) _;have c1:=(ho.cell (p:=⟨t,1,none⟩) ht htp).trans h.tab
 have hfoot:∀ i n,nd i=some n→∀ k∈n.foot,k∉t::p.a.toList:=fun i n hn k hk hm=>by
   obtain ⟨o1,o2⟩:=h.own i n hn;rcases List.mem_cons.1 hm with rfl | hm
   · exact o1 hk
   · exact o2 k (by simpa using hm) hk
 refine ⟨⟨?_,World.cell?_setCell_same _ _ _ c1,fun o=>?_,(h.ty.only ho htp).set _ _,?_,fun i hi=>h.out i (by simp only at hi;omega),by simpa using hbt,fun i n hn=>(h.node i n hn).kept o2 (hfoot i n hn),h.apart,fun i n hn=>⟨(h.own i n hn).1,fun b' hb' hk=>?_⟩⟩,o2⟩
 · rw [World.cell?_setCell_other _ _ _ _ (by simp)]
   exact (ho.cell (p:=⟨t,0,none⟩) ht htp).trans h.most
 · rw [World.frozen?_setCell]
   exact (ho.frozen (p:=⟨t,o,none⟩) ht htp).trans (h.tfz o)
 · rw [places_more,rowOf_append,rowOf_single,(h.out p.N (Nat.le_refl _)).1,(h.out p.N (Nat.le_refl _)).2]
   exact (Only.refl [t] w1).setCell (p:=⟨t,1,none⟩) (Or.inl (by simp)) _ |>.owns hr (fun k hk=>by have e:b=k:=Option.some.inj ((Row.own ⟨some b,p.N+1,cap⟩).symm.trans hk);subst e;simpa using hbt)
 · simp only [Option.some.injEq] at hb'
   subst hb';rcases hb with h1 | h1
   · exact (h.own i n hn).2 b h1 hk
   · have:=(h.node i n hn).foot_lt b hk
     omega
theorem two_news (w:World)(a b:Value)(ty:TypeId):∀ j u,[a,b][j]?=some u→(w.alloc (.cells #[a,b] ty)).cell? ((⟨w.heap.size,0,none⟩:Addr).add j)=some u:=by
 intro j u hu;have hh:=heap_alloc_last w (.cells #[a,b] ty)
 have hadd:(⟨w.heap.size,0,none⟩:Addr).add j=⟨w.heap.size,j,none⟩:=by unfold Addr.add;split<;>simp_all
 rw [hadd,cell_of_row _ _ _ _ _ _ hh]
 simpa using hu
def Roomed (w w':World)(t:Nat)(p p':Row)(i:Nat):Prop:=p'.N=max p.N (i+1)∧Only (t::p.a.toList) w w'∧(p'.a=p.a∨∃ k,p'.a=some k∧w.heap.size≤k)
theorem troom (w:World)(t:Nat)(p:Row)(most i:Nat)(g:Nat→Nat)(nd:Nat→Option Nod)(h:TabAt w t p most g nd)(hm:p.N≤1000)(hn:nd i=none)(hb:∀ j,j < i→(nd j).isSome=true):
   Calls Tryz.prog 126 #[.pointer (some ⟨t,0,none⟩)] w fun e w'=>e = .returned (.int .i64 i)∧∃ p',TabAt w' t p' most g nd∧Roomed w w' t p p' i:=by
 have hle:i≤p.N:=by
   rcases Nat.lt_or_ge p.N i with h1 | h1
   · have:=hb p.N h1
     rw [(h.out p.N (Nat.le_refl _)).2] at this
     cases this
   · exact h1
 have hcall:=indexFree w t p most g nd h hm;have ct:=h.tab;have htl:t < w.heap.size:=h.tlt;have H:Hid (TabAt w t p most g nd):=h;rcases Nat.lt_or_ge i p.N with hi | hi
 · have HB:Hid (∀ r,leastFree p.N nd r→r=(i:Int)):=fun r hr=>free_some hi hn hb hr
   clear h hb hn;generalize p.v=pv at hcall ct
   go_enter Tryz.func126,Tryz.ntmps126
   go_wp2_with (go_at_call 153;go_must (refine hcall.mono ?_);rintro e w2 ⟨⟨r,rfl,hr⟩,ho2⟩;obtain rfl:r=(i:Int):=HB.out r hr;clear hr)
   go_ret
   exact ⟨rfl,p,H.out.kept ho2 (fun _ _=>by simp),by omega,ho2.mono (fun _ hk=>by cases hk),Or.inl rfl⟩
 · obtain rfl:i=p.N:=by omega
   have HB:Hid (∀ r,leastFree p.N nd r→r = -1):=fun r hr=>free_none hb hr;obtain ⟨i0,hi0,hz⟩:=Option.map_eq_some_iff.1 placeInfo;simp only [Prod.mk.injEq] at hz;obtain ⟨hz0,hz1,hz2⟩:=hz;have hv:p.v = .slice (p.a.map (fun b=>⟨b,0,none⟩)) p.N p.cap:=rfl;clear h hb hn hle hi;obtain ⟨ad,had⟩:∃ ad,ad=p.a.map (fun b=>(⟨b,0,none⟩:Addr)):=⟨_,rfl⟩;rw [← had] at hv;rw [hv] at hcall ct;have HV:Hid (p.v = .slice ad p.N p.cap):=hv;clear hv had
   go_enter Tryz.func126,Tryz.ntmps126
   go_wp2_with (first
     | (go_at_call 153;go_must (refine hcall.mono ?_);rintro e w2 ⟨⟨r,rfl,hr⟩,ho2⟩;obtain rfl:r = -1:=HB.out r hr;clear hr;have HT2:Hid (TabAt w2 t p most g nd):=H.out.kept ho2 (fun _ _=>by simp);have ct2:=HT2.out.tab;rw [HV.out] at ct2;have ft2:=HT2.out.tfz;have htl2:=HT2.out.tlt)
     | (at_builtin;go_must (refine wpList_append_lies _ rfl (.tmp 20) (.tmp 22) 138 rfl 0 196 i0 _ 2 16 placesUnd hi0 hz0 hz1 hz2 rfl (by decide) _ p.N (rowOf placeCells (places p.N g nd)) rfl ((show w2.ownsRow 0 196 2 (.slice ad p.N p.cap) p.N (rowOf placeCells (places p.N g nd)) from by have:=HT2.out.row;rw [HV.out] at this;exact this).alloc _) ⟨w2.heap.size,0,none⟩ 1 1 [.int .i64 0,.pointer none] rfl rfl (two_news w2 _ _ _) (by intro u hu;simp at hu;rcases hu with rfl | rfl<;>rfl) (by decide) (by unfold maxLen;omega) (by omega) (Nat.zero_le _) _ rfl ?_);intro gl cp w4 hown4 hgr4 hat4 hlt4;have HO4:Hid (Only p.a.toList w2 w4):=((Only.refl _ w2).alloc _).grown hgr4 (fun k hk=>Or.inl (by have hk2:(Value.slice ad p.N p.cap).ownBlock=some k:=hk;rw [← HV.out,p.own] at hk2;rw [hk2];simp));have htp:t∉p.a.toList:=(fun hm=>H.out.pt (by simpa using hm));have ct4:=(HO4.out.cell (p:=⟨t,1,none⟩) htl2 htp).trans ct2;have ft4:=(HO4.out.frozen (p:=⟨t,1,none⟩) htl2 htp).trans (ft2 1);have HOWN:Hid (w4.ownsRow 0 196 2 (.slice (some ⟨gl,0,none⟩) (p.N+1) cp) (p.N+1) (rowOf placeCells (places p.N g nd)++[.int .i64 0,.pointer none])):=hown4;have HAT:Hid (p.a=some gl∨w2.heap.size≤gl):=(show p.a=some gl∨w2.heap.size≤gl from by have hat5:(Value.slice ad p.N p.cap).ownBlock=some gl∨_:=hat4;rw [← HV.out,p.own] at hat5;rcases hat5 with h | h;exact Or.inl h;exact Or.inr (by rw [h];simp));clear hown4 hgr4 hat4 hlt4)
     | go_in)
   go_ret
   obtain ⟨hT5,ho5⟩:=HT2.out.more HO4.out HOWN.out HAT.out;refine ⟨rfl,_,hT5,by simp,(ho2.mono (L':=t::p.a.toList) (fun _ hk=>by cases hk)).trans ho5 (fun _ hk=>Or.inl hk),?_⟩;rcases HAT.out with h | h
   · exact Or.inl h.symm
   · exact Or.inr ⟨gl,rfl,Nat.le_trans ho2.size h⟩
theorem added {w:World}{t most i b B:Nat}{p:Row}{g:Nat→Nat}{nd:Nat→Option Nod}{K x y:Int}(h:TabAt w t p most g nd)(hb:p.a=some b)(hi:i < p.N)(hB:¬ InFoot t p most nd B)(hBl:B < w.heap.size):
   TabAt ((((w.setCell ⟨b,i*2+1,none⟩ (.pointer (some ⟨w.heap.size,0,none⟩))).setCell ⟨B,0,none⟩ (.int .i64 x)).setCell ⟨B,1,none⟩ (.int .i64 y)).alloc (.cells (nodeCells K) 205)) t p most g (setN nd i (some (newNod w.heap.size K))) ∧
   Only [b,B] w ((((w.setCell ⟨b,i*2+1,none⟩ (.pointer (some ⟨w.heap.size,0,none⟩))).setCell ⟨B,0,none⟩ (.int .i64 x)).setCell ⟨B,1,none⟩ (.int .i64 y)).alloc (.cells (nodeCells K) 205)):=by
 have hbl:=h.plt hb;have hBt:t≠B:=fun e=>hB (Or.inl e.symm);have hBb:b≠B:=fun e=>hB (Or.inr (Or.inl (by rw [hb,e])))
 have e:((((w.setCell ⟨b,i*2+1,none⟩ (.pointer (some ⟨w.heap.size,0,none⟩))).setCell ⟨B,0,none⟩ (.int .i64 x)).setCell ⟨B,1,none⟩ (.int .i64 y)).alloc (.cells (nodeCells K) 205))=((((w.alloc (.cells (nodeCells K) 205)).setCell ⟨b,i*2+1,none⟩ (.pointer (some ⟨w.heap.size,0,none⟩))).setCell ⟨B,0,none⟩ (.int .i64 x)).setCell ⟨B,1,none⟩ (.int .i64 y)):=by
   rw [World.setCell_alloc_past (w:=w) _ b _ _ hbl,World.setCell_alloc_past (w:=w.setCell _ _) _ B _ _ (by simpa using hBl),World.setCell_alloc_past (w:=(w.setCell _ _).setCell _ _) _ B _ _ (by simpa using hBl)]
 rw [e];clear e;have hal:Only [] w (w.alloc (.cells (nodeCells K) 205)):=(Only.refl _ _).alloc _;have hrow:=(h.kept hal (fun _ _=>by simp)).row;have cn:=newNod_at w K;generalize w.alloc (.cells (nodeCells K) 205)=wa at hal hrow cn ⊢;have o1:Only [b] w (wa.setCell ⟨b,i*2+1,none⟩ (.pointer (some ⟨w.heap.size,0,none⟩))):=(hal.mono (L':=[b]) (by simp)).setCell (Or.inl (by simp)) _
 have hT1:TabAt (wa.setCell ⟨b,i*2+1,none⟩ (.pointer (some ⟨w.heap.size,0,none⟩))) t p most g (setN nd i (some (newNod w.heap.size K))):=by
   refine h.place (i:=i) hb hi o1 ?_ (fun _ _=>rfl) (fun j hj=>setN_other _ _ hj) ?_
   · have hv:p.v = .slice (some ⟨b,0,none⟩) p.N p.cap:=by simp [Row.v,hb]
     rw [hv] at hrow ⊢;have:=(hrow.stored (i*2+1) (.pointer (some ⟨w.heap.size,0,none⟩))).1;rw [rowOf_set placeCells_len (places p.N g nd) i 1 (g i,nd i) (g i,setN nd i (some (newNod w.heap.size K)) i) _ (by decide) (places_get g nd hi) (by simp [placeCells,setN_same,newNod])] at this;exact this
   · intro n hn
     rw [setN_same] at hn
     cases hn
     have hfoot:∀ k,k∈(newNod w.heap.size K).foot→k=w.heap.size:=fun k hk=>by simpa [newNod,Nod.foot,footD] using hk
     refine ⟨cn.kept ((Only.refl [b] wa).setCell (Or.inl (by simp)) _) (fun k hk hm=>?_),fun k hk=>by have:=hfoot k hk;omega⟩;have:=hfoot k hk;simp at hm;omega
 have o2:Only [B] (wa.setCell ⟨b,i*2+1,none⟩ (.pointer (some ⟨w.heap.size,0,none⟩))) (((wa.setCell ⟨b,i*2+1,none⟩ (.pointer (some ⟨w.heap.size,0,none⟩))).setCell ⟨B,0,none⟩ (.int .i64 x)).setCell ⟨B,1,none⟩ (.int .i64 y)):=((Only.refl [B] _).setCell (Or.inl (by simp)) _).setCell (Or.inl (by simp)) _;refine ⟨hT1.kept o2 (fun k hk hm=>?_),(o1.mono (L':=[b,B]) (fun i hi=>Or.inl (by simp at hi;simp [hi]))).trans o2 (fun i hi=>Or.inl (by simp at hi;simp [hi]))⟩;simp at hm;subst hm;rcases hk with h1 | h1 | ⟨j,n,hn,hk⟩
 · exact hBt h1.symm
 · exact hB (Or.inr (Or.inl h1))
 · by_cases hji:j=i
   · subst hji
     rw [setN_same] at hn
     cases hn
     have:k=w.heap.size:=by simpa [newNod,Nod.foot,footD] using hk
     omega
   · rw [setN_other _ _ hji] at hn
     exact hB (.node hn hk)
theorem own_not_foot {w w2:World}{t most:Nat}{p p':Row}{g:Nat→Nat}{nd:Nat→Option Nod}(h:TabAt w t p most g nd)(hp:p'.a=p.a∨∃ k,p'.a=some k∧w2.heap.size≤k)(hl:w.heap.size < w2.heap.size):¬ InFoot t p' most nd w.heap.size:=by
 rintro (h1 | h1 | ⟨j,n,hn,hk⟩)
 · have:=h.tlt;omega
 · rcases hp with h2 | ⟨k,h2,h3⟩
   · have:=h.plt (h2.symm.trans h1);omega
   · rw [h2] at h1;cases h1;omega
 · have:=(h.node j n hn).foot_lt _ hk;omega
def AddedAt (w w':World)(t:Nat)(p:Row)(most i:Nat)(g:Nat→Nat)(nd:Nat→Option Nod)(K:Int):Prop:=∃ p' b,TabAt w' t p' most g (setN nd i (some (newNod b K)))∧Roomed w w' t p p' i∧w.heap.size≤b
theorem tadd_ok (w:World)(t:Nat)(p:Row)(most i:Nat)(g:Nat→Nat)(nd:Nat→Option Nod)(K:Int)(h:TabAt w t p most g nd)(hm:p.N≤1000)(hK:K=1∨K=2)(hc:countTo nd p.N < most)(hn:nd i=none)(hb:∀ j,j < i→(nd j).isSome=true):
  Calls Tryz.prog 73 #[.pointer (some ⟨t,0,none⟩),.int .i64 K] w fun e w'=>e = .returned (.tuple #[.agg #[.int .i64 i,.int .i64 (g i:Nat)],.nilIface])∧AddedAt w w' t p most i g nd K:=by
 have htl:t < w.heap.size:=h.tlt;have hal:Only [] w (w.alloc (.cells #[.int .i64 0,.int .i64 0] 34)).drew:=((Only.refl _ _).alloc _).drew;have hcall:=tcount _ t p most g nd (h.kept hal (fun _ _=>by simp)) hm;have HR:Hid (∀ w2,Only [] w w2→_):=fun w2 (ho:Only [] w w2)=>troom w2 t p most i g nd (h.kept ho (fun _ _=>by simp)) hm hn hb;have H:Hid (TabAt w t p most g nd):=h;have HA:Hid (Only [] w (w.alloc (.cells #[.int .i64 0,.int .i64 0] 34)).drew):=hal;have hS0:=(hal.cell (p:=⟨t,0,none⟩) htl (by simp)).trans h.most;have hle:=countTo_le nd p.N;generalize countTo nd p.N=cn at hcall hc hle;clear h hn hb hal;rcases hK with rfl | rfl
 all_goals go_enter Tryz.func73,Tryz.ntmps73
 all_goals go_wp2
 all_goals go_region_held3 (fun W=>W.cell? ⟨t,0,none⟩=some (.int .i64 most)) (first | exact hS0 | exact hS2)
  (first | (go_at_call 64;refine hcall.mono ?_;rintro e w2 ⟨rfl,ho2⟩;have HO:Hid (Only [] w w2):=HA.out.trans ho2 (fun _ hk=>by cases hk);have hS2:=(H.out.kept HO.out (fun _ _=>by simp)).most;obtain ⟨r0,r1,f0,hl0⟩:=own_pair ho2.of_drew))
 all_goals have hroom:=HR.out w2 HO.out
 all_goals have hpw:∀ q,p.a=some q→q < w.heap.size:=fun q hq=>H.out.plt hq
 all_goals have HPW:Hid (∀ q,p.a=some q→q < w.heap.size):=hpw
 all_goals clear hpw hS0 hS2 hcall
 all_goals go_wp2_with (go_at_call 126;go_must (refine hroom.mono ?_);rintro e w3 ⟨rfl,p',hT3,hN3,ho3,hp3⟩;obtain ⟨b,hb,c0,c1,fb,hbl⟩:=hT3.place_at (i:=i) (by omega);have ct3:=hT3.tab;rw [show p'.v = .slice (some ⟨b,0,none⟩) p'.N p'.cap by simp [Row.v,hb]] at ct3;have hnB:w.heap.size∉t::p.a.toList:=(fun hm=>by rcases List.mem_cons.1 hm with h | h;omega;have:=HPW.out w.heap.size (by simpa using h);omega);have r3:=(ho3.cell (p:=⟨w.heap.size,0,none⟩) hl0 hnB).trans r0;have r4:=(ho3.cell (p:=⟨w.heap.size,1,none⟩) hl0 hnB).trans r1;have f3:∀ o,w3.frozen? ⟨w.heap.size,o,none⟩=false:=(fun o=>(ho3.frozen (p:=⟨w.heap.size,o,none⟩) hl0 hnB).trans (f0 o));have hl3:w.heap.size < w3.heap.size:=Nat.lt_of_lt_of_le hl0 ho3.size;have hi3:i < p'.N:=(by omega);have hbt:b≠t:=(fun e=>hT3.pt (by rw [hb,e]));have htl3:=hT3.tlt;have HT3:Hid (TabAt w3 t p' most g nd):=hT3;have HN3:Hid (p'.N=max p.N (i+1)):=hN3;have HO3:Hid (Only (t::p.a.toList) w2 w3):=ho3;have HP3:Hid (p'.a=p.a∨∃ k,p'.a=some k∧w2.heap.size≤k):=hp3;have HB:Hid (p'.a=some b):=hb;have hbB:b≠w.heap.size:=(fun e=>by rcases hp3 with h | ⟨k,h,hk⟩;have:=HPW.out b (by rw [← h];exact hb);omega;rw [h] at hb;cases hb;omega);clear hT3 hN3 ho3 hp3 hb hroom r0 r1 f0)
 all_goals have hnF:¬ InFoot t p' most nd w.heap.size:=own_not_foot H.out HP3.out hl0
 all_goals refine bodyPost_ret (v := .tuple #[.agg #[.int .i64 i,.int .i64 (g i:Nat)],.nilIface]) (by simp [results,Tryz.results73,go_sem,r3,r4,hl3]) rfl ⟨rfl,p',w3.heap.size,(added HT3.out HB.out hi3 hnF hl3).1,⟨HN3.out,?_,?_⟩,by omega⟩
 all_goals first
  | (refine ((HO.out.mono (L':=t::p.a.toList) (fun _ hk=>by cases hk)).trans HO3.out (fun _ hk=>Or.inl hk)).trans (added HT3.out HB.out hi3 hnF hl3).2 (fun k hk=>?_)
     simp only [List.mem_cons,List.not_mem_nil,or_false] at hk;rcases hk with rfl | rfl
     · rcases HP3.out with h | ⟨q,h,hq⟩
       · exact Or.inl (List.mem_cons_of_mem _ (by rw [← h,HB.out];simp))
       · rw [HB.out] at h;cases h;exact Or.inr (Nat.le_trans HO.out.size hq)
     · exact Or.inr (Nat.le_refl _))
  | (rcases HP3.out with h | ⟨q,h,hq⟩
     · exact Or.inl h
     · exact Or.inr ⟨q,h,Nat.le_trans HO.out.size hq⟩)
theorem dsizeO (w:World)(g o:Nat)(S:ByteArray)(H:List Bool)(m:Option Nat)(hD:DataO w g o S H m):
  Calls Tryz.prog 105 #[.pointer (some ⟨g,o,none⟩)] w fun e w'=>e = .returned (.int .i64 (S.size:Nat))∧w=w':=by
 have hc:=hD.size;clear hD
 go_enter Tryz.func105,Tryz.ntmps105
 go_wp2
 go_ret
 exact ⟨rfl,rfl⟩
theorem writeInZO (w:World)(g o b:Nat)(f:Nat→Option (List UInt8))(q:Nat)(s:ByteArray)(hc:w.cell? ⟨g,o+1,none⟩=some (.map (some b)))(hM:MapAt w (some b) f)(hq:q < 4096)(z:Int)(hz:z=(q:Int))(n:Nat)(hn:min s.size (64 - q % 64)=n):
  Calls Tryz.prog 129 #[.pointer (some ⟨g,o,none⟩),.int .i64 z,.string s] w fun e w'=>e = .returned (.int .i64 (n:Int)) ∧
   MapAt w' (some b) (upd f (q / 64) (over ((f (q / 64)).getD zero64) (q % 64) (partS s 0 n)))∧Only [b] w w':=by
 subst hz hn;obtain ⟨D,h1,h2⟩:=hM;exact (writeInO w g o b f D q s hc h1 h2 hq).mono fun e w' ⟨he,ho,hw⟩=>⟨he,ho,hw⟩
structure MidO (w wx:World)(g o b:Nat)(m:Option Nat)(S:ByteArray)(f:Nat→Option (List UInt8)):Prop where
 size:wx.cell? ⟨g,o,none⟩=some (.int .i64 (S.size:Nat))
 map:wx.cell? ⟨g,o+1,none⟩=some (.map (some b))
 fz:∀ k,wx.frozen? ⟨g,k,none⟩=false
 ty:Ty wx g 205
 at_:MapAt wx (some b) f
 only:Only (footD g m) w wx
 mine:b∈footD g m∨w.heap.size≤b
 rest:∀ k,k≠o→k≠o+1→wx.cell? ⟨g,k,none⟩=w.cell? ⟨g,k,none⟩
theorem MidO.step {w wx wy:World}{g o b:Nat}{m:Option Nat}{S:ByteArray}{f f':Nat→Option (List UInt8)}(h:MidO w wx g o b m S f)(ho:Only [b] wx wy)(hm:MapAt wy (some b) f'):MidO w wy g o b m S f':=by
 have hne:b≠g:=by
  obtain ⟨D,h1,_⟩:=h.at_;exact own_ne h1 h.map
 have hg:g < wx.heap.size:=lt_of_cell h.map
 have hn:g∉[b]:=by simpa using Ne.symm hne
 exact ⟨(ho.cell (p:=⟨g,o,none⟩) hg hn).trans h.size,(ho.cell (p:=⟨g,o+1,none⟩) hg hn).trans h.map,fun k=>(ho.frozen (p:=⟨g,k,none⟩) hg hn).trans (h.fz k),h.ty.only ho hn,hm,
  h.only.trans ho (fun i hi=>by rw [List.mem_singleton] at hi;subst hi;exact h.mine),h.mine,fun k h1 h2=>(ho.cell (p:=⟨g,k,none⟩) hg hn).trans (h.rest k h1 h2)⟩
theorem MidO.done {w wx:World}{g o b:Nat}{m:Option Nat}{S S':ByteArray}{H':List Bool}{f:Nat→Option (List UInt8)}(h:MidO w wx g o b m S f)(hs:Same f S' H')(z:Int)(hz:z=(S'.size:Nat)):
   DataO (wx.setCell ⟨g,o,none⟩ (.int .i64 z)) g o S' H' (some b)∧Only (footD g m) w (wx.setCell ⟨g,o,none⟩ (.int .i64 z))∧(∀ k,some b=some k→k∈footD g m∨w.heap.size≤k)∧∀ k,k≠o→k≠o+1→(wx.setCell ⟨g,o,none⟩ (.int .i64 z)).cell? ⟨g,k,none⟩=w.cell? ⟨g,k,none⟩:=by
 subst hz;refine ⟨⟨World.cell?_setCell_same _ _ _ h.size,?_,fun k=>?_,h.ty.set _ _,f,hs,?_⟩,h.only.setCell (Or.inl (by simp [footD])) _,fun k e=>by cases e;exact h.mine,fun k h1 h2=>by rw [World.cell?_setCell_other _ _ _ _ (by simp)];exact h.rest k h1 h2⟩
 · rw [World.cell?_setCell_other _ _ _ _ (by simp)];exact h.map
 · rw [World.frozen?_setCell];exact h.fz k
 · obtain ⟨D,h1,h2⟩:=h.at_
   exact ⟨D,h1.setCell (own_ne h1 h.map) _,h2⟩
theorem dwriteO (w:World)(g o:Nat)(S s:ByteArray)(H:List Bool)(m:Option Nat)(a:Nat)(hD:DataO w g o S H m)(hs1:1≤s.size)(hle:a+s.size≤4096):
  Calls Tryz.prog 90 #[.pointer (some ⟨g,o,none⟩),.int .i64 a,.string s] w fun e w'=>e = .returned .nilIface ∧
   ∃ m',DataO w' g o (writeS S a s) (marksH H (a / 64) ((a+s.size - 1) / 64+1 - a / 64)) m'∧Only (footD g m) w w'∧(∀ k,m'=some k→k∈footD g m∨w.heap.size≤k)∧∀ k,k≠o→k≠o+1→w'.cell? ⟨g,k,none⟩=w.cell? ⟨g,k,none⟩:=by
 obtain ⟨f,hsame,hmap⟩:=hD.holds;have hd:decide ((a:Int) < 0)=false:=decide_eq_false (by omega);have hd3:decide (4096 - (s.size:Int) < (a:Int))=false:=decide_eq_false (by omega)
 have hse:(s.toList==[])=false:=by
  rw [Lib.toList_data,beq_eq_false_iff_ne];intro k;have:s.data.toList.length=s.size:=rfl;rw [k] at this;simp at this;omega
 have hc:=hD.map;have hf1:=hD.fz (o+1);have hq:=fun w=>run_eql_map_nil_sl (P:=Tryz.prog) w 201 _ _ m undMap;have HD:Hid (DataO w g o S H m):=hD;have HM:Hid (MapAt w m f):=hmap;have HS:Hid (Same f S H):=hsame;clear hD hmap hsame
 go_enter Tryz.func90,Tryz.ntmps90
 go_upto_if 24 with fail
 go_cut [] (fun wx=>∃ b,MidO w wx g o b m S f)
 case first =>
  cases m with
  | none =>
   have hmk:=run_makeMap (P:=Tryz.prog) 201 w;have hlt:g < w.heap.size:=lt_of_cell hc
   have hM0:Hid (MidO w ((w.alloc (.map #[] 0)).setCell ⟨g,o+1,none⟩ (.map (some w.heap.size))) g o w.heap.size none S f):=by
     have hc0:(w.alloc (.map #[] 0)).cell? ⟨g,o,none⟩=some (.int .i64 (S.size:Nat)):=by rw [World.cell?_alloc_lt _ _ _ hlt];exact HD.out.size
     have hc1:(w.alloc (.map #[] 0)).cell? ⟨g,o+1,none⟩=some (.map none):=by rw [World.cell?_alloc_lt _ _ _ hlt];exact hc
     have hmm:MidO w ((w.alloc (.map #[] 0)).setCell ⟨g,o+1,none⟩ (.map (some w.heap.size))) g o w.heap.size none S f:=by
       refine ⟨?_,World.cell?_setCell_same _ _ _ hc1,fun k=>?_,(HD.out.ty.only ((Only.refl [] w).alloc _) (by simp)).set _ _,⟨.map [],?_,?_⟩,?_,Or.inr (Nat.le_refl _),fun k h1 h2=>by rw [World.cell?_setCell_other _ _ _ _ (by simp),World.cell?_alloc_lt _ _ _ hlt]⟩
       · rw [World.cell?_setCell_other _ _ _ _ (by simp)];exact hc0
       · rw [World.frozen?_setCell]
         exact (Only.of_below ((Below.refl _ _).alloc (Nat.le_refl _) _) [] |>.frozen (p:=⟨g,k,none⟩) hlt (by simp)).trans (HD.out.fz k)
       · exact ((World.ownsMap_made w Tryz.prog 3 blkElem).mono (Nat.zero_le _)).setCell (by simp;omega) _
       · rw [show f=_ from HM.out];exact Holds.empty
       · exact ((Only.refl _ w).alloc _).setCell (Or.inl (by simp [footD])) _
     exact hmm
   go_wp2
   go_meet
   exact ⟨w.heap.size,(World.setCell_alloc_past (w:=w) (.map #[] 0) g (o+1) _ hlt) ▸ hM0.out⟩
  | some b =>
   go_wp2
   go_meet
   exact ⟨b,HD.out.size,HD.out.map,HD.out.fz,HD.out.ty,HM.out,Only.refl _ _,Or.inl (by simp [footD]),fun _ _ _=>rfl⟩
 case rest =>
  obtain ⟨b,hmid⟩:=hcut;clear hc hf1 hq HM HD
  go_wp2
  go_loopw [7] (fun i wr=>∃ (d:Nat) (f':Nat→Option (List UInt8)),d≤s.size∧i = .int .i64 d∧Wrote f a s d f'∧MidO w wr g o b m S f') (fun i _=>s.size - (intOf i).toNat)
  case atStart=>exact ⟨0,f,Nat.zero_le _,rfl,Wrote.start f a s,hmid⟩
  case round =>
   obtain ⟨d,f',hdle,rfl,hW,hmid'⟩:=hrel
   by_cases hlt:d < s.size
   · obtain ⟨n,hn⟩:∃ n,min (s.extract d s.size).size (64 - (a+d) % 64)=n:=⟨_,rfl⟩
     have hz:(s.extract d s.size).size=s.size - d:=by rw [ByteArray.size_extract];omega
     have hn':n=min (64 - (a+d) % 64) (s.size - d):=by rw [hz] at hn;omega
     have hcall:=writeInZO wr g o b f' (a+d) (s.extract d s.size) hmid'.map hmid'.at_ (by omega) ((a:Int)+(d:Int)) (by omega) n hn;rw [part_tail] at hcall;have HW:Hid (Wrote f a s (d+n) (upd f' ((a+d) / 64) (over ((f' ((a+d) / 64)).getD zero64) ((a+d) % 64) (partS s d n)))):=hW.step hlt (hmid'.at_.getLen _) hn';have HM:Hid (MidO w wr g o b m S f'):=hmid'
     have hn1:1≤n:=by omega
     have hn2:d+n≤s.size:=by omega
     clear hmid' hW hn hn' hz hmid
     go_wp2_with (go_at_call 129;go_must (refine hcall.mono ?_);rintro e w2 ⟨rfl,hm2,ho2⟩)
     go_roundw
     case rel=>exact ⟨d+n,_,hn2,by go_num,HW.out,HM.out.step ho2 hm2⟩
     case measure=>simp [intOf];omega
   · obtain rfl:d=s.size:=by omega
     have c0:=hmid'.size;have f0:=hmid'.fz o;clear hmid;have HSm:Hid (Same f' (writeS S a s) (marksH H (a / 64) ((a+s.size - 1) / 64+1 - a / 64))):=hW.same HS.out hs1 hle;have HM:Hid (MidO w wr g o b m S f'):=hmid';have hwz:Hid ((writeS S a s).size=max S.size (a+s.size)):=writeS_size S a s;clear hmid' hW
     by_cases hmx:S.size≤a+s.size
     · go_wp2
       all_goals (go_ret;exact ⟨rfl,_,HM.out.done HSm.out _ (by rw [hwz.out];omega)⟩)
     · go_wp2
       all_goals (go_ret;exact ⟨rfl,_,HM.out.done HSm.out _ (by rw [hwz.out];omega)⟩)
section
variable (w:World)(t:Nat)(p:Row)(most:Nat)(g:Nat→Nat)(nd:Nat→Option Nod)
theorem find_no (N G:Int)(E:Value)(h:TabAt w t p most g nd)(hE:w.cell? ⟨10,0,none⟩=some E)(hs:Stale0 g nd N G)(w1:World)(ho:Only [] w w1):
  Calls Tryz.prog 127 #[.pointer (some ⟨t,0,none⟩),.agg #[.int .i64 N,.int .i64 G]] w1 fun e w'=>e = .returned (.tuple #[.pointer none,E])∧Only [] w1 w' :=
 find_stale w1 t p most g nd N G E (h.kept ho (fun _ _=>by simp)) ((ho.cell (p:=⟨10,0,none⟩) (lt_of_cell hE) (by simp)).trans hE) hs
theorem find_yes (i:Nat)(n:Nod)(h:TabAt w t p most g nd)(hn:nd i=some n)(w1:World)(ho:Only [] w w1):
  Calls Tryz.prog 127 #[.pointer (some ⟨t,0,none⟩),.agg #[.int .i64 i,.int .i64 (g i:Nat)]] w1 fun e w'=>e = .returned (.tuple #[.pointer (some ⟨n.b,0,none⟩),.nilIface])∧Only [] w1 w' :=
 find_ok w1 t p most i g nd n (h.kept ho (fun _ _=>by simp)) hn
end
theorem own_six {w w2:World}{B:Nat}{a b c d e f:Value}{ty:TypeId}(h:Only [] (w.alloc (.cells #[a,b,c,d,e,f] ty)) w2)(hB:w.heap.size=B):
  w2.cell? ⟨B,0,none⟩=some a∧w2.cell? ⟨B,1,none⟩=some b∧w2.cell? ⟨B,2,none⟩=some c∧w2.cell? ⟨B,3,none⟩=some d∧w2.cell? ⟨B,4,none⟩=some e∧w2.cell? ⟨B,5,none⟩=some f∧(∀ o,w2.frozen? ⟨B,o,none⟩=false)∧B < w2.heap.size:=by
 subst hB;have hh:=heap_alloc_last w (.cells #[a,b,c,d,e,f] ty)
 have hlt:w.heap.size < (w.alloc (.cells #[a,b,c,d,e,f] ty)).heap.size:=by simp
 refine ⟨(h.cell (p:=⟨w.heap.size,0,none⟩) hlt (by simp)).trans (cell_of_row _ _ 0 _ _ _ hh),(h.cell (p:=⟨w.heap.size,1,none⟩) hlt (by simp)).trans (cell_of_row _ _ 1 _ _ _ hh),(h.cell (p:=⟨w.heap.size,2,none⟩) hlt (by simp)).trans (cell_of_row _ _ 2 _ _ _ hh),
  (h.cell (p:=⟨w.heap.size,3,none⟩) hlt (by simp)).trans (cell_of_row _ _ 3 _ _ _ hh),(h.cell (p:=⟨w.heap.size,4,none⟩) hlt (by simp)).trans (cell_of_row _ _ 4 _ _ _ hh),(h.cell (p:=⟨w.heap.size,5,none⟩) hlt (by simp)).trans (cell_of_row _ _ 5 _ _ _ hh),fun o=>?_,Nat.lt_of_lt_of_le hlt h.size⟩
 rw [h.frozen (p:=⟨w.heap.size,o,none⟩) hlt (by simp)];unfold World.frozen?;rw [hh];simp
theorem own_pairB {w w2:World}{B:Nat}{a b:Int}{ty:TypeId}(h:Only [] (w.alloc (.cells #[.int .i64 a,.int .i64 b] ty)) w2)(hB:w.heap.size=B):
  w2.cell? ⟨B,0,none⟩=some (.int .i64 a)∧w2.cell? ⟨B,1,none⟩=some (.int .i64 b)∧(∀ o,w2.frozen? ⟨B,o,none⟩=false)∧B < w2.heap.size:=by
 subst hB;exact own_pair h
def attrV (K Z L C UN UG:Int):Value := .agg #[.int .i64 K,.int .i64 Z,.int .i64 L,.int .i64 C,.int .i64 UN,.int .i64 UG]
def errV (a:Addr):Value := .iface 300 (.pointer (some a))
theorem tattr_stale (w:World)(t:Nat)(p:Row)(most:Nat)(g:Nat→Nat)(nd:Nat→Option Nod)(N G:Int)(ad:Addr)(h:TabAt w t p most g nd)(hE:w.cell? ⟨10,0,none⟩=some (errV ad))(hs:Stale0 g nd N G):
  Calls Tryz.prog 80 #[.pointer (some ⟨t,0,none⟩),.agg #[.int .i64 N,.int .i64 G]] w fun e w'=>e = .returned (.tuple #[attrV 0 0 0 0 0 0,errV ad])∧Only [] w w':=by
 have HC:Hid (∀ w1,Only [] w w1→_):=find_no w t p most g nd N G (errV ad) h hE hs;clear h hE hs;unfold errV at HC ⊢
 go_enter Tryz.func80,Tryz.ntmps80
 go_wp2_with (go_at_call 127;go_must (refine (HC.out _ (((Only.refl _ _).alloc _).alloc _)).mono ?_);rintro e w2 ⟨rfl,ho2⟩;have HO:Hid (Only [] w w2):=(((Only.refl _ _).alloc _).alloc _).trans ho2 (fun _ hk=>by cases hk);obtain ⟨r0,r1,r2,r3,r4,r5,f0,hl0⟩:=own_six (B:=w.heap.size+1) ho2 (by simp))
 have hle:w.heap.size≤w.heap.size+1:=Nat.le_succ _;refine bodyPost_ret (v := .tuple #[attrV 0 0 0 0 0 0,.iface 300 (.pointer (some ad))]) (by simp [results,Tryz.results80,go_sem,r0,r1,r2,r3,r4,r5,attrV]) rfl ⟨rfl,?_⟩;exact (((((HO.out.setCell (Or.inr hle) _).setCell (Or.inr hle) _).setCell (Or.inr hle) _).setCell (Or.inr hle) _).setCell (Or.inr hle) _).setCell (Or.inr hle) _
theorem tdata_ok (w:World)(t:Nat)(p:Row)(most i:Nat)(g:Nat→Nat)(nd:Nat→Option Nod)(n:Nod)(h:TabAt w t p most g nd)(hn:nd i=some n)(hK:n.K=1):
  Calls Tryz.prog 89 #[.pointer (some ⟨t,0,none⟩),.agg #[.int .i64 i,.int .i64 (g i:Nat)]] w fun e w'=>e = .returned (.tuple #[.pointer (some ⟨n.b,6,none⟩),.nilIface])∧Only [] w w':=by
 have HC:Hid (∀ w1,Only [] w w1→_):=find_yes w t p most g nd i n h hn;have ck:=(h.node i n hn).c0;have HK:Hid (w.cell? ⟨n.b,0,none⟩=some (.int .i64 n.K)):=ck;have hbl:n.b < w.heap.size:=lt_of_cell ck;clear h hn ck;generalize n.b=nb at HC HK hbl ⊢
 go_enter Tryz.func89,Tryz.ntmps89
 go_wp2_with (go_at_call 127;go_must (refine (HC.out _ ((Only.refl _ _).alloc _)).mono ?_);rintro e w2 ⟨rfl,ho2⟩;have HO:Hid (Only [] w w2):=((Only.refl _ _).alloc _).trans ho2 (fun _ hk=>by cases hk);have c0:=(HO.out.cell (p:=⟨nb,0,none⟩) hbl (by simp)).trans HK.out;rw [hK] at c0)
 exact bodyPost_ret (v := .tuple #[.pointer (some ⟨nb,6,none⟩),.nilIface]) (by simp [results,Tryz.results89,go_sem]) rfl ⟨rfl,HO.out⟩
theorem tattr_ok (w:World)(t:Nat)(p:Row)(most i:Nat)(g:Nat→Nat)(nd:Nat→Option Nod)(n:Nod)(z:Int)(h:TabAt w t p most g nd)(hn:nd i=some n)(hz:n.K=1∧z=(n.S.size:Int)∨n.K=2∧z=n.Z):
   Calls Tryz.prog 80 #[.pointer (some ⟨t,0,none⟩),.agg #[.int .i64 i,.int .i64 (g i:Nat)]] w fun e w'=>e = .returned (.tuple #[attrV n.K z n.L n.C n.UN n.UG,.nilIface])∧Only [] w w':=by
 have HC:Hid (∀ w1,Only [] w w1→_):=find_yes w t p most g nd i n h hn;have hN:=h.node i n hn;have HN:Hid (NodAt w n):=hN;have hbl:n.b < w.heap.size:=lt_of_cell hN.c0;clear h hn hN;obtain ⟨nb,K,Z,L,C,UN,UG,S,H,m⟩:=n;simp only at HC hbl hz ⊢;have hle:w.heap.size≤w.heap.size+1:=Nat.le_succ _;rcases hz with ⟨rfl,hz⟩ | ⟨rfl,hz⟩
 all_goals rw [hz]
 all_goals clear hz
 · go_enter Tryz.func80,Tryz.ntmps80
   go_wp2_with (first
    | (go_at_call 127;go_must (refine (HC.out _ (((Only.refl _ _).alloc _).alloc _)).mono ?_);rintro e w2 ⟨rfl,ho2⟩;have HO:Hid (Only [] w w2):=(((Only.refl _ _).alloc _).alloc _).trans ho2 (fun _ hk=>by cases hk);obtain ⟨r0,r1,r2,r3,r4,r5,f0,hl0⟩:=own_six (B:=w.heap.size+1) ho2 (by simp);have HN2:Hid (NodAt w2 ⟨nb,1,Z,L,C,UN,UG,S,H,m⟩):=HN.out.kept HO.out (fun _ _=>by simp);obtain ⟨c0,c1,c2,c3,c4,c5,_⟩:=HN2.out;have hb2:nb < w2.heap.size:=lt_of_cell c0)
    | (go_at_call 105;go_must (refine (dsizeO _ nb 6 S H m (HN2.out.d.kept ((Only.refl [] _).alloc _) (fun _ _=>by simp))).mono ?_);rintro e w3 ⟨rfl,rfl⟩)
    | go_in)
   refine bodyPost_ret (v := .tuple #[attrV 1 (S.size:Nat) L C UN UG,.nilIface]) (by simp [results,Tryz.results80,go_sem,r0,r1,r2,r3,r4,r5,hl0,attrV]) rfl ⟨rfl,?_⟩;exact ((((((HO.out.setCell (Or.inr hle) _).setCell (Or.inr hle) _).setCell (Or.inr hle) _).setCell (Or.inr hle) _).setCell (Or.inr hle) _).setCell (Or.inr hle) _).alloc _
 · go_enter Tryz.func80,Tryz.ntmps80
   go_wp2_with (first
    | (go_at_call 127;go_must (refine (HC.out _ (((Only.refl _ _).alloc _).alloc _)).mono ?_);rintro e w2 ⟨rfl,ho2⟩;have HO:Hid (Only [] w w2):=(((Only.refl _ _).alloc _).alloc _).trans ho2 (fun _ hk=>by cases hk);obtain ⟨r0,r1,r2,r3,r4,r5,f0,hl0⟩:=own_six (B:=w.heap.size+1) ho2 (by simp);have HN2:Hid (NodAt w2 ⟨nb,2,Z,L,C,UN,UG,S,H,m⟩):=HN.out.kept HO.out (fun _ _=>by simp);obtain ⟨c0,c1,c2,c3,c4,c5,_⟩:=HN2.out;have hb2:nb < w2.heap.size:=lt_of_cell c0)
    | go_in)
   refine bodyPost_ret (v := .tuple #[attrV 2 Z L C UN UG,.nilIface]) (by simp [results,Tryz.results80,go_sem,r0,r1,r2,r3,r4,r5,hl0,attrV]) rfl ⟨rfl,?_⟩;exact ((((((HO.out.setCell (Or.inr hle) _).setCell (Or.inr hle) _).setCell (Or.inr hle) _).setCell (Or.inr hle) _).setCell (Or.inr hle) _).setCell (Or.inr hle) _).alloc _
end
end Go.Proofs.YtbdfjbmocifhmaaGreatDoor
