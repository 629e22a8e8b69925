import Derived.Test.YtooblpbmcnmicaaGreatDoorK2
import Derived.Deep.AppendLies
import Derived.DeepKeys5
import Derived.Maps.OwnOps
import Derived.Maps.RangeWalk
set_option maxRecDepth 100000
set_option maxHeartbeats 8000000
namespace Go.Proofs.YtooblpbmcnmicaaGreatDoor
section
open Go Go.RowKit Go.Deep Go.Maps
theorem free_none {N:Nat}{nd:Nat→Option Nod}{r:Int}(hf:∀ j,j < N→(nd j).isSome=true)(hr:leastFree N nd r):r = -1:=by
 rcases hr with ⟨h1,_⟩ | ⟨i,_,hi,hn,_⟩
 · exact h1
 · have:=hf i hi
   rw [hn] at this
   cases this
theorem free_some {most:Nat}{nd:Nat→Option Nod}{r:Int}{i:Nat}(hi:i < most)(hn:nd i=none)(hb:∀ j,j < i→(nd j).isSome=true)(hr:leastFree most nd r):r=(i:Int):=by
 rcases hr with ⟨_,h1⟩ | ⟨j,rfl,hj,hjn,hjb⟩
 · have:=h1 i hi
   rw [hn] at this
   cases this
 · rcases Nat.lt_trichotomy i j with h | h | h
   · have:=hjb i h
     rw [hn] at this
     cases this
   · rw [h]
   · have:=hb j h
     rw [hjn] at this
     cases this
def newNod (b:Nat)(K:Int):Nod:=⟨b,K,0,0,0,0,0,⟨#[]⟩,[],none⟩
def nodeCells (K:Int):Array Value:=#[zI K,zI 0,zI 0,zI 0,zI 0,zI 0,zI 0,.map none]
theorem newNod_at (w:World)(K:Int):NodAt (w.alloc (.cells (nodeCells K) 163)) (newNod w.heap.size K):=by
 have hh:=zh w (.cells (nodeCells K) 163);refine ⟨cell_of_row _ _ 0 _ _ _ hh,cell_of_row _ _ 1 _ _ _ hh,cell_of_row _ _ 2 _ _ _ hh,cell_of_row _ _ 3 _ _ _ hh,cell_of_row _ _ 4 _ _ _ hh,cell_of_row _ _ 5 _ _ _ hh,cell_of_row _ _ 6 _ _ _ hh,cell_of_row _ _ 7 _ _ _ hh,fun k=>?_,⟨_,_,hh⟩,_,Same.start,rfl⟩;show World.frozen? _ ⟨w.heap.size,k,none⟩=false;unfold World.frozen?;rw [hh];simp
theorem rowOf_single {α:Type}(c:α→List Value)(x:α):rowOf c [x]=c x:=by simp [rowOf]
theorem places_more (N:Nat)(g:Nat→Nat)(nd:Nat→Option Nod):places (N+1) g nd=places N g nd++[(g N,nd N)]:=by simp [places,List.range_succ]
theorem TabAt.more {w w1:World}{t most b cap:Nat}{p:Row}{g:Nat→Nat}{nd:Nat→Option Nod}(h:TabAt w t p most g nd)(ho:Only p.a.toList w w1)(hr:w1.ownsRow 0 165 2 (.slice (some ⟨b,0,none⟩) (p.N+1) cap) (p.N+1) (rowOf placeCells (places p.N g nd)++[zI 0,.pointer none]))
   (hb:p.a=some b∨w.heap.size≤b):TabAt (w1.setCell (zA t 1) (.slice (some ⟨b,0,none⟩) (p.N+1) cap)) t ⟨some b,p.N+1,cap⟩ most g nd∧Only (t::p.a.toList) w (w1.setCell (zA t 1) (.slice (some ⟨b,0,none⟩) (p.N+1) cap)):=by
 have ht:=h.tlt;have htp:t∉p.a.toList:=fun hm=>h.pt (by simpa using hm)
 have hbt:b≠t:=by
   rcases hb with h1 | h1
   · exact fun e=>h.pt (by rw [h1,e])
   · omega
 have o2:Only (t::p.a.toList) w (w1.setCell (zA t 1) (.slice (some ⟨b,0,none⟩) (p.N+1) cap)):=(ho.mono (L':=t::p.a.toList) (fun i hi=>Or.inl (List.mem_cons_of_mem _ hi))).setCell (Or.inl (by simp)) _;have c1:=(ho.cell (p:=⟨t,1,none⟩) ht htp).trans h.tab
 have hfoot:∀ i n,nd i=some n→∀ k∈n.foot,k∉t::p.a.toList:=fun i n hn k hk hm=>by
   obtain ⟨o1,o2⟩:=h.own i n hn;rcases List.mem_cons.1 hm with rfl | hm
   · exact o1 hk
   · exact o2 k (by simpa using hm) hk
 refine ⟨⟨?_,World.cell?_setCell_same _ _ _ c1,fun o=>?_,(h.ty.only ho htp).set _ _,?_,fun i hi=>h.out i (by simp only at hi;omega),by simpa using hbt,fun i n hn=>(h.node i n hn).kept o2 (hfoot i n hn),h.apart,fun i n hn=>⟨(h.own i n hn).1,fun b' hb' hk=>?_⟩⟩,o2⟩
 · rw [World.cell?_setCell_other _ _ _ _ (by simp)]
   exact (ho.cell (p:=⟨t,0,none⟩) ht htp).trans h.most
 · rw [World.frozen?_setCell]
   exact (ho.frozen (p:=⟨t,o,none⟩) ht htp).trans (h.tfz o)
 · rw [places_more,rowOf_append,rowOf_single,(h.out p.N (Nat.le_refl _)).1,(h.out p.N (Nat.le_refl _)).2]
   exact (Only.refl [t] w1).setCell (p:=⟨t,1,none⟩) (Or.inl (by simp)) _ |>.owns hr (fun k hk=>by have e:b=k:=Option.some.inj ((Row.own ⟨some b,p.N+1,cap⟩).symm.trans hk);subst e;simpa using hbt)
 · simp only [Option.some.injEq] at hb'
   subst hb';rcases hb with h1 | h1
   · exact (h.own i n hn).2 b h1 hk
   · have:=(h.node i n hn).foot_lt b hk
     omega
theorem two_news (w:World)(a b:Value)(ty:TypeId):∀ j u,[a,b][j]?=some u→(w.alloc (.cells #[a,b] ty)).cell? ((⟨w.heap.size,0,none⟩:Addr).add j)=some u:=by
 intro j u hu;have hh:=zh w (.cells #[a,b] ty)
 have hadd:(⟨w.heap.size,0,none⟩:Addr).add j=⟨w.heap.size,j,none⟩:=by unfold Addr.add;split<;>simp_all
 rw [hadd,cell_of_row _ _ _ _ _ _ hh]
 simpa using hu
def Roomed (w w':World)(t:Nat)(p p':Row)(i:Nat):Prop:=p'.N=max p.N (i+1)∧Only (t::p.a.toList) w w'∧(p'.a=p.a∨∃ k,p'.a=some k∧w.heap.size≤k)
theorem troom (w:World)(t:Nat)(p:Row)(most i:Nat)(g:Nat→Nat)(nd:Nat→Option Nod)(h:TabAt w t p most g nd)(hm:p.N≤1000)(hn:nd i=none)(hb:∀ j,j < i→(nd j).isSome=true):
   zK 99 #[zP t] w fun e w'=>e = .returned (zI i)∧∃ p',TabAt w' t p' most g nd∧Roomed w w' t p p' i:=by
 have hle:i≤p.N:=by
   rcases Nat.lt_or_ge p.N i with h1 | h1
   · have:=hb p.N h1
     rw [(h.out p.N (Nat.le_refl _)).2] at this
     cases this
   · exact h1
 have hcall:=indexFree w t p most g nd h hm;have ct:=h.tab;have htl:t < w.heap.size:=h.tlt;have H:Hid (TabAt w t p most g nd):=h;rcases Nat.lt_or_ge i p.N with hi | hi
 · have HB:Hid (∀ r,leastFree p.N nd r→r=(i:Int)):=fun r hr=>free_some hi hn hb hr
   clear h hb hn;generalize p.v=pv at hcall ct
   go_enter Tryz.func99,Tryz.ntmps99
   go_wp2_with (go_at_call 115;go_must (refine hcall.mono ?_);rintro e w2 ⟨⟨r,rfl,hr⟩,ho2⟩;obtain rfl:r=(i:Int):=HB.out r hr;clear hr)
   go_ret
   exact ⟨rfl,p,H.out.kept ho2 (fun _ _=>by simp),by omega,ho2.mono (fun _ hk=>by cases hk),Or.inl rfl⟩
 · obtain rfl:i=p.N:=by omega
   have HB:Hid (∀ r,leastFree p.N nd r→r = -1):=fun r hr=>free_none hb hr;obtain ⟨i0,hi0,hz⟩:=Option.map_eq_some_iff.1 placeInfo;simp only [Prod.mk.injEq] at hz;obtain ⟨hz0,hz1,hz2⟩:=hz;have hv:p.v = .slice (p.a.map (fun b=>⟨b,0,none⟩)) p.N p.cap:=rfl;clear h hb hn hle hi;obtain ⟨ad,had⟩:∃ ad,ad=p.a.map (fun b=>(⟨b,0,none⟩:Addr)):=⟨_,rfl⟩;rw [← had] at hv;rw [hv] at hcall ct;have HV:Hid (p.v = .slice ad p.N p.cap):=hv;clear hv had
   go_enter Tryz.func99,Tryz.ntmps99
   go_wp2_with (first
     | (go_at_call 115;go_must (refine hcall.mono ?_);rintro e w2 ⟨⟨r,rfl,hr⟩,ho2⟩;obtain rfl:r = -1:=HB.out r hr;clear hr;have HT2:Hid (TabAt w2 t p most g nd):=H.out.kept ho2 (fun _ _=>by simp);have ct2:=HT2.out.tab;rw [HV.out] at ct2;have ft2:=HT2.out.tfz;have htl2:=HT2.out.tlt)
     | (at_builtin;go_must (refine wpList_append_lies _ rfl (.tmp 20) (.tmp 22) 131 rfl 0 165 i0 _ 2 16 placesUnd hi0 hz0 hz1 hz2 rfl (by decide) _ p.N (rowOf placeCells (places p.N g nd)) rfl ((show w2.ownsRow 0 165 2 (.slice ad p.N p.cap) p.N (rowOf placeCells (places p.N g nd)) from by have:=HT2.out.row;rw [HV.out] at this;exact this).alloc _) ⟨w2.heap.size,0,none⟩ 1 1 [zI 0,.pointer none] rfl rfl (two_news w2 _ _ _) (by intro u hu;simp at hu;rcases hu with rfl | rfl<;>rfl) (by decide) (by unfold maxLen;omega) (by omega) (Nat.zero_le _) _ rfl ?_);intro gl cp w4 hown4 hgr4 hat4 hlt4;have HO4:Hid (Only p.a.toList w2 w4):=((Only.refl _ w2).alloc _).grown hgr4 (fun k hk=>Or.inl (by have hk2:(Value.slice ad p.N p.cap).ownBlock=some k:=hk;rw [← HV.out,p.own] at hk2;rw [hk2];simp));have htp:t∉p.a.toList:=(fun hm=>H.out.pt (by simpa using hm));have ct4:=(HO4.out.cell (p:=⟨t,1,none⟩) htl2 htp).trans ct2;have ft4:=(HO4.out.frozen (p:=⟨t,1,none⟩) htl2 htp).trans (ft2 1);have HOWN:Hid (w4.ownsRow 0 165 2 (.slice (some ⟨gl,0,none⟩) (p.N+1) cp) (p.N+1) (rowOf placeCells (places p.N g nd)++[zI 0,.pointer none])):=hown4;have HAT:Hid (p.a=some gl∨w2.heap.size≤gl):=(show p.a=some gl∨w2.heap.size≤gl from by have hat5:(Value.slice ad p.N p.cap).ownBlock=some gl∨_:=hat4;rw [← HV.out,p.own] at hat5;rcases hat5 with h | h;exact Or.inl h;exact Or.inr (by rw [h];simp));clear hown4 hgr4 hat4 hlt4)
     | go_in)
   go_ret
   obtain ⟨hT5,ho5⟩:=HT2.out.more HO4.out HOWN.out HAT.out;refine ⟨rfl,_,hT5,by simp,(ho2.mono (L':=t::p.a.toList) (fun _ hk=>by cases hk)).trans ho5 (fun _ hk=>Or.inl hk),?_⟩;rcases HAT.out with h | h
   · exact Or.inl h.symm
   · exact Or.inr ⟨gl,rfl,Nat.le_trans ho2.size h⟩
theorem added {w:World}{t most i b B:Nat}{p:Row}{g:Nat→Nat}{nd:Nat→Option Nod}{K x y:Int}(h:TabAt w t p most g nd)(hb:p.a=some b)(hi:i < p.N)(hB:¬ InFoot t p most nd B)(hBl:B < w.heap.size):
   TabAt ((((w.setCell ⟨b,i*2+1,none⟩ (zP w.heap.size)).setCell (zA B 0) (zI x)).setCell (zA B 1) (zI y)).alloc (.cells (nodeCells K) 163)) t p most g (setN nd i (some (newNod w.heap.size K))) ∧
   Only [b,B] w ((((w.setCell ⟨b,i*2+1,none⟩ (zP w.heap.size)).setCell (zA B 0) (zI x)).setCell (zA B 1) (zI y)).alloc (.cells (nodeCells K) 163)):=by
 have hbl:=h.plt hb;have hBt:t≠B:=fun e=>hB (Or.inl e.symm);have hBb:b≠B:=fun e=>hB (Or.inr (Or.inl (by rw [hb,e])))
 have e:((((w.setCell ⟨b,i*2+1,none⟩ (zP w.heap.size)).setCell (zA B 0) (zI x)).setCell (zA B 1) (zI y)).alloc (.cells (nodeCells K) 163))=((((w.alloc (.cells (nodeCells K) 163)).setCell ⟨b,i*2+1,none⟩ (zP w.heap.size)).setCell (zA B 0) (zI x)).setCell (zA B 1) (zI y)):=by
   rw [World.setCell_alloc_past (w:=w) _ b _ _ hbl,World.setCell_alloc_past (w:=w.setCell _ _) _ B _ _ (by simpa using hBl),World.setCell_alloc_past (w:=(w.setCell _ _).setCell _ _) _ B _ _ (by simpa using hBl)]
 rw [e];clear e;have hal:zQ w (w.alloc (.cells (nodeCells K) 163)):=(Only.refl _ _).alloc _;have hrow:=(h.kept hal (fun _ _=>by simp)).row;have cn:=newNod_at w K;generalize w.alloc (.cells (nodeCells K) 163)=wa at hal hrow cn ⊢;have o1:Only [b] w (wa.setCell ⟨b,i*2+1,none⟩ (zP w.heap.size)):=(hal.mono (L':=[b]) (by simp)).setCell (Or.inl (by simp)) _
 have hT1:TabAt (wa.setCell ⟨b,i*2+1,none⟩ (zP w.heap.size)) t p most g (setN nd i (some (newNod w.heap.size K))):=by
   refine h.place (i:=i) hb hi o1 ?_ (fun _ _=>rfl) (fun j hj=>setN_other _ _ hj) ?_
   · have hv:p.v = .slice (some ⟨b,0,none⟩) p.N p.cap:=by simp [Row.v,hb]
     rw [hv] at hrow ⊢;have:=(hrow.stored (i*2+1) (zP w.heap.size)).1;rw [rowOf_set placeCells_len (places p.N g nd) i 1 (g i,nd i) (g i,setN nd i (some (newNod w.heap.size K)) i) _ (by decide) (places_get g nd hi) (by simp [placeCells,setN_same,newNod])] at this;exact this
   · intro n hn
     rw [setN_same] at hn
     cases hn
     have hfoot:∀ k,k∈(newNod w.heap.size K).foot→k=w.heap.size:=fun k hk=>by simpa [newNod,Nod.foot,footD] using hk
     refine ⟨cn.kept ((Only.refl [b] wa).setCell (Or.inl (by simp)) _) (fun k hk hm=>?_),fun k hk=>by have:=hfoot k hk;omega⟩;have:=hfoot k hk;simp at hm;omega
 have o2:Only [B] (wa.setCell ⟨b,i*2+1,none⟩ (zP w.heap.size)) (((wa.setCell ⟨b,i*2+1,none⟩ (zP w.heap.size)).setCell (zA B 0) (zI x)).setCell (zA B 1) (zI y)):=((Only.refl [B] _).setCell (Or.inl (by simp)) _).setCell (Or.inl (by simp)) _;refine ⟨hT1.kept o2 (fun k hk hm=>?_),(o1.mono (L':=[b,B]) (fun i hi=>Or.inl (by simp at hi;simp [hi]))).trans o2 (fun i hi=>Or.inl (by simp at hi;simp [hi]))⟩;simp at hm;subst hm;rcases hk with h1 | h1 | ⟨j,n,hn,hk⟩
 · exact hBt h1.symm
 · exact hB (Or.inr (Or.inl h1))
 · by_cases hji:j=i
   · subst hji
     rw [setN_same] at hn
     cases hn
     have:k=w.heap.size:=by simpa [newNod,Nod.foot,footD] using hk
     omega
   · rw [setN_other _ _ hji] at hn
     exact hB (.node hn hk)
theorem own_not_foot {w w2:World}{t most:Nat}{p p':Row}{g:Nat→Nat}{nd:Nat→Option Nod}(h:TabAt w t p most g nd)(hp:p'.a=p.a∨∃ k,p'.a=some k∧w2.heap.size≤k)(hl:w.heap.size < w2.heap.size):¬ InFoot t p' most nd w.heap.size:=by
 rintro (h1 | h1 | ⟨j,n,hn,hk⟩)
 · have:=h.tlt;omega
 · rcases hp with h2 | ⟨k,h2,h3⟩
   · have:=h.plt (h2.symm.trans h1);omega
   · rw [h2] at h1;cases h1;omega
 · have:=(h.node j n hn).foot_lt _ hk;omega
def AddedAt (w w':World)(t:Nat)(p:Row)(most i:Nat)(g:Nat→Nat)(nd:Nat→Option Nod)(K:Int):Prop:=∃ p' b,TabAt w' t p' most g (setN nd i (some (newNod b K)))∧Roomed w w' t p p' i∧w.heap.size≤b
theorem tadd_ok (w:World)(t:Nat)(p:Row)(most i:Nat)(g:Nat→Nat)(nd:Nat→Option Nod)(K:Int)(h:TabAt w t p most g nd)(hm:p.N≤1000)(hK:K=1∨K=2)(hc:countTo nd p.N < most)(hn:nd i=none)(hb:∀ j,j < i→(nd j).isSome=true):
  zK 67 #[zP t,zI K] w fun e w'=>e = .returned (.tuple #[zG i (g i:Nat),.nilIface])∧AddedAt w w' t p most i g nd K:=by
 have htl:t < w.heap.size:=h.tlt;have hal:zQ w (w.alloc (zH 0 0)).drew:=((Only.refl _ _).alloc _).drew;have hcall:=tcount _ t p most g nd (h.kept hal (fun _ _=>by simp)) hm;have HR:Hid (∀ w2,zQ w w2→_):=fun w2 (ho:zQ w w2)=>troom w2 t p most i g nd (h.kept ho (fun _ _=>by simp)) hm hn hb;have H:Hid (TabAt w t p most g nd):=h;have HA:Hid (zQ w (w.alloc (zH 0 0)).drew):=hal;have hS0:=(hal.cell (p:=⟨t,0,none⟩) htl (by simp)).trans h.most;have hle:=countTo_le nd p.N;generalize countTo nd p.N=cn at hcall hc hle;clear h hn hb hal;rcases hK with rfl | rfl
 all_goals go_enter Tryz.func67,Tryz.ntmps67
 all_goals go_wp2
 all_goals go_region_held3 (fun W=>W.cell? (zA t 0)=some (zI most)) (first | exact hS0 | exact hS2)
  (first | (go_at_call 59;refine hcall.mono ?_;rintro e w2 ⟨rfl,ho2⟩;have HO:Hid (zQ w w2):=HA.out.trans ho2 (fun _ hk=>by cases hk);have hS2:=(H.out.kept HO.out (fun _ _=>by simp)).most;obtain ⟨r0,r1,f0,hl0⟩:=own_pair ho2.of_drew))
 all_goals have hroom:=HR.out w2 HO.out
 all_goals have hpw:∀ q,p.a=some q→q < w.heap.size:=fun q hq=>H.out.plt hq
 all_goals have HPW:Hid (∀ q,p.a=some q→q < w.heap.size):=hpw
 all_goals clear hpw hS0 hS2 hcall
 all_goals go_wp2_with (go_at_call 99;go_must (refine hroom.mono ?_);rintro e w3 ⟨rfl,p',hT3,hN3,ho3,hp3⟩;obtain ⟨b,hb,c0,c1,fb,hbl⟩:=hT3.place_at (i:=i) (by omega);have ct3:=hT3.tab;rw [show p'.v = .slice (some ⟨b,0,none⟩) p'.N p'.cap by simp [Row.v,hb]] at ct3;have hnB:w.heap.size∉t::p.a.toList:=(fun hm=>by rcases List.mem_cons.1 hm with h | h;omega;have:=HPW.out w.heap.size (by simpa using h);omega);have r3:=(ho3.cell (p:=⟨w.heap.size,0,none⟩) hl0 hnB).trans r0;have r4:=(ho3.cell (p:=⟨w.heap.size,1,none⟩) hl0 hnB).trans r1;have f3:∀ o,w3.frozen? ⟨w.heap.size,o,none⟩=false:=(fun o=>(ho3.frozen (p:=⟨w.heap.size,o,none⟩) hl0 hnB).trans (f0 o));have hl3:w.heap.size < w3.heap.size:=Nat.lt_of_lt_of_le hl0 ho3.size;have hi3:i < p'.N:=(by omega);have hbt:b≠t:=(fun e=>hT3.pt (by rw [hb,e]));have htl3:=hT3.tlt;have HT3:Hid (TabAt w3 t p' most g nd):=hT3;have HN3:Hid (p'.N=max p.N (i+1)):=hN3;have HO3:Hid (Only (t::p.a.toList) w2 w3):=ho3;have HP3:Hid (p'.a=p.a∨∃ k,p'.a=some k∧w2.heap.size≤k):=hp3;have HB:Hid (p'.a=some b):=hb;have hbB:b≠w.heap.size:=(fun e=>by rcases hp3 with h | ⟨k,h,hk⟩;have:=HPW.out b (by rw [← h];exact hb);omega;rw [h] at hb;cases hb;omega);clear hT3 hN3 ho3 hp3 hb hroom r0 r1 f0)
 all_goals have hnF:¬ InFoot t p' most nd w.heap.size:=own_not_foot H.out HP3.out hl0
 all_goals refine bodyPost_ret (v := .tuple #[zG i (g i:Nat),.nilIface]) (by simp [results,Tryz.results67,go_sem,r3,r4,hl3]) rfl ⟨rfl,p',w3.heap.size,(added HT3.out HB.out hi3 hnF hl3).1,⟨HN3.out,?_,?_⟩,by omega⟩
 all_goals first
  | (refine ((HO.out.mono (L':=t::p.a.toList) (fun _ hk=>by cases hk)).trans HO3.out (fun _ hk=>Or.inl hk)).trans (added HT3.out HB.out hi3 hnF hl3).2 (fun k hk=>?_)
     simp only [List.mem_cons,List.not_mem_nil,or_false] at hk;rcases hk with rfl | rfl
     · rcases HP3.out with h | ⟨q,h,hq⟩
       · exact Or.inl (List.mem_cons_of_mem _ (by rw [← h,HB.out];simp))
       · rw [HB.out] at h;cases h;exact Or.inr (Nat.le_trans HO.out.size hq)
     · exact Or.inr (Nat.le_refl _))
  | (rcases HP3.out with h | ⟨q,h,hq⟩
     · exact Or.inl h
     · exact Or.inr ⟨q,h,Nat.le_trans HO.out.size hq⟩)
section
variable (w:World)(t:Nat)(p:Row)(most:Nat)(g:Nat→Nat)(nd:Nat→Option Nod)
theorem find_no (N G:Int)(E:Value)(h:TabAt w t p most g nd)(hE:w.cell? ⟨9,0,none⟩=some E)(hs:Stale0 g nd N G)(w1:World)(ho:zQ w w1):
  zO 90 #[zP t,zG N G] w1 (.tuple #[.pointer none,E]) :=
 find_stale w1 t p most g nd N G E (h.kept ho (fun _ _=>by simp)) ((ho.cell (p:=⟨9,0,none⟩) (zv hE) (by simp)).trans hE) hs
theorem find_yes (i:Nat)(n:Nod)(h:TabAt w t p most g nd)(hn:nd i=some n)(w1:World)(ho:zQ w w1):
  zO 90 #[zP t,zG i (g i:Nat)] w1 (.tuple #[zP n.b,.nilIface]) :=
 find_ok w1 t p most i g nd n (h.kept ho (fun _ _=>by simp)) hn
end
theorem own_six {w w2:World}{B:Nat}{a b c d e f:Value}{ty:TypeId}(h:zQ (w.alloc (.cells #[a,b,c,d,e,f] ty)) w2)(hB:w.heap.size=B):
  w2.cell? (zA B 0)=some a∧w2.cell? (zA B 1)=some b∧w2.cell? (zA B 2)=some c∧w2.cell? (zA B 3)=some d∧w2.cell? (zA B 4)=some e∧w2.cell? (zA B 5)=some f∧(∀ o,w2.frozen? ⟨B,o,none⟩=false)∧B < w2.heap.size:=by
 subst hB;have hh:=zh w (.cells #[a,b,c,d,e,f] ty)
 have hlt:w.heap.size < (w.alloc (.cells #[a,b,c,d,e,f] ty)).heap.size:=by simp
 refine ⟨(h.cell (p:=⟨w.heap.size,0,none⟩) hlt (by simp)).trans (cell_of_row _ _ 0 _ _ _ hh),(h.cell (p:=⟨w.heap.size,1,none⟩) hlt (by simp)).trans (cell_of_row _ _ 1 _ _ _ hh),(h.cell (p:=⟨w.heap.size,2,none⟩) hlt (by simp)).trans (cell_of_row _ _ 2 _ _ _ hh),
  (h.cell (p:=⟨w.heap.size,3,none⟩) hlt (by simp)).trans (cell_of_row _ _ 3 _ _ _ hh),(h.cell (p:=⟨w.heap.size,4,none⟩) hlt (by simp)).trans (cell_of_row _ _ 4 _ _ _ hh),(h.cell (p:=⟨w.heap.size,5,none⟩) hlt (by simp)).trans (cell_of_row _ _ 5 _ _ _ hh),fun o=>?_,Nat.lt_of_lt_of_le hlt h.size⟩
 rw [h.frozen (p:=⟨w.heap.size,o,none⟩) hlt (by simp)];unfold World.frozen?;rw [hh];simp
theorem own_pairB {w w2:World}{B:Nat}{a b:Int}{ty:TypeId}(h:zQ (w.alloc (.cells #[zI a,zI b] ty)) w2)(hB:w.heap.size=B):
  w2.cell? (zA B 0)=some (zI a)∧w2.cell? (zA B 1)=some (zI b)∧(∀ o,w2.frozen? ⟨B,o,none⟩=false)∧B < w2.heap.size:=by
 subst hB;exact own_pair h
def attrV (K Z L C UN UG:Int):Value := .agg #[zI K,zI Z,zI L,zI C,zI UN,zI UG]
def errV (a:Addr):Value := .iface 240 (.pointer (some a))
theorem tattr_stale (w:World)(t:Nat)(p:Row)(most:Nat)(g:Nat→Nat)(nd:Nat→Option Nod)(N G:Int)(ad:Addr)(h:TabAt w t p most g nd)(hE:w.cell? ⟨9,0,none⟩=some (errV ad))(hs:Stale0 g nd N G):
  zO 58 #[zP t,zG N G] w (.tuple #[attrV 0 0 0 0 0 0,errV ad]):=by
 have HC:Hid (∀ w1,zQ w w1→_):=find_no w t p most g nd N G (errV ad) h hE hs;clear h hE hs;unfold errV at HC ⊢
 go_enter Tryz.func58,Tryz.ntmps58
 go_wp2_with (go_at_call 90;go_must (refine (HC.out _ (((Only.refl _ _).alloc _).alloc _)).mono ?_);rintro e w2 ⟨rfl,ho2⟩;have HO:Hid (zQ w w2):=(((Only.refl _ _).alloc _).alloc _).trans ho2 (fun _ hk=>by cases hk);obtain ⟨r0,r1,r2,r3,r4,r5,f0,hl0⟩:=own_six (B:=w.heap.size+1) ho2 (by simp))
 have hle:w.heap.size≤w.heap.size+1:=Nat.le_succ _;refine bodyPost_ret (v := .tuple #[attrV 0 0 0 0 0 0,.iface 240 (.pointer (some ad))]) (by simp [results,Tryz.results58,go_sem,r0,r1,r2,r3,r4,r5,attrV]) rfl ⟨rfl,?_⟩;exact (((((HO.out.setCell (Or.inr hle) _).setCell (Or.inr hle) _).setCell (Or.inr hle) _).setCell (Or.inr hle) _).setCell (Or.inr hle) _).setCell (Or.inr hle) _
theorem tdata_stale (w:World)(t:Nat)(p:Row)(most:Nat)(g:Nat→Nat)(nd:Nat→Option Nod)(N G:Int)(ad:Addr)(h:TabAt w t p most g nd)(hE:w.cell? ⟨9,0,none⟩=some (errV ad))(hs:Stale0 g nd N G):
  zO 76 #[zP t,zG N G] w (.tuple #[.pointer none,errV ad]):=by
 have HC:Hid (∀ w1,zQ w w1→_):=find_no w t p most g nd N G (errV ad) h hE hs;clear h hE hs;unfold errV at HC ⊢
 go_enter Tryz.func76,Tryz.ntmps76
 go_wp2_with (go_at_call 90;go_must (refine (HC.out _ ((Only.refl _ _).alloc _)).mono ?_);rintro e w2 ⟨rfl,ho2⟩;have HO:Hid (zQ w w2):=((Only.refl _ _).alloc _).trans ho2 (fun _ hk=>by cases hk))
 exact bodyPost_ret (v := .tuple #[.pointer none,.iface 240 (.pointer (some ad))]) (by simp [results,Tryz.results76,go_sem]) rfl ⟨rfl,HO.out⟩
theorem tdata_dir (w:World)(t:Nat)(p:Row)(most i:Nat)(g:Nat→Nat)(nd:Nat→Option Nod)(n:Nod)(F:Value)(h:TabAt w t p most g nd)(hF:w.cell? ⟨8,0,none⟩=some F)(hn:nd i=some n)(hK:n.K=2):
  zO 76 #[zP t,zG i (g i:Nat)] w (.tuple #[.pointer none,F]):=by
 have HC:Hid (∀ w1,zQ w w1→_):=find_yes w t p most g nd i n h hn;have ck:=(h.node i n hn).c0;have HK:Hid (w.cell? (zA n.b 0)=some (zI n.K)):=ck;have HF:Hid (w.cell? ⟨8,0,none⟩=some F):=hF;have hbl:n.b < w.heap.size:=zv ck;have hFl:8 < w.heap.size:=zv hF;clear h hn hF ck;generalize n.b=nb at HC HK hbl ⊢
 go_enter Tryz.func76,Tryz.ntmps76
 go_wp2_with (go_at_call 90;go_must (refine (HC.out _ ((Only.refl _ _).alloc _)).mono ?_);rintro e w2 ⟨rfl,ho2⟩;have HO:Hid (zQ w w2):=((Only.refl _ _).alloc _).trans ho2 (fun _ hk=>by cases hk);have c0:=(HO.out.cell (p:=⟨nb,0,none⟩) hbl (by simp)).trans HK.out;rw [hK] at c0;have cF:=(HO.out.cell (p:=⟨8,0,none⟩) hFl (by simp)).trans HF.out)
 go_region
 go_wp2
 exact bodyPost_ret (v := .tuple #[.pointer none,F]) (by simp [results,Tryz.results76,go_sem]) rfl ⟨rfl,HO.out.drew⟩
theorem tdata_ok (w:World)(t:Nat)(p:Row)(most i:Nat)(g:Nat→Nat)(nd:Nat→Option Nod)(n:Nod)(h:TabAt w t p most g nd)(hn:nd i=some n)(hK:n.K=1):
  zO 76 #[zP t,zG i (g i:Nat)] w (.tuple #[.pointer (some ⟨n.b,6,none⟩),.nilIface]):=by
 have HC:Hid (∀ w1,zQ w w1→_):=find_yes w t p most g nd i n h hn;have ck:=(h.node i n hn).c0;have HK:Hid (w.cell? (zA n.b 0)=some (zI n.K)):=ck;have hbl:n.b < w.heap.size:=zv ck;clear h hn ck;generalize n.b=nb at HC HK hbl ⊢
 go_enter Tryz.func76,Tryz.ntmps76
 go_wp2_with (go_at_call 90;go_must (refine (HC.out _ ((Only.refl _ _).alloc _)).mono ?_);rintro e w2 ⟨rfl,ho2⟩;have HO:Hid (zQ w w2):=((Only.refl _ _).alloc _).trans ho2 (fun _ hk=>by cases hk);have c0:=(HO.out.cell (p:=⟨nb,0,none⟩) hbl (by simp)).trans HK.out;rw [hK] at c0)
 exact bodyPost_ret (v := .tuple #[.pointer (some ⟨nb,6,none⟩),.nilIface]) (by simp [results,Tryz.results76,go_sem]) rfl ⟨rfl,HO.out⟩
theorem tattr_ok (w:World)(t:Nat)(p:Row)(most i:Nat)(g:Nat→Nat)(nd:Nat→Option Nod)(n:Nod)(z:Int)(h:TabAt w t p most g nd)(hn:nd i=some n)(hz:n.K=1∧z=(n.S.size:Int)∨n.K=2∧z=n.Z):
   zO 58 #[zP t,zG i (g i:Nat)] w (.tuple #[attrV n.K z n.L n.C n.UN n.UG,.nilIface]):=by
 have HC:Hid (∀ w1,zQ w w1→_):=find_yes w t p most g nd i n h hn;have hN:=h.node i n hn;have HN:Hid (NodAt w n):=hN;have hbl:n.b < w.heap.size:=zv hN.c0;clear h hn hN;obtain ⟨nb,K,Z,L,C,UN,UG,S,H,m⟩:=n;simp only at HC hbl hz ⊢;have hle:w.heap.size≤w.heap.size+1:=Nat.le_succ _;rcases hz with ⟨rfl,hz⟩ | ⟨rfl,hz⟩
 all_goals rw [hz]
 all_goals clear hz
 · go_enter Tryz.func58,Tryz.ntmps58
   go_wp2_with (first
    | (go_at_call 90;go_must (refine (HC.out _ (((Only.refl _ _).alloc _).alloc _)).mono ?_);rintro e w2 ⟨rfl,ho2⟩;have HO:Hid (zQ w w2):=(((Only.refl _ _).alloc _).alloc _).trans ho2 (fun _ hk=>by cases hk);obtain ⟨r0,r1,r2,r3,r4,r5,f0,hl0⟩:=own_six (B:=w.heap.size+1) ho2 (by simp);have HN2:Hid (NodAt w2 ⟨nb,1,Z,L,C,UN,UG,S,H,m⟩):=HN.out.kept HO.out (fun _ _=>by simp);obtain ⟨c0,c1,c2,c3,c4,c5,_⟩:=HN2.out;have hb2:nb < w2.heap.size:=zv c0)
    | (go_at_call 91;go_must (refine (dsizeO _ nb 6 S H m (HN2.out.d.kept ((Only.refl [] _).alloc _) (fun _ _=>by simp))).mono ?_);rintro e w3 ⟨rfl,rfl⟩)
    | go_in)
   refine bodyPost_ret (v := .tuple #[attrV 1 (S.size:Nat) L C UN UG,.nilIface]) (by simp [results,Tryz.results58,go_sem,r0,r1,r2,r3,r4,r5,hl0,attrV]) rfl ⟨rfl,?_⟩;exact ((((((HO.out.setCell (Or.inr hle) _).setCell (Or.inr hle) _).setCell (Or.inr hle) _).setCell (Or.inr hle) _).setCell (Or.inr hle) _).setCell (Or.inr hle) _).alloc _
 · go_enter Tryz.func58,Tryz.ntmps58
   go_wp2_with (first
    | (go_at_call 90;go_must (refine (HC.out _ (((Only.refl _ _).alloc _).alloc _)).mono ?_);rintro e w2 ⟨rfl,ho2⟩;have HO:Hid (zQ w w2):=(((Only.refl _ _).alloc _).alloc _).trans ho2 (fun _ hk=>by cases hk);obtain ⟨r0,r1,r2,r3,r4,r5,f0,hl0⟩:=own_six (B:=w.heap.size+1) ho2 (by simp);have HN2:Hid (NodAt w2 ⟨nb,2,Z,L,C,UN,UG,S,H,m⟩):=HN.out.kept HO.out (fun _ _=>by simp);obtain ⟨c0,c1,c2,c3,c4,c5,_⟩:=HN2.out;have hb2:nb < w2.heap.size:=zv c0)
    | go_in)
   refine bodyPost_ret (v := .tuple #[attrV 2 Z L C UN UG,.nilIface]) (by simp [results,Tryz.results58,go_sem,r0,r1,r2,r3,r4,r5,hl0,attrV]) rfl ⟨rfl,?_⟩;exact ((((((HO.out.setCell (Or.inr hle) _).setCell (Or.inr hle) _).setCell (Or.inr hle) _).setCell (Or.inr hle) _).setCell (Or.inr hle) _).setCell (Or.inr hle) _).alloc _
theorem DataO.put {w:World}{g o k:Nat}{S:ByteArray}{H:List Bool}{m:Option Nat}(h:DataO w g o S H m)(h0:k≠o)(h1:k≠o+1)(v:Value):DataO (w.setCell ⟨g,k,none⟩ v) g o S H m:=by
 obtain ⟨f,hs,hm⟩:=h.holds;refine ⟨?_,?_,fun j=>?_,h.ty.set _ _,f,hs,?_⟩
 · rw [World.cell?_setCell_other _ _ _ _ (by simp)];exact h.size
 · rw [World.cell?_setCell_other _ _ _ _ (by simp)];exact h.map
 · rw [World.frozen?_setCell];exact h.fz j
 · cases m with
   | none=>exact hm
   | some b =>
    obtain ⟨D,d1,d2⟩:=hm;exact ⟨D,d1.setCell (own_ne d1 h.size) _,d2⟩
theorem NodAt.putZ {w:World}{n:Nod}(h:NodAt w n)(z:Int):NodAt (w.setCell (zA n.b 1) (zI z)) { n with Z:=z }:=⟨(World.cell?_setCell_other _ _ _ _ (by simp)).trans h.c0,World.cell?_setCell_same _ _ _ h.c1,(World.cell?_setCell_other _ _ _ _ (by simp)).trans h.c2,(World.cell?_setCell_other _ _ _ _ (by simp)).trans h.c3,(World.cell?_setCell_other _ _ _ _ (by simp)).trans h.c4,(World.cell?_setCell_other _ _ _ _ (by simp)).trans h.c5,h.d.put (by omega) (by omega) _⟩
theorem NodAt.putL {w:World}{n:Nod}(h:NodAt w n)(z:Int):NodAt (w.setCell (zA n.b 2) (zI z)) { n with L:=z }:=⟨(World.cell?_setCell_other _ _ _ _ (by simp)).trans h.c0,(World.cell?_setCell_other _ _ _ _ (by simp)).trans h.c1,World.cell?_setCell_same _ _ _ h.c2,(World.cell?_setCell_other _ _ _ _ (by simp)).trans h.c3,(World.cell?_setCell_other _ _ _ _ (by simp)).trans h.c4,(World.cell?_setCell_other _ _ _ _ (by simp)).trans h.c5,h.d.put (by omega) (by omega) _⟩
theorem NodAt.putC {w:World}{n:Nod}(h:NodAt w n)(z:Int):NodAt (w.setCell (zA n.b 3) (zI z)) { n with C:=z }:=⟨(World.cell?_setCell_other _ _ _ _ (by simp)).trans h.c0,(World.cell?_setCell_other _ _ _ _ (by simp)).trans h.c1,(World.cell?_setCell_other _ _ _ _ (by simp)).trans h.c2,World.cell?_setCell_same _ _ _ h.c3,(World.cell?_setCell_other _ _ _ _ (by simp)).trans h.c4,(World.cell?_setCell_other _ _ _ _ (by simp)).trans h.c5,h.d.put (by omega) (by omega) _⟩
theorem NodAt.putUN {w:World}{n:Nod}(h:NodAt w n)(z:Int):NodAt (w.setCell (zA n.b 4) (zI z)) { n with UN:=z }:=⟨(World.cell?_setCell_other _ _ _ _ (by simp)).trans h.c0,(World.cell?_setCell_other _ _ _ _ (by simp)).trans h.c1,(World.cell?_setCell_other _ _ _ _ (by simp)).trans h.c2,(World.cell?_setCell_other _ _ _ _ (by simp)).trans h.c3,World.cell?_setCell_same _ _ _ h.c4,(World.cell?_setCell_other _ _ _ _ (by simp)).trans h.c5,h.d.put (by omega) (by omega) _⟩
theorem NodAt.putUG {w:World}{n:Nod}(h:NodAt w n)(z:Int):NodAt (w.setCell (zA n.b 5) (zI z)) { n with UG:=z }:=⟨(World.cell?_setCell_other _ _ _ _ (by simp)).trans h.c0,(World.cell?_setCell_other _ _ _ _ (by simp)).trans h.c1,(World.cell?_setCell_other _ _ _ _ (by simp)).trans h.c2,(World.cell?_setCell_other _ _ _ _ (by simp)).trans h.c3,(World.cell?_setCell_other _ _ _ _ (by simp)).trans h.c4,World.cell?_setCell_same _ _ _ h.c5,h.d.put (by omega) (by omega) _⟩
theorem TabAt.put {w w2 w':World}{t most i:Nat}{p:Row}{g:Nat→Nat}{nd:Nat→Option Nod}{n n':Nod}(h:TabAt w t p most g nd)(ho:zQ w w2)(hn:nd i=some n)(hb:n'.b=n.b)(hm:n'.m=n.m)(hN:NodAt w' n')(hw:Only [n.b] w2 w'):
  TabAt w' t p most g (setN nd i (some n'))∧Only [n.b] w w':=by
 have o:Only [n.b] w w':=(ho.mono (L':=[n.b]) (by simp)).trans hw (fun i hi=>Or.inl hi);refine ⟨h.turn hn hb hN (o.mono (fun k hk=>Or.inl (by simp at hk;subst hk;exact n.b_foot))) (fun k hk=>Or.inl ?_),o⟩;unfold Nod.foot at hk ⊢;rw [hb,hm] at hk;exact hk
theorem ttouch_ok (w:World)(t:Nat)(p:Row)(most i:Nat)(g:Nat→Nat)(nd:Nat→Option Nod)(n:Nod)(h:TabAt w t p most g nd)(hn:nd i=some n)(hC:0≤n.C∧n.C≤9000000000000000000):
  zK 98 #[zP t,zG i (g i:Nat)] w fun e w'=>e = .returned .nilIface∧TabAt w' t p most g (setN nd i (some { n with C:=n.C+1 }))∧Only [n.b] w w':=by
 have HC:Hid (∀ w1,zQ w w1→_):=find_yes w t p most g nd i n h hn;have HN:Hid (NodAt w n):=h.node i n hn;have HT:Hid (TabAt w t p most g nd):=h;have HI:Hid (nd i=some n):=hn;clear h hn;obtain ⟨hC0,hC1⟩:=hC
 go_enter Tryz.func98,Tryz.ntmps98
 go_wp2_with (go_at_call 90;go_must (refine (HC.out _ ((Only.refl _ _).alloc _)).mono ?_);rintro e w2 ⟨rfl,ho2⟩;have HO:Hid (zQ w w2):=((Only.refl _ _).alloc _).trans ho2 (fun _ hk=>by cases hk);have HN2:Hid (NodAt w2 n):=HN.out.kept HO.out (fun _ _=>by simp);have c3:=HN2.out.c3;have f3:=HN2.out.d.fz 3)
 go_ret
 exact ⟨rfl,HT.out.put HO.out HI.out rfl rfl (HN2.out.putC _) ((Only.refl _ _).setCell (Or.inl (by simp)) _)⟩
theorem tadj_file (w:World)(t:Nat)(p:Row)(most i:Nat)(g:Nat→Nat)(nd:Nat→Option Nod)(n:Nod)(a b c d:Int)(h:TabAt w t p most g nd)(hn:nd i=some n)(hab:0≤a∧0≤b)(hK:n.K=1):
  zK 96 #[zP t,zG i (g i:Nat),zI a,zI b,zG c d] w fun e w'=>e = .returned .nilIface∧TabAt w' t p most g (setN nd i (some { n with L:=b }))∧Only [n.b] w w':=by
 have HC:Hid (∀ w1,zQ w w1→_):=find_yes w t p most g nd i n h hn;have HN:Hid (NodAt w n):=h.node i n hn;have HT:Hid (TabAt w t p most g nd):=h;have HI:Hid (nd i=some n):=hn;clear h hn;have hd1:decide (a < 0)=false:=decide_eq_false (by omega);have hd2:decide (b < 0)=false:=decide_eq_false (by omega)
 go_enter Tryz.func96,Tryz.ntmps96
 go_wp2_with (go_at_call 90;go_must (refine (HC.out _ (((Only.refl _ _).alloc _).alloc _)).mono ?_);rintro e w2 ⟨rfl,ho2⟩;have HO:Hid (zQ w w2):=(((Only.refl _ _).alloc _).alloc _).trans ho2 (fun _ hk=>by cases hk);have HN2:Hid (NodAt w2 n):=HN.out.kept HO.out (fun _ _=>by simp);have c0:=HN2.out.c0;rw [hK] at c0;have c2:=HN2.out.c2;have f3:=HN2.out.d.fz)
 go_ret
 exact ⟨rfl,HT.out.put HO.out HI.out rfl rfl (HN2.out.putL b) ((Only.refl _ _).setCell (Or.inl (by simp)) _)⟩
theorem tadj_dir (w:World)(t:Nat)(p:Row)(most i:Nat)(g:Nat→Nat)(nd:Nat→Option Nod)(n:Nod)(a b c d:Int)(h:TabAt w t p most g nd)(hn:nd i=some n)(hab:0≤a∧0≤b)(hK:n.K=2):
  zK 96 #[zP t,zG i (g i:Nat),zI a,zI b,zG c d] w fun e w'=>e = .returned .nilIface∧TabAt w' t p most g (setN nd i (some { n with Z:=a,UN:=c,UG:=d,L:=b }))∧Only [n.b] w w':=by
 have HC:Hid (∀ w1,zQ w w1→_):=find_yes w t p most g nd i n h hn;have HN:Hid (NodAt w n):=h.node i n hn;have HT:Hid (TabAt w t p most g nd):=h;have HI:Hid (nd i=some n):=hn;clear h hn;have hd1:decide (a < 0)=false:=decide_eq_false (by omega);have hd2:decide (b < 0)=false:=decide_eq_false (by omega)
 go_enter Tryz.func96,Tryz.ntmps96
 go_wp2_with (go_at_call 90;go_must (refine (HC.out _ (((Only.refl _ _).alloc _).alloc _)).mono ?_);rintro e w2 ⟨rfl,ho2⟩;have HO:Hid (zQ w w2):=(((Only.refl _ _).alloc _).alloc _).trans ho2 (fun _ hk=>by cases hk);have HN2:Hid (NodAt w2 n):=HN.out.kept HO.out (fun _ _=>by simp);have c0:=HN2.out.c0;rw [hK] at c0;have c1:=HN2.out.c1;have c2:=HN2.out.c2;have c4:=HN2.out.c4;have c5:=HN2.out.c5;have f3:=HN2.out.d.fz;obtain ⟨u0,u1,fu,hlu⟩:=own_pairB (B:=w.heap.size+1) ho2 (by simp);have hbl:=zv c0;have hbw:=zv HN.out.c0)
 go_region
 go_wp2
 go_ret
 have o5:Only [n.b] w2 ((((w2.setCell (zA n.b 1) (zI a)).setCell (zA n.b 4) (zI c)).setCell (zA n.b 5) (zI d)).setCell (zA n.b 2) (zI b)) :=
  ((((Only.refl [n.b] w2).setCell (Or.inl (by simp)) _).setCell (Or.inl (by simp)) _).setCell (Or.inl (by simp)) _).setCell (Or.inl (by simp)) _
 have hN5:=(((HN2.out.putZ a).putUN c).putUG d).putL b;exact ⟨rfl,HT.out.put (n':={ n with Z:=a,UN:=c,UG:=d,L:=b }) HO.out HI.out rfl rfl (hN5.kept ((Only.refl [] _).drew) (fun _ _=>by simp)) o5.drew⟩
theorem tfree_ok (w:World)(t:Nat)(p:Row)(most i:Nat)(g:Nat→Nat)(nd:Nat→Option Nod)(n:Nod)(h:TabAt w t p most g nd)(hn:nd i=some n)(hG:g i≤9000000000000000000):
   zK 95 #[zP t,zG i (g i:Nat)] w fun e w'=>e = .returned .nilIface∧TabAt w' t p most (setN g i (g i+1)) (setN nd i none)∧Only p.a.toList w w':=by
 have HC:Hid (∀ w1,zQ w w1→_):=find_yes w t p most g nd i n h hn;have HT:Hid (TabAt w t p most g nd):=h;have hi:=h.lt hn;obtain ⟨b,hb,_,_,_,hbl⟩:=h.place_at hi;have HB:Hid (p.a=some b):=hb
 have hv:p.v = .slice (some ⟨b,0,none⟩) p.N p.cap:=by simp [Row.v,hb]
 have HV:Hid (p.v = .slice (some ⟨b,0,none⟩) p.N p.cap):=hv;clear h hn hb hv
 go_enter Tryz.func95,Tryz.ntmps95
 go_wp2_with (go_at_call 90;go_must (refine (HC.out _ ((Only.refl _ _).alloc _)).mono ?_);rintro e w2 ⟨rfl,ho2⟩;have HO:Hid (zQ w w2):=((Only.refl _ _).alloc _).trans ho2 (fun _ hk=>by cases hk);have HT2:Hid (TabAt w2 t p most g nd):=HT.out.kept HO.out (fun _ _=>by simp);have c0:=HT2.out.tab;rw [HV.out] at c0;obtain ⟨b',hb',c1,c2,fp,hl2⟩:=HT2.out.place_at hi;obtain rfl:b=b':=Option.some.inj (HB.out.symm.trans hb');clear hb';obtain ⟨u0,u1,fu,hlu⟩:=own_pair ho2)
 go_region
 go_wp2
 go_ret
 have o2:Only p.a.toList w ((w2.setCell ⟨b,i*2,none⟩ (zI ((g i:Int)+1))).setCell ⟨b,i*2+1,none⟩ (.pointer none)).drew:=by
   rw [HB.out];exact (((HO.out.mono (L':=[b]) (by simp)).setCell (Or.inl (by simp)) _).setCell (Or.inl (by simp)) _).drew
 refine ⟨rfl,HT.out.place (i:=i) HB.out hi (by rw [HB.out] at o2;exact o2) ?_ (fun j hj=>setN_other _ _ hj) (fun j hj=>setN_other _ _ hj) (fun n hn=>?_),o2⟩
 · have hr:=HT2.out.row
   rw [HV.out] at hr ⊢;have h1:=(hr.stored (i*2) (zI ((g i:Int)+1))).1;have e1:=rowOf_set placeCells_len (places p.N g nd) i 0 (g i,nd i) (g i+1,nd i) (zI ((g i:Int)+1)) (by decide) (places_get g nd hi) (by simp [placeCells]);simp only [Nat.add_zero] at e1;rw [e1] at h1;have h2:=(h1.stored (i*2+1) (.pointer none)).1;have e2:=rowOf_set placeCells_len ((places p.N g nd).set i (g i+1,nd i)) i 1 (g i+1,nd i) (g i+1,none) (.pointer none) (by decide) (by rw [List.getElem?_set_self (by rw [places_len];exact hi)]) (by simp [placeCells]);rw [e2,List.set_set] at h2;rw [setN_same,setN_same];exact h2
 · rw [setN_same] at hn
   cases hn
theorem setN_again {α:Type}(f:Nat→α)(i:Nat)(a b:α):setN (setN f i a) i b=setN f i b:=by
 funext j
 by_cases h:j=i
 · subst h;rw [setN_same,setN_same]
 · rw [setN_other _ _ h,setN_other _ _ h,setN_other _ _ h]
end
section
open Go Go.RowKit Go.Maps
structure Ent where
 s:List UInt8
 i:Nat
 c:Nat
def entV (i c:Nat):DataW Unit := .agg [.lit (.int .i64 i),.lit (.int .i64 c)]
def entP (e:Ent):Lit×DataW Unit:=(.string e.s,entV e.i e.c)
def entD (l:List Ent):DataW Unit := .map (l.map entP)
def findE (l:List Ent)(s:List UInt8):Option Ent:=l.find? (fun e=>e.s==s)
def insE (x:Ent):List Ent→List Ent
 | []=>[x]
 | y::r=>if bytesBefore x.s y.s then x::y::r else y::insE x r
def dropE (l:List Ent)(s:List UInt8):List Ent:=l.filter (fun e=>!(e.s==s))
theorem has_entD (l:List Ent)(s:List UInt8):has (entD l) (.string s)=(findE l s).isSome:=by
 show (l.map entP).any _=_
 induction l with
 | nil=>rfl
 | cons x l ih =>
  rw [List.map_cons,List.any_cons,ih];unfold findE;rw [List.find?_cons];show (x.s==s || _)=_
  cases x.s==s<;>rfl
theorem at_entD (l:List Ent)(s:List UInt8)(z:DataW Unit):(entD l).atKey (.string s) z=match findE l s with | some e=>entV e.i e.c | none=>z:=by
 have h:(l.map entP).find? (fun p=>p.1.sameKey (.string s))=(findE l s).map entP:=by
  unfold findE;rw [List.find?_map];rfl
 unfold entD DataW.atKey;simp only [h]
 cases findE l s<;>rfl
theorem insE_map (x:Ent)(l:List Ent):DataW.insert (entP x) (l.map entP)=(insE x l).map entP:=by
 induction l with
 | nil=>rfl
 | cons y l ih =>
  show (if bytesBefore x.s y.s then _ else _)=_;unfold insE
  split
  · rfl
  · rw [List.map_cons,ih]
theorem dropE_map (l:List Ent)(s:List UInt8):(l.map entP).filter (fun p=>!p.1.sameKey (.string s))=(dropE l s).map entP:=by
 unfold dropE;rw [List.filter_map];rfl
theorem put_entD (l:List Ent)(x:Ent):(entD l).put (.string x.s) (entV x.i x.c)=entD (insE x (dropE l x.s)):=by
 show DataW.map (DataW.insert (entP x) ((l.map entP).filter _))=_;rw [dropE_map,insE_map];rfl
theorem del_entD (l:List Ent)(s:List UInt8):(entD l).del (.string s)=entD (dropE l s):=by
 show DataW.map ((l.map entP).filter _)=_;rw [dropE_map];rfl
theorem size_entD (l:List Ent):Maps.size (entD l)=l.length:=by
 show (l.map entP).length=_;simp
theorem dropE_none {l:List Ent}{s:List UInt8}(h:findE l s=none):dropE l s=l:=by
 unfold dropE;rw [List.filter_eq_self];intro e he;have:=List.find?_eq_none.1 h e he
 simpa using this
theorem length_insE (x:Ent)(l:List Ent):(insE x l).length=l.length+1:=by
 induction l with
 | nil=>rfl
 | cons y l ih =>
  unfold insE
  split
  · rfl
  · simp [ih]
theorem mem_insE {x y:Ent}{l:List Ent}:y∈insE x l↔y=x∨y∈l:=by
 induction l with
 | nil=>simp [insE]
 | cons z l ih =>
  unfold insE
  split
  · simp
  · rw [List.mem_cons,ih,List.mem_cons]
    constructor
    · rintro (h | h | h)
      · exact Or.inr (Or.inl h)
      · exact Or.inl h
      · exact Or.inr (Or.inr h)
    · rintro (h | h | h)
      · exact Or.inr (Or.inl h)
      · exact Or.inl h
      · exact Or.inr (Or.inr h)
structure Reads {K V:Type}(key:K→Lit)(val:V→DataW Unit)(D:DataW Unit)(f:K→Option V):Prop where
 keys:∀ kl,has D kl=true→∃ k v,kl=key k∧f k=some v
 gone:∀ k,f k=none→has D (key k)=false
 there:∀ k v,f k=some v→has D (key k)=true∧∀ z,D.atKey (key k) z=val v
section
variable {K V:Type}{key:K→Lit}{val:V→DataW Unit}{D:DataW Unit}{f f':K→Option V}
theorem Reads.empty:Reads key val (.map []) (fun _=>none):=⟨fun kl h=>by simp [has] at h,fun k _=>by simp [has],fun k v h=>by cases h⟩
theorem Reads.isSome (h:Reads key val D f)(k:K):has D (key k)=(f k).isSome:=by
 cases e:f k with
 | none=>rw [h.gone k e];rfl
 | some v=>rw [(h.there k v e).1];rfl
theorem Reads.look (h:Reads key val D f)(k:K)(z:DataW Unit):D.atKey (key k) z=match f k with | some v=>val v | none=>z:=by
 cases e:f k with
 | none=>exact atKey_of_not_has (h.gone k e) _
 | some v=>exact (h.there k v e).2 _
theorem Reads.put (h:Reads key val D f)(hD:IsMap D)(hk:∀ k,WideAt.IsKeyLit (key k)){k:K}{v:V}(hinj:∀ j,key j=key k→j=k)(h1:f' k=some v)(h2:∀ j,j≠k→f' j=f j):Reads key val (D.put (key k) (val v)) f':=by
 refine ⟨fun kl hh=>?_,fun j hj=>?_,fun j u hj=>?_⟩
 · by_cases e:kl=key k
   · exact ⟨k,v,e,h1⟩
   · rw [has_put_other e] at hh
     obtain ⟨j,u,rfl,hj⟩:=h.keys kl hh;exact ⟨j,u,rfl,by rw [h2 j (fun x=>e (by rw [x]))];exact hj⟩
 · have e:j≠k:=fun x=>by rw [x,h1] at hj;cases hj
   rw [has_put_other (fun x=>e (hinj _ x))];exact h.gone j (by rw [← h2 j e];exact hj)
 · by_cases e:j=k
   · subst e
     rw [h1] at hj
     cases hj
     exact ⟨has_put_same hD (hk j) _,fun z=>atKey_put_same hD (hk j) _ z⟩
   · rw [h2 j e] at hj
     obtain ⟨a,b⟩:=h.there j u hj;exact ⟨by rw [has_put_other (fun x=>e (hinj _ x))];exact a,fun z=>by rw [atKey_put_other (fun x=>e (hinj _ x))];exact b z⟩
theorem Reads.del (h:Reads key val D f){k:K}(hinj:∀ j,key j=key k→j=k)(h1:f' k=none)(h2:∀ j,j≠k→f' j=f j):Reads key val (D.del (key k)) f':=by
 refine ⟨fun kl hh=>?_,fun j hj=>?_,fun j u hj=>?_⟩
 · by_cases e:kl=key k
   · rw [e,has_del_same] at hh;cases hh
   · rw [has_del_other e] at hh
     obtain ⟨j,u,rfl,hj⟩:=h.keys kl hh;exact ⟨j,u,rfl,by rw [h2 j (fun x=>e (by rw [x]))];exact hj⟩
 · by_cases e:j=k
   · rw [e];exact has_del_same
   · rw [has_del_other (fun x=>e (hinj _ x))]
     exact h.gone j (by rw [← h2 j e];exact hj)
 · have e:j≠k:=fun x=>by rw [x,h1] at hj;cases hj
   rw [h2 j e] at hj;obtain ⟨a,b⟩:=h.there j u hj;exact ⟨by rw [has_del_other (fun x=>e (hinj _ x))];exact a,fun z=>by rw [atKey_del_other (fun x=>e (hinj _ x))];exact b z⟩
theorem Reads.congr (h:Reads key val D f)(e:∀ k,f' k=f k):Reads key val D f':=by
 have:f'=f:=funext e;rw [this];exact h
end
end
section
open Go Go.RowKit Go.Deep Go.Maps
theorem undHandle:(match Tryz.prog.underlying 32 with | some (.array _ _) | some (.struct _)=>true | _=>false)=true:=by kernel_rfl
theorem keyHandle:Tryz.prog.keyType 32=true:=by kernel_rfl
theorem laidOut:laidOutB Tryz.prog=true:=by kernel_rfl
theorem lawH:Keyed Tryz.prog 32:=Keyed.of_law (deep_law_gate laidOut (by decide +kernel) (by decide +kernel) keyHandle undHandle)
theorem lawS:Keyed Tryz.prog 9:=Keyed.of_law (WideMaps.string_law Tryz.underlying9)
def handV (i c:Nat):Value:=zG i c
def hkey (k:Nat×Nat):Lit:=if k.1 < 9223372036854775808∧k.2 < 9223372036854775808 then .string (keyBytes [.int .i64 (k.1:Nat),.int .i64 (k.2:Nat)]) else .bool false
theorem hkey_key (k:Nat×Nat):WideAt.IsKeyLit (hkey k):=by
 unfold hkey
 split<;>trivial
theorem cellsInt:Tryz.prog.cellsOf 3=1:=by kernel_rfl
theorem cellsHandle:Tryz.prog.cellsOf 32=2:=by kernel_rfl
theorem lits_int (d:Nat)(n:Nat)(h:n < 9223372036854775808):Tryz.prog.keyLits (d+1) 3 [.int .i64 n]=some [.int .i64 n]:=by
 have hw:=key_wf h;unfold Program.keyLits;rw [Tryz.underlying3];simp [hw]
theorem keyOf_handle {i c:Nat}(hi:i < 9223372036854775808)(hc:c < 9223372036854775808):keyOf Tryz.prog 32 (handV i c)=some (hkey (i,c)):=by
 have h0:0 < Tryz.prog.types.size:=by decide +kernel
 obtain ⟨m,hm⟩:∃ m,Tryz.prog.types.size=m+1:=⟨Tryz.prog.types.size - 1,by omega⟩
 have hf:(handV i c).formed Tryz.prog 32=true:=by
  unfold handV Value.formed;rw [Tryz.underlying32,cellsHandle];rfl
 have hl:Tryz.prog.keyLits (m+1+1) 32 (handV i c).cells.toList=some [.int .i64 i,.int .i64 c]:=by
  unfold Program.keyLits;rw [Tryz.underlying32,cellsHandle];simp [handV,Value.cells,cellsInt,lits_int m i hi,lits_int m c hc]
 have hkk:hkey (i,c) = .string (keyBytes [.int .i64 (i:Nat),.int .i64 (c:Nat)]):=if_pos (And.intro hi hc);rw [hkk];unfold keyOf;rw [Tryz.underlying32,keyHandle,hf,hm,hl];rfl
theorem handV_inj {i c j d:Nat}(h:handV i c=handV j d):i=j∧c=d:=by
 unfold handV at h;simp only [Value.agg.injEq,Array.mk.injEq,List.cons.injEq,Value.int.injEq,true_and,and_true] at h;omega
theorem undDirs:Tryz.prog.underlying 113=some (.map 32 112):=by kernel_rfl
theorem undNames:Tryz.prog.underlying 112=some (.map 9 32):=by kernel_rfl
theorem undPins:Tryz.prog.underlying 114=some (.map 32 3):=by kernel_rfl
theorem infoDir:(Tryz.prog.info? 112).map (fun i=>(i.zero,i.size))=some (some (.map none),1):=by kernel_rfl
theorem infoHand:(Tryz.prog.info? 32).map (fun i=>(i.zero,i.size))=some (some (zG 0 0),2):=by kernel_rfl
theorem zeroDir (w:World):(zeroValue 112).run Tryz.prog w = .ok (.map none) w:=(zero_of_info infoDir).1 w
theorem zeroHand (w:World):(zeroValue 32).run Tryz.prog w = .ok (zG 0 0) w:=(zero_of_info infoHand).1 w
def mapElem:Value→Option (DataW Unit×List MemPlace)
 | .map (some b)=>some (.lit (.int .i64 b),[])
 | .map none=>some (.lit (.int .i64 (-1)),[])
 | _=>none
def handElem:Value→Option (DataW Unit×List MemPlace)
 | .agg cs=>match cs.toList with
  | [.int .i64 a,.int .i64 b]=>some (.agg [.lit (.int .i64 a),.lit (.int .i64 b)],[])
  | _=>none
 | _=>none
theorem handElem_mk (i c:Nat):handElem (handV i c)=some (entV i c,[]):=rfl
theorem mapElem_inv {v:Value}{b:Nat}{ps:List MemPlace}(h:mapElem v=some (.lit (.int .i64 b),ps)):v = .map (some b):=by
 unfold mapElem at h
 split at h
 · simp only [Option.some.injEq,Prod.mk.injEq,DataW.lit.injEq,Lit.int.injEq,true_and] at h
   have:(_:Nat)=b:=Int.ofNat_inj.1 h.1;rw [this]
 · simp at h
 · cases h
theorem handElem_inv {v:Value}{i c:Nat}{ps:List MemPlace}(h:handElem v=some (entV i c,ps)):v=handV i c:=by
 unfold handElem at h
 split at h
 · rename_i cs
   split at h
   · rename_i a b e
     simp only [entV,Option.some.injEq,Prod.mk.injEq,DataW.agg.injEq,List.cons.injEq,DataW.lit.injEq,Lit.int.injEq,true_and,and_true] at h;obtain ⟨⟨h1,h2⟩,_⟩:=h;unfold handV;rw [← h1,← h2];congr 1;rw [← e]
   · cases h
 · cases h
end
end Go.Proofs.YtooblpbmcnmicaaGreatDoor
