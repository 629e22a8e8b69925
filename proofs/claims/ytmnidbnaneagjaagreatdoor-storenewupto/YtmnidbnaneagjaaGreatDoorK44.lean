import Derived.Test.YtmnidbnaneagjaaGreatDoorK43
set_option maxRecDepth 100000
set_option maxHeartbeats 8000000
namespace Go.Proofs.YtmnidbnaneagjaaGreatDoor
section
open Go Go.RowKit Go.Deep Go.Maps
theorem fresh_cq {t:Nat}{p:Row}{most b db B pb:Nat}(hN:p.N=1):absT (Tr.fresh t p most b db B pb)=cqC2 0 0:=by
 refine Lc.ext' hN rfl (fun i=>?_) (fun i=>?_)
 · show ((Tr.fresh t p most b db B pb).nd i).map bareN=if i≤0 then some (cqN 0 0 i) else none
   match i with
   | 0=>rfl
   | i+1 =>
    rw [if_neg (by omega)]
    rw [show (Tr.fresh t p most b db B pb).nd (i+1)=none from by simp [Tr.fresh,setN]]
    rfl
 · show ((Tr.fresh t p most b db B pb).ds i).map (·.l)=if i < 0 then some [entQ1 i] else if i≤0 then some [] else none
   match i with
   | 0=>rfl
   | i+1 =>
    rw [if_neg (by omega),if_neg (by omega)]
    rw [show (Tr.fresh t p most b db B pb).ds (i+1)=none from by simp [Tr.fresh,setN]]
    rfl
theorem cqOk (n:Nat):LcOk (cqC2 n n) 0:=by
 have hnd:∀ i x,(cqC2 n n).nd i=some x→i≤n∧x=cqN n n i:=fun i x h=>by
   change (if i≤n then some (cqN n n i) else none)=some x at h
   by_cases hi:i≤n
   · rw [if_pos hi] at h
     exact ⟨hi,(Option.some.inj h).symm⟩
   · rw [if_neg hi] at h
     cases h
 have hds:∀ i l,(cqC2 n n).ds i=some l→i≤n∧(l=[]∨(i < n∧l=[entQ1 i])):=fun i l h=>by
   change (if i < n then some [entQ1 i] else if i≤n then some [] else none)=some l at h
   by_cases hi:i < n
   · rw [if_pos hi] at h
     exact ⟨by omega,Or.inr ⟨hi,(Option.some.inj h).symm⟩⟩
   · rw [if_neg hi] at h
     by_cases h2:i≤n
     · rw [if_pos h2] at h
       exact ⟨h2,Or.inl (Option.some.inj h).symm⟩
     · rw [if_neg h2] at h
       cases h
 have hin:∀ i,i≤n→(cqC2 n n).nd i=some (cqN n n i):=fun i hi=>by
   show (if i≤n then some (cqN n n i) else none)=_;rw [if_pos hi]
 refine ⟨fun i x h=>?_,fun i x h _=>?_,fun i l h=>?_,fun i l h e he=>?_,fun i l h=>?_,fun i x h=>?_,fun i x h=>?_,fun i x h _=>?_⟩
 · obtain ⟨h1,rfl⟩:=hnd i x h
   exact ⟨Or.inr rfl,by show i < n+1;omega⟩
 · obtain ⟨h1,rfl⟩:=hnd i x h
   show ∃ l,(if i < n then some [entQ1 i] else if i≤n then some [] else none)=some l
   by_cases hi:i < n
   · exact ⟨_,if_pos hi⟩
   · exact ⟨[],by rw [if_neg hi,if_pos h1]⟩
 · obtain ⟨h1,_⟩:=hds i l h
   exact ⟨_,hin i h1,rfl⟩
 · obtain ⟨h1,rfl | ⟨h2,rfl⟩⟩:=hds i l h
   · cases he
   · rw [List.mem_singleton.1 he]
     exact ⟨⟨_,hin (i+1) (by omega)⟩,rfl,by show ([97]:List UInt8).length≤24;decide⟩
 · obtain ⟨h1,rfl | ⟨h2,rfl⟩⟩:=hds i l h<;>simp
 · obtain ⟨h1,rfl⟩:=hnd i x h
   by_cases hi:i < n<;>simp [cqN,hi]
 · obtain ⟨h1,rfl⟩:=hnd i x h
   by_cases hi:i < n<;>simp [cqN,hi]
 · obtain ⟨h1,rfl⟩:=hnd i x h
   refine ⟨i - 1,cqN n n (i - 1),?_,?_,hin (i - 1) (by omega),rfl⟩
   · show (if i≤n then ((i - 1:Nat):Int) else 0)=_
     rw [if_pos h1]
   · rfl
theorem saveOk_cq {T:Tr}{n:Nat}(h:absT T=cqC2 n n)(hN:T.p.N≤1000):SaveOk T:=saveOk_of (q:=0) (by rw [h];exact cqOk n) hN
section
variable {g:Dv}{w w':World}{s:DSt}
theorem Ds.onlyS (h:Ds g w s){b:Nat}{cs:Array Value}{ty:TypeId}{fr:Nat×Nat}(hb:w.heap[b]?=some (.cells cs ty fr))(h1:ty≠61)(h2:ty≠106)(h3:ty≠108)(hge:g.W0.heap.size≤b)(ho:Only [b] w w'):Ds g w' s:=by
 obtain ⟨vw,hd⟩:=h.dk;exact ⟨⟨vw,hd.only ho (fun k hk hm=>foot_type hd hb h1 h2 h3 (by rw [← List.mem_singleton.1 hm];exact hk))⟩,h.er,h.bel.trans (ho.to_below h.bel.size (fun k hk=>by rw [List.mem_singleton.1 hk];exact hge)),h.ge,Nat.le_trans h.bs ho.size,h.pl⟩
theorem LogAt.onlyS {l b:Nat}{dark:Bool}(h:LogAt w g l dark)(ho:Only [b] w w')(hb:l≠b):LogAt w' g l dark:=⟨(ho.block l (Array.getElem?_eq_some_iff.1 h.blk).1 (by simpa using hb)).trans h.blk,h.ge⟩
end
theorem SvS.onlyS {w w':World}{s tr lt mb b:Nat}{T:Tr}(h:SvS w s tr lt mb T)(ho:Only [b] w w')(h1:s≠b)(h2:lt≠b)(h3:mb≠b)(h4:∀ k,FootT tr T k→k≠b):SvS w' s tr lt mb T:=by
 obtain ⟨a,c,hr⟩:=h.row;exact ⟨⟨a,c,(ho.block s (Array.getElem?_eq_some_iff.1 hr).1 (by simpa using h1)).trans hr⟩,h.ls.kept ho (by simpa using h2) (by simpa using h3),h.trow.only ho (by simpa using h4 tr (Or.inl rfl)),h.tree.kept ho (fun k hk=>by simpa using h4 k hk)⟩
theorem SvS.lt {w:World}{s tr lt mb:Nat}{T:Tr}(h:SvS w s tr lt mb T):s < w.heap.size∧lt < w.heap.size∧mb < w.heap.size∧∀ k,FootT tr T k→k < w.heap.size :=
 ⟨lt_of_cell h.c0,h.ls.lt,h.ls.mlt,fun k hk=>h.tree.foot_lt k hk⟩
structure StS (g:Dv)(w:World)(s:DSt)(st sv tr lt mb l:Nat)(T:Tr):Prop where
 row:w.heap[st]?=some (.cells (stC (.pointer (some ⟨sv,0,none⟩)) 0 (.slice none 0 0) (.pointer (some ⟨l,0,none⟩)) (bs (snapT T)) ⟨#[]⟩ .nilIface) 74 (0,0))
 ge:g.W0.heap.size≤st
 srv:SvS w sv tr lt mb T
 off:sv≠st∧lt≠st∧mb≠st∧∀ k,FootT tr T k→k≠st
 ds:Ds g w s
 log:LogAt w g l false
 wt:s.wt=[]
 ok:LogOk s.sec [snapT T,[]] 0
 pw:s.pw=none
def FormS (g:Dv)(w w':World)(N most:Nat)(e:Ending):Prop :=
 (¬ roomS (newSec N) true [cqT 0,[]]∧e = .returned (.tuple #[.pointer none,.iface 535 (.pointer (some (g.A 8)))])) ∨
 (roomS (newSec N) true [cqT 0,[]]∧∃ st sv tr lt mb l t p b db B pb s',e = .returned (.tuple #[.pointer (some ⟨st,0,none⟩),.nilIface])∧StS g w' s' st sv tr lt mb l (Tr.fresh t p most b db B pb)∧p.N=1∧s'.sec.length=N∧(∃ N0,(∀ k,FootT tr (Tr.fresh t p most b db B pb) k→k < N0)∧N0≤sv∧N0≤lt∧N0≤mb∧N0≤st)∧∀ k∈B::b::db::t::p.a.toList,w.heap.size≤k)
section
variable {g:Dv}{w:World}{s:DSt}
theorem sformat_ok (A:Nat→Addr)(hA:g.A=A)(hE0:Errs g.W0 A)(most:Nat)(h1:1≤most)(h2:most≤300)(hd:Ds g w s){N:Nat}(hs:s.sec=List.replicate N zeroS)(hN:8≤N)(hw:s.wt=[])(hp:s.pw=none):
   Calls Tryz.prog 9 #[.pointer (some ⟨g.t,0,none⟩),.int .i64 (most:Nat)] w fun e w'=>FormS g w w' N most e:=by
 have hN4:N≤4000:=by have:=hd.most.2;rw [hs,List.length_replicate] at this;exact this
 have HNW:=serveNewS w most h1 h2;have HLG:Hid (∀ W,Only [] w W→Calls Tryz.prog 26 #[.pointer (some ⟨g.t,0,none⟩)] W fun e w'=>∃ l,e = .returned (.tuple #[.pointer (some ⟨l,0,none⟩),.nilIface])∧Ds g w' ⟨none,newSec N,[]⟩∧LogAt w' g l false∧OthL W w'):=fun W ho=>logOf_new (hd.keep ho) hs hN hw hp;have HK:Hid (g.A=A∧Errs g.W0 A∧8≤N∧N≤4000∧g.W0.heap.size≤w.heap.size):=⟨hA,hE0,hN,hN4,hd.bel.size⟩;clear hd hs hN hw hp hA hE0 h1 h2 hN4
 go_enter Tryz.func9,Tryz.ntmps9
 go_upto_region 8 with (first
   | (go_at_call 25;refine HNW.mono ?_;rintro e w1 ⟨sv,tr,lt,mb,t,p,b,db,B,pb,rfl,hS,hN,hsv,hlo,ho⟩;have H1:Hid (SvS w1 sv tr lt mb (Tr.fresh t p most b db B pb)∧p.N=1∧(∃ N0,(∀ k,FootT tr (Tr.fresh t p most b db B pb) k→k < N0)∧N0≤sv∧N0≤lt∧N0≤mb)∧(∀ k∈B::b::db::t::p.a.toList,w.heap.size≤k)∧Only [] w w1):=⟨hS,hN,hsv.2,hlo,ho⟩;clear HNW hS hN hsv hlo ho)
   | (go_at_call 26;refine (HLG.out _ H1.out.2.2.2.2).mono ?_;rintro e w2 ⟨l,rfl,q1,q2,q3⟩;have H2:Hid (SvS w2 sv tr lt mb (Tr.fresh t p most b db B pb)∧Ds g w2 ⟨none,newSec N,[]⟩∧LogAt w2 g l false∧w.heap.size≤w2.heap.size):=⟨H1.out.1.othL q3,q1,q2,Nat.le_trans H1.out.2.2.2.2.size q3.size⟩;clear HLG q1 q2 q3))
 have hb3:=heap_alloc_last w2 (.cells (stC (.pointer (some ⟨sv,0,none⟩)) 0 (.slice none 0 0) (.pointer (some ⟨l,0,none⟩)) ⟨#[]⟩ ⟨#[]⟩ .nilIface) 74);have o3:Only [] w2 (w2.alloc (.cells (stC (.pointer (some ⟨sv,0,none⟩)) 0 (.slice none 0 0) (.pointer (some ⟨l,0,none⟩)) ⟨#[]⟩ ⟨#[]⟩ .nilIface) 74)):=(Only.refl [] w2).alloc _;obtain ⟨l1,l2,l3,l4⟩:=H2.out.1.lt;have ll:l < w2.heap.size:=(Array.getElem?_eq_some_iff.1 H2.out.2.2.1.blk).1;have H3:Hid (SvS (w2.alloc (.cells (stC (.pointer (some ⟨sv,0,none⟩)) 0 (.slice none 0 0) (.pointer (some ⟨l,0,none⟩)) ⟨#[]⟩ ⟨#[]⟩ .nilIface) 74)) sv tr lt mb (Tr.fresh t p most b db B pb)∧Ds g (w2.alloc (.cells (stC (.pointer (some ⟨sv,0,none⟩)) 0 (.slice none 0 0) (.pointer (some ⟨l,0,none⟩)) ⟨#[]⟩ ⟨#[]⟩ .nilIface) 74)) ⟨none,newSec N,[]⟩∧LogAt (w2.alloc (.cells (stC (.pointer (some ⟨sv,0,none⟩)) 0 (.slice none 0 0) (.pointer (some ⟨l,0,none⟩)) ⟨#[]⟩ ⟨#[]⟩ .nilIface) 74)) g l false):=⟨H2.out.1.only o3,H2.out.2.1.keep o3,H2.out.2.2.1.keep (Oth.of_only o3)⟩;have HS3:Hid (sv < w2.heap.size∧lt < w2.heap.size∧mb < w2.heap.size∧(∀ k,FootT tr (Tr.fresh t p most b db B pb) k→k < w2.heap.size)∧l < w2.heap.size∧w.heap.size≤w2.heap.size):=⟨l1,l2,l3,l4,ll,H2.out.2.2.2⟩;clear l1 l2 l3 l4 ll o3;generalize w2.alloc (.cells (stC (.pointer (some ⟨sv,0,none⟩)) 0 (.slice none 0 0) (.pointer (some ⟨l,0,none⟩)) ⟨#[]⟩ ⟨#[]⟩ .nilIface) 74)=w3 at hb3 H3 ⊢;generalize w2.heap.size=st at hb3 HS3 ⊢;have HB3:Hid (w3.heap[st]?=some (.cells (stC (.pointer (some ⟨sv,0,none⟩)) 0 (.slice none 0 0) (.pointer (some ⟨l,0,none⟩)) ⟨#[]⟩ ⟨#[]⟩ .nilIface) 74 (0,0))):=hb3;have hab:absT (Tr.fresh t p most b db B pb)=cqC2 0 0:=fresh_cq H1.out.2.1;have hE3:Errs w3 A:=HK.out.2.1.below H3.out.2.1.bel (Nat.le_refl _);have hlen:(cqT 0).length≤15000:=chT_len (by decide);have hsv:=save_ok A HK.out.1 st sv tr l 0 ⟨#[]⟩ .nilIface (snapT (Tr.fresh t p most b db B pb)) HB3.out (Nat.le_trans HK.out.2.2.2.2 HS3.out.2.2.2.2.2) (by rw [snap_cq hab];omega) (H3.out.1.reads hE3 (saveOk_cq hab (by show p.N≤1000;rw [H1.out.2.1];decide))) H3.out.2.1 H3.out.2.2 rfl rfl (newSec_log HK.out.2.2.1 HK.out.2.2.2.1);have HAB:Hid (snapT (Tr.fresh t p most b db B pb)=cqT 0):=snap_cq hab;clear hb3 hE3 hlen hab
 go_wp2_with fail
 refine hsv.mono ?_;rintro e w4 (⟨hq,_⟩ | ⟨_,hr,he⟩ | ⟨_,hr,rfl,s',w5,q1,q2,q3,q4,q5,q6,q7,q8,q9⟩)
 · exfalso
   rw [HAB.out] at hq;have:=congrArg ByteArray.size hq;rw [bs_size] at this
   revert this
   decide
 · have HR:Hid (¬ roomS (newSec N) true [cqT 0,[]]):=by rw [← HAB.out];exact hr
   have he':e = .returned (.iface 535 (.pointer (some (g.A 8)))):=he;clear he;subst he';clear hsv hr
   go_wp2
   go_ret2
   exact Or.inl ⟨HR.out,rfl⟩
 · have HR:Hid (roomS (newSec N) true [cqT 0,[]]):=by rw [← HAB.out];exact hr
   have hr5:=q7.block st _ _ _ HB3.out (by decide) (by decide) (by decide) (by decide);have hge:g.W0.heap.size≤st:=Nat.le_trans HK.out.2.2.2.2 HS3.out.2.2.2.2.2;obtain ⟨m1,m2,m3,m4,m5,m6⟩:=HS3.out
   have HQ:Hid (StS g w4 s' st sv tr lt mb l (Tr.fresh t p most b db B pb)∧s'.sec.length=N):=by
    refine ⟨⟨q9,hge,(H3.out.1.othL q7).onlyS q8 (by omega) (by omega) (by omega) (fun k hk=>by have:=m4 k hk;omega),⟨by omega,by omega,by omega,fun k hk=>by have:=m4 k hk;omega⟩,q1.onlyS hr5 (by decide) (by decide) (by decide) hge q8,q2.onlyS q8 (by omega),q3,q4,q6⟩,?_⟩;rw [q5];simp [newSec]
   have HF0:Hid (∃ N0,(∀ k,FootT tr (Tr.fresh t p most b db B pb) k→k < N0)∧N0≤sv∧N0≤lt∧N0≤mb∧N0≤st):=by
    obtain ⟨N0,n1,n2,n3,n4⟩:=H1.out.2.2.1;exact ⟨N0,n1,n2,n3,n4,by omega⟩
   clear hsv hr hr5 hge q1 q2 q3 q4 q5 q6 q7 q8 q9 m1 m2 m3 m4 m5 m6
   go_wp2
   go_ret2
   exact Or.inr ⟨HR.out,st,sv,tr,lt,mb,l,t,p,b,db,B,pb,s',rfl,HQ.out.1,H1.out.2.1,HQ.out.2,HF0.out,H1.out.2.2.2.1⟩
end
end
end Go.Proofs.YtmnidbnaneagjaaGreatDoor
