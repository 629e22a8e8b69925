import Derived.Test.YtbdfjbmocifhmaaGreatDoorK36
set_option maxHeartbeats 8000000
namespace Go.Proofs.YtbdfjbmocifhmaaGreatDoor
section
open Go Go.RowKit Go.Deep
def pHead (l:List Nmb):Bool:=match l[0]? with | some x=>decide (x.k=2)&&decide (x.g=0) | none=>false
def pGood (l:List Nmb)(most:Nat):Bool:=l.all (fun x=>!(decide (x.k=0)&&decide (x.g=0)))&&decide (cntN l≤most)
theorem pGood_iff (l:List Nmb)(most:Nat):pGood l most=true↔ResOk l most:=by
 unfold pGood ResOk Nmb.bad;simp only [Bool.and_eq_true,List.all_eq_true,decide_eq_true_eq,Bool.not_eq_true',Bool.and_eq_false_iff,decide_eq_false_iff_not]
 constructor
 · rintro ⟨h1,h2⟩
   exact ⟨fun x hx hb=>by rcases h1 x hx with h | h;exact h hb.1;exact h hb.2,h2⟩
 · rintro ⟨h1,h2⟩
   refine ⟨fun x hx=>?_,h2⟩
   by_cases h:x.k=0
   · exact Or.inr (fun hg=>h1 x hx ⟨h,hg⟩)
   · exact Or.inl h
def pTab (most:Nat):Par (List Nmb):=bindP (pNum 300) fun n=>bindP (pTimes pGiven n) fun l=>if (pHead l&&pGood l most)=true then retP l else fun _=>none
theorem pTimes_more {α:Type}{p:Par α}{n m:Nat}{t1 tj t':ByteArray}{l:List α}{x:α}(h:pTimes p n t1=(pTimes p (m+1) tj).map (fun y=>(l++y.1,y.2)))(hx:p tj=some (x,t')):pTimes p n t1=(pTimes p m t').map (fun y=>((l++[x])++y.1,y.2)):=by
 rw [h,show pTimes p (m+1)=bindP p (fun a=>bindP (pTimes p m) fun l=>retP (a::l)) from rfl,bindP_some hx]
 unfold bindP
 cases pTimes p m t' with
 | none=>rfl
 | some y=>simp [retP]
theorem pTimes_stop {α:Type}{p:Par α}{n m:Nat}{t1 tj:ByteArray}{l:List α}(h:pTimes p n t1=(pTimes p (m+1) tj).map (fun y=>(l++y.1,y.2)))(hx:p tj=none):pTimes p n t1=none:=by
 rw [h,show pTimes p (m+1)=bindP p (fun a=>bindP (pTimes p m) fun l=>retP (a::l)) from rfl,bindP_none hx]
 rfl
theorem pTimes_done {α:Type}{p:Par α}{n:Nat}{t1 tj:ByteArray}{l:List α}(h:pTimes p n t1=(pTimes p 0 tj).map (fun y=>(l++y.1,y.2))):pTimes p n t1=some (l,tj):=by
 rw [h];simp [pTimes,retP]
theorem pGiven_le {t t':ByteArray}{x:Nmb}(h:pGiven t=some (x,t')):x.k≤2∧x.g≤4611686018427387903∧x.c≤4611686018427387903∧t'.size≤t.size:=by
 unfold pGiven at h
 cases h1:pNum 2 t with
 | none=>rw [bindP_none h1] at h;cases h
 | some y =>
  obtain ⟨k,t1⟩:=y;rw [bindP_some h1] at h;have g1:=pNum_le h1
  cases h2:pNum manyT t1 with
  | none=>rw [bindP_none h2] at h;cases h
  | some y =>
   obtain ⟨g,t2⟩:=y;rw [bindP_some h2] at h;have g2:=pNum_le h2;unfold manyT at g2
   by_cases hk:k=0
   · rw [if_pos hk] at h
     simp only [retP,Option.some.injEq,Prod.mk.injEq] at h;obtain ⟨rfl,rfl⟩:=h;exact ⟨by show 0≤2;omega,by show g≤_;omega,by show 0≤_;omega,by omega⟩
   · rw [if_neg hk] at h
     cases h3:pNum manyT t2 with
     | none=>rw [bindP_none h3] at h;cases h
     | some y =>
      obtain ⟨c,t3⟩:=y;rw [bindP_some h3] at h;have g3:=pNum_le h3;unfold manyT at g3;simp only [retP,Option.some.injEq,Prod.mk.injEq] at h;obtain ⟨rfl,rfl⟩:=h;exact ⟨by show k≤2;omega,by show g≤_;omega,by show c≤_;omega,by omega⟩
def Low (A:Nat→Addr)(B:Nat):Prop:=(∀ k,k < 15→gOf k < B∧(A k).block < B)∧15 < B
theorem Low.mono {A:Nat→Addr}{B B':Nat}(h:Low A B)(hb:B≤B'):Low A B':=⟨fun k hk=>⟨by have:=(h.1 k hk).1;omega,by have:=(h.1 k hk).2;omega⟩,by have:=h.2;omega⟩
section
variable {w w':World}{A:Nat→Addr}{lb xb B:Nat}{tp v:Value}{t:ByteArray}
theorem LdR.kept {L:List Nat}(h:LdR w A lb xb tp v t)(ho:Only L w w')(hl:lb∉L)(hx:xb∉L)(he:Low A B)(hL:∀ k∈L,B≤k):LdR w' A lb xb tp v t :=
 ⟨(ho.block lb h.lt hl).trans h.blk,(ho.block xb h.ltx hx).trans h.rd,h.err.only ho (fun k hk=>⟨fun hm=>by have:=hL _ hm;have:=(he.1 k hk).1;omega,fun hm=>by have:=hL _ hm;have:=(he.1 k hk).2;omega⟩) (fun hm=>by have:=hL _ hm;have:=he.2;omega),h.le,h.old,h.typ⟩
theorem LdR.only_lb (h:LdR w A lb xb tp v t)(k:Nat)(u:Value):Errs (w.setCell ⟨lb,k,none⟩ u) A:=h.err.only ((Only.refl [lb] w).setCell (p:=⟨lb,k,none⟩) (Or.inl (by simp)) _) (fun k hk=>⟨by simpa using (h.old k hk).2.1,by simpa using (h.old k hk).2.2.2⟩) (by simpa using h.typ.2)
theorem LdR.put2 (h:LdR w A lb xb tp v t)(u:Value):LdR (w.setCell ⟨lb,2,none⟩ u) A lb xb tp u t :=
 ⟨heap_setCell_same w lb 2 _ _ _ h.blk,(Below.heap_setCell w ⟨lb,2,none⟩ u xb (Ne.symm h.ne)).trans h.rd,h.only_lb 2 u,h.le,h.old,h.typ⟩
theorem LdR.put1 (h:LdR w A lb xb tp v t)(u:Value):LdR (w.setCell ⟨lb,1,none⟩ u) A lb xb u v t :=
 ⟨heap_setCell_same w lb 1 _ _ _ h.blk,(Below.heap_setCell w ⟨lb,1,none⟩ u xb (Ne.symm h.ne)).trans h.rd,h.only_lb 1 u,h.le,h.old,h.typ⟩
theorem LdR.row_ne {l:List Nmb}{b:Nat}(h:LdR w A lb xb tp v t){u:Value}(hr:Nrs w b u l){k:Nat}(hk:u.ownBlock=some k):b≤k∧k < w.heap.size∧k≠lb∧k≠xb:=by
 rcases hr.2 with ⟨h1,_⟩ | ⟨g',cap',cur,h1,hb,hh,_⟩
 · rw [h1] at hk;cases hk
 · rw [h1] at hk
   obtain rfl:g'=k:=by simpa [Value.ownBlock] using hk
   refine ⟨hb,(Array.getElem?_eq_some_iff.1 hh).1,fun e=>?_,fun e=>?_⟩
   · rw [e,h.blk] at hh
     simp at hh
   · rw [e,h.rd] at hh
     simp at hh
end
theorem nmsUnd:Tryz.prog.underlying 92=some (.slice 96):=by kernel_rfl
theorem nm_one (x:Nmb):∀ u∈nmC x,u.oneCell'=true:=by
 intro u hu;simp [nmC] at hu;rcases hu with rfl | rfl | rfl<;>rfl
theorem num_more {w w3 w5:World}{A:Nat→Addr}{lb xb B g5 c5:Nat}{tp v:Value}{t:ByteArray}{l:List Nmb}{x:Nmb}{o:Obj}(h:LdR w3 A lb xb tp v t)(hr:Nrs w3 B v l)(he:Low A B)(hB:B=w.heap.size)(ho:Only [lb,xb] w w3)(hgr:(w3.alloc o).grownBy w5 v.ownBlock)(hown:w5.ownsRow B 96 3 (.slice (some ⟨g5,0,none⟩) (l.length+1) c5) (l.length+1) (rowOf nmC l++nmC x)):
   w5.cell? ⟨lb,2,none⟩=some v∧w5.frozen? ⟨lb,2,none⟩=false∧lb < w5.heap.size∧LdR (w5.setCell ⟨lb,2,none⟩ (.slice (some ⟨g5,0,none⟩) (l.length+1) c5)) A lb xb tp (.slice (some ⟨g5,0,none⟩) (l.length+1) c5) t∧Nrs (w5.setCell ⟨lb,2,none⟩ (.slice (some ⟨g5,0,none⟩) (l.length+1) c5)) B (.slice (some ⟨g5,0,none⟩) (l.length+1) c5) (l++[x])∧Only [lb,xb] w (w5.setCell ⟨lb,2,none⟩ (.slice (some ⟨g5,0,none⟩) (l.length+1) c5)):=by
 have o5:Only v.ownBlock.toList w3 w5:=(((Only.refl [] w3).alloc o).mono (L':=v.ownBlock.toList) (fun _ hk=>by cases hk)).grown hgr (fun k hk=>Or.inl (by rw [hk];simp));have hrow:∀ k∈v.ownBlock.toList,B≤k∧k < w3.heap.size∧k≠lb∧k≠xb:=fun k hk=>h.row_ne hr (by simpa using hk);have h5:LdR w5 A lb xb tp v t:=h.kept o5 (fun hm=>(hrow lb hm).2.2.1 rfl) (fun hm=>(hrow xb hm).2.2.2 rfl) he (fun k hk=>(hrow k hk).1)
 have hn5:Nrs w5 B (.slice (some ⟨g5,0,none⟩) (l.length+1) c5) (l++[x]):=by
   unfold Nrs;rw [List.length_append,rowOf_append]
   simpa [rowOf] using hown
 refine ⟨h5.c2,h5.fz 2,h5.lt,h5.put2 _,?_,?_⟩
 · refine hn5.only ((Only.refl [lb] w5).setCell (p:=⟨lb,2,none⟩) (Or.inl (by simp)) _) (fun k hk=>?_)
   have:=(h5.row_ne hn5 hk).2.2.1
   simpa using this
 · have o6:Only [lb,xb] w w5:=ho.trans o5 (fun k hk=>Or.inr (by rw [← hB];exact (hrow k hk).1))
   exact o6.setCell (p:=⟨lb,2,none⟩) (Or.inl (by simp)) _
theorem lhandle_ok (w:World)(A:Nat→Addr)(lb xb:Nat)(tp v:Value)(t:ByteArray)(base:Nat)(l:List Nmb)(i:Nat)(x:Nmb)(hL:LdR w A lb xb tp v t)(hR:Nrs w base v l)(hx:l[i]?=some x):
   Calls Tryz.prog 113 #[.pointer (some ⟨lb,0,none⟩),.int .i64 (i:Nat)] w fun e w'=>e = .returned (.agg #[.int .i64 (i:Nat),.int .i64 (x.g:Nat)])∧Only [] w w':=by
 have hlt:i < l.length:=(List.getElem?_eq_some_iff.1 hx).1;rcases hR.2 with ⟨e,e2⟩ | ⟨g,cap,cur,e,_,hh,_⟩
 · omega
 · obtain ⟨n,hn⟩:∃ n,l.length=n:=⟨_,rfl⟩
   rw [hn] at e hlt;rw [e] at hR hL;have hlb:=hL.lt;have c2:=hL.c2;have hgl:=(Array.getElem?_eq_some_iff.1 hh).1;obtain ⟨y0,y1,y2⟩:=hR.cells hn hx;have hz:=heap_alloc_last w (.cells #[.int .i64 0,.int .i64 0] 34);have HZ:Hid ((w.alloc (.cells #[.int .i64 0,.int .i64 0] 34)).heap[w.heap.size]?=some (.cells #[.int .i64 0,.int .i64 0] 34 (0,0))):=hz;have hho:=handleOf_any (w.alloc (.cells #[.int .i64 0,.int .i64 0] 34)) i x;have hi1:decide ((i:Int) < 0)=false:=decide_eq_false (by omega);have hi2:decide (i < n)=true:=decide_eq_true hlt;clear hz hL hR hx hh e hn
   go_enter Tryz.func113,Tryz.ntmps113
   go_wp2_with (go_at_call 44;refine hho.mono ?_;rintro e w1 ⟨rfl,o1⟩;have hb:=(o1.block w.heap.size (Array.getElem?_eq_some_iff.1 HZ.out).1 (by simp)).trans HZ.out;have q0:w1.cell? ⟨w.heap.size,0,none⟩=some (.int .i64 0):=cell_of_row _ _ 0 _ _ _ hb;have q1:w1.cell? ⟨w.heap.size,1,none⟩=some (.int .i64 0):=cell_of_row _ _ 1 _ _ _ hb;have f0:w1.frozen? ⟨w.heap.size,0,none⟩=false:=frozen_of_row _ _ _ _ _ hb;have f1:w1.frozen? ⟨w.heap.size,1,none⟩=false:=frozen_of_row _ _ _ _ _ hb;have hbl:=(Array.getElem?_eq_some_iff.1 hb).1;have HO:Hid (Only [] w w1):=((Only.refl [] w).alloc _).trans o1 (fun _ hk=>by cases hk);clear hho o1 hb)
   refine bodyPost_ret (v := .agg #[.int .i64 (i:Nat),.int .i64 (x.g:Nat)]) (by simp [results,Tryz.results113,go_sem,q0,q1]) rfl ⟨rfl,?_⟩;exact (HO.out.setCell (p:=⟨w.heap.size,0,none⟩) (Or.inr (Nat.le_refl _)) _).setCell (p:=⟨w.heap.size,1,none⟩) (Or.inr (Nat.le_refl _)) _
end
end Go.Proofs.YtbdfjbmocifhmaaGreatDoor
