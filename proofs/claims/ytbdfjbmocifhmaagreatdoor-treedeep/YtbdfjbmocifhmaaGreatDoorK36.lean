import Derived.Test.YtbdfjbmocifhmaaGreatDoorK27
namespace Go.Proofs.YtbdfjbmocifhmaaGreatDoor
section
open Go Go.RowKit Go.Maps
structure Dn where
 i:Nat
 c:Nat
 K:Int
 C:Int
 S:ByteArray
 H:List Bool
 es:List Ent
 p:Nat
structure Dt where
 most:Nat
 L:List Dn
 t:Nat→Nat
def Dn.is (x:Dn)(i c:Nat):Bool:=x.i==i&&x.c==c
def Ent.to (e:Ent)(i c:Nat):Bool:=e.i==i&&e.c==c
def Dt.at (D:Dt)(i c:Nat):Option Dn:=D.L.find? (·.is i c)
def Dt.atZ (D:Dt)(N G:Int):Option Dn:=D.L.find? (fun x=>(x.i:Int)==N&&(x.c:Int)==G)
def cntL (q:Ent→Bool)(L:List Dn):Nat:=(L.map fun x=>(x.es.filter q).length).sum
def Dt.cnt (D:Dt)(i c:Nat):Nat:=cntL (·.to i c) D.L
def Dt.dirE (D:Dt)(e:Ent):Bool:=match D.at e.i e.c with
 | some x=>x.K==2
 | none=>false
def Dt.links (D:Dt)(x:Dn):Nat:=if x.K=2 then 2+(x.es.filter D.dirE).length else D.cnt x.i x.c
def Dt.up (D:Dt)(i c:Nat):Nat×Nat:=match D.L.find? (fun x=>x.es.any (·.to i c)) with
 | some x=>(x.i,x.c)
 | none=>(i,c)
def turnL (i c:Nat)(f:Dn→Dn)(L:List Dn):List Dn:=L.map fun x=>if x.is i c then f x else x
def Dt.turn (D:Dt)(i c:Nat)(f:Dn→Dn):Dt:={ D with L:=turnL i c f D.L }
structure DInv (D:Dt):Prop where
 most:D.most≤300
 nos:(D.L.map (·.i)).Nodup
 lt:∀ x∈D.L,x.i < D.most∧D.t x.i=x.c+1
 root:∃ x∈D.L,x.i=0∧x.c=0∧x.K=2
 kind:∀ x∈D.L,x.K=1∧x.es=[]∨x.K=2∧x.p=0
 rise:∀ x∈D.L,RisingE x.es∧x.es.length≤60
 live:∀ x∈D.L,∀ e∈x.es,e.i≠0∧(∃ y∈D.L,y.i=e.i∧y.c=e.c)∧e.s.length≤24
 dirs:∀ x∈D.L,x.K=2→x.i≠0→D.cnt x.i x.c=1
 files:∀ x∈D.L,x.K=1→D.cnt x.i x.c≤8∧(0 < D.cnt x.i x.c∨0 < x.p)
 rank:∃ r:Nat→Nat,∀ x∈D.L,∀ e∈x.es,(∃ y∈D.L,y.i=e.i∧y.K=2)→r x.i < r e.i
theorem is_iff {x:Dn}{i c:Nat}:x.is i c=true↔x.i=i∧x.c=c:=by simp [Dn.is]
theorem to_iff {e:Ent}{i c:Nat}:e.to i c=true↔e.i=i∧e.c=c:=by simp [Ent.to]
theorem cntL_cons (q:Ent→Bool)(x:Dn)(L:List Dn):cntL q (x::L)=(x.es.filter q).length+cntL q L:=by simp [cntL]
theorem cntL_append (q:Ent→Bool)(L M:List Dn):cntL q (L++M)=cntL q L+cntL q M:=by
 induction L with
 | nil=>simp [cntL]
 | cons x L ih=>rw [List.cons_append,cntL_cons,cntL_cons,ih];omega
theorem same_no {L:List Dn}(hn:(L.map (·.i)).Nodup){x y:Dn}(hx:x∈L)(hy:y∈L)(h:x.i=y.i):x=y:=by
 induction L with
 | nil=>cases hx
 | cons z L ih =>
  rw [List.map_cons,List.nodup_cons] at hn;rcases List.mem_cons.1 hx with rfl | h1
  · rcases List.mem_cons.1 hy with rfl | h2
    · rfl
    · exact absurd (List.mem_map.2 ⟨y,h2,h.symm⟩) hn.1
  · rcases List.mem_cons.1 hy with rfl | h2
    · exact absurd (List.mem_map.2 ⟨x,h1,h⟩) hn.1
    · exact ih hn.2 h1 h2
theorem Dt.at_mem {D:Dt}(hn:(D.L.map (·.i)).Nodup){x:Dn}(hx:x∈D.L):D.at x.i x.c=some x:=by
 unfold Dt.at
 cases h:D.L.find? (·.is x.i x.c) with
 | none=>exact absurd (List.find?_eq_none.1 h x hx) (by simp [Dn.is])
 | some y =>
  have h1:=List.find?_some h;rw [same_no hn (List.mem_of_find?_eq_some h) hx (is_iff.1 h1).1]
theorem turnL_away {i c:Nat}{f:Dn→Dn}:∀ {L:List Dn},(∀ x∈L,x.i≠i)→turnL i c f L=L
 | [],_=>rfl
 | x::L,h=>by
  have h1:x.is i c=false:=by
   rw [Bool.eq_false_iff];intro e;exact h x List.mem_cons_self (is_iff.1 e).1
  show (if x.is i c then f x else x)::turnL i c f L=x::L;rw [h1,turnL_away fun y hy=>h y (List.mem_cons_of_mem _ hy)];rfl
theorem cntL_turn (q:Ent→Bool)(f:Dn→Dn){L:List Dn}{x:Dn}(hn:(L.map (·.i)).Nodup)(hx:x∈L):cntL q (turnL x.i x.c f L)+(x.es.filter q).length=cntL q L+((f x).es.filter q).length:=by
 induction L with
 | nil=>cases hx
 | cons y L ih =>
  rw [List.map_cons,List.nodup_cons] at hn;show cntL q ((if y.is x.i x.c then f y else y)::turnL x.i x.c f L)+_=_;rw [cntL_cons,cntL_cons];rcases List.mem_cons.1 hx with rfl | h
  · have h1:x.is x.i x.c=true:=is_iff.2 ⟨rfl,rfl⟩
    rw [if_pos h1,turnL_away fun z hz e=>hn.1 (List.mem_map.2 ⟨z,hz,e⟩)];omega
  · have h1:¬ y.is x.i x.c=true:=fun e=>hn.1 (List.mem_map.2 ⟨x,h,(is_iff.1 e).1.symm⟩)
    rw [if_neg h1];have:=ih hn.2 h;omega
theorem mem_turnL {i c:Nat}{f:Dn→Dn}{L:List Dn}{y:Dn}:y∈turnL i c f L↔∃ x∈L,y=if x.is i c then f x else x:=by
 unfold turnL;rw [List.mem_map];exact ⟨fun ⟨x,h1,h2⟩=>⟨x,h1,h2.symm⟩,fun ⟨x,h1,h2⟩=>⟨x,h1,h2.symm⟩⟩
theorem turnL_nos {i c:Nat}{f:Dn→Dn}(hf:∀ x,(f x).i=x.i)(L:List Dn):(turnL i c f L).map (·.i)=L.map (·.i):=by
 unfold turnL;rw [List.map_map];apply List.map_congr_left;intro x _;show (if x.is i c then f x else x).i=x.i
 split
 · exact hf x
 · rfl
theorem filter_insE (q:Ent→Bool)(e:Ent)(l:List Ent):((insE e l).filter q).length=(l.filter q).length+if q e then 1 else 0:=by
 induction l with
 | nil =>
  unfold insE;rw [List.filter_cons]
  split<;>simp_all
 | cons y l ih =>
  unfold insE
  split
  · rw [List.filter_cons]
    split<;>simp_all
  · rw [List.filter_cons,List.filter_cons]
    split
    · rw [List.length_cons,List.length_cons,ih];omega
    · exact ih
theorem filter_dropE (q:Ent→Bool){e:Ent}{l:List Ent}(hn:(l.map (·.s)).Nodup)(he:e∈l):((dropE l e.s).filter q).length+(if q e then 1 else 0)=(l.filter q).length:=by
 induction l with
 | nil=>cases he
 | cons y l ih =>
  rw [List.map_cons,List.nodup_cons] at hn;unfold dropE at ih ⊢;rw [List.filter_cons];rcases List.mem_cons.1 he with rfl | h
  · have h0:(!(e.s==e.s))=false:=by simp
    have h1:l.filter (fun z=>!(z.s==e.s))=l:=by
      rw [List.filter_eq_self];intro z hz;have:z.s≠e.s:=fun k=>hn.1 (List.mem_map.2 ⟨z,hz,k⟩)
      simpa using this
    rw [if_neg (by rw [h0];simp),h1,List.filter_cons]
    split<;>simp_all
  · have h0:(!(y.s==e.s))=true:=by
      have:y.s≠e.s:=fun k=>hn.1 (List.mem_map.2 ⟨e,h,k.symm⟩)
      simpa using this
    rw [if_pos h0,List.filter_cons,List.filter_cons];have:=ih hn.2 h
    split
    · rw [List.length_cons,List.length_cons];omega
    · exact this
theorem lt_before:∀ {x y:List UInt8},x < y→bytesBefore x y=true
 | [],[],h=>absurd h (List.lt_irrefl _)
 | [],_::_,_=>rfl
 | _::_,[],h=>absurd h (List.not_lt_nil _)
 | a::r,b::s,h=>by
  unfold bytesBefore;rw [List.cons_lt_cons_iff] at h;rcases h with h1 | ⟨h1,h2⟩
  · rw [decide_eq_true h1];rfl
  · rw [h1,lt_before h2];simp
theorem before_trans {x y z:List UInt8}(h1:bytesBefore x y=true)(h2:bytesBefore y z=true):bytesBefore x z=true:=lt_before (List.lt_trans (before_lt h1) (before_lt h2))
theorem before_other {x y:List UInt8}(h:bytesBefore x y≠true)(hne:x≠y):bytesBefore y x=true:=by
 by_cases h2:y < x
 · exact lt_before h2
 · have h3:¬ x < y:=fun k=>h (lt_before k)
   exact absurd (List.le_antisymm (List.not_lt.1 h2) (List.not_lt.1 h3)) hne
theorem insE_rising {e:Ent}{l:List Ent}(h:RisingE l)(hn:∀ y∈l,y.s≠e.s):RisingE (insE e l):=by
 induction l with
 | nil=>exact List.pairwise_singleton _ _
 | cons y l ih =>
  obtain ⟨h1,h2⟩:=List.pairwise_cons.1 h;unfold insE
  split
  · rename_i hb
    exact List.pairwise_cons.2 ⟨fun z hz=>by
      rcases List.mem_cons.1 hz with rfl | hz
      · exact hb
      · exact before_trans hb (h1 z hz),h⟩
  · rename_i hb
    refine List.pairwise_cons.2 ⟨fun z hz=>?_,ih h2 fun z hz=>hn z (List.mem_cons_of_mem _ hz)⟩;rcases mem_insE.1 hz with rfl | hz
    · exact before_other hb (fun k=>hn y List.mem_cons_self k.symm)
    · exact h1 z hz
theorem dropE_rising {l:List Ent}(s:List UInt8)(h:RisingE l):RisingE (dropE l s):=List.Pairwise.filter _ h
theorem rising_nodup {l:List Ent}(h:RisingE l):(l.map (·.s)).Nodup:=by
 unfold List.Nodup;rw [List.pairwise_map];exact h.imp fun {a b} h1 (e:a.s=b.s)=>List.lt_irrefl b.s (by have:=before_lt h1;rw [e] at this;exact this)
theorem cntL_quiet (q:Ent→Bool){i c:Nat}{f:Dn→Dn}(hf:∀ x,(f x).es=x.es)(L:List Dn):cntL q (turnL i c f L)=cntL q L:=by
 unfold cntL turnL;rw [List.map_map];congr 1;apply List.map_congr_left;intro x _;show ((if x.is i c then f x else x).es.filter q).length=_
 split
 · rw [hf]
 · rfl
def Dn.entered (e:Ent)(x:Dn):Dn:={ x with es:=insE e x.es,C:=x.C+1 }
def Dt.made (D:Dt)(a c:Nat)(s:List UInt8)(k:Nat)(K:Int):Dt:={ D with L:=turnL a c (Dn.entered ⟨s,k,D.t k⟩) D.L++[⟨k,D.t k,K,0,⟨#[]⟩,[],[],0⟩],t:=setN D.t k (D.t k+1) }
theorem cnt_entered (D:Dt)(e:Ent){x:Dn}(hn:(D.L.map (·.i)).Nodup)(hx:x∈D.L)(i c:Nat):cntL (·.to i c) (turnL x.i x.c (Dn.entered e) D.L)=D.cnt i c+if e.to i c then 1 else 0:=by
 have h1:=cntL_turn (·.to i c) (Dn.entered e) hn hx;have h2:=filter_insE (·.to i c) e x.es;have h3:((Dn.entered e x).es.filter (·.to i c)).length=((insE e x.es).filter (·.to i c)).length:=rfl;rw [h3,h2] at h1;unfold Dt.cnt;omega
theorem cnt_zero {D:Dt}(h:DInv D){k c:Nat}(hk:∀ x∈D.L,x.i≠k):D.cnt k c=0:=by
 have:∀ L:List Dn,(∀ x∈L,∀ e∈x.es,e.i≠k)→cntL (·.to k c) L=0:=by
  intro L
  induction L with
  | nil=>intro _;rfl
  | cons x L ih =>
   intro hh;rw [cntL_cons,ih fun y hy=>hh y (List.mem_cons_of_mem _ hy),Nat.add_zero,List.length_eq_zero_iff,List.filter_eq_nil_iff];intro e he ht;exact hh x List.mem_cons_self e he (to_iff.1 ht).1
 refine this D.L fun x hx e he ek=>?_;obtain ⟨_,⟨y,hy,h1,_⟩,_⟩:=h.live x hx e he;exact hk y hy (h1.trans ek)
theorem DInv.made {D:Dt}(h:DInv D){x:Dn}(hx:x∈D.L)(hK:x.K=2){s:List UInt8}(hs:s.length≤24)(hf:∀ e∈x.es,e.s≠s)(hl:x.es.length < 60){k:Nat}(hk:k < D.most)(hfree:∀ y∈D.L,y.i≠k){K:Int}(hKK:K=1∨K=2):DInv (D.made x.i x.c s k K):=by
 have hm:∀ y∈(D.made x.i x.c s k K).L,(y=⟨k,D.t k,K,0,⟨#[]⟩,[],[],0⟩)∨∃ z∈D.L,y.i=z.i∧y.c=z.c∧y.K=z.K∧y.p=z.p∧(y.es=z.es∨z=x∧y.es=insE ⟨s,k,D.t k⟩ x.es):=fun y hy=>by
   rcases List.mem_append.1 hy with h1 | h1
   · obtain ⟨z,hz,rfl⟩:=mem_turnL.1 h1
     refine Or.inr ⟨z,hz,?_⟩
     split
     · rename_i e
       have hzx:=same_no h.nos hz hx (is_iff.1 e).1;exact ⟨rfl,rfl,rfl,rfl,Or.inr ⟨hzx,by rw [hzx];rfl⟩⟩
     · exact ⟨rfl,rfl,rfl,rfl,Or.inl rfl⟩
   · exact Or.inl (List.mem_singleton.1 h1)
 have hb:∀ z∈D.L,∃ y∈(D.made x.i x.c s k K).L,y.i=z.i∧y.c=z.c∧y.K=z.K:=fun z hz=>by
   refine ⟨_,List.mem_append_left _ (mem_turnL.2 ⟨z,hz,rfl⟩),?_⟩
   split<;>exact ⟨rfl,rfl,rfl⟩
 have hnew:(⟨k,D.t k,K,0,⟨#[]⟩,[],[],0⟩:Dn)∈(D.made x.i x.c s k K).L:=List.mem_append_right _ (List.mem_singleton.2 rfl)
 have hc:∀ i c,(D.made x.i x.c s k K).cnt i c=D.cnt i c+if (⟨s,k,D.t k⟩:Ent).to i c then 1 else 0:=fun i c=>by
   show cntL _ (_++_)=_;rw [cntL_append,cnt_entered D _ h.nos hx i c];rfl
 have hco:∀ i c,i≠k→(D.made x.i x.c s k K).cnt i c=D.cnt i c:=fun i c hi=>by
   rw [hc,if_neg (fun e=>hi (to_iff.1 e).1.symm)];rfl
 have hcn:(D.made x.i x.c s k K).cnt k (D.t k)=1:=by
   rw [hc,cnt_zero h hfree,if_pos (to_iff.2 ⟨rfl,rfl⟩)]
 have hk0:k≠0:=by
   obtain ⟨z,hz,e1,_⟩:=h.root;intro e;exact hfree z hz (e1.trans e.symm)
 refine ⟨h.most,?_,fun y hy=>?_,?_,fun y hy=>?_,fun y hy=>?_,fun y hy e he=>?_,fun y hy hY h0=>?_,fun y hy hY=>?_,?_⟩
 · unfold Dt.made
   simp only;rw [List.map_append,turnL_nos (f:=Dn.entered ⟨s,k,D.t k⟩) (fun _=>rfl),List.nodup_append];refine ⟨h.nos,by simp,fun a ha b hb' e=>?_⟩;obtain ⟨y,hy,rfl⟩:=List.mem_map.1 ha;rw [List.map_cons,List.map_nil,List.mem_singleton] at hb';exact hfree y hy (e.trans hb')
 · rcases hm y hy with rfl | ⟨z,hz,e1,e2,_⟩
   · exact ⟨hk,setN_same _ _ _⟩
   · rw [e1,e2]
     refine ⟨(h.lt z hz).1,?_⟩;show setN D.t k _ z.i=_;rw [setN_other _ _ (hfree z hz)];exact (h.lt z hz).2
 · obtain ⟨z,hz,e1,e2,e3⟩:=h.root
   obtain ⟨y,hy,d1,d2,d3⟩:=hb z hz;exact ⟨y,hy,d1.trans e1,d2.trans e2,d3.trans e3⟩
 · rcases hm y hy with rfl | ⟨z,hz,e1,e2,e3,e4,e5⟩
   · rcases hKK with e | e
     · exact Or.inl ⟨e,rfl⟩
     · exact Or.inr ⟨e,rfl⟩
   · rw [e3,e4]
     rcases e5 with e5 | ⟨e6,e5⟩
     · rw [e5];exact h.kind z hz
     · subst e6
       rcases h.kind z hz with k1 | k1
       · omega
       · exact Or.inr k1
 · rcases hm y hy with rfl | ⟨z,hz,e1,e2,e3,e4,e5⟩
   · exact ⟨List.Pairwise.nil,Nat.zero_le _⟩
   · rcases e5 with e5 | ⟨e6,e5⟩
     · rw [e5];exact h.rise z hz
     · rw [e5]
       exact ⟨insE_rising (h.rise x hx).1 hf,by rw [length_insE];omega⟩
 · rcases hm y hy with rfl | ⟨z,hz,e1,e2,e3,e4,e5⟩
   · cases he
   · have old:∀ z∈D.L,∀ e∈z.es,e.i≠0∧(∃ y∈(D.made x.i x.c s k K).L,y.i=e.i∧y.c=e.c)∧e.s.length≤24:=fun z hz e he=>by
       obtain ⟨k1,⟨v,hv,k2,k3⟩,k4⟩:=h.live z hz e he;obtain ⟨v',hv',d1,d2,_⟩:=hb v hv;exact ⟨k1,⟨v',hv',d1.trans k2,d2.trans k3⟩,k4⟩
     rcases e5 with e5 | ⟨e6,e5⟩
     · rw [e5] at he
       exact old z hz e he
     · rw [e5] at he
       rcases mem_insE.1 he with rfl | he
       · exact ⟨hk0,⟨_,hnew,rfl,rfl⟩,hs⟩
       · exact old x hx e he
 · rcases hm y hy with rfl | ⟨z,hz,e1,e2,e3,e4,e5⟩
   · exact hcn
   · rw [e1,e2,hco _ _ (hfree z hz)]
     exact h.dirs z hz (e3 ▸ hY) (e1 ▸ h0)
 · rcases hm y hy with rfl | ⟨z,hz,e1,e2,e3,e4,e5⟩
   · have:=hcn
     exact ⟨by show (D.made x.i x.c s k K).cnt k (D.t k)≤8;omega,Or.inl (by show 0 < (D.made x.i x.c s k K).cnt k (D.t k);omega)⟩
   · rw [e1,e2,e4,hco _ _ (hfree z hz)]
     exact h.files z hz (e3 ▸ hY)
 · obtain ⟨r,hr⟩:=h.rank
   refine ⟨setN r k (r x.i+1),fun y hy e he ⟨v,hv,k1,k2⟩=>?_⟩;rcases hm y hy with rfl | ⟨z,hz,e1,e2,e3,e4,e5⟩
   · cases he
   · have old:∀ z∈D.L,∀ e∈z.es,(∃ y∈(D.made x.i x.c s k K).L,y.i=e.i∧y.K=2)→setN r k (r x.i+1) z.i < setN r k (r x.i+1) e.i:=fun z hz e he ⟨v,hv,k1,k2⟩=>by
       obtain ⟨_,⟨u,hu,u1,_⟩,_⟩:=h.live z hz e he;have hek:e.i≠k:=fun q=>hfree u hu (u1.trans q);rw [setN_other _ _ (hfree z hz),setN_other _ _ hek];rcases hm v hv with rfl | ⟨v',hv',d1,_,d3,_⟩
       · exact absurd k1.symm hek
       · exact hr z hz e he ⟨v',hv',d1.symm.trans k1,d3.symm.trans k2⟩
     rw [e1];rcases e5 with e5 | ⟨e6,e5⟩
     · rw [e5] at he
       exact old z hz e he ⟨v,hv,k1,k2⟩
     · rw [e5] at he
       rcases mem_insE.1 he with rfl | he
       · rw [e6,setN_other _ _ (hfree x hx)]
         show r x.i < setN r k _ k;rw [setN_same];omega
       · rw [e6]
         exact old x hx e he ⟨v,hv,k1,k2⟩
structure DMid (D:Dt)(k:Nat):Prop where
 most:D.most≤300
 nos:(D.L.map (·.i)).Nodup
 lt:∀ x∈D.L,x.i < D.most∧D.t x.i=x.c+1
 root:∃ x∈D.L,x.i=0∧x.c=0∧x.K=2
 kind:∀ x∈D.L,x.K=1∧x.es=[]∨x.K=2∧x.p=0
 rise:∀ x∈D.L,RisingE x.es∧x.es.length≤60
 live:∀ x∈D.L,∀ e∈x.es,e.i≠0∧(∃ y∈D.L,y.i=e.i∧y.c=e.c)∧e.s.length≤24
 dirs:∀ x∈D.L,x.i≠k→x.K=2→x.i≠0→D.cnt x.i x.c=1
 files:∀ x∈D.L,x.i≠k→x.K=1→D.cnt x.i x.c≤8∧(0 < D.cnt x.i x.c∨0 < x.p)
 rank:∃ r:Nat→Nat,∀ x∈D.L,∀ e∈x.es,(∃ y∈D.L,y.i=e.i∧y.K=2)→r x.i < r e.i
theorem DMid.full {D:Dt}{k:Nat}(h:DMid D k)(hd:∀ x∈D.L,x.i=k→x.K=2→x.i≠0→D.cnt x.i x.c=1)(hf:∀ x∈D.L,x.i=k→x.K=1→D.cnt x.i x.c≤8∧(0 < D.cnt x.i x.c∨0 < x.p)):DInv D :=
 ⟨h.most,h.nos,h.lt,h.root,h.kind,h.rise,h.live,fun x hx hK h0=>if e:x.i=k then hd x hx e hK h0 else h.dirs x hx e hK h0,fun x hx hK=>if e:x.i=k then hf x hx e hK else h.files x hx e hK,h.rank⟩
def Dn.left (s:List UInt8)(x:Dn):Dn:={ x with es:=dropE x.es s,C:=x.C+1 }
theorem cnt_left (D:Dt){e:Ent}{x:Dn}(hn:(D.L.map (·.i)).Nodup)(hx:x∈D.L)(hr:RisingE x.es)(he:e∈x.es)(i c:Nat):(D.turn x.i x.c (Dn.left e.s)).cnt i c+(if e.to i c then 1 else 0)=D.cnt i c:=by
 have h1:=cntL_turn (·.to i c) (Dn.left e.s) hn hx;have h2:=filter_dropE (·.to i c) (rising_nodup hr) he;have h3:((Dn.left e.s x).es.filter (·.to i c)).length=((dropE x.es e.s).filter (·.to i c)).length:=rfl;rw [h3] at h1;unfold Dt.cnt;show cntL _ (turnL _ _ _ _)+_=_;omega
theorem mem_dropE {l:List Ent}{s:List UInt8}{y:Ent}(h:y∈dropE l s):y∈l:=(List.mem_filter.1 h).1
theorem DInv.left {D:Dt}(h:DInv D){x:Dn}(hx:x∈D.L){e:Ent}(he:e∈x.es):DMid (D.turn x.i x.c (Dn.left e.s)) e.i:=by
 have hm:∀ y∈(D.turn x.i x.c (Dn.left e.s)).L,∃ z∈D.L,y.i=z.i∧y.c=z.c∧y.K=z.K∧y.p=z.p∧(y.es=z.es∨z=x∧y.es=dropE x.es e.s):=fun y hy=>by
   obtain ⟨z,hz,rfl⟩:=mem_turnL.1 hy;refine ⟨z,hz,?_⟩
   split
   · rename_i k
     have hzx:=same_no h.nos hz hx (is_iff.1 k).1;exact ⟨rfl,rfl,rfl,rfl,Or.inr ⟨hzx,by rw [hzx];rfl⟩⟩
   · exact ⟨rfl,rfl,rfl,rfl,Or.inl rfl⟩
 have hb:∀ z∈D.L,∃ y∈(D.turn x.i x.c (Dn.left e.s)).L,y.i=z.i∧y.c=z.c∧y.K=z.K:=fun z hz=>by
   refine ⟨_,mem_turnL.2 ⟨z,hz,rfl⟩,?_⟩
   split<;>exact ⟨rfl,rfl,rfl⟩
 have hco:∀ i c,i≠e.i→(D.turn x.i x.c (Dn.left e.s)).cnt i c=D.cnt i c:=fun i c hi=>by
   have:=cnt_left D h.nos hx (h.rise x hx).1 he i c;rw [if_neg (fun q=>hi (to_iff.1 q).1.symm)] at this;exact this
 have hsub:∀ y∈(D.turn x.i x.c (Dn.left e.s)).L,∀ z∈D.L,(y.es=z.es∨z=x∧y.es=dropE x.es e.s)→∀ q∈y.es,q∈z.es:=fun y _ z _ k q hq=>by
   rcases k with k | ⟨k1,k⟩
   · rw [k] at hq;exact hq
   · rw [k] at hq;rw [k1];exact mem_dropE hq
 refine ⟨h.most,by rw [show (D.turn x.i x.c (Dn.left e.s)).L=turnL x.i x.c (Dn.left e.s) D.L from rfl,turnL_nos (f:=Dn.left e.s) (fun _=>rfl)];exact h.nos,fun y hy=>?_,?_,fun y hy=>?_,fun y hy=>?_,fun y hy q hq=>?_,fun y hy hk hY h0=>?_,fun y hy hk hY=>?_,?_⟩
 · obtain ⟨z,hz,e1,e2,_⟩:=hm y hy
   rw [e1,e2];exact h.lt z hz
 · obtain ⟨z,hz,e1,e2,e3⟩:=h.root
   obtain ⟨y,hy,d1,d2,d3⟩:=hb z hz;exact ⟨y,hy,d1.trans e1,d2.trans e2,d3.trans e3⟩
 · obtain ⟨z,hz,e1,e2,e3,e4,e5⟩:=hm y hy
   rw [e3,e4];rcases h.kind z hz with k | k
   · refine Or.inl ⟨k.1,?_⟩
     rcases e5 with e5 | ⟨e6,e5⟩
     · rw [e5];exact k.2
     · subst e6
       rw [k.2] at he
       cases he
   · exact Or.inr k
 · obtain ⟨z,hz,e1,e2,e3,e4,e5⟩:=hm y hy
   rcases e5 with e5 | ⟨e6,e5⟩
   · rw [e5];exact h.rise z hz
   · rw [e5]
     refine ⟨dropE_rising _ (h.rise x hx).1,Nat.le_trans (List.length_filter_le _ _) (h.rise x hx).2⟩
 · obtain ⟨z,hz,e1,e2,e3,e4,e5⟩:=hm y hy
   obtain ⟨k1,⟨v,hv,k2,k3⟩,k4⟩:=h.live z hz q (hsub y hy z hz e5 q hq);obtain ⟨v',hv',d1,d2,_⟩:=hb v hv;exact ⟨k1,⟨v',hv',d1.trans k2,d2.trans k3⟩,k4⟩
 · obtain ⟨z,hz,e1,e2,e3,e4,e5⟩:=hm y hy
   rw [e1] at hk h0;rw [e1,e2,hco _ _ hk];exact h.dirs z hz (e3 ▸ hY) h0
 · obtain ⟨z,hz,e1,e2,e3,e4,e5⟩:=hm y hy
   rw [e1] at hk;rw [e1,e2,e4,hco _ _ hk];exact h.files z hz (e3 ▸ hY)
 · obtain ⟨r,hr⟩:=h.rank
   refine ⟨r,fun y hy q hq ⟨v,hv,k1,k2⟩=>?_⟩;obtain ⟨z,hz,e1,e2,e3,e4,e5⟩:=hm y hy;obtain ⟨v',hv',d1,_,d3,_⟩:=hm v hv;rw [e1];exact hr z hz q (hsub y hy z hz e5 q hq) ⟨v',hv',d1.symm.trans k1,d3.symm.trans k2⟩
def Dt.gone (D:Dt)(i c:Nat):Dt:={ D with L:=D.L.filter fun x=>!x.is i c }
theorem cntL_filter (q:Ent→Bool)(p:Dn→Bool):∀ L:List Dn,(∀ x∈L,p x=false→x.es=[])→cntL q (L.filter p)=cntL q L
 | [],_=>rfl
 | x::L,h=>by
  rw [List.filter_cons,cntL_cons];have ih:=cntL_filter q p L fun y hy=>h y (List.mem_cons_of_mem _ hy)
  split
  · rw [cntL_cons,ih]
  · rename_i e
    rw [h x List.mem_cons_self (by simpa using e),ih];simp
theorem DMid.gone {D:Dt}{x:Dn}(h:DMid D x.i)(hx:x∈D.L)(h0:x.i≠0)(hes:x.es=[])(hc:∀ c,D.cnt x.i c=0):DInv (D.gone x.i x.c):=by
 have hm:∀ y∈(D.gone x.i x.c).L,y∈D.L∧y.i≠x.i:=fun y hy=>by
   obtain ⟨h1,h2⟩:=List.mem_filter.1 hy;refine ⟨h1,fun e=>?_⟩;rw [same_no h.nos h1 hx e,is_iff.2 ⟨rfl,rfl⟩] at h2
   cases h2
 have hb:∀ y∈D.L,y.i≠x.i→y∈(D.gone x.i x.c).L:=fun y hy hi=>List.mem_filter.2 ⟨hy,by rw [Bool.not_eq_true',Bool.eq_false_iff];exact fun e=>hi (is_iff.1 e).1⟩
 have hcn:∀ i c,(D.gone x.i x.c).cnt i c=D.cnt i c:=fun i c=>cntL_filter _ _ D.L fun y hy e=>by
   have he:y.is x.i x.c=true:=by simpa using e
   rw [same_no h.nos hy hx (is_iff.1 he).1];exact hes
 have hno:∀ y∈D.L,∀ e∈y.es,e.i≠x.i:=fun y hy e he k=>by
   have h1:=hc e.c
   have h2:∀ L:List Dn,y∈L→0 < cntL (·.to x.i e.c) L:=by
    intro L
    induction L with
    | nil=>intro q;cases q
    | cons z L ih =>
     intro q;rw [cntL_cons];rcases List.mem_cons.1 q with rfl | q
     · have:0 < (y.es.filter (·.to x.i e.c)).length:=List.length_pos_iff.2 (List.ne_nil_of_mem (List.mem_filter.2 ⟨he,to_iff.2 ⟨k,rfl⟩⟩))
       omega
     · have:=ih q
       omega
   have:=h2 D.L hy;unfold Dt.cnt at h1;omega
 refine ⟨h.most,(List.Sublist.map _ List.filter_sublist).nodup h.nos,fun y hy=>h.lt y (hm y hy).1,?_,fun y hy=>h.kind y (hm y hy).1,fun y hy=>h.rise y (hm y hy).1,fun y hy e he=>?_,fun y hy hY hz=>?_,fun y hy hY=>?_,?_⟩
 · obtain ⟨z,hz,e1,e2,e3⟩:=h.root
   exact ⟨z,hb z hz (by rw [e1];exact h0.symm),e1,e2,e3⟩
 · obtain ⟨k1,⟨v,hv,k2,k3⟩,k4⟩:=h.live y (hm y hy).1 e he
   exact ⟨k1,⟨v,hb v hv (by rw [k2];exact hno y (hm y hy).1 e he),k2,k3⟩,k4⟩
 · rw [hcn]
   exact h.dirs y (hm y hy).1 (hm y hy).2 hY hz
 · rw [hcn]
   exact h.files y (hm y hy).1 (hm y hy).2 hY
 · obtain ⟨r,hr⟩:=h.rank
   exact ⟨r,fun y hy e he ⟨v,hv,k1,k2⟩=>hr y (hm y hy).1 e he ⟨v,(hm v hv).1,k1,k2⟩⟩
def Dt.held (D:Dt)(x:Dn):Bool:=x.K==2 || decide (0 < x.p) || decide (0 < D.links x)
def Dt.sweep (D:Dt):Dt:={ D with L:=D.L.filter D.held }
def Dn.touched (x:Dn):Dn:={ x with C:=x.C+1 }
theorem held_of {D:Dt}{x:Dn}(h:x.K=2∨0 < x.p∨x.K=1∧0 < D.cnt x.i x.c):D.held x=true:=by
 unfold Dt.held;rcases h with h | h | ⟨h1,h2⟩
 · simp [h]
 · simp [h]
 · have:D.links x=D.cnt x.i x.c:=by
    unfold Dt.links;rw [if_neg (by omega)]
   rw [this];simp [h2]
theorem not_held {D:Dt}{x:Dn}(hK:x.K=1)(hp:x.p=0)(hc:D.cnt x.i x.c=0):D.held x=false:=by
 unfold Dt.held
 have:D.links x=D.cnt x.i x.c:=by
  unfold Dt.links;rw [if_neg (by omega)]
 rw [this,hK,hp,hc];rfl
theorem DInv.swept {D:Dt}(h:DInv D):D.sweep=D:=by
 have:D.L.filter D.held=D.L:=by
  rw [List.filter_eq_self];intro x hx;rcases h.kind x hx with ⟨k,_⟩ | ⟨k,_⟩
  · rcases (h.files x hx k).2 with h1 | h1
    · exact held_of (Or.inr (Or.inr ⟨k,h1⟩))
    · exact held_of (Or.inr (Or.inl h1))
  · exact held_of (Or.inl k)
 unfold Dt.sweep;rw [this]
theorem DMid.swept {D:Dt}{y:Dn}(h:DMid D y.i)(hy:y∈D.L)(hK:y.K=1)(hp:y.p=0)(hc:D.cnt y.i y.c=0):D.sweep=D.gone y.i y.c:=by
 have:D.L.filter D.held=D.L.filter fun x=>!x.is y.i y.c:=by
  apply List.filter_congr;intro x hx
  by_cases e:x.i=y.i
  · obtain rfl:=same_no h.nos hx hy e
    rw [not_held hK hp hc,is_iff.2 ⟨rfl,rfl⟩];rfl
  · have h1:x.is y.i y.c=false:=by
      rw [Bool.eq_false_iff];exact fun k=>e (is_iff.1 k).1
    rw [h1];show D.held x=true;rcases h.kind x hx with ⟨k,_⟩ | ⟨k,_⟩
    · rcases (h.files x hx e k).2 with h1 | h1
      · exact held_of (Or.inr (Or.inr ⟨k,h1⟩))
      · exact held_of (Or.inr (Or.inl h1))
    · exact held_of (Or.inl k)
 unfold Dt.sweep Dt.gone;rw [this]
theorem DMid.touched {D:Dt}{k i c:Nat}(h:DMid D k):DMid (D.turn i c Dn.touched) k:=by
 have hc:∀ a b,(D.turn i c Dn.touched).cnt a b=D.cnt a b:=fun a b=>cntL_quiet (f:=Dn.touched) _ (fun _=>rfl) D.L
 have hm:∀ y∈(D.turn i c Dn.touched).L,∃ x∈D.L,y.i=x.i∧y.c=x.c∧y.K=x.K∧y.es=x.es∧y.p=x.p:=fun y hy=>by
   obtain ⟨x,hx,rfl⟩:=mem_turnL.1 hy;refine ⟨x,hx,?_⟩
   split<;>exact ⟨rfl,rfl,rfl,rfl,rfl⟩
 have hb:∀ x∈D.L,∃ y∈(D.turn i c Dn.touched).L,y.i=x.i∧y.c=x.c∧y.K=x.K:=fun x hx=>by
   refine ⟨_,mem_turnL.2 ⟨x,hx,rfl⟩,?_⟩
   split<;>exact ⟨rfl,rfl,rfl⟩
 refine ⟨h.most,by rw [show (D.turn i c Dn.touched).L=turnL i c Dn.touched D.L from rfl,turnL_nos (f:=Dn.touched) (fun _=>rfl)];exact h.nos,fun y hy=>?_,?_,fun y hy=>?_,fun y hy=>?_,fun y hy e he=>?_,fun y hy hk hK h0=>?_,fun y hy hk hK=>?_,?_⟩
 · obtain ⟨x,hx,e1,e2,_⟩:=hm y hy
   rw [e1,e2];exact h.lt x hx
 · obtain ⟨x,hx,e1,e2,e3⟩:=h.root
   obtain ⟨y,hy,d1,d2,d3⟩:=hb x hx;exact ⟨y,hy,d1.trans e1,d2.trans e2,d3.trans e3⟩
 · obtain ⟨x,hx,e1,e2,e3,e4,e5⟩:=hm y hy
   rw [e3,e4,e5];exact h.kind x hx
 · obtain ⟨x,hx,e1,e2,e3,e4,_⟩:=hm y hy
   rw [e4];exact h.rise x hx
 · obtain ⟨x,hx,e1,e2,e3,e4,_⟩:=hm y hy
   rw [e4] at he;obtain ⟨k1,⟨z,hz,k2,k3⟩,k4⟩:=h.live x hx e he;obtain ⟨z',hz',d1,d2,_⟩:=hb z hz;exact ⟨k1,⟨z',hz',d1.trans k2,d2.trans k3⟩,k4⟩
 · obtain ⟨x,hx,e1,e2,e3,_⟩:=hm y hy
   rw [hc,e1,e2];exact h.dirs x hx (e1 ▸ hk) (e3 ▸ hK) (e1 ▸ h0)
 · obtain ⟨x,hx,e1,e2,e3,e4,e5⟩:=hm y hy
   rw [hc,e1,e2,e5];exact h.files x hx (e1 ▸ hk) (e3 ▸ hK)
 · obtain ⟨r,hr⟩:=h.rank
   refine ⟨r,fun y hy e he ⟨z,hz,k1,k2⟩=>?_⟩;obtain ⟨x,hx,e1,e2,e3,e4,_⟩:=hm y hy;obtain ⟨z',hz',d1,_,d3,_⟩:=hm z hz;rw [e1];exact hr x hx e (e4 ▸ he) ⟨z',hz',d1.symm.trans k1,d3.symm.trans k2⟩
theorem mem_turn_other {D:Dt}{i c:Nat}{f:Dn→Dn}{y:Dn}(hy:y∈D.L)(hi:y.i≠i):y∈(D.turn i c f).L:=mem_turnL.2 ⟨y,hy,by rw [if_neg (fun e=>hi (is_iff.1 e).1)]⟩
theorem mem_turn_same {D:Dt}{f:Dn→Dn}{y:Dn}(hy:y∈D.L):f y∈(D.turn y.i y.c f).L:=mem_turnL.2 ⟨y,hy,by rw [if_pos (is_iff.2 ⟨rfl,rfl⟩)]⟩
theorem cnt_other_times {D:Dt}{k:Nat}(h:DMid D k){y:Dn}(hy:y∈D.L){c:Nat}(hc:c≠y.c):D.cnt y.i c=0:=by
 have:∀ L:List Dn,(∀ x∈L,∀ e∈x.es,¬ (e.i=y.i∧e.c=c))→cntL (·.to y.i c) L=0:=by
  intro L
  induction L with
  | nil=>intro _;rfl
  | cons x L ih =>
   intro hh;rw [cntL_cons,ih fun z hz=>hh z (List.mem_cons_of_mem _ hz),Nat.add_zero,List.length_eq_zero_iff,List.filter_eq_nil_iff];intro e he ht;exact hh x List.mem_cons_self e he (to_iff.1 ht)
 refine this D.L fun x hx e he ek=>?_;obtain ⟨_,⟨z,hz,h1,h2⟩,_⟩:=h.live x hx e he;have:=same_no h.nos hz hy (h1.trans ek.1);subst this;exact hc (ek.2.symm.trans h2.symm)
def Dt.lost (D:Dt)(y:Dn):Dt:=if y.K=2 then D.gone y.i y.c else (D.turn y.i y.c Dn.touched).sweep
theorem DInv.removed {D:Dt}(h:DInv D){x:Dn}(hx:x∈D.L){e:Ent}(he:e∈x.es){y:Dn}(hy:y∈D.L)(hi:y.i=e.i)(hc:y.c=e.c)(hes:y.es=[]):DInv ((D.turn x.i x.c (Dn.left e.s)).lost y):=by
 have hM:=h.left hx he;rw [← hi] at hM
 have hyx:y.i≠x.i:=fun k=>by
   rw [same_no h.nos hy hx k] at hes;rw [hes] at he
   cases he
 have hy2:y∈(D.turn x.i x.c (Dn.left e.s)).L:=mem_turn_other hy hyx
 have hy0:y.i≠0:=by rw [hi];exact (h.live x hx e he).1
 have hcnt:=cnt_left D h.nos hx (h.rise x hx).1 he y.i y.c;rw [if_pos (to_iff.2 ⟨hi.symm,hc.symm⟩)] at hcnt;unfold Dt.lost
 split
 · rename_i hK
   refine hM.gone hy2 hy0 hes fun c=>?_
   by_cases e1:c=y.c
   · rw [e1]
     have:=h.dirs y hy hK hy0;omega
   · exact cnt_other_times hM hy2 e1
 · rename_i hK
   have hK1:y.K=1:=by
     rcases h.kind y hy with ⟨k,_⟩ | ⟨k,_⟩
     · exact k
     · exact absurd k hK
   have hT:=hM.touched (i:=y.i) (c:=y.c);have hty:Dn.touched y∈((D.turn x.i x.c (Dn.left e.s)).turn y.i y.c Dn.touched).L:=mem_turn_same hy2;have hct:∀ a b,((D.turn x.i x.c (Dn.left e.s)).turn y.i y.c Dn.touched).cnt a b=(D.turn x.i x.c (Dn.left e.s)).cnt a b:=fun a b=>cntL_quiet (f:=Dn.touched) _ (fun _=>rfl) _;have h8:=(h.files y hy hK1).1
   by_cases hz:(D.turn x.i x.c (Dn.left e.s)).cnt y.i y.c=0∧y.p=0
   · rw [DMid.swept (y:=Dn.touched y) hT hty hK1 hz.2 (by rw [hct];exact hz.1)]
     refine DMid.gone (x:=Dn.touched y) hT hty hy0 hes fun c=>?_;rw [hct]
     by_cases e1:c=y.c
     · rw [e1];exact hz.1
     · exact cnt_other_times hM hy2 e1
   · have hfull:DInv ((D.turn x.i x.c (Dn.left e.s)).turn y.i y.c Dn.touched):=by
       refine hT.full (fun v hv k hV h0=>?_) (fun v hv k hV=>?_)
       · rw [same_no hT.nos hv hty k] at hV
         exact absurd hV hK
       · rw [same_no hT.nos hv hty k]
         show _∧(_∨0 < y.p)
         rw [show ((D.turn x.i x.c (Dn.left e.s)).turn y.i y.c Dn.touched).cnt (Dn.touched y).i (Dn.touched y).c=(D.turn x.i x.c (Dn.left e.s)).cnt y.i y.c from hct _ _]
         exact ⟨by omega,by omega⟩
     rw [hfull.swept];exact hfull
end
end Go.Proofs.YtbdfjbmocifhmaaGreatDoor
