import Derived.Test.YtkcabopgajlmdaaGreatDoorK45
namespace Go.Proofs.YtkcabopgajlmdaaGreatDoor
section
open Go Go.RowKit Go.Deep Go.Maps
def sm {α:Type}(f:α→Nat):List α→Nat
 | []=>0
 | a::l=>f a+sm f l
def ind (b:Bool):Nat:=if b then 1 else 0
theorem sm_append {α:Type}(f:α→Nat)(l m:List α):sm f (l++m)=sm f l+sm f m:=by
 induction l with
 | nil=>simp [sm]
 | cons a l ih=>rw [List.cons_append,sm,sm,ih];omega
theorem sm_flat {α β:Type}(f:β→Nat)(g:α→List β)(l:List α):sm f (l.flatMap g)=sm (fun a=>sm f (g a)) l:=by
 induction l with
 | nil=>rfl
 | cons a l ih=>rw [List.flatMap_cons,sm_append,sm,ih]
theorem sm_congr {α:Type}{f g:α→Nat}{l:List α}(h:∀ a∈l,f a=g a):sm f l=sm g l:=by
 induction l with
 | nil=>rfl
 | cons a l ih=>rw [sm,sm,h a List.mem_cons_self,ih (fun b hb=>h b (List.mem_cons_of_mem _ hb))]
theorem sm_add {α:Type}(f g:α→Nat)(l:List α):sm (fun a=>f a+g a) l=sm f l+sm g l:=by
 induction l with
 | nil=>rfl
 | cons a l ih=>rw [sm,sm,sm,ih];omega
theorem sm_zero {α:Type}{f:α→Nat}{l:List α}(h:∀ a∈l,f a=0):sm f l=0:=by
 induction l with
 | nil=>rfl
 | cons a l ih=>rw [sm,h a List.mem_cons_self,ih (fun b hb=>h b (List.mem_cons_of_mem _ hb))]
theorem len_filter {α:Type}(q:α→Bool)(l:List α):(l.filter q).length=sm (fun a=>ind (q a)) l:=by
 induction l with
 | nil=>rfl
 | cons a l ih =>
  rw [List.filter_cons,sm]
  cases h:q a with
  | true=>simp [ind,ih];omega
  | false=>simp [ind,ih]
theorem cntL_sm (q:Ent→Bool)(L:List Dn):cntL q L=sm (fun x=>(x.es.filter q).length) L:=by
 induction L with
 | nil=>rfl
 | cons a l ih=>rw [cntL_cons,sm,ih]
def sub6 {α:Type}(D:Dt)(r:Dn→List α)(e:Ent):List α:=match D.at e.i e.c with
 | some y=>if y.K=2 then r y else []
 | none=>[]
def vis (D:Dt):Nat→Dn→List Dn
 | 0,_=>[]
 | n+1,x=>x::x.es.flatMap (sub6 D (vis D n))
def bel (D:Dt):Nat→Dn→List (Nat×Nat)
 | 0,_=>[]
 | n+1,x=>x.es.flatMap fun e=>(e.i,e.c)::sub6 D (bel D n) e
section
variable {D:Dt}
theorem at_is {i c:Nat}{y:Dn}(h:D.at i c=some y):y∈D.L∧y.i=i∧y.c=c:=Dt.at_some h
theorem to_ind (e:Ent)(i c:Nat):ind ((e.i,e.c)==(i,c))=ind (e.to i c):=rfl
theorem bel_cnt (i c:Nat):∀ (n:Nat) (x:Dn),sm (fun h=>ind (h==(i,c))) (bel D n x)=sm (fun d=>(d.es.filter (·.to i c)).length) (vis D n x)
 | 0,_=>rfl
 | n+1,x=>by
  rw [bel,vis,sm,sm_flat,sm_flat,len_filter,← sm_add];refine sm_congr fun e _=>?_;rw [sm,to_ind];congr 1;unfold sub6
  split
  · split
    · exact bel_cnt i c n _
    · rfl
  · rfl
def Enough (D:Dt)(r:Nat→Nat)(n:Nat)(x:Dn):Prop:=∃ p:List Nat,p.Nodup∧(∀ q∈p,∃ z∈D.L,z.i=q)∧(∀ q∈p,r q < r x.i)∧D.L.length≤p.length+n
theorem Enough.longer (I:DInv D){r:Nat→Nat}{p:List Nat}{x:Dn}(hx:x∈D.L)(h1:p.Nodup)(h2:∀ q∈p,∃ z∈D.L,z.i=q)(h3:∀ q∈p,r q < r x.i):(x.i::p).Nodup∧(x.i::p).length≤D.L.length:=by
 have hn:(x.i::p).Nodup:=List.nodup_cons.2 ⟨fun hm=>Nat.lt_irrefl _ (h3 _ hm),h1⟩;refine ⟨hn,?_⟩
 have:=pig hn I.nos (fun q hq=>by
  rcases List.mem_cons.1 hq with rfl | hq
  · exact List.mem_map.2 ⟨x,hx,rfl⟩
  · obtain ⟨z,hz,e⟩:=h2 q hq
    exact List.mem_map.2 ⟨z,hz,e⟩)
 rwa [List.length_map] at this
theorem Enough.pos (I:DInv D){r:Nat→Nat}{n:Nat}{x:Dn}(hx:x∈D.L)(h:Enough D r n x):0 < n:=by
 obtain ⟨p,h1,h2,h3,h4⟩:=h;have:=(Enough.longer I hx h1 h2 h3).2;rw [List.length_cons] at this;omega
theorem Enough.next (I:DInv D){r:Nat→Nat}{n:Nat}{x y:Dn}(hx:x∈D.L)(h:Enough D r (n+1) x)(hr:r x.i < r y.i):Enough D r n y:=by
 obtain ⟨p,h1,h2,h3,h4⟩:=h;refine ⟨x.i::p,(Enough.longer I hx h1 h2 h3).1,fun q hq=>?_,fun q hq=>?_,by rw [List.length_cons];omega⟩
 · rcases List.mem_cons.1 hq with rfl | hq
   · exact ⟨x,hx,rfl⟩
   · exact h2 q hq
 · rcases List.mem_cons.1 hq with rfl | hq
   · exact hr
   · exact Nat.lt_trans (h3 q hq) hr
theorem Enough.root (D:Dt)(r:Nat→Nat)(x:Dn):Enough D r D.L.length x:=⟨[],List.nodup_nil,fun _ h=>(by cases h),fun _ h=>(by cases h),(by rw [List.length_nil,Nat.zero_add];exact Nat.le_refl _)⟩
theorem vis_cnt (I:DInv D){r:Nat→Nat}(hr:∀ x∈D.L,∀ e∈x.es,(∃ y∈D.L,y.i=e.i∧y.K=2)→r x.i < r e.i){y:Dn}(hy:y∈D.L)(hK:y.K=2):∀ (n:Nat) (x:Dn),x∈D.L→Enough D r n x→sm (fun d=>ind (d.i==y.i)) (vis D n x)=ind (x.i==y.i)+sm (fun d=>(d.es.filter (·.to y.i y.c)).length) (vis D n x)
 | 0,x,hx,he=>absurd (he.pos I hx) (by decide)
 | n+1,x,hx,he=>by
  rw [vis,sm,sm,sm_flat,sm_flat,len_filter,← sm_add];congr 1;refine sm_congr fun e hm=>?_;obtain ⟨_,⟨z,hz,hz1,hz2⟩,_⟩:=I.live x hx e hm
  have hat:D.at e.i e.c=some z:=by rw [← hz1,← hz2];exact Dt.at_mem I.nos hz
  unfold sub6;rw [hat]
  by_cases hzK:z.K=2
  · simp only [hzK,if_true]
    rw [vis_cnt I hr hy hK n z hz (he.next I hx (by rw [hz1];exact hr x hx e hm ⟨z,hz,hz1,hzK⟩))];congr 1
    by_cases hzy:z.i=y.i
    · have:=same_no I.nos hz hy hzy
      subst this;rw [to_iff.2 ⟨hz1.symm,hz2.symm⟩];simp
    · rw [beq_eq_false_iff_ne.2 hzy]
      have:e.to y.i y.c=false:=by
       rw [Bool.eq_false_iff];intro h;exact hzy (hz1.trans (to_iff.1 h).1)
      rw [this]
  · simp only [hzK,if_false]
    have:e.to y.i y.c=false:=by
      rw [Bool.eq_false_iff];intro h;have e1:=to_iff.1 h;have:=same_no I.nos hz hy (hz1.trans e1.1);subst this;exact hzK hK
    rw [this];rfl
theorem vis_mem (I:DInv D):∀ (n:Nat) (x:Dn),x∈D.L→x.K=2→∀ d∈vis D n x,d∈D.L∧d.K=2
 | 0,_,_,_,d,hd=>by cases hd
 | n+1,x,hx,hK,d,hd=>by
  rw [vis] at hd;rcases List.mem_cons.1 hd with rfl | hd
  · exact ⟨hx,hK⟩
  · obtain ⟨e,he,hd⟩:=List.mem_flatMap.1 hd
    unfold sub6 at hd
    split at hd
    · rename_i y hat
      split at hd
      · rename_i hyK
        exact vis_mem I n y (at_is hat).1 hyK d hd
      · cases hd
    · cases hd
end
theorem one_of {L:List Dn}(hn:(L.map (·.i)).Nodup){d:Dn}(hd:d∈L)(g:Dn→Nat):sm (fun x=>ind (d.i==x.i)*g x) L=g d:=by
 induction L with
 | nil=>cases hd
 | cons z L ih =>
  rw [List.map_cons,List.nodup_cons] at hn;rw [sm];rcases List.mem_cons.1 hd with rfl | h1
  · have:sm (fun x=>ind (d.i==x.i)*g x) L=0:=sm_zero fun x hx=>by
     have:d.i≠x.i:=fun e=>hn.1 (List.mem_map.2 ⟨x,hx,e.symm⟩);rw [beq_eq_false_iff_ne.2 this];simp [ind]
    rw [this];simp [ind]
  · rw [ih hn.2 h1]
    have:d.i≠z.i:=fun e=>hn.1 (List.mem_map.2 ⟨d,h1,e⟩);rw [beq_eq_false_iff_ne.2 this];simp [ind]
theorem sm_over {L:List Dn}(hn:(L.map (·.i)).Nodup)(g:Dn→Nat):∀ V:List Dn,(∀ d∈V,d∈L)→sm g V=sm (fun x=>sm (fun d=>ind (d.i==x.i)) V*g x) L
 | [],_=>(sm_zero fun x _=>by simp [sm]).symm
 | d::V,h=>by
  have h1:=sm_over hn g V (fun x hx=>h x (List.mem_cons_of_mem _ hx));rw [sm,h1,← one_of hn (h d List.mem_cons_self) g,← sm_add];refine sm_congr fun x _=>?_;rw [sm,Nat.add_mul]
section
variable {D:Dt}
theorem to_root (I:DInv D){x:Dn}(hx:x∈D.L)(c:Nat):(x.es.filter (·.to 0 c)).length=0:=by
 rw [len_filter];refine sm_zero fun e he=>?_
 have:e.to 0 c=false:=by
  rw [Bool.eq_false_iff];intro h;exact (I.live x hx e he).1 (to_iff.1 h).1
 rw [this];rfl
theorem len_pos {x:Dn}{i c:Nat}(h:(x.es.filter (·.to i c)).length≠0):∃ e∈x.es,e.i=i∧e.c=c:=by
 cases hf:x.es.filter (·.to i c) with
 | nil=>rw [hf] at h;exact absurd rfl h
 | cons e l =>
  have:e∈x.es.filter (·.to i c):=by rw [hf];exact List.mem_cons_self
  exact ⟨e,(List.mem_filter.1 this).1,to_iff.1 (List.mem_filter.1 this).2⟩
theorem vis_once (I:DInv D){x0:Dn}(h0:x0∈D.L)(h0i:x0.i=0)(h0K:x0.K=2){r:Nat→Nat}(hr:∀ x∈D.L,∀ e∈x.es,(∃ y∈D.L,y.i=e.i∧y.K=2)→r x.i < r e.i):∀ (n:Nat) (y:Dn),y∈D.L→y.K=2→r y.i < n→sm (fun d=>ind (d.i==y.i)) (vis D D.L.length x0)=1
 | 0,_,_,_,h=>absurd h (Nat.not_lt_zero _)
 | n+1,y,hy,hK,hlt=>by
  have hmem:=vis_mem I D.L.length x0 h0 h0K;rw [vis_cnt I hr hy hK _ x0 h0 (Enough.root D r x0)]
  by_cases hy0:y.i=0
  · rw [h0i,hy0]
    have:sm (fun d=>(d.es.filter (·.to 0 y.c)).length) (vis D D.L.length x0)=0:=sm_zero fun d hd=>to_root I (hmem d hd).1 _;rw [this];rfl
  · have e1:ind (x0.i==y.i)=0:=by
     rw [beq_eq_false_iff_ne.2 (by rw [h0i];exact Ne.symm hy0)];rfl
    rw [e1,Nat.zero_add,sm_over I.nos _ _ (fun d hd=>(hmem d hd).1)]
    have e2:sm (fun x=>sm (fun d=>ind (d.i==x.i)) (vis D D.L.length x0)*(x.es.filter (·.to y.i y.c)).length) D.L=sm (fun x=>(x.es.filter (·.to y.i y.c)).length) D.L:=sm_congr fun x hx=>by
     by_cases hz:(x.es.filter (·.to y.i y.c)).length=0
     · rw [hz,Nat.mul_zero]
     · obtain ⟨e,he,hei,hec⟩:=len_pos hz
       have hlt2:=hr x hx e he ⟨y,hy,hei.symm,hK⟩;rw [hei] at hlt2;rw [vis_once I h0 h0i h0K hr n x hx (I.has_es hx he) (by omega),Nat.one_mul]
    rw [e2,← cntL_sm];exact I.dirs y hy hK hy0
theorem bel_is (I:DInv D){x0:Dn}(h0:x0∈D.L)(h0i:x0.i=0)(h0K:x0.K=2)(i c:Nat):sm (fun h=>ind (h==(i,c))) (bel D D.L.length x0)=D.cnt i c:=by
 obtain ⟨r,hr⟩:=I.rank;have hmem:=vis_mem I D.L.length x0 h0 h0K;rw [bel_cnt,sm_over I.nos _ _ (fun d hd=>(hmem d hd).1),Dt.cnt,cntL_sm];refine sm_congr fun x hx=>?_;rcases I.kind x hx with ⟨_,he⟩ | ⟨hK,_⟩
 · rw [he];rfl
 · rw [vis_once I h0 h0i h0K hr (r x.i+1) x hx hK (Nat.lt_succ_self _),Nat.one_mul]
end
def nubJ (l:List (Nat×Nat)):Nat→List (Nat×Nat)
 | 0=>[]
 | j+1=>match l[j]? with
  | some a=>if (l.take j).contains a then nubJ l j else nubJ l j++[a]
  | none=>nubJ l j
theorem take_next {α:Type}{l:List α}{j:Nat}{a:α}(h:l[j]?=some a):l.take (j+1)=l.take j++[a]:=by
 rw [List.take_add_one,h];rfl
theorem nub_is (l:List (Nat×Nat)):∀ j,j≤l.length→(nubJ l j).Nodup∧∀ a,a∈nubJ l j↔a∈l.take j
 | 0,_=>⟨List.nodup_nil,fun a=>by simp [nubJ]⟩
 | j+1,hj=>by
  obtain ⟨h1,h2⟩:=nub_is l j (by omega);obtain ⟨a,ha⟩:∃ a,l[j]?=some a:=⟨_,List.getElem?_eq_getElem (by omega)⟩;have e:=take_next ha;unfold nubJ;simp only [ha]
  cases hc:(l.take j).contains a with
  | true =>
   simp only [if_true];refine ⟨h1,fun b=>?_⟩;rw [e,List.mem_append,List.mem_singleton,h2];have hm:=List.contains_iff_mem.1 hc;exact ⟨Or.inl,fun h=>h.elim id fun e=>e ▸ hm⟩
  | false =>
   simp only [if_false,Bool.false_eq_true]
   have hm:a∉l.take j:=fun hm=>by rw [List.contains_iff_mem.2 hm] at hc;cases hc
   refine ⟨List.nodup_append.2 ⟨h1,List.nodup_cons.2 ⟨by simp,List.nodup_nil⟩,fun x hx y hy=>?_⟩,fun b=>?_⟩
   · rw [List.mem_singleton.1 hy]
     exact fun e=>hm ((h2 a).1 (e ▸ hx))
   · rw [e,List.mem_append,List.mem_append,List.mem_singleton,h2]
theorem mem_sm {l:List (Nat×Nat)}{a:Nat×Nat}:a∈l↔sm (fun h=>ind (h==a)) l≠0:=by
 induction l with
 | nil=>simp [sm]
 | cons b l ih =>
  rw [List.mem_cons,ih,sm]
  by_cases e:b=a
  · subst e
    simp [ind]
  · rw [beq_eq_false_iff_ne.2 e]
    simp only [ind,Bool.false_eq_true,if_false,Nat.zero_add];exact ⟨fun h=>h.elim (fun h=>absurd h.symm e) id,Or.inr⟩
theorem nodup_map {α β:Type}{f:α→β}:∀ {l:List α},l.Nodup→(∀ a∈l,∀ b∈l,f a=f b→a=b)→(l.map f).Nodup
 | [],_,_=>List.nodup_nil
 | a::l,h,hf=>by
  rw [List.nodup_cons] at h;rw [List.map_cons,List.nodup_cons];refine ⟨fun hm=>?_,nodup_map h.2 (fun b hb c hc=>hf b (List.mem_cons_of_mem _ hb) c (List.mem_cons_of_mem _ hc))⟩;obtain ⟨b,hb,e⟩:=List.mem_map.1 hm;have:=hf b (List.mem_cons_of_mem _ hb) a List.mem_cons_self e;exact h.1 (this ▸ hb)
theorem nub_len {D:Dt}(I:DInv D)(hp:NoPin D){x0:Dn}(h0:x0∈D.L)(h0i:x0.i=0)(h0K:x0.K=2):1+(nubJ (bel D D.L.length x0) (bel D D.L.length x0).length).length=D.L.length:=by
 obtain ⟨hn,hm⟩:=nub_is (bel D D.L.length x0) _ (Nat.le_refl _);rw [List.take_length] at hm;generalize nubJ (bel D D.L.length x0) (bel D D.L.length x0).length=N at hn hm;have hcnt:=bel_is I h0 h0i h0K
 have hA:∀ a∈N,∃ y∈D.L,y.i=a.1∧y.c=a.2∧y.i≠0:=fun a ha=>by
  have h1:=mem_sm.1 ((hm a).1 ha);obtain ⟨i,c⟩:=a;rw [hcnt i c,Dt.cnt,cntL_sm] at h1
  by_cases hex:∃ x∈D.L,(x.es.filter (·.to i c)).length≠0
  · obtain ⟨x,hx,hne⟩:=hex
    obtain ⟨e,he,hei,hec⟩:=len_pos hne;obtain ⟨hz,⟨y,hy,q1,q2⟩,_⟩:=I.live x hx e he;exact ⟨y,hy,q1.trans hei,q2.trans hec,by rw [q1];exact hz⟩
  · exact absurd (sm_zero fun x hx=>Classical.byContradiction fun hne=>hex ⟨x,hx,hne⟩) h1
 have hB:∀ y∈D.L,y.i≠0→(y.i,y.c)∈N:=fun y hy hy0=>by
  rw [hm,mem_sm,hcnt];rcases I.kind y hy with ⟨hK,_⟩ | ⟨hK,_⟩
  · rcases (I.files y hy hK).2 with h | h
    · omega
    · rw [hp y hy] at h
      omega
  · rw [I.dirs y hy hK hy0]
    decide
 have hinj:∀ a∈N,∀ b∈N,a.1=b.1→a=b:=fun a ha b hb e=>by
  obtain ⟨y,hy,h1,h2,_⟩:=hA a ha;obtain ⟨z,hz,h3,h4,_⟩:=hA b hb;have:=same_no I.nos hy hz (by rw [h1,h3,e]);subst this;exact Prod.ext e (h2.symm.trans h4)
 have hN:(0::N.map (·.1)).Nodup:=List.nodup_cons.2 ⟨fun hm0=>by
  obtain ⟨a,ha,e⟩:=List.mem_map.1 hm0;obtain ⟨y,_,h1,_,h3⟩:=hA a ha
  exact h3 (h1.trans e),nodup_map hn hinj⟩
 have l1:=pig hN I.nos (fun q hq=>by
  rcases List.mem_cons.1 hq with rfl | hq
  · exact List.mem_map.2 ⟨x0,h0,h0i⟩
  · obtain ⟨a,ha,rfl⟩:=List.mem_map.1 hq
    obtain ⟨y,hy,h1,_⟩:=hA a ha
    exact List.mem_map.2 ⟨y,hy,h1⟩)
 have l2:=pig I.nos hN (fun q hq=>by
  obtain ⟨y,hy,rfl⟩:=List.mem_map.1 hq
  by_cases hy0:y.i=0
  · rw [hy0];exact List.mem_cons_self
  · exact List.mem_cons_of_mem _ (List.mem_map.2 ⟨_,hB y hy hy0,rfl⟩))
 rw [List.length_map,List.length_cons,List.length_map] at l1 l2;omega
end
end Go.Proofs.YtkcabopgajlmdaaGreatDoor
