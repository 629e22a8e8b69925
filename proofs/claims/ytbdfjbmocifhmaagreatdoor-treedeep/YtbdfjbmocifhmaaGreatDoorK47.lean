import Derived.Test.YtbdfjbmocifhmaaGreatDoorK46
namespace Go.Proofs.YtbdfjbmocifhmaaGreatDoor
section
open Go Go.RowKit Go.Deep Go.Maps
def Rds {α:Type}(p:Par α)(b:List UInt8)(a:α):Prop:=∀ (t:ByteArray) (rest:List UInt8),t.data.toList=b++rest→∃ t',p t=some (a,t')∧t'.data.toList=rest
theorem rds_num {m:Int}{n:Nat}(h:n≤9223372036854775807)(hm:(n:Int)≤m):Rds (pNum m) (be 8 n) n:=fun t rest ht=>by
 obtain ⟨h1,h2,h3⟩:=read_num t 8 n rest ht (by have:(256:Nat) ^ 8=18446744073709551616:=(by decide);omega);refine ⟨cutAt t 8,?_,h3⟩;unfold pNum;rw [if_pos ⟨h1,by rw [h2];exact h,by rw [h2];exact hm⟩,h2]
theorem rds_byt {m:Int}{s:ByteArray}(h:s.size≤5000)(hm:(s.size:Int)≤m):Rds (pByt m) (itemS s).data.toList s:=fun t rest ht=>by
 obtain ⟨h1,h2,h3,h4,h5,h6⟩:=read_item t s rest ht h;refine ⟨_,?_,h6⟩;unfold pByt;rw [if_pos ((itemM_iff m t).2 ⟨h1,by rw [h2];exact hm,by rw [h2];exact h3,by rw [h2];exact h4⟩),h2,h5]
theorem Rds.bind {α β:Type}{p:Par α}{b1 b2:List UInt8}{a:α}{f:α→Par β}{c:β}(h1:Rds p b1 a)(h2:Rds (f a) b2 c):Rds (bindP p f) (b1++b2) c:=fun t rest ht=>by
 obtain ⟨t1,e1,d1⟩:=h1 t (b2++rest) (by rw [ht,List.append_assoc]);obtain ⟨t2,e2,d2⟩:=h2 t1 rest d1;exact ⟨t2,by rw [bindP_some e1];exact e2,d2⟩
theorem rds_ret {α:Type}(a:α):Rds (retP a) [] a:=fun t _ ht=>⟨t,rfl,ht⟩
theorem Rds.to {α:Type}{p:Par α}{b:List UInt8}{a:α}(h:Rds p b a){b':List UInt8}(e:b=b'):Rds p b' a:=e ▸ h
theorem Rds.bind0 {α β:Type}{p:Par α}{b:List UInt8}{a:α}{f:α→Par β}{c:β}(h1:Rds p b a)(h2:Rds (f a) [] c):Rds (bindP p f) b c:=(h1.bind h2).to (List.append_nil b)
structure NmOk (x:Nmb):Prop where
 k:x.k≤2
 g:x.g≤4611686018427387903
 c:x.c≤4611686018427387903
 z:x.k=0→x.c=0
theorem rds_given {x:Nmb}(h:NmOk x):Rds pGiven (givenB x) x:=by
 have hg:=h.g;have hc:=h.c;have hk:=h.k
 by_cases h0:x.k=0
 · have e:givenB x=be 8 x.k++be 8 x.g:=by unfold givenB;rw [if_pos h0,List.append_nil]
   rw [e];refine (rds_num (by omega) (by omega)).bind ((rds_num (by omega) (by unfold manyT;omega)).bind0 ?_);rw [if_pos h0,show x=⟨x.g,0,0⟩ by cases x;simp at h0 ⊢;exact ⟨h0,h.z h0⟩];exact rds_ret _
 · have e:givenB x=be 8 x.k++(be 8 x.g++be 8 x.c):=by unfold givenB;rw [if_neg h0,List.append_assoc]
   rw [e];refine (rds_num (by omega) (by omega)).bind ((rds_num (by omega) (by unfold manyT;omega)).bind ?_);rw [if_neg h0];exact (rds_num (by omega) (by unfold manyT;omega)).bind0 (rds_ret _)
theorem rds_times {α:Type}{p:Par α}{f:α→List UInt8}:∀ {l:List α},(∀ x∈l,Rds p (f x) x)→Rds (pTimes p l.length) (l.flatMap f) l
 | [],_=>rds_ret _
 | x::l,h=>by
  rw [List.flatMap_cons];exact (h x (List.mem_cons_self ..)).bind ((rds_times (fun y hy=>h y (List.mem_cons_of_mem _ hy))).bind0 (rds_ret _))
theorem rds_tab {most:Nat}{l:List Nmb}(hl:l.length≤300)(hk:∀ x∈l,NmOk x)(hh:pHead l=true)(hg:pGood l most=true):Rds (pTab most) (be 8 l.length++l.flatMap givenB) l:=by
 unfold pTab;refine (rds_num (by omega) (by omega)).bind ((rds_times (fun x hx=>rds_given (hk x hx))).bind0 ?_);rw [if_pos (by rw [hh,hg];rfl)];exact rds_ret _
structure EnOk (l:List Nmb)(e:Ent):Prop where
 name:okB (bs e.s)=true
 len:e.s.length≤24
 i:e.i < l.length
 kind:kindL l e.i≠0
theorem rds_ent {l:List Nmb}{e:Ent}(h:EnOk l e)(hl:l.length≤300)(a:Nat)(c:Lc):Rds (pEnt l a c) (entB e) (putC c a e.s e.i):=by
 have hi:=h.i
 have hs:(bs e.s).size≤24:=by rw [bs_size];exact h.len
 unfold pEnt entB;refine (rds_byt (by omega) (by omega)).bind ?_;rw [if_pos h.name];refine (rds_num (by omega) (by omega)).bind0 ?_;rw [if_neg h.kind,show (bs e.s).data.toList=e.s by simp [bs]];exact rds_ret _
theorem rds_iter {f:Lc→Par Lc}{b:Ent→List UInt8}{g:Lc→Ent→Lc}:∀ {es:List Ent} (c:Lc),(∀ e∈es,∀ c,Rds (f c) (b e) (g c e))→Rds (iterP f es.length c) (es.flatMap b) (es.foldl g c)
 | [],c,_=>rds_ret _
 | e::es,c,h=>by
  rw [List.flatMap_cons,List.foldl_cons];exact (h e (List.mem_cons_self ..) c).bind (rds_iter (g c e) (fun x hx=>h x (List.mem_cons_of_mem _ hx)))
theorem rds_ents {l:List Nmb}{es:List Ent}(h:∀ e∈es,EnOk l e)(hl:l.length≤300)(hn:es.length≤60)(a:Nat)(c:Lc):Rds (pEnts l a c) (entsB es) (es.foldl (fun c e=>putC c a e.s e.i) c):=by
 unfold pEnts entsB;exact (rds_num (by omega) (by omega)).bind (rds_iter c (fun e he c=>rds_ent (h e he) hl a c))
theorem rds_from {l:List Nmb}{b:Nat→List UInt8}{st:Nat→Lc}:∀ (m j:Nat),(∀ i,j≤i→i < j+m→Rds (pCont l i (st i)) (b i) (st (i+1)))→Rds (pFrom l m j (st j)) ((List.range' j m).flatMap b) (st (j+m))
 | 0,j,_=>rds_ret _
 | m+1,j,h=>by
  rw [List.range'_succ,List.flatMap_cons,show j+(m+1)=(j+1)+m by omega];exact (h j (Nat.le_refl _) (by omega)).bind (rds_from m (j+1) (fun i h1 h2=>h i (by omega) (by omega)))
end
section
open Go Go.RowKit Go.Deep
section
variable {P:Program}{ops:Array Oper}{md:Region.Mode}{C:World→Prop}
def endsQ (P:Program)(C:World→Prop)(Q':Exit→Act→World→Prop)(o:Oper)(a:Act):Prop:=∀ w,C w→match (execOp a.eval o).run P w with
 | .ok (.enter f args) w'=>w'=w∧Calls P f args w (fun e w''=>∃ ch,e = .panicked ch∧Q' (.panic ch) a w'')
 | _=>False
def qOpE (P:Program)(ops:Array Oper)(C:World→Prop)(Q':Exit→Act→World→Prop)(i:Nat)(K:Act→Prop)(a:Act):Prop:=qOp P ops C i K a∨∃ o,ops[i]?=some o∧Region.wanted o (yielded ops a.tmps)=true∧endsQ P C Q' o a
def wpAnyE (P:Program)(md:Region.Mode)(ops:Array Oper)(C:World→Prop)(Q':Exit→Act→World→Prop)(Q:Act→Prop):Nat→Array Bool→Act→Prop
 | 0,listed,a=>Region.ready md ops listed=[]∧Q a
 | fuel+1,listed,a =>
  (Region.ready md ops listed=[]→Q a) ∧
  ∀ i∈Region.ready md ops listed,qOpE P ops C Q' i (wpAnyE P md ops C Q' Q fuel (listed.setIfInBounds i true)) a
theorem wpOp_of_qOpE {i:Nat}{a:Act}{K:Act→Prop}{K':Act→World→Prop}{Q':Exit→Act→World→Prop}{w:World}(hC:C w)(h:∀ a w',C w'→K a→K' a w')(hh:qOpE P ops C Q' i K a):wpOp P ops Q' i K' a w:=by
 rcases hh with hh | ⟨o,ho,hw,he⟩
 · exact wpOp_of_qOp hC h hh
 · unfold wpOp
   simp only [ho,hw,if_true];refine Or.inl ?_;have h3:=he w hC;unfold Oper.wp;generalize (execOp a.eval o).run P w=r at *
   cases r with
   | halt x w'=>exact h3.elim
   | ok n w' =>
    cases n<;>try exact False.elim h3
    obtain ⟨rfl,hc⟩:=h3
    exact hc.mono fun e w'' ⟨ch,he,hq⟩=>by subst he;exact hq
theorem wpAny_of_E {Q:Act→Prop}{Q':Exit→Act→World→Prop}(hQ:∀ a w,C w→Q a→Q' .normal a w):∀ (fuel:Nat) (listed:Array Bool) (a:Act) (w:World),C w →
  wpAnyE P md ops C Q' Q fuel listed a→wpAny P md ops Q' fuel listed a w
 | 0,_,_,_,hw,h=>⟨h.1,hQ _ _ hw h.2⟩
 | fuel+1,_,_,_,hw,h=>⟨fun h0=>hQ _ _ hw (h.1 h0),fun i hi=>wpOp_of_qOpE hw (fun a' w' hw'=>wpAny_of_E hQ fuel _ a' w' hw') (h.2 i hi)⟩
theorem wpAnyE_first {Q:Act→Prop}{Q':Exit→Act→World→Prop}(hP:∀ a d v ch w,Q' (.panic ch) (Act.put a d v) w→Q' (.panic ch) a w){i:Nat}{oi:Oper}{v:Value}(hi:ops[i]?=some oi)(hsel:∀ (j:Nat) (o:Oper) cs b,ops[j]?=some o→o.op ≠ .select cs b):
  ∀ (fuel:Nat) (listed:Array Bool) (a:Act),
    (∀ j oj,ops[j]?=some oj→j≠i→listed.getD j true=false→(∀ e∈oj.after,Region.binds md e=true→e.on≠i)→oi.apart ops oj=true) →
    i∈Region.ready md ops listed→YieldsIn P ops C oi v a →
    wpAnyE P md ops C Q' Q fuel (listed.setIfInBounds i true) (a.put oi.dst v)→wpAnyE P md ops C Q' Q (fuel+1) listed a:=by
 intro fuel
 induction fuel with
 | zero =>
  intro listed a _ hr hy H;refine ⟨fun h=>(by rw [h] at hr;cases hr),fun j hj=>?_⟩
  by_cases hji:j=i
  · subst hji;exact Or.inl (hy.qOp hi H)
  · have:=ready_mono hj hji
    rw [H.1] at this
    cases this
 | succ fuel ih =>
  intro listed a hfree hr hy H;refine ⟨fun h=>(by rw [h] at hr;cases hr),fun j hj=>?_⟩
  by_cases hji:j=i
  · subst hji;exact Or.inl (hy.qOp hi H)
  · have h1:=H.2 j (ready_mono hj hji)
    obtain ⟨hjun,oj,hoj,hall⟩:=mem_ready.1 hj
    have hnot:∀ e∈oj.after,Region.binds md e=true→e.on≠i:=fun e he hb heq=>by
      have h1:=hall e he hb;have h0:=(mem_ready.1 hr).1;rw [heq] at h1;rcases Nat.lt_or_ge i listed.size with h' | h'
      · simp [h'] at h0 h1;rw [h0] at h1;cases h1
      · simp [Array.getElem?_eq_none h'] at h1
    have hap:=hfree j oj hoj hji hjun hnot;rcases h1 with h1 | ⟨o,ho,hw,he⟩
    · refine Or.inl ?_
      have h2:=qOp_put hoj hap (fun cs b=>hsel i oi cs b hi) (fun cs b=>hsel j oj cs b hoj) hy h1
      have hfree':∀ k ok,ops[k]?=some ok→k≠i→(listed.setIfInBounds j true).getD k true=false →
          (∀ e∈ok.after,Region.binds md e=true→e.on≠i)→oi.apart ops ok=true:=fun k ok hk hki hun hno=>by
        refine hfree k ok hk hki ?_ hno
        by_cases hjk:j=k
        · subst hjk;exact hjun
        · rw [getD_set_ne true hjk] at hun;exact hun
      refine qOp_mono (fun a' h3=>ih (listed.setIfInBounds j true) a' hfree' (ready_mono hr (Ne.symm hji)) h3.1 ?_) h2;rw [Array.setIfInBounds_comm _ _ hji];exact h3.2
    · obtain rfl:o=oj:=Option.some.inj (ho.symm.trans hoj)
      obtain ⟨g1,_,_⟩:=Oper.apart_spec hap;refine Or.inr ⟨o,ho,by rw [wanted_put o a oi.dst v g1] at hw;exact hw,fun w hC=>?_⟩;have h3:=he w hC;rw [execOp_put o (fun cs b=>hsel j o cs b hoj) a oi.dst v g1] at h3;generalize (execOp a.eval o).run P w=r at *
      cases r with
      | halt x w'=>exact h3.elim
      | ok n w' =>
        cases n<;>try exact False.elim h3
        obtain ⟨rfl,hc⟩:=h3;exact ⟨rfl,hc.mono fun e w'' ⟨ch,he,hq⟩=>⟨ch,he,hP _ _ _ _ _ hq⟩⟩
theorem wpAnyE_lex {Q:Act→Prop}{Q':Exit→Act→World→Prop}(hP:∀ a d v ch w,Q' (.panic ch) (Act.put a d v) w→Q' (.panic ch) a w)(hs:Region.noSelect ops=true)(o:Oper):∀ (l:List Oper) (k:Nat) (listed:Array Bool) (a:Act),(∀ j,(l++[o])[j]?=ops[k+j]?) →
  Region.lexFrom md ops (l.length+1) k listed=true→wpQuiet P ops C (fun a'=>Region.wanted o (yielded ops a'.tmps)=true∧endsQ P C Q' o a') l a→wpAnyE P md ops C Q' Q (l.length+1) listed a
 | [],k,listed,a,hl,hB,h=>by
  have h0:ops[k]?=some o:=by simpa using (hl 0).symm
  simp only [List.length_nil,Region.lexFrom,Bool.and_eq_true] at hB;obtain ⟨⟨hr,hf⟩,hB'⟩:=hB
  have hr':k∈Region.ready md ops listed:=by simpa using hr
  refine ⟨fun h=>(by rw [h] at hr';cases hr'),fun j hj=>?_⟩
  by_cases hjk:j=k
  · subst hjk
    exact Or.inr ⟨o,h0,h.1,h.2⟩
  · have:=ready_mono hj hjk
    have e:Region.ready md ops (listed.setIfInBounds k true)=[]:=by simpa using hB'
    rw [e] at this
    cases this
 | o1::l,k,listed,a,hl,hB,h=>by
  have h0:ops[k]?=some o1:=by simpa using (hl 0).symm
  rw [List.length_cons,Region.lexFrom,Bool.and_eq_true,Bool.and_eq_true] at hB;obtain ⟨⟨hr,hf⟩,hB'⟩:=hB
  have hst:qOp P ops C k (wpQuiet P ops C (fun a'=>Region.wanted o (yielded ops a'.tmps)=true∧endsQ P C Q' o a') l) a:=by unfold qOp;simp only [h0];exact h
  obtain ⟨v,hy,hK⟩:=yieldsIn_of_qOp h0 hst
  exact wpAnyE_first hP h0 (Region.noSelect_spec hs) (l.length+1) listed a (Region.free_spec h0 hf) (by simpa using hr) hy
    (wpAnyE_lex hP hs o l (k+1) _ _ (fun j=>by have:=hl (j+1);simpa [Nat.add_assoc,Nat.add_comm 1 j] using this) hB' hK)
theorem wp_region_quiet_panic {id:Nat}{Q:Exit→Act→World→Prop}{a:Act}{w:World}{l:List Oper}(o:Oper)(ho:l.getLast?=some o)(hP:∀ a d v ch w,Q (.panic ch) (Act.put a d v) w→Q (.panic ch) a w)(hm:P.follows .mixedOrders=true)(hB:Region.lexB .any l.toArray=true)(hC:C { w with drawn:=w.drawn+1 })
  (h:wpQuiet P l.toArray C (fun a'=>Region.wanted o (yielded l.toArray a'.tmps)=true∧endsQ P C Q o a') l.dropLast a):(Code.region id l.toArray true).wp P Q a w:=by
 simp only [Region.lexB,Bool.and_eq_true] at hB;refine wp_region_any hm (wpAny_of_E (Q:=fun _=>False) (fun _ w' hw' h=>h.elim) _ _ _ _ hC ?_)
 have hlo:l=l.dropLast++[o]:=by
  cases hl:l with
  | nil=>rw [hl] at ho;cases ho
  | cons x xs =>
   rw [hl,List.getLast?_eq_some_getLast (by simp)] at ho;rw [← Option.some.inj ho];exact (List.dropLast_concat_getLast (by simp)).symm
 have hlen:l.length=l.dropLast.length+1:=by
  have:=congrArg List.length hlo
  simpa using this
 have:=wpAnyE_lex (C:=C) (md := .any) (Q:=fun _=>False) hP hB.1 o l.dropLast 0 (Array.replicate l.toArray.size false) a (fun j=>by rw [← hlo];simp) (by rw [← hlen];simpa using hB.2) h;rw [← hlen] at this
 simpa using this
theorem wp_region_quiet_only_panic {id:Nat}{Q:Exit→Act→World→Prop}{a:Act}{w0 w:World}{l:List Oper}(o:Oper)(ho:l.getLast?=some o)(hP:∀ a d v ch w,Q (.panic ch) (Act.put a d v) w→Q (.panic ch) a w)(hO:Only [] w0 w)(hm:P.follows .mixedOrders=true)(hB:Region.lexB .any l.toArray=true)
  (h:wpQuiet P l.toArray (fun w'=>∃ p:OnlyBy w0,w'=p.w) (fun a'=>Region.wanted o (yielded l.toArray a'.tmps)=true∧endsQ P (fun w'=>∃ p:OnlyBy w0,w'=p.w) Q o a') l.dropLast a):(Code.region id l.toArray true).wp P Q a w :=
 wp_region_quiet_panic (C:=fun w'=>∃ p:OnlyBy w0,w'=p.w) o ho hP hm hB ⟨⟨w.drew,hO.drew⟩,rfl⟩ h
end
end
end Go.Proofs.YtbdfjbmocifhmaaGreatDoor
