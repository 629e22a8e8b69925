import Derived.Test.YtmnidbnaneagjaaGreatDoorK28
namespace Go.Proofs.YtmnidbnaneagjaaGreatDoor
section
open Go Go.RowKit Go.Deep Go.Maps
def allP (l:List Ent)(p:Ent→Bool):Nat:=(l.filter p).length
def doneP (l:List Ent)(p:Ent→Bool)(left:Lit→Bool):Nat:=(l.filter (fun e=>!left (.string e.s)&&p e)).length
theorem doneP_le (l:List Ent)(p:Ent→Bool)(left:Lit→Bool):doneP l p left≤l.length:=List.length_filter_le _ _
theorem doneP_start (l:List Ent)(p:Ent→Bool):doneP l p (has (entD l))=0:=by
 unfold doneP;rw [List.length_eq_zero_iff,List.filter_eq_nil_iff];intro e he
 have:has (entD l) (.string e.s)=true:=by
  rw [has_entD];unfold findE;rw [List.find?_isSome];exact ⟨e,he,by simp⟩
 rw [this];simp
theorem doneP_end (l:List Ent)(p:Ent→Bool){left:Lit→Bool}(h:∀ kl,left kl=false):doneP l p left=allP l p:=by
 unfold doneP allP;congr 1;refine List.filter_congr fun e _=>?_;rw [h];rfl
theorem doneP_other (l:List Ent)(p:Ent→Bool)(left:Lit→Bool)(s:List UInt8)(h:∀ e∈l,e.s≠s):doneP l p (fun z=>left z&&!z.sameKey (.string s))=doneP l p left:=by
 unfold doneP;congr 1;refine List.filter_congr fun e he=>?_
 have:(Lit.string e.s).sameKey (.string s)=false:=by
  show (e.s==s)=false
  simpa using h e he
 simp only [this,Bool.not_false,Bool.and_true]
theorem doneP_step (l:List Ent)(p:Ent→Bool)(left:Lit→Bool)(e:Ent)(hn:(l.map (·.s)).Nodup)(he:e∈l)(hl:left (.string e.s)=true):doneP l p (fun z=>left z&&!z.sameKey (.string e.s))=doneP l p left+if p e then 1 else 0:=by
 induction l with
 | nil=>cases he
 | cons x l ih =>
  rw [List.map_cons,List.nodup_cons] at hn;rcases List.mem_cons.1 he with rfl | he'
  · have ho:=doneP_other l p left e.s (fun y hy hs=>hn.1 (hs ▸ List.mem_map_of_mem hy))
    have hk:(Lit.string e.s).sameKey (.string e.s)=true:=by
      show (e.s==e.s)=true;simp
    unfold doneP at ho ⊢;simp only [List.filter_cons,hl,hk,Bool.not_true,Bool.and_false,Bool.not_false,Bool.true_and,Bool.false_and,Bool.false_eq_true,if_false]
    cases hd:p e
    · simp only [Bool.false_eq_true,if_false]
      rw [ho];rfl
    · simp only [if_true,List.length_cons]
      rw [ho]
  · have hne:x.s≠e.s:=fun hs=>hn.1 (hs ▸ List.mem_map_of_mem he')
    have hk:(Lit.string x.s).sameKey (.string e.s)=false:=by
      show (x.s==e.s)=false
      simpa using hne
    have:=ih hn.2 he';unfold doneP at this ⊢;dsimp only at this;simp only [List.filter_cons,hk,Bool.not_false,Bool.and_true]
    split
    · simp only [List.length_cons]
      omega
    · exact this
def cntF (g cn:Nat→Nat)(k:Nat×Nat):Option Nat:=if k.2=g k.1∧0 < cn k.1 then some (cn k.1) else none
def CntAt (w:World)(b:Nat)(g cn:Nat→Nat)(m:Nat):Prop:=∃ D n,w.ownsMap Tryz.prog 94 (plainElem Tryz.prog 3) b n D∧n≤m∧Reads hkey numD D (cntF g cn)
theorem CntAt.kept {w w':World}{b m:Nat}{g cn:Nat→Nat}{L:List Nat}(h:CntAt w b g cn m)(ho:Only L w w')(hb:b∉L):CntAt w' b g cn m:=by
 obtain ⟨D,n,d1,d2,d3⟩:=h;exact ⟨D,n,own_only d1 ho hb,d2,d3⟩
theorem cnt_look {w:World}{b m:Nat}{g cn:Nat→Nat}(h:CntAt w b g cn m){i:Nat}(hi:i≤1000)(hg:g i≤5000000000000000000):(Instr.lookup 126 (.map (some b)) (.agg #[.int .i64 i,.int .i64 (g i:Nat)]) false).run Tryz.prog w = .ok (.int .i64 (cn i:Nat)) w:=by
 obtain ⟨D,n,d1,_,d3⟩:=h;obtain ⟨c,hrun,hat,_⟩:=d1.lookup_int lawH undPins Tryz.underlying3 (zeroInt6 _) (keyOf_handle (i:=i) (c:=g i) (by omega) (by omega));rw [d3.look] at hat;unfold cntF at hat
 by_cases hp:0 < cn i
 · rw [if_pos ⟨rfl,hp⟩] at hat
   have e:c=(cn i:Nat):=by
    unfold numD at hat
    simpa using hat.symm
   rw [e] at hrun;exact hrun
 · rw [if_neg (fun hh=>hp hh.2)] at hat
   have e:c=0:=by simpa using hat.symm
   have e2:cn i=0:=by omega
   rw [e] at hrun;rw [e2];exact hrun
theorem cntF_set (g cn:Nat→Nat)(i k:Nat)(hk:0 < k):cntF g (setN cn i k) (i,g i)=some k:=by
 show (if g i=g i∧0 < setN cn i k i then some (setN cn i k i) else none)=some k;rw [setN_same,if_pos ⟨rfl,hk⟩]
theorem cntF_other (g cn:Nat→Nat)(i k:Nat)(j:Nat×Nat)(hj:j≠(i,g i)):cntF g (setN cn i k) j=cntF g cn j:=by
 obtain ⟨q,c⟩:=j;show (if c=g q∧0 < setN cn i k q then some (setN cn i k q) else none)=(if c=g q∧0 < cn q then some (cn q) else none)
 by_cases hq:q=i
 · subst hq
   have hc:c≠g q:=fun e=>hj (by rw [e]);rw [if_neg (fun h=>hc h.1),if_neg (fun h=>hc h.1)]
 · rw [setN_other _ _ hq]
theorem cnt_put {w:World}{b m:Nat}{g cn:Nat→Nat}(h:CntAt w b g cn m)(hm:m≤1000000){i k:Nat}(hi:i≤1000)(hg:g i≤5000000000000000000)(hk:0 < k)(hk2:k≤1000000)(z:Int)(hz:z=(k:Nat)):∃ v0 st w1 w2,(Instr.mapEntry 126 (.map (some b)) (.agg #[.int .i64 i,.int .i64 (g i:Nat)])).run Tryz.prog w = .ok (.tuple #[v0,.int .i64 (st:Nat)]) w1∧(Instr.entryStore 126 (.map (some b)) (.int .i64 (st:Nat)) (.int .i64 z)).run Tryz.prog w1 = .ok () w2∧CntAt w2 b g (setN cn i k) (m+1)∧Only [b] w w2∧(Instr.lookup 126 (.map (some b)) (.agg #[.int .i64 i,.int .i64 (g i:Nat)]) false).run Tryz.prog w1 = .ok (.int .i64 (cn i:Nat)) w1:=by
 subst hz;have hlk:=cnt_look h hi hg;obtain ⟨P,n,p1,p2,p3⟩:=h;have hkk:keyOf Tryz.prog 94 (handV i (g i))=some (hkey (i,g i)):=keyOf_handle (by omega) (by omega);have hv:plainElem Tryz.prog 3 (.int .i64 (k:Nat))=some (numD k,[]):=plainElem_int Tryz.underlying3 (WalkArith.wf_i64 (by omega));obtain ⟨v0,st,w1,w2,h1,h2,h3,h4,h5⟩:=own_entry p1 undPins zeroInt6 (by unfold maxLen;omega) hkk hv;have ho:=only_turned h4;refine ⟨v0,st,w1,w2,h1,h2,⟨_,_,h3,by omega,p3.put p1.isMap hkey_key (fun j e=>hkey_only (by omega) (by omega) j e) (cntF_set g cn i k hk) (fun j hj=>cntF_other g cn i k j hj)⟩,ho,?_⟩;rcases h5 with e | ⟨e1,e2⟩
 · rw [e]
   exact hlk
 · have e3:cn i=0:=by
    have hq:=hlk.symm.trans e1;simp only [Result.ok.injEq,Value.int.injEq,true_and,and_true] at hq;omega
   have hv0:plainElem Tryz.prog 3 (.int .i64 0)=some (numD 0,[]):=plainElem_int Tryz.underlying3 (WalkArith.wf_i64 (by omega));obtain ⟨w',r1,r2,_⟩:=p1.store lawH undPins (by unfold maxLen;omega) hkk hv0;rw [r1] at e2
   cases e2
   have hR:Reads hkey numD (P.put (hkey (i,g i)) (numD 0)) (fun j=>if j=(i,g i) then some 0 else cntF g cn j):=p3.put p1.isMap hkey_key (fun j e=>hkey_only (by omega) (by omega) j e) (if_pos rfl) (fun j hj=>if_neg hj);obtain ⟨c,hrun,hat,_⟩:=r2.lookup_int lawH undPins Tryz.underlying3 (zeroInt6 _) hkk;rw [hR.look,if_pos rfl] at hat
   have e:c=0:=by
    have:=hat.symm;unfold numD at this
    simpa using this
   rw [e] at hrun;rw [e3];exact hrun
def perD (T:Tr)(p:Ent→Bool)(k:Nat):Nat:=match T.ds k with | some d=>allP d.l p | none=>0
def doneD (T:Tr)(p:Ent→Bool)(left:Lit→Bool)(N:Nat):Nat:=((List.range N).map (fun k=>if left (hkey (k,T.g k))=true then 0 else perD T p k)).sum
def totD (T:Tr)(p:Ent→Bool):Nat:=((List.range T.p.N).map (perD T p)).sum
def totC (c:Lc)(i:Nat):Nat:=((List.range c.N).map (fun k=>match c.ds k with | some l=>allP l (fun e=>e.i==i) | none=>0)).sum
theorem totD_C (T:Tr)(i:Nat):totD T (fun e=>e.i==i)=totC (absT T) i:=by
 unfold totD totC;show _=((List.range T.p.N).map _).sum;congr 1;apply List.map_congr_left;intro k _;unfold perD;show _=(match (T.ds k).map (·.l) with | some l=>allP l (fun e=>e.i==i) | none=>0)
 cases T.ds k<;>rfl
theorem doneD_succ (T:Tr)(p:Ent→Bool)(left:Lit→Bool)(N:Nat):doneD T p left (N+1)=doneD T p left N+if left (hkey (N,T.g N))=true then 0 else perD T p N:=by
 unfold doneD;rw [List.range_succ,List.map_append,List.sum_append];simp
theorem doneD_start {T:Tr}{p:Ent→Bool}{left:Lit→Bool}(h:∀ k d,T.ds k=some d→left (hkey (k,T.g k))=true)(N:Nat):doneD T p left N=0:=by
 induction N with
 | zero=>rfl
 | succ N ih =>
  rw [doneD_succ,ih];unfold perD
  cases e:T.ds N with
  | none=>simp
  | some d=>rw [if_pos (h N d e)]
theorem doneD_end {T:Tr}{p:Ent→Bool}{left:Lit→Bool}(h:∀ kl,left kl=false):doneD T p left T.p.N=totD T p:=by
 unfold doneD totD;congr 1;apply List.map_congr_left;intro k _;rw [h];simp
theorem hkey_same {i c:Nat}(hi:i < 9223372036854775808)(hc:c < 9223372036854775808)(j:Nat×Nat):(hkey j).sameKey (hkey (i,c))=true↔j=(i,c):=by
 rw [WideAt.sameKey_iff (hkey_key _)];exact ⟨fun h=>hkey_only hi hc j h,fun h=>by rw [h]⟩
theorem doneD_step {T:Tr}{p:Ent→Bool}{left:Lit→Bool}{k0:Nat}(hk:k0 < 9223372036854775808)(hg:T.g k0 < 9223372036854775808)(hl:left (hkey (k0,T.g k0))=true)(N:Nat):doneD T p (fun z=>left z&&!z.sameKey (hkey (k0,T.g k0))) N=doneD T p left N+if k0 < N then perD T p k0 else 0:=by
 induction N with
 | zero=>rfl
 | succ N ih =>
  rw [doneD_succ,doneD_succ,ih]
  by_cases e:N=k0
  · subst e
    have hs:(hkey (N,T.g N)).sameKey (hkey (N,T.g N))=true:=(hkey_same hk hg _).2 rfl;simp only [hs,hl,Bool.not_true,Bool.and_false,Bool.false_eq_true,if_false,if_true,Nat.lt_irrefl,Nat.lt_succ_self]
  · have hs:(hkey (N,T.g N)).sameKey (hkey (k0,T.g k0))=false:=by
     cases h:(hkey (N,T.g N)).sameKey (hkey (k0,T.g k0))
     · rfl
     · have:=(hkey_same hk hg _).1 h
       simp only [Prod.mk.injEq] at this;exact absurd this.1 e
    simp only [hs,Bool.not_false,Bool.and_true]
    have:(k0 < N+1)=(k0 < N):=by rw [eq_iff_iff];omega
    simp only [this];omega
theorem doneD_le (T:Tr)(p:Ent→Bool)(left:Lit→Bool)(N:Nat)(h:∀ k d,T.ds k=some d→d.l.length≤60):doneD T p left N≤60*N:=by
 induction N with
 | zero=>exact Nat.le_refl _
 | succ N ih =>
  rw [doneD_succ]
  have:(if left (hkey (N,T.g N))=true then 0 else perD T p N)≤60:=by
   split
   · omega
   · unfold perD
     cases e:T.ds N with
     | none=>simp
     | some d=>exact Nat.le_trans (List.length_filter_le _ _) (h N d e)
  omega
theorem cn_step {l:List Ent}{left:Lit→Bool}{e:Ent}(a:Nat→Nat)(hn:(l.map (·.s)).Nodup)(he:e∈l)(hl:left (.string e.s)=true):(fun i=>a i+doneP l (fun x=>x.i==i) (fun z=>left z&&!z.sameKey (.string e.s)))=setN (fun i=>a i+doneP l (fun x=>x.i==i) left) e.i (a e.i+doneP l (fun x=>x.i==e.i) left+1):=by
 funext i;show _=if i=e.i then _ else _;rw [doneP_step l _ left e hn he hl]
 by_cases h:i=e.i
 · rw [if_pos h,h]
   simp;omega
 · have h2:(e.i==i)=false:=by simpa using fun hh=>h hh.symm
   rw [if_neg h,h2];simp
def upC (c:Lc)(i:Nat):Nat:=match c.nd i with | some n=>n.UN.toNat | none=>0
def chC (c:Lc)(i:Nat):Nat→Nat
 | 0=>i
 | j+1=>upC c (chC c i j)
def belowC (c:Lc)(i:Nat):Bool:=(List.range (countTo c.nd c.N)).any fun j=>chC c i j==0
def chk1 (l:List Nmb)(c:Lc)(i:Nat):Bool:=if kindL l i=2 then decide (totC c i=1)&&belowC c i else if kindL l i=1 then decide (1≤totC c i)&&decide (totC c i≤8) else true
def chkC (l:List Nmb)(c:Lc):Bool:=decide (totC c 0=0)&&(List.range (l.length - 1)).all fun j=>chk1 l c (j+1)
theorem ch_up {c:Lc}{q i:Nat}{n:Nod}(h:LcOk c q)(hi:c.nd i=some n)(hK:n.K=2):∀ j,∃ m,c.nd (chC c i j)=some m∧m.K=2∧m.UN=((chC c i (j+1):Nat):Int)∧m.UG=((c.g (chC c i (j+1)):Nat):Int):=by
 have key:∀ j,∃ m,c.nd (chC c i j)=some m∧m.K=2:=fun j=>by
  induction j with
  | zero=>exact ⟨n,hi,hK⟩
  | succ j ih =>
   obtain ⟨m,hm,hk⟩:=ih;obtain ⟨u,mu,u1,_,u3,u4⟩:=h.up _ m hm hk
   have:chC c i (j+1)=u:=by
    show upC c (chC c i j)=u;unfold upC;rw [hm];simp only;rw [u1];rfl
   rw [this];exact ⟨mu,u3,u4⟩
 intro j;obtain ⟨m,hm,hk⟩:=key j;obtain ⟨u,mu,u1,u2,_,_⟩:=h.up _ m hm hk
 have:chC c i (j+1)=u:=by
  show upC c (chC c i j)=u;unfold upC;rw [hm];simp only;rw [u1];rfl
 rw [this];exact ⟨m,hm,hk,u1,u2⟩
end
section
open Go Go.RowKit Go.Deep
section
variable {P:Program}{ops:Array Oper}{md:Region.Mode}{C:World→Prop}
def endsQ (P:Program)(C:World→Prop)(Q':Exit→Act→World→Prop)(o:Oper)(a:Act):Prop:=∀ w,C w→match (execOp a.eval o).run P w with
 | .ok (.enter f args) w'=>w'=w∧Calls P f args w (fun e w''=>∃ ch,e = .panicked ch∧Q' (.panic ch) a w'')
 | _=>False
def qOpE (P:Program)(ops:Array Oper)(C:World→Prop)(Q':Exit→Act→World→Prop)(i:Nat)(K:Act→Prop)(a:Act):Prop:=qOp P ops C i K a∨∃ o,ops[i]?=some o∧Region.wanted o (yielded ops a.tmps)=true∧endsQ P C Q' o a
def wpAnyE (P:Program)(md:Region.Mode)(ops:Array Oper)(C:World→Prop)(Q':Exit→Act→World→Prop)(Q:Act→Prop):Nat→Array Bool→Act→Prop
 | 0,listed,a=>Region.ready md ops listed=[]∧Q a
 | fuel+1,listed,a =>
  (Region.ready md ops listed=[]→Q a) ∧
  ∀ i∈Region.ready md ops listed,qOpE P ops C Q' i (wpAnyE P md ops C Q' Q fuel (listed.setIfInBounds i true)) a
theorem wpOp_of_qOpE {i:Nat}{a:Act}{K:Act→Prop}{K':Act→World→Prop}{Q':Exit→Act→World→Prop}{w:World}(hC:C w)(h:∀ a w',C w'→K a→K' a w')(hh:qOpE P ops C Q' i K a):wpOp P ops Q' i K' a w:=by
 rcases hh with hh | ⟨o,ho,hw,he⟩
 · exact wpOp_of_qOp hC h hh
 · unfold wpOp
   simp only [ho,hw,if_true];refine Or.inl ?_;have h3:=he w hC;unfold Oper.wp;generalize (execOp a.eval o).run P w=r at *
   cases r with
   | halt x w'=>exact h3.elim
   | ok n w' =>
    cases n<;>try exact False.elim h3
    obtain ⟨rfl,hc⟩:=h3
    exact hc.mono fun e w'' ⟨ch,he,hq⟩=>by subst he;exact hq
theorem wpAny_of_E {Q:Act→Prop}{Q':Exit→Act→World→Prop}(hQ:∀ a w,C w→Q a→Q' .normal a w):∀ (fuel:Nat) (listed:Array Bool) (a:Act) (w:World),C w →
  wpAnyE P md ops C Q' Q fuel listed a→wpAny P md ops Q' fuel listed a w
 | 0,_,_,_,hw,h=>⟨h.1,hQ _ _ hw h.2⟩
 | fuel+1,_,_,_,hw,h=>⟨fun h0=>hQ _ _ hw (h.1 h0),fun i hi=>wpOp_of_qOpE hw (fun a' w' hw'=>wpAny_of_E hQ fuel _ a' w' hw') (h.2 i hi)⟩
theorem wpAnyE_first {Q:Act→Prop}{Q':Exit→Act→World→Prop}(hP:∀ a d v ch w,Q' (.panic ch) (Act.put a d v) w→Q' (.panic ch) a w){i:Nat}{oi:Oper}{v:Value}(hi:ops[i]?=some oi)(hsel:∀ (j:Nat) (o:Oper) cs b,ops[j]?=some o→o.op ≠ .select cs b):
  ∀ (fuel:Nat) (listed:Array Bool) (a:Act),
    (∀ j oj,ops[j]?=some oj→j≠i→listed.getD j true=false→(∀ e∈oj.after,Region.binds md e=true→e.on≠i)→oi.apart ops oj=true) →
    i∈Region.ready md ops listed→YieldsIn P ops C oi v a →
    wpAnyE P md ops C Q' Q fuel (listed.setIfInBounds i true) (a.put oi.dst v)→wpAnyE P md ops C Q' Q (fuel+1) listed a:=by
 intro fuel
 induction fuel with
 | zero =>
  intro listed a _ hr hy H;refine ⟨fun h=>(by rw [h] at hr;cases hr),fun j hj=>?_⟩
  by_cases hji:j=i
  · subst hji;exact Or.inl (hy.qOp hi H)
  · have:=ready_mono hj hji
    rw [H.1] at this
    cases this
 | succ fuel ih =>
  intro listed a hfree hr hy H;refine ⟨fun h=>(by rw [h] at hr;cases hr),fun j hj=>?_⟩
  by_cases hji:j=i
  · subst hji;exact Or.inl (hy.qOp hi H)
  · have h1:=H.2 j (ready_mono hj hji)
    obtain ⟨hjun,oj,hoj,hall⟩:=mem_ready.1 hj
    have hnot:∀ e∈oj.after,Region.binds md e=true→e.on≠i:=fun e he hb heq=>by
      have h1:=hall e he hb;have h0:=(mem_ready.1 hr).1;rw [heq] at h1;rcases Nat.lt_or_ge i listed.size with h' | h'
      · simp [h'] at h0 h1;rw [h0] at h1;cases h1
      · simp [Array.getElem?_eq_none h'] at h1
    have hap:=hfree j oj hoj hji hjun hnot;rcases h1 with h1 | ⟨o,ho,hw,he⟩
    · refine Or.inl ?_
      have h2:=qOp_put hoj hap (fun cs b=>hsel i oi cs b hi) (fun cs b=>hsel j oj cs b hoj) hy h1
      have hfree':∀ k ok,ops[k]?=some ok→k≠i→(listed.setIfInBounds j true).getD k true=false →
          (∀ e∈ok.after,Region.binds md e=true→e.on≠i)→oi.apart ops ok=true:=fun k ok hk hki hun hno=>by
        refine hfree k ok hk hki ?_ hno
        by_cases hjk:j=k
        · subst hjk;exact hjun
        · rw [getD_set_ne true hjk] at hun;exact hun
      refine qOp_mono (fun a' h3=>ih (listed.setIfInBounds j true) a' hfree' (ready_mono hr (Ne.symm hji)) h3.1 ?_) h2;rw [Array.setIfInBounds_comm _ _ hji];exact h3.2
    · obtain rfl:o=oj:=Option.some.inj (ho.symm.trans hoj)
      obtain ⟨g1,_,_⟩:=Oper.apart_spec hap;refine Or.inr ⟨o,ho,by rw [wanted_put o a oi.dst v g1] at hw;exact hw,fun w hC=>?_⟩;have h3:=he w hC;rw [execOp_put o (fun cs b=>hsel j o cs b hoj) a oi.dst v g1] at h3;generalize (execOp a.eval o).run P w=r at *
      cases r with
      | halt x w'=>exact h3.elim
      | ok n w' =>
        cases n<;>try exact False.elim h3
        obtain ⟨rfl,hc⟩:=h3;exact ⟨rfl,hc.mono fun e w'' ⟨ch,he,hq⟩=>⟨ch,he,hP _ _ _ _ _ hq⟩⟩
theorem wpAnyE_lex {Q:Act→Prop}{Q':Exit→Act→World→Prop}(hP:∀ a d v ch w,Q' (.panic ch) (Act.put a d v) w→Q' (.panic ch) a w)(hs:Region.noSelect ops=true)(o:Oper):∀ (l:List Oper) (k:Nat) (listed:Array Bool) (a:Act),(∀ j,(l++[o])[j]?=ops[k+j]?) →
  Region.lexFrom md ops (l.length+1) k listed=true→wpQuiet P ops C (fun a'=>Region.wanted o (yielded ops a'.tmps)=true∧endsQ P C Q' o a') l a→wpAnyE P md ops C Q' Q (l.length+1) listed a
 | [],k,listed,a,hl,hB,h=>by
  have h0:ops[k]?=some o:=by simpa using (hl 0).symm
  simp only [List.length_nil,Region.lexFrom,Bool.and_eq_true] at hB;obtain ⟨⟨hr,hf⟩,hB'⟩:=hB
  have hr':k∈Region.ready md ops listed:=by simpa using hr
  refine ⟨fun h=>(by rw [h] at hr';cases hr'),fun j hj=>?_⟩
  by_cases hjk:j=k
  · subst hjk
    exact Or.inr ⟨o,h0,h.1,h.2⟩
  · have:=ready_mono hj hjk
    have e:Region.ready md ops (listed.setIfInBounds k true)=[]:=by simpa using hB'
    rw [e] at this
    cases this
 | o1::l,k,listed,a,hl,hB,h=>by
  have h0:ops[k]?=some o1:=by simpa using (hl 0).symm
  rw [List.length_cons,Region.lexFrom,Bool.and_eq_true,Bool.and_eq_true] at hB;obtain ⟨⟨hr,hf⟩,hB'⟩:=hB
  have hst:qOp P ops C k (wpQuiet P ops C (fun a'=>Region.wanted o (yielded ops a'.tmps)=true∧endsQ P C Q' o a') l) a:=by unfold qOp;simp only [h0];exact h
  obtain ⟨v,hy,hK⟩:=yieldsIn_of_qOp h0 hst
  exact wpAnyE_first hP h0 (Region.noSelect_spec hs) (l.length+1) listed a (Region.free_spec h0 hf) (by simpa using hr) hy
    (wpAnyE_lex hP hs o l (k+1) _ _ (fun j=>by have:=hl (j+1);simpa [Nat.add_assoc,Nat.add_comm 1 j] using this) hB' hK)
theorem wp_region_quiet_panic {id:Nat}{Q:Exit→Act→World→Prop}{a:Act}{w:World}{l:List Oper}(o:Oper)(ho:l.getLast?=some o)(hP:∀ a d v ch w,Q (.panic ch) (Act.put a d v) w→Q (.panic ch) a w)(hm:P.follows .mixedOrders=true)(hB:Region.lexB .any l.toArray=true)(hC:C { w with drawn:=w.drawn+1 })
  (h:wpQuiet P l.toArray C (fun a'=>Region.wanted o (yielded l.toArray a'.tmps)=true∧endsQ P C Q o a') l.dropLast a):(Code.region id l.toArray true).wp P Q a w:=by
 simp only [Region.lexB,Bool.and_eq_true] at hB;refine wp_region_any hm (wpAny_of_E (Q:=fun _=>False) (fun _ w' hw' h=>h.elim) _ _ _ _ hC ?_)
 have hlo:l=l.dropLast++[o]:=by
  cases hl:l with
  | nil=>rw [hl] at ho;cases ho
  | cons x xs =>
   rw [hl,List.getLast?_eq_some_getLast (by simp)] at ho;rw [← Option.some.inj ho];exact (List.dropLast_concat_getLast (by simp)).symm
 have hlen:l.length=l.dropLast.length+1:=by
  have:=congrArg List.length hlo
  simpa using this
 have:=wpAnyE_lex (C:=C) (md := .any) (Q:=fun _=>False) hP hB.1 o l.dropLast 0 (Array.replicate l.toArray.size false) a (fun j=>by rw [← hlo];simp) (by rw [← hlen];simpa using hB.2) h;rw [← hlen] at this
 simpa using this
theorem wp_region_quiet_only_panic {id:Nat}{Q:Exit→Act→World→Prop}{a:Act}{w0 w:World}{l:List Oper}(o:Oper)(ho:l.getLast?=some o)(hP:∀ a d v ch w,Q (.panic ch) (Act.put a d v) w→Q (.panic ch) a w)(hO:Only [] w0 w)(hm:P.follows .mixedOrders=true)(hB:Region.lexB .any l.toArray=true)
  (h:wpQuiet P l.toArray (fun w'=>∃ p:OnlyBy w0,w'=p.w) (fun a'=>Region.wanted o (yielded l.toArray a'.tmps)=true∧endsQ P (fun w'=>∃ p:OnlyBy w0,w'=p.w) Q o a') l.dropLast a):(Code.region id l.toArray true).wp P Q a w :=
 wp_region_quiet_panic (C:=fun w'=>∃ p:OnlyBy w0,w'=p.w) o ho hP hm hB ⟨⟨w.drew,hO.drew⟩,rfl⟩ h
end
end
end Go.Proofs.YtmnidbnaneagjaaGreatDoor
