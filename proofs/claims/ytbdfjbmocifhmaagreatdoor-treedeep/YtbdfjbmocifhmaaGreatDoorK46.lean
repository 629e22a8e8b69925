import Derived.Test.YtbdfjbmocifhmaaGreatDoorK45
namespace Go.Proofs.YtbdfjbmocifhmaaGreatDoor
section
open Go Go.RowKit Go.Deep Go.Maps
def allP (l:List Ent)(p:Ent→Bool):Nat:=(l.filter p).length
def doneP (l:List Ent)(p:Ent→Bool)(left:Lit→Bool):Nat:=(l.filter (fun e=>!left (.string e.s)&&p e)).length
theorem doneP_le (l:List Ent)(p:Ent→Bool)(left:Lit→Bool):doneP l p left≤l.length:=List.length_filter_le _ _
theorem doneP_start (l:List Ent)(p:Ent→Bool):doneP l p (has (entD l))=0:=by
 unfold doneP;rw [List.length_eq_zero_iff,List.filter_eq_nil_iff];intro e he
 have:has (entD l) (.string e.s)=true:=by
  rw [has_entD];unfold findE;rw [List.find?_isSome];exact ⟨e,he,by simp⟩
 rw [this];simp
theorem doneP_end (l:List Ent)(p:Ent→Bool){left:Lit→Bool}(h:∀ kl,left kl=false):doneP l p left=allP l p:=by
 unfold doneP allP;congr 1;refine List.filter_congr fun e _=>?_;rw [h];rfl
theorem doneP_other (l:List Ent)(p:Ent→Bool)(left:Lit→Bool)(s:List UInt8)(h:∀ e∈l,e.s≠s):doneP l p (fun z=>left z&&!z.sameKey (.string s))=doneP l p left:=by
 unfold doneP;congr 1;refine List.filter_congr fun e he=>?_
 have:(Lit.string e.s).sameKey (.string s)=false:=by
  show (e.s==s)=false
  simpa using h e he
 simp only [this,Bool.not_false,Bool.and_true]
theorem doneP_step (l:List Ent)(p:Ent→Bool)(left:Lit→Bool)(e:Ent)(hn:(l.map (·.s)).Nodup)(he:e∈l)(hl:left (.string e.s)=true):doneP l p (fun z=>left z&&!z.sameKey (.string e.s))=doneP l p left+if p e then 1 else 0:=by
 induction l with
 | nil=>cases he
 | cons x l ih =>
  rw [List.map_cons,List.nodup_cons] at hn;rcases List.mem_cons.1 he with rfl | he'
  · have ho:=doneP_other l p left e.s (fun y hy hs=>hn.1 (hs ▸ List.mem_map_of_mem hy))
    have hk:(Lit.string e.s).sameKey (.string e.s)=true:=by
      show (e.s==e.s)=true;simp
    unfold doneP at ho ⊢;simp only [List.filter_cons,hl,hk,Bool.not_true,Bool.and_false,Bool.not_false,Bool.true_and,Bool.false_and,Bool.false_eq_true,if_false]
    cases hd:p e
    · simp only [Bool.false_eq_true,if_false]
      rw [ho];rfl
    · simp only [if_true,List.length_cons]
      rw [ho]
  · have hne:x.s≠e.s:=fun hs=>hn.1 (hs ▸ List.mem_map_of_mem he')
    have hk:(Lit.string x.s).sameKey (.string e.s)=false:=by
      show (x.s==e.s)=false
      simpa using hne
    have:=ih hn.2 he';unfold doneP at this ⊢;dsimp only at this;simp only [List.filter_cons,hk,Bool.not_false,Bool.and_true]
    split
    · simp only [List.length_cons]
      omega
    · exact this
def cntF (g cn:Nat→Nat)(k:Nat×Nat):Option Nat:=if k.2=g k.1∧0 < cn k.1 then some (cn k.1) else none
def CntAt (w:World)(b:Nat)(g cn:Nat→Nat)(m:Nat):Prop:=∃ D n,w.ownsMap Tryz.prog 34 (plainElem Tryz.prog 3) b n D∧n≤m∧Reads hkey numD D (cntF g cn)
theorem CntAt.kept {w w':World}{b m:Nat}{g cn:Nat→Nat}{L:List Nat}(h:CntAt w b g cn m)(ho:Only L w w')(hb:b∉L):CntAt w' b g cn m:=by
 obtain ⟨D,n,d1,d2,d3⟩:=h;exact ⟨D,n,own_only d1 ho hb,d2,d3⟩
theorem cnt_look {w:World}{b m:Nat}{g cn:Nat→Nat}(h:CntAt w b g cn m){i:Nat}(hi:i≤1000)(hg:g i≤5000000000000000000):(Instr.lookup 128 (.map (some b)) (.agg #[.int .i64 i,.int .i64 (g i:Nat)]) false).run Tryz.prog w = .ok (.int .i64 (cn i:Nat)) w:=by
 obtain ⟨D,n,d1,_,d3⟩:=h;obtain ⟨c,hrun,hat,_⟩:=d1.lookup_int lawH undPins Tryz.underlying3 (zeroInt6 _) (keyOf_handle (i:=i) (c:=g i) (by omega) (by omega));rw [d3.look] at hat;unfold cntF at hat
 by_cases hp:0 < cn i
 · rw [if_pos ⟨rfl,hp⟩] at hat
   have e:c=(cn i:Nat):=by
    unfold numD at hat
    simpa using hat.symm
   rw [e] at hrun;exact hrun
 · rw [if_neg (fun hh=>hp hh.2)] at hat
   have e:c=0:=by simpa using hat.symm
   have e2:cn i=0:=by omega
   rw [e] at hrun;rw [e2];exact hrun
theorem cntF_set (g cn:Nat→Nat)(i k:Nat)(hk:0 < k):cntF g (setN cn i k) (i,g i)=some k:=by
 show (if g i=g i∧0 < setN cn i k i then some (setN cn i k i) else none)=some k;rw [setN_same,if_pos ⟨rfl,hk⟩]
theorem cntF_other (g cn:Nat→Nat)(i k:Nat)(j:Nat×Nat)(hj:j≠(i,g i)):cntF g (setN cn i k) j=cntF g cn j:=by
 obtain ⟨q,c⟩:=j;show (if c=g q∧0 < setN cn i k q then some (setN cn i k q) else none)=(if c=g q∧0 < cn q then some (cn q) else none)
 by_cases hq:q=i
 · subst hq
   have hc:c≠g q:=fun e=>hj (by rw [e]);rw [if_neg (fun h=>hc h.1),if_neg (fun h=>hc h.1)]
 · rw [setN_other _ _ hq]
theorem cnt_put {w:World}{b m:Nat}{g cn:Nat→Nat}(h:CntAt w b g cn m)(hm:m≤1000000){i k:Nat}(hi:i≤1000)(hg:g i≤5000000000000000000)(hk:0 < k)(hk2:k≤1000000)(z:Int)(hz:z=(k:Nat)):∃ v0 st w1 w2,(Instr.mapEntry 128 (.map (some b)) (.agg #[.int .i64 i,.int .i64 (g i:Nat)])).run Tryz.prog w = .ok (.tuple #[v0,.int .i64 (st:Nat)]) w1∧(Instr.entryStore 128 (.map (some b)) (.int .i64 (st:Nat)) (.int .i64 z)).run Tryz.prog w1 = .ok () w2∧CntAt w2 b g (setN cn i k) (m+1)∧Only [b] w w2∧(Instr.lookup 128 (.map (some b)) (.agg #[.int .i64 i,.int .i64 (g i:Nat)]) false).run Tryz.prog w1 = .ok (.int .i64 (cn i:Nat)) w1:=by
 subst hz;have hlk:=cnt_look h hi hg;obtain ⟨P,n,p1,p2,p3⟩:=h;have hkk:keyOf Tryz.prog 34 (handV i (g i))=some (hkey (i,g i)):=keyOf_handle (by omega) (by omega);have hv:plainElem Tryz.prog 3 (.int .i64 (k:Nat))=some (numD k,[]):=plainElem_int Tryz.underlying3 (WalkArith.wf_i64 (by omega));obtain ⟨v0,st,w1,w2,h1,h2,h3,h4,h5⟩:=own_entry p1 undPins zeroInt6 (by unfold maxLen;omega) hkk hv;have ho:=only_turned h4;refine ⟨v0,st,w1,w2,h1,h2,⟨_,_,h3,by omega,p3.put p1.isMap hkey_key (fun j e=>hkey_only (by omega) (by omega) j e) (cntF_set g cn i k hk) (fun j hj=>cntF_other g cn i k j hj)⟩,ho,?_⟩;rcases h5 with e | ⟨e1,e2⟩
 · rw [e]
   exact hlk
 · have e3:cn i=0:=by
    have hq:=hlk.symm.trans e1;simp only [Result.ok.injEq,Value.int.injEq,true_and,and_true] at hq;omega
   have hv0:plainElem Tryz.prog 3 (.int .i64 0)=some (numD 0,[]):=plainElem_int Tryz.underlying3 (WalkArith.wf_i64 (by omega));obtain ⟨w',r1,r2,_⟩:=p1.store lawH undPins (by unfold maxLen;omega) hkk hv0;rw [r1] at e2
   cases e2
   have hR:Reads hkey numD (P.put (hkey (i,g i)) (numD 0)) (fun j=>if j=(i,g i) then some 0 else cntF g cn j):=p3.put p1.isMap hkey_key (fun j e=>hkey_only (by omega) (by omega) j e) (if_pos rfl) (fun j hj=>if_neg hj);obtain ⟨c,hrun,hat,_⟩:=r2.lookup_int lawH undPins Tryz.underlying3 (zeroInt6 _) hkk;rw [hR.look,if_pos rfl] at hat
   have e:c=0:=by
    have:=hat.symm;unfold numD at this
    simpa using this
   rw [e] at hrun;rw [e3];exact hrun
def perD (T:Tr)(p:Ent→Bool)(k:Nat):Nat:=match T.ds k with | some d=>allP d.l p | none=>0
def doneD (T:Tr)(p:Ent→Bool)(left:Lit→Bool)(N:Nat):Nat:=((List.range N).map (fun k=>if left (hkey (k,T.g k))=true then 0 else perD T p k)).sum
def totD (T:Tr)(p:Ent→Bool):Nat:=((List.range T.p.N).map (perD T p)).sum
def totC (c:Lc)(i:Nat):Nat:=((List.range c.N).map (fun k=>match c.ds k with | some l=>allP l (fun e=>e.i==i) | none=>0)).sum
theorem totD_C (T:Tr)(i:Nat):totD T (fun e=>e.i==i)=totC (absT T) i:=by
 unfold totD totC;show _=((List.range T.p.N).map _).sum;congr 1;apply List.map_congr_left;intro k _;unfold perD;show _=(match (T.ds k).map (·.l) with | some l=>allP l (fun e=>e.i==i) | none=>0)
 cases T.ds k<;>rfl
theorem doneD_succ (T:Tr)(p:Ent→Bool)(left:Lit→Bool)(N:Nat):doneD T p left (N+1)=doneD T p left N+if left (hkey (N,T.g N))=true then 0 else perD T p N:=by
 unfold doneD;rw [List.range_succ,List.map_append,List.sum_append];simp
theorem doneD_start {T:Tr}{p:Ent→Bool}{left:Lit→Bool}(h:∀ k d,T.ds k=some d→left (hkey (k,T.g k))=true)(N:Nat):doneD T p left N=0:=by
 induction N with
 | zero=>rfl
 | succ N ih =>
  rw [doneD_succ,ih];unfold perD
  cases e:T.ds N with
  | none=>simp
  | some d=>rw [if_pos (h N d e)]
theorem doneD_end {T:Tr}{p:Ent→Bool}{left:Lit→Bool}(h:∀ kl,left kl=false):doneD T p left T.p.N=totD T p:=by
 unfold doneD totD;congr 1;apply List.map_congr_left;intro k _;rw [h];simp
theorem hkey_same {i c:Nat}(hi:i < 9223372036854775808)(hc:c < 9223372036854775808)(j:Nat×Nat):(hkey j).sameKey (hkey (i,c))=true↔j=(i,c):=by
 rw [WideAt.sameKey_iff (hkey_key _)];exact ⟨fun h=>hkey_only hi hc j h,fun h=>by rw [h]⟩
theorem doneD_step {T:Tr}{p:Ent→Bool}{left:Lit→Bool}{k0:Nat}(hk:k0 < 9223372036854775808)(hg:T.g k0 < 9223372036854775808)(hl:left (hkey (k0,T.g k0))=true)(N:Nat):doneD T p (fun z=>left z&&!z.sameKey (hkey (k0,T.g k0))) N=doneD T p left N+if k0 < N then perD T p k0 else 0:=by
 induction N with
 | zero=>rfl
 | succ N ih =>
  rw [doneD_succ,doneD_succ,ih]
  by_cases e:N=k0
  · subst e
    have hs:(hkey (N,T.g N)).sameKey (hkey (N,T.g N))=true:=(hkey_same hk hg _).2 rfl;simp only [hs,hl,Bool.not_true,Bool.and_false,Bool.false_eq_true,if_false,if_true,Nat.lt_irrefl,Nat.lt_succ_self]
  · have hs:(hkey (N,T.g N)).sameKey (hkey (k0,T.g k0))=false:=by
     cases h:(hkey (N,T.g N)).sameKey (hkey (k0,T.g k0))
     · rfl
     · have:=(hkey_same hk hg _).1 h
       simp only [Prod.mk.injEq] at this;exact absurd this.1 e
    simp only [hs,Bool.not_false,Bool.and_true]
    have:(k0 < N+1)=(k0 < N):=by rw [eq_iff_iff];omega
    simp only [this];omega
theorem doneD_le (T:Tr)(p:Ent→Bool)(left:Lit→Bool)(N:Nat)(h:∀ k d,T.ds k=some d→d.l.length≤60):doneD T p left N≤60*N:=by
 induction N with
 | zero=>exact Nat.le_refl _
 | succ N ih =>
  rw [doneD_succ]
  have:(if left (hkey (N,T.g N))=true then 0 else perD T p N)≤60:=by
   split
   · omega
   · unfold perD
     cases e:T.ds N with
     | none=>simp
     | some d=>exact Nat.le_trans (List.length_filter_le _ _) (h N d e)
  omega
theorem cn_step {l:List Ent}{left:Lit→Bool}{e:Ent}(a:Nat→Nat)(hn:(l.map (·.s)).Nodup)(he:e∈l)(hl:left (.string e.s)=true):(fun i=>a i+doneP l (fun x=>x.i==i) (fun z=>left z&&!z.sameKey (.string e.s)))=setN (fun i=>a i+doneP l (fun x=>x.i==i) left) e.i (a e.i+doneP l (fun x=>x.i==e.i) left+1):=by
 funext i;show _=if i=e.i then _ else _;rw [doneP_step l _ left e hn he hl]
 by_cases h:i=e.i
 · rw [if_pos h,h]
   simp;omega
 · have h2:(e.i==i)=false:=by simpa using fun hh=>h hh.symm
   rw [if_neg h,h2];simp
def upC (c:Lc)(i:Nat):Nat:=match c.nd i with | some n=>n.UN.toNat | none=>0
def chC (c:Lc)(i:Nat):Nat→Nat
 | 0=>i
 | j+1=>upC c (chC c i j)
def belowC (c:Lc)(i:Nat):Bool:=(List.range (countTo c.nd c.N)).any fun j=>chC c i j==0
def chk1 (l:List Nmb)(c:Lc)(i:Nat):Bool:=if kindL l i=2 then decide (totC c i=1)&&belowC c i else if kindL l i=1 then decide (1≤totC c i)&&decide (totC c i≤8) else true
def chkC (l:List Nmb)(c:Lc):Bool:=decide (totC c 0=0)&&(List.range (l.length - 1)).all fun j=>chk1 l c (j+1)
theorem ch_up {c:Lc}{q i:Nat}{n:Nod}(h:LcOk c q)(hi:c.nd i=some n)(hK:n.K=2):∀ j,∃ m,c.nd (chC c i j)=some m∧m.K=2∧m.UN=((chC c i (j+1):Nat):Int)∧m.UG=((c.g (chC c i (j+1)):Nat):Int):=by
 have key:∀ j,∃ m,c.nd (chC c i j)=some m∧m.K=2:=fun j=>by
  induction j with
  | zero=>exact ⟨n,hi,hK⟩
  | succ j ih =>
   obtain ⟨m,hm,hk⟩:=ih;obtain ⟨u,mu,u1,_,u3,u4⟩:=h.up _ m hm hk
   have:chC c i (j+1)=u:=by
    show upC c (chC c i j)=u;unfold upC;rw [hm];simp only;rw [u1];rfl
   rw [this];exact ⟨mu,u3,u4⟩
 intro j;obtain ⟨m,hm,hk⟩:=key j;obtain ⟨u,mu,u1,u2,_,_⟩:=h.up _ m hm hk
 have:chC c i (j+1)=u:=by
  show upC c (chC c i j)=u;unfold upC;rw [hm];simp only;rw [u1];rfl
 rw [this];exact ⟨m,hm,hk,u1,u2⟩
end
end Go.Proofs.YtbdfjbmocifhmaaGreatDoor
