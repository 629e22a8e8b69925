import Derived.Test.YtofbkeecbdahnaaGreatDoorK46
namespace Go.Proofs.YtofbkeecbdahnaaGreatDoor
section
open Go Go.RowKit Go.Deep
theorem cL_at {l:List Nmb}{i:Nat}{x:Nmb}(h:cL l i=some x):l[i]?=some x∧x.k≠0:=by
 unfold cL at h
 cases e:l[i]? with
 | none=>rw [e] at h;cases h
 | some y =>
  rw [e] at h;simp only at h
  split at h
  · cases h
  · obtain rfl:=Option.some.inj h
    exact ⟨rfl,by assumption⟩
theorem cL_of {l:List Nmb}{i:Nat}{x:Nmb}(h:l[i]?=some x)(hk:x.k≠0):cL l i=some x:=by
 unfold cL;rw [h];exact if_neg hk
def tabN (l:List Nmb)(i:Nat)(x:Nmb):Nod:=if x.k=2∧i < l.length then { resNod 0 x with Z:=0,L:=2 } else resNod 0 x
theorem tabN_is (l:List Nmb)(i:Nat)(x:Nmb):(tabN l i x).K=(x.k:Int)∧(tabN l i x).C=(x.c:Int)∧(tabN l i x).UN=0∧(tabN l i x).UG=0∧(tabN l i x).Z=0∧0≤(tabN l i x).L∧(tabN l i x).L≤2:=by
 unfold tabN
 split
 · exact ⟨rfl,rfl,rfl,rfl,rfl,(by decide:(0:Int)≤2),(by decide:(2:Int)≤2)⟩
 · exact ⟨rfl,rfl,rfl,rfl,rfl,(by decide:(0:Int)≤0),(by decide:(0:Int)≤2)⟩
theorem tabC_nd (l:List Nmb)(i:Nat):(tabC l l.length).nd i=(cL l i).map (tabN l i):=rfl
theorem tabC_ds {l:List Nmb}{i:Nat}{k:List Ent}(h:(tabC l l.length).ds i=some k):k=[]∧∃ x,cL l i=some x∧x.k=2:=by
 have h':(cL l i).bind (fun x=>if x.k=2∧i < l.length then some [] else none)=some k:=h
 cases e:cL l i with
 | none=>rw [e] at h';cases h'
 | some x =>
  rw [e] at h';simp only [Option.bind_some] at h'
  split at h'
  · rename_i hc
    exact ⟨(Option.some.inj h').symm,x,rfl,hc.1⟩
  · cases h'
theorem tabC_ds' {l:List Nmb}{i:Nat}(h:kindL l i=2):(tabC l l.length).ds i=some []:=by
 unfold kindL at h
 cases e:l[i]? with
 | none=>rw [e] at h;cases h
 | some x =>
  rw [e] at h;simp only at h;have hi:i < l.length:=(List.getElem?_eq_some_iff.1 e).1;show (cL l i).bind (fun x=>if x.k=2∧i < l.length then some [] else none)=some [];rw [cL_of e (by omega)];simp only [Option.bind_some];rw [if_pos ⟨h,hi⟩]
theorem tabC_fit (l:List Nmb):Fit l (tabC l l.length):=by
 refine ⟨rfl,rfl,fun i=>?_⟩;rw [tabC_nd,Option.map_map];congr 1;funext x;exact (tabN_is l i x).1
theorem tabC_ok {l:List Nmb}(hh:pHead l=true)(hl:∀ x∈l,x.k≤2∧x.g≤4611686018427387903∧x.c≤4611686018427387903):LcOk (tabC l l.length) 0:=by
 have hnd:∀ i n,(tabC l l.length).nd i=some n→∃ x,cL l i=some x∧l[i]?=some x∧x.k≠0∧x∈l∧n=tabN l i x:=fun i n hn=>by
   rw [tabC_nd] at hn;obtain ⟨x,hx,rfl⟩:=Option.map_eq_some_iff.1 hn;exact ⟨x,hx,(cL_at hx).1,(cL_at hx).2,List.mem_of_getElem? (cL_at hx).1,rfl⟩
 obtain ⟨x0,hx0,hk0,hg0⟩:∃ x0,l[0]?=some x0∧x0.k=2∧x0.g=0:=by
   unfold pHead at hh
   cases e:l[0]? with
   | none=>rw [e] at hh;cases hh
   | some x =>
    rw [e] at hh;simp only [Bool.and_eq_true,decide_eq_true_eq] at hh;exact ⟨x,rfl,hh.1,hh.2⟩
 refine ⟨fun i n hn=>?_,fun i n hn hK=>?_,fun i k hk=>?_,fun i k hk e he=>?_,fun i k hk=>?_,fun i n hn=>?_,fun i n hn=>?_,fun i n hn hK=>?_⟩
 · obtain ⟨x,h1,h2,h3,h4,rfl⟩:=hnd i n hn
   rw [(tabN_is l i x).1];have:=(hl x h4).1;exact ⟨by omega,(List.getElem?_eq_some_iff.1 h2).1⟩
 · obtain ⟨x,h1,h2,h3,h4,rfl⟩:=hnd i n hn
   rw [(tabN_is l i x).1] at hK;exact ⟨[],tabC_ds' (by unfold kindL;rw [h2];simp only;omega)⟩
 · obtain ⟨_,x,hx,hk2⟩:=tabC_ds hk
   exact ⟨tabN l i x,by rw [tabC_nd,hx];rfl,by rw [(tabN_is l i x).1,hk2];rfl⟩
 · obtain ⟨rfl,_⟩:=tabC_ds hk
   cases he
 · obtain ⟨rfl,_⟩:=tabC_ds hk
   exact Nat.zero_le _
 · obtain ⟨x,h1,h2,h3,h4,rfl⟩:=hnd i n hn
   obtain ⟨_,_,_,_,z,z1,z2⟩:=tabN_is l i x;exact ⟨by omega,z1,by omega⟩
 · obtain ⟨x,h1,h2,h3,h4,rfl⟩:=hnd i n hn
   rw [(tabN_is l i x).2.1];have:=(hl x h4).2.2;exact ⟨by omega,by omega⟩
 · obtain ⟨x,h1,h2,h3,h4,rfl⟩:=hnd i n hn
   obtain ⟨_,_,u1,u2,_⟩:=tabN_is l i x;refine ⟨0,tabN l 0 x0,u1,?_,by rw [tabC_nd,cL_of hx0 (by omega)];rfl,by rw [(tabN_is l 0 x0).1,hk0];rfl⟩;rw [u2];show (0:Int)=((gL l 0:Nat):Int);unfold gL;rw [hx0];simp only;rw [hg0];rfl
theorem saveOk_of {T:Tr}{q:Nat}(h:LcOk (absT T) q)(hN:T.p.N≤1000):SaveOk T:=by
 refine ⟨fun i n hn=>?_,fun i n hn hK=>?_⟩
 · have h1:=(h.kind i _ (absT_nd hn)).1
   have h2:=h.C i _ (absT_nd hn);have e1:(bareN n).K=n.K:=rfl;have e2:(bareN n).C=n.C:=rfl;rw [e1] at h1;rw [e2] at h2;exact ⟨h1,h2.1,by omega⟩
 · obtain ⟨l,hl⟩:=h.dir i _ (absT_nd hn) hK
   obtain ⟨d,hd,rfl⟩:=of_ds hl;refine ⟨d,hd,h.len i _ hl,fun e he=>?_⟩;obtain ⟨⟨m,hm⟩,_,h3⟩:=h.live i _ hl e he;have h4:e.i < T.p.N:=(h.kind _ _ hm).2;exact ⟨by omega,by omega⟩
theorem bare_nd {T T':Tr}(h:absT T=absT T')(i:Nat):(T.nd i).map bareN=(T'.nd i).map bareN:=congrFun (congrArg Lc.nd h) i
theorem snap_abs {T T':Tr}(h:absT T=absT T'):snapT T=snapT T':=by
 have hN:T.p.N=T'.p.N:=congrArg Lc.N h;have hg:T.g=T'.g:=congrArg Lc.g h;have hds:∀ i,(T.ds i).map (·.l)=(T'.ds i).map (·.l):=fun i=>congrFun (congrArg Lc.ds h) i
 have hlf:∀ i,lastF T.g T.nd i=lastF T'.g T'.nd i:=fun i=>by
  have h1:=bare_nd h i;unfold lastF;rw [hg]
  cases e:T.nd i<;>cases e':T'.nd i<;>rw [e,e'] at h1<;>simp only [Option.map_none,Option.map_some,Option.some.injEq,reduceCtorEq] at h1 ⊢
  rename_i n n';have k1:(bareN n).K=(bareN n').K:=congrArg Nod.K h1;have k2:(bareN n).L=(bareN n').L:=congrArg Nod.L h1;have k3:(bareN n).C=(bareN n').C:=congrArg Nod.C h1;have j1:n.K=n'.K:=k1;have j2:n.L=n'.L:=k2;have j3:n.C=n'.C:=k3;rw [j1,j2,j3]
 have hcb:∀ i,contB T.g T.nd T.ds i=contB T'.g T'.nd T'.ds i:=fun i=>by
  have h1:=bare_nd h i;have h2:=hds i;unfold contB;rw [hlf i]
  split
  · cases e:T.ds i<;>cases e':T'.ds i<;>rw [e,e'] at h2<;>simp only [Option.map_none,Option.map_some,Option.some.injEq,reduceCtorEq] at h2 ⊢
    rw [h2]
  · split
    · cases e:T.nd i<;>cases e':T'.nd i<;>rw [e,e'] at h1<;>simp only [Option.map_none,Option.map_some,Option.some.injEq,reduceCtorEq] at h1 ⊢
      rename_i n n';have k1:(bareN n).S=(bareN n').S:=congrArg Nod.S h1;have k2:(bareN n).H=(bareN n').H:=congrArg Nod.H h1;have j1:n.S=n'.S:=k1;have j2:n.H=n'.H:=k2;rw [j1,j2]
    · rfl
 unfold snapT snapF lastL;rw [hN,funext hcb];congr 2;congr 1;apply List.map_congr_left;intro i hi;have hi':=List.mem_range.1 hi;rw [if_pos hi',if_pos hi'];exact hlf i
theorem count_abs {T T':Tr}(h:absT T=absT T'):countTo T.nd T.p.N=countTo T'.nd T'.p.N:=by
 have hN:T.p.N=T'.p.N:=congrArg Lc.N h;rw [hN];refine countTo_some (fun i=>?_) _;have h1:=bare_nd h i
 cases e:T.nd i<;>cases e':T'.nd i<;>rw [e,e'] at h1<;>first | rfl | (simp at h1)
end
end Go.Proofs.YtofbkeecbdahnaaGreatDoor
