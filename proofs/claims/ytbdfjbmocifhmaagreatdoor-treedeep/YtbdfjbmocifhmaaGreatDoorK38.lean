import Derived.Test.YtbdfjbmocifhmaaGreatDoorK37
namespace Go.Proofs.YtbdfjbmocifhmaaGreatDoor
section
open Go Go.RowKit Go.Deep Go.Maps
structure Rep (T:Tr)(D:Dt):Prop where
 most:T.most=D.most
 g:∀ x∈D.L,T.g x.i=x.c
 t:∀ i,(∀ x∈D.L,x.i≠i)→T.g i=D.t i∧T.nd i=none∧T.ds i=none∧T.pn i=0
 nd:∀ x∈D.L,∃ n,T.nd x.i=some n∧n.K=x.K∧n.C=x.C∧n.S=x.S∧n.H=x.H∧n.L=(D.links x:Nat)∧(x.K=2→n.Z=(x.es.length:Nat)∧n.UN=((D.up x.i x.c).1:Nat)∧n.UG=((D.up x.i x.c).2:Nat))∧(x.K=1→n.UN=0∧n.UG=0)
 ds:∀ x∈D.L,(x.K=2→∃ b,T.ds x.i=some ⟨b,x.es⟩)∧(x.K=1→T.ds x.i=none)
 pn:∀ x∈D.L,T.pn x.i=x.p
section
variable {T:Tr}{D:Dt}
theorem Rep.node (h:Rep T D){i:Nat}{n:Nod}(hn:T.nd i=some n):∃ x∈D.L,x.i=i:=by
 apply Classical.byContradiction;intro hc;have:=(h.t i fun x hx e=>hc ⟨x,hx,e⟩).2.1;rw [this] at hn
 cases hn
theorem Rep.kinds (h:Rep T D)(hI:DInv D):Kinds T:=fun i n hn=>by
 obtain ⟨x,hx,rfl⟩:=h.node hn;obtain ⟨n',hn',hK,_⟩:=h.nd x hx;rw [hn] at hn'
 cases hn'
 rcases hI.kind x hx with ⟨k,_⟩ | ⟨k,_⟩
 · exact Or.inl ⟨hK.trans k,(h.ds x hx).2 k⟩
 · obtain ⟨b,hb⟩:=(h.ds x hx).1 k
   exact Or.inr ⟨hK.trans k,_,hb⟩
theorem Rep.live {w:World}{tr:Nat}(h:Rep T D)(hI:DInv D)(hT:TreeAt w tr T){x:Dn}(hx:x∈D.L):∀ e∈x.es,e.i < T.p.N∧e.c=T.g e.i:=fun e he=>by
 obtain ⟨_,⟨y,hy,h1,h2⟩,_⟩:=hI.live x hx e he;obtain ⟨n,hn,_⟩:=h.nd y hy;have hl:=hT.tab.lt hn;have hg:=h.g y hy;rw [h1] at hl hg;exact ⟨hl,by rw [hg,h2]⟩
theorem Rep.at_none (h:Rep T D){N G:Int}(ha:D.atZ N G=none):Stale0 T.g T.nd N G:=fun i n e hn eg=>by
 obtain ⟨x,hx,rfl⟩:=h.node hn;have:=List.find?_eq_none.1 ha x hx;rw [h.g x hx] at eg;simp [e,eg] at this
theorem Rep.at_some {N G:Int}(h:Rep T D){x:Dn}(ha:D.atZ N G=some x):x∈D.L∧N=(x.i:Int)∧G=(T.g x.i:Nat):=by
 unfold Dt.atZ at ha;have h1:=List.find?_some ha;have h2:=List.mem_of_find?_eq_some ha;simp only [Bool.and_eq_true,beq_iff_eq] at h1;exact ⟨h2,h1.1.symm,by rw [h.g x h2];exact h1.2.symm⟩
theorem Rep.not_stale {N G:Int}(h:Rep T D){x:Dn}(ha:D.atZ N G=some x):¬ Stale0 T.g T.nd N G:=fun hs=>by
 obtain ⟨hx,h1,h2⟩:=h.at_some ha;obtain ⟨n,hn,_⟩:=h.nd x hx;exact hs x.i n h1 hn h2
theorem Rep.count {w:World}{tr:Nat}(h:Rep T D)(hI:DInv D)(hT:TreeAt w tr T):countTo T.nd T.p.N=D.L.length:=by
 have n1:((List.range T.p.N).filter fun i=>(T.nd i).isSome).Nodup:=List.Pairwise.filter _ List.nodup_range
 have hp:((List.range T.p.N).filter fun i=>(T.nd i).isSome).Perm (D.L.map (·.i)):=by
  rw [List.perm_ext_iff_of_nodup n1 hI.nos];intro i;rw [List.mem_filter,List.mem_map]
  constructor
  · rintro ⟨_,h2⟩
    obtain ⟨n,hn⟩:=Option.isSome_iff_exists.1 h2;exact h.node hn
  · rintro ⟨x,hx,rfl⟩
    obtain ⟨n,hn,_⟩:=h.nd x hx;exact ⟨List.mem_range.2 (hT.tab.lt hn),by rw [hn];rfl⟩
 have:=hp.length_eq;rw [List.length_map] at this;exact this
theorem Rep.dirE (h:Rep T D){A:Nat→Addr}{N G:Int}{o:Option Addr}(hd:DirE T A N G o):
  (∃ x,D.atZ N G=some x∧x.K=2∧o=none)∨(∃ x,D.atZ N G=some x∧x.K=1∧o=some (A 6))∨(D.atZ N G=none∧o=some (A 9)):=by
 cases ha:D.atZ N G with
 | none =>
  have hs:=h.at_none ha;rcases hd with ⟨i,n,d,e1,e2,e3,_⟩ | ⟨i,n,e1,e2,e3,_⟩ | ⟨_,e⟩
  · exact absurd e2 (hs i n e1 e3)
  · exact absurd e2 (hs i n e1 e3)
  · exact Or.inr (Or.inr ⟨rfl,e⟩)
 | some x =>
  obtain ⟨hx,h1,h2⟩:=h.at_some ha;obtain ⟨n',hn',hK,_⟩:=h.nd x hx;rcases hd with ⟨i,n,d,e1,e2,e3,e4,e5,e6⟩ | ⟨i,n,e1,e2,e3,e4,e5,e6⟩ | ⟨e,_⟩
  · have:i=x.i:=Int.ofNat_inj.1 (e1.symm.trans h1)
    subst this;rw [hn'] at e3
    cases e3
    exact Or.inl ⟨x,rfl,hK.symm.trans e4,e6⟩
  · have:i=x.i:=Int.ofNat_inj.1 (e1.symm.trans h1)
    subst this;rw [hn'] at e3
    cases e3
    exact Or.inr (Or.inl ⟨x,rfl,hK.symm.trans e4,e6⟩)
  · exact absurd e (h.not_stale ha)
end
def D0 (most:Nat):Dt:=⟨most,[⟨0,0,2,0,⟨#[]⟩,[],[],0⟩],setN (fun _=>0) 0 1⟩
theorem D0_inv {most:Nat}(h1:1≤most)(h2:most≤300):DInv (D0 most):=by
 have hm:∀ x∈(D0 most).L,x=⟨0,0,2,0,⟨#[]⟩,[],[],0⟩:=fun x hx=>List.mem_singleton.1 hx;refine ⟨h2,by simp [D0],fun x hx=>?_,⟨_,List.mem_singleton.2 rfl,rfl,rfl,rfl⟩,fun x hx=>?_,fun x hx=>?_,fun x hx e he=>?_,fun x hx _ h0=>?_,fun x hx hK=>?_,⟨fun _=>0,fun x hx e he=>?_⟩⟩
 · rw [hm x hx];exact ⟨h1,show setN (fun _=>0) 0 1 0=0+1 from setN_same _ _ _⟩
 · rw [hm x hx];exact Or.inr ⟨rfl,rfl⟩
 · rw [hm x hx];exact ⟨List.Pairwise.nil,Nat.zero_le _⟩
 · rw [hm x hx] at he;cases he
 · rw [hm x hx] at h0;exact absurd rfl h0
 · rw [hm x hx] at hK;exact absurd hK (by decide)
 · rw [hm x hx] at he;cases he
theorem Rep.fresh (t:Nat)(p:Row)(most b db B pb:Nat):Rep (Tr.fresh t p most b db B pb) (D0 most):=by
 have hm:∀ x∈(D0 most).L,x=⟨0,0,2,0,⟨#[]⟩,[],[],0⟩:=fun x hx=>List.mem_singleton.1 hx;refine ⟨rfl,fun x hx=>by rw [hm x hx];rfl,fun i hi=>?_,fun x hx=>?_,fun x hx=>?_,fun x hx=>by rw [hm x hx];rfl⟩
 · have h0:i≠0:=fun e=>hi _ (List.mem_singleton.2 rfl) e.symm
   refine ⟨?_,show setN (fun _=>none) 0 _ i=none from setN_other _ _ h0,show setN (fun _=>none) 0 _ i=none from setN_other _ _ h0,rfl⟩
   show 0=setN (fun _=>0) 0 1 i;rw [setN_other _ _ h0]
 · rw [hm x hx]
   exact ⟨{ newNod b 2 with Z:=0,L:=2 },show setN (fun _=>none) 0 _ 0=_ from setN_same _ _ _,rfl,rfl,rfl,rfl,rfl,fun _=>⟨rfl,rfl,rfl⟩,fun h=>absurd h (by decide)⟩
 · rw [hm x hx]
   exact ⟨fun _=>⟨B,show setN (fun _=>none) 0 _ 0=_ from setN_same _ _ _⟩,fun h=>absurd h (by decide)⟩
theorem Dt.at_turn {D:Dt}{i c a b:Nat}{f:Dn→Dn}(hf:∀ x,(f x).i=x.i∧(f x).c=x.c):(D.turn i c f).at a b=(D.at a b).map fun x=>if x.is i c then f x else x:=by
 unfold Dt.at;show (turnL i c f D.L).find? _=_;unfold turnL;rw [List.find?_map];congr 2;funext x;show (if x.is i c then f x else x).is a b=x.is a b
 split
 · unfold Dn.is;rw [(hf x).1,(hf x).2]
 · rfl
theorem Dt.dirE_turn {D:Dt}{i c:Nat}{f:Dn→Dn}(hf:∀ x,(f x).i=x.i∧(f x).c=x.c)(hK:∀ x,(f x).K=x.K)(e:Ent):(D.turn i c f).dirE e=D.dirE e:=by
 unfold Dt.dirE;rw [Dt.at_turn hf]
 cases D.at e.i e.c with
 | none=>rfl
 | some x =>
  show ((if x.is i c then f x else x).K==2)=(x.K==2)
  split
  · rw [hK]
  · rfl
theorem Dt.up_quiet {D:Dt}{i c:Nat}{f:Dn→Dn}(hf:∀ x,(f x).i=x.i∧(f x).c=x.c)(hes:∀ x,(f x).es=x.es)(a b:Nat):(D.turn i c f).up a b=D.up a b:=by
 unfold Dt.up
 have:(D.turn i c f).L.find? (fun x=>x.es.any (·.to a b))=(D.L.find? (fun x=>x.es.any (·.to a b))).map fun x=>if x.is i c then f x else x:=by
  show (turnL i c f D.L).find? _=_;unfold turnL;rw [List.find?_map];congr 2;funext x;show (if x.is i c then f x else x).es.any _=_
  split
  · rw [hes]
  · rfl
 rw [this]
 cases D.L.find? (fun x=>x.es.any (·.to a b)) with
 | none=>rfl
 | some x =>
  show ((if x.is i c then f x else x).i,(if x.is i c then f x else x).c)=(x.i,x.c)
  split
  · rw [(hf x).1,(hf x).2]
  · rfl
theorem Dt.links_quiet {D:Dt}{i c:Nat}{f:Dn→Dn}(hf:∀ x,(f x).i=x.i∧(f x).c=x.c)(hK:∀ x,(f x).K=x.K)(hes:∀ x,(f x).es=x.es){x y:Dn}(h1:y.i=x.i)(h2:y.c=x.c)(h3:y.K=x.K)(h4:y.es=x.es):(D.turn i c f).links y=D.links x:=by
 unfold Dt.links;rw [h1,h2,h3,h4];have e1:(D.turn i c f).dirE=D.dirE:=funext fun e=>Dt.dirE_turn hf hK e;have e2:(D.turn i c f).cnt x.i x.c=D.cnt x.i x.c:=cntL_quiet _ hes D.L;rw [e1,e2]
theorem Rep.quiet {T T':Tr}{D:Dt}(h:Rep T D)(hI:DInv D){x:Dn}(hx:x∈D.L){f:Dn→Dn}(hf:∀ x,(f x).i=x.i∧(f x).c=x.c)(hK:∀ x,(f x).K=x.K)(hes:∀ x,(f x).es=x.es){n n':Nod}(hn:T.nd x.i=some n)
   (hg:T'.g=T.g) (hm:T'.most=T.most) (hds:T'.ds=T.ds) (hnd:T'.nd=setN T.nd x.i (some n')) (hpn:T'.pn=setN T.pn x.i (f x).p) (k1:n'.K=n.K) (k2:n'.C=(f x).C) (k3:n'.S=(f x).S) (k4:n'.H=(f x).H) (k5:n'.L=n.L) (k6:n'.Z=n.Z) (k7:n'.UN=n.UN) (k8:n'.UG=n.UG):Rep T' (D.turn x.i x.c f):=by
 have hmem:∀ y∈(D.turn x.i x.c f).L,∃ z∈D.L,y.i=z.i∧y.c=z.c∧y.K=z.K∧y.es=z.es∧(z.i≠x.i∧y=z∨z=x∧y=f x):=fun y hy=>by
   obtain ⟨z,hz,rfl⟩:=mem_turnL.1 hy;refine ⟨z,hz,?_⟩
   split
   · rename_i e
     have:=same_no hI.nos hz hx (is_iff.1 e).1;subst this;exact ⟨(hf z).1,(hf z).2,hK z,hes z,Or.inr ⟨rfl,rfl⟩⟩
   · rename_i e
     refine ⟨rfl,rfl,rfl,rfl,Or.inl ⟨fun k=>e ?_,rfl⟩⟩;have:=same_no hI.nos hz hx k;subst this;exact is_iff.2 ⟨rfl,rfl⟩
 refine ⟨by rw [hm];exact h.most,fun y hy=>?_,fun i hi=>?_,fun y hy=>?_,fun y hy=>?_,fun y hy=>?_⟩
 · obtain ⟨z,hz,e1,e2,_⟩:=hmem y hy
   rw [hg,e1,e2];exact h.g z hz
 · have hi2:∀ z∈D.L,z.i≠i:=fun z hz e=>by
     have:=hi (if z.is x.i x.c then f z else z) (mem_turnL.2 ⟨z,hz,rfl⟩)
     split at this
     · exact this ((hf z).1.trans e)
     · exact this e
   obtain ⟨a1,a2,a3,a4⟩:=h.t i hi2;have hix:i≠x.i:=fun e=>hi2 x hx e.symm;rw [hg,hnd,hds,hpn,setN_other _ _ hix,setN_other _ _ hix];exact ⟨a1,a2,a3,a4⟩
 · obtain ⟨z,hz,e1,e2,e3,e4,e5⟩:=hmem y hy
   rw [hnd,Dt.links_quiet hf hK hes e1 e2 e3 e4,Dt.up_quiet hf hes,e1,e2,e3,e4];obtain ⟨m,m0,m1,m2,m3,m4,m5,m6,m7⟩:=h.nd z hz;rcases e5 with ⟨e5,rfl⟩ | ⟨rfl,rfl⟩
   · rw [setN_other _ _ e5]
     exact ⟨m,m0,m1,m2,m3,m4,m5,m6,m7⟩
   · rw [hn] at m0
     cases m0
     exact ⟨n',setN_same _ _ _,k1.trans m1,k2,k3,k4,k5.trans m5,fun q=>⟨k6.trans (m6 q).1,k7.trans (m6 q).2.1,k8.trans (m6 q).2.2⟩,fun q=>⟨k7.trans (m7 q).1,k8.trans (m7 q).2⟩⟩
 · obtain ⟨z,hz,e1,e2,e3,e4,e5⟩:=hmem y hy
   rw [hds,e1,e3,e4];exact h.ds z hz
 · obtain ⟨z,hz,e1,e2,e3,e4,e5⟩:=hmem y hy
   rw [hpn,e1];rcases e5 with ⟨e5,rfl⟩ | ⟨rfl,rfl⟩
   · rw [setN_other _ _ e5];exact h.pn y hz
   · exact setN_same _ _ _
theorem dirE_is {ds:Nat→Option DirM}{D:Dt}(hn:(D.L.map (·.i)).Nodup)(hk:∀ x∈D.L,x.K=1∨x.K=2)(hds:∀ x∈D.L,(x.K=2→∃ b,ds x.i=some ⟨b,x.es⟩)∧(x.K=1→ds x.i=none)){e:Ent}(he:∃ y∈D.L,y.i=e.i∧y.c=e.c):D.dirE e=(ds e.i).isSome:=by
 obtain ⟨y,hy,h1,h2⟩:=he;have h3:=Dt.at_mem hn hy;rw [h1,h2] at h3;unfold Dt.dirE;rw [h3];show (y.K==2)=_;rcases hk y hy with k | k
 · rw [k,← h1,(hds y hy).2 k]
   rfl
 · obtain ⟨b,hb⟩:=(hds y hy).1 k
   rw [k,← h1,hb];rfl
theorem dirsIn_is {ds:Nat→Option DirM}{D:Dt}(hn:(D.L.map (·.i)).Nodup)(hk:∀ x∈D.L,x.K=1∨x.K=2)(hds:∀ x∈D.L,(x.K=2→∃ b,ds x.i=some ⟨b,x.es⟩)∧(x.K=1→ds x.i=none))(l:List Ent)(hl:∀ e∈l,∃ y∈D.L,y.i=e.i∧y.c=e.c):dirsIn l ds=(l.filter D.dirE).length:=by
 unfold dirsIn;congr 1;apply List.filter_congr;intro e he;exact (dirE_is hn hk hds (hl e he)).symm
theorem Dt.up_of {D:Dt}{i c:Nat}{y:Dn}(hy:y∈D.L)(he:y.es.any (·.to i c)=true)(hone:∀ z∈D.L,z.es.any (·.to i c)=true→z.i=y.i∧z.c=y.c):D.up i c=(y.i,y.c):=by
 unfold Dt.up
 cases h:D.L.find? (fun x=>x.es.any (·.to i c)) with
 | none=>exact absurd he (by have:=List.find?_eq_none.1 h y hy;simpa using this)
 | some z =>
  have h1:=List.find?_some h;have h2:=hone z (List.mem_of_find?_eq_some h) h1;show (z.i,z.c)=_;rw [h2.1,h2.2]
theorem Dt.up_none {D:Dt}{i c:Nat}(h:∀ z∈D.L,z.es.any (·.to i c)=false):D.up i c=(i,c):=by
 unfold Dt.up
 have:D.L.find? (fun x=>x.es.any (·.to i c))=none:=List.find?_eq_none.2 fun z hz=>by rw [h z hz];simp
 rw [this]
theorem any_to {l:List Ent}{i c:Nat}:l.any (·.to i c)=true↔∃ e∈l,e.i=i∧e.c=c:=by
 rw [List.any_eq_true];exact ⟨fun ⟨e,h1,h2⟩=>⟨e,h1,to_iff.1 h2⟩,fun ⟨e,h1,h2⟩=>⟨e,h1,to_iff.2 h2⟩⟩
theorem cnt_one_only {D:Dt}{i c:Nat}(hn:(D.L.map (·.i)).Nodup)(h:D.cnt i c≤1){y z:Dn}(hy:y∈D.L)(hz:z∈D.L)(h1:y.es.any (·.to i c)=true)(h2:z.es.any (·.to i c)=true):z=y:=by
 have pos:∀ x:Dn,x.es.any (·.to i c)=true→0 < (x.es.filter (·.to i c)).length:=fun x hx=>by
  obtain ⟨e,he,ht⟩:=List.any_eq_true.1 hx;exact List.length_pos_iff.2 (List.ne_nil_of_mem (List.mem_filter.2 ⟨he,ht⟩))
 have one:∀ (L:List Dn) (x:Dn),x∈L→(x.es.filter (·.to i c)).length≤cntL (·.to i c) L:=by
  intro L
  induction L with
  | nil=>intro x q;cases q
  | cons v L ih =>
   intro x q;rw [cntL_cons];rcases List.mem_cons.1 q with rfl | q
   · omega
   · have:=ih x q
     omega
 have two:∀ L:List Dn,y∈L→z∈L→cntL (·.to i c) L≤1→(L.map (·.i)).Nodup→z=y:=by
  intro L
  induction L with
  | nil=>intro q;cases q
  | cons v L ih =>
   intro q1 q2 hc hnd;rw [cntL_cons] at hc;rw [List.map_cons,List.nodup_cons] at hnd;rcases List.mem_cons.1 q1 with rfl | p1
   · rcases List.mem_cons.1 q2 with rfl | p2
     · rfl
     · have:=pos _ h1
       have:=pos _ h2;have:=one L z p2;omega
   · rcases List.mem_cons.1 q2 with rfl | p2
     · have:=pos _ h1
       have:=pos _ h2;have:=one L y p1;omega
     · exact ih p1 p2 (by omega) hnd.2
 exact two D.L hy hz h hn
theorem DInv.up_is {D:Dt}(h:DInv D){v:Dn}(hv:v∈D.L)(hK:v.K=2)(h0:v.i≠0){y:Dn}(hy:y∈D.L)(he:y.es.any (·.to v.i v.c)=true):D.up v.i v.c=(y.i,y.c) :=
 Dt.up_of hy he fun z hz hze=>by
  have hc:=h.dirs v hv hK h0;have:=cnt_one_only h.nos (by omega) hy hz he hze;rw [this];exact ⟨rfl,rfl⟩
theorem DInv.has_up {D:Dt}(h:DInv D){v:Dn}(hv:v∈D.L)(hK:v.K=2)(h0:v.i≠0):∃ y∈D.L,y.es.any (·.to v.i v.c)=true:=by
 have hc:=h.dirs v hv hK h0;apply Classical.byContradiction;intro hno
 have:∀ L:List Dn,(∀ y∈L,¬ y.es.any (·.to v.i v.c)=true)→cntL (·.to v.i v.c) L=0:=by
  intro L
  induction L with
  | nil=>intro _;rfl
  | cons x L ih =>
   intro hh;rw [cntL_cons,ih fun z hz=>hh z (List.mem_cons_of_mem _ hz),Nat.add_zero,List.length_eq_zero_iff,List.filter_eq_nil_iff];intro e he ht;exact hh x List.mem_cons_self (List.any_eq_true.2 ⟨e,he,ht⟩)
 have:=this D.L fun y hy hh=>hno ⟨y,hy,hh⟩;unfold Dt.cnt at hc;omega
theorem DInv.up_root {D:Dt}(h:DInv D):D.up 0 0=(0,0):=Dt.up_none fun z hz=>by
 rw [Bool.eq_false_iff];intro k;obtain ⟨e,he,h1,_⟩:=any_to.1 k;exact (h.live z hz e he).1 h1
theorem up_follows {D D':Dt}(h:DInv D)(h':DInv D'){v v':Dn}(hv:v∈D.L)(hv':v'∈D'.L)(hi:v'.i=v.i)(hc:v'.c=v.c)(hK:v.K=2)(hK':v'.K=2)(hy:∀ y∈D.L,y.es.any (·.to v.i v.c)=true→∃ y'∈D'.L,y'.i=y.i∧y'.c=y.c∧y'.es.any (·.to v.i v.c)=true):D'.up v.i v.c=D.up v.i v.c:=by
 by_cases h0:v.i=0
 · obtain ⟨z,hz,e1,e2,_⟩:=h.root
   have:=same_no h.nos hv hz (h0.trans e1.symm);subst this;rw [e1,e2,h.up_root,h'.up_root]
 · obtain ⟨y,hy1,hy2⟩:=h.has_up hv hK h0
   obtain ⟨y',k1,k2,k3,k4⟩:=hy y hy1 hy2;have e1:=h.up_is hv hK h0 hy1 hy2;have e2:=h'.up_is hv' hK' (by rw [hi];exact h0) k1 (by rw [hi,hc];exact k4);rw [hi,hc] at e2;rw [e1,e2,k2,k3]
theorem Rep.made {T T':Tr}{D:Dt}(h:Rep T D)(hI:DInv D){x:Dn}(hx:x∈D.L)(hK:x.K=2){s:List UInt8}{k:Nat}{K:Int}(hI':DInv (D.made x.i x.c s k K))(hfree:∀ y∈D.L,y.i≠k)
   {b0 B:Nat} {na nk na':Nod} (hna:T.nd x.i=some na) (hg:T'.g=T.g) (hmost:T'.most=T.most) (hpn:T'.pn=T.pn)
   (hds:∀ i,T'.ds i=if i=x.i then some ⟨b0,insE ⟨s,k,D.t k⟩ x.es⟩ else if i=k∧K=2 then some ⟨B,[]⟩ else T.ds i)
   (hnd:∀ i,T'.nd i=if i=x.i then some na' else if i=k then some nk else T.nd i)
   (a1:na'.K=na.K) (a2:na'.C=na.C+1) (a3:na'.S=na.S) (a4:na'.H=na.H) (a5:na'.UN=na.UN) (a6:na'.UG=na.UG) (a7:na'.Z=((insE ⟨s,k,D.t k⟩ x.es).length:Nat)) (a8:na'.L=2+(dirsIn (insE ⟨s,k,D.t k⟩ x.es) T'.ds:Int))
   (b1:nk.K=K) (b2:nk.C=0) (b3:nk.S=⟨#[]⟩) (b4:nk.H=[]) (b5:nk.L=if K=2 then 2 else 1) (b6:K=2→nk.Z=0∧nk.UN=(x.i:Nat)∧nk.UG=(x.c:Nat)) (b7:K=1→nk.UN=0∧nk.UG=0):Rep T' (D.made x.i x.c s k K):=by
 have hxk:x.i≠k:=hfree x hx
 have hm:∀ y∈(D.made x.i x.c s k K).L,(y=⟨k,D.t k,K,0,⟨#[]⟩,[],[],0⟩)∨∃ z∈D.L,(z.i≠x.i∧y=z)∨(z=x∧y=Dn.entered ⟨s,k,D.t k⟩ x):=fun y hy=>by
   rcases List.mem_append.1 hy with h1 | h1
   · obtain ⟨z,hz,rfl⟩:=mem_turnL.1 h1
     refine Or.inr ⟨z,hz,?_⟩
     split
     · rename_i e
       have hzx:=same_no hI.nos hz hx (is_iff.1 e).1;exact Or.inr ⟨hzx,by rw [hzx]⟩
     · rename_i e
       refine Or.inl ⟨fun q=>e ?_,rfl⟩;rw [same_no hI.nos hz hx q];exact is_iff.2 ⟨rfl,rfl⟩
   · exact Or.inl (List.mem_singleton.1 h1)
 have hb:∀ z∈D.L,z.i≠x.i→z∈(D.made x.i x.c s k K).L:=fun z hz hi=>List.mem_append_left _ (mem_turnL.2 ⟨z,hz,by rw [if_neg (fun e=>hi (is_iff.1 e).1)]⟩);have hbx:Dn.entered ⟨s,k,D.t k⟩ x∈(D.made x.i x.c s k K).L:=List.mem_append_left _ (mem_turnL.2 ⟨x,hx,by rw [if_pos (is_iff.2 ⟨rfl,rfl⟩)]⟩);have hnew:(⟨k,D.t k,K,0,⟨#[]⟩,[],[],0⟩:Dn)∈(D.made x.i x.c s k K).L:=List.mem_append_right _ (List.mem_singleton.2 rfl)
 have hc:∀ i c,(D.made x.i x.c s k K).cnt i c=D.cnt i c+if (⟨s,k,D.t k⟩:Ent).to i c then 1 else 0:=fun i c=>by
   show cntL _ (_++_)=_;rw [cntL_append,cnt_entered D _ hI.nos hx i c];rfl
 have hkind':∀ y∈(D.made x.i x.c s k K).L,y.K=1∨y.K=2:=fun y hy=>(hI'.kind y hy).imp And.left And.left;have hkind:∀ y∈D.L,y.K=1∨y.K=2:=fun y hy=>(hI.kind y hy).imp And.left And.left
 have hds':∀ y∈(D.made x.i x.c s k K).L,(y.K=2→∃ b,T'.ds y.i=some ⟨b,y.es⟩)∧(y.K=1→T'.ds y.i=none):=fun y hy=>by
   rcases hm y hy with rfl | ⟨z,hz,⟨e1,rfl⟩ | ⟨rfl,rfl⟩⟩
   · refine ⟨fun q=>⟨B,?_⟩,fun q=>?_⟩
     · rw [hds,if_neg (Ne.symm hxk),if_pos ⟨rfl,q⟩]
     · have q':K=1:=q
       rw [hds,if_neg (Ne.symm hxk),if_neg (fun e=>by have:=e.2;omega)];exact (h.t k hfree).2.2.1
   · rw [hds,if_neg e1,if_neg (fun e=>hfree y hz e.1)]
     exact h.ds y hz
   · refine ⟨fun _=>⟨b0,?_⟩,fun q=>?_⟩
     · rw [hds]
       exact if_pos rfl
     · have q':z.K=1:=q
       omega
 have hlinks:∀ z∈D.L,z.i≠x.i→(D.made x.i x.c s k K).links z=D.links z:=fun z hz hi=>by
   unfold Dt.links
   split
   · congr 1
     rw [← dirsIn_is hI'.nos hkind' hds' z.es (fun e he=>(hI'.live z (hb z hz hi) e he).2.1),← dirsIn_is hI.nos hkind h.ds z.es (fun e he=>(hI.live z hz e he).2.1)];unfold dirsIn;congr 1;apply List.filter_congr;intro e he;obtain ⟨_,⟨y,hy,q1,q2⟩,_⟩:=hI.live z hz e he;rw [hds]
     by_cases e1:e.i=x.i
     · rw [if_pos e1]
       obtain ⟨b,hb2⟩:=(h.ds x hx).1 hK;rw [e1,hb2];rfl
     · rw [if_neg e1,if_neg (fun q=>hfree y hy (q1.trans q.1))]
   · rw [hc,if_neg (fun q=>hfree z hz (to_iff.1 q).1.symm)]
     rfl
 have hup:∀ v∈D.L,∀ v'∈(D.made x.i x.c s k K).L,v'.i=v.i→v'.c=v.c→v.K=2→v'.K=2→(D.made x.i x.c s k K).up v.i v.c=D.up v.i v.c:=fun v hv v' hv' q1 q2 q3 q4=>by
   refine up_follows hI hI' hv hv' q1 q2 q3 q4 fun y hy hye=>?_
   by_cases e1:y.i=x.i
   · have:=same_no hI.nos hy hx e1
     subst this;refine ⟨_,hbx,rfl,rfl,?_⟩;obtain ⟨e,he,q⟩:=any_to.1 hye;exact any_to.2 ⟨e,mem_insE.2 (Or.inr he),q⟩
   · exact ⟨y,hb y hy e1,rfl,rfl,hye⟩
 refine ⟨by rw [hmost];exact h.most,fun y hy=>?_,fun i hi=>?_,fun y hy=>?_,hds',fun y hy=>?_⟩
 · rw [hg]
   rcases hm y hy with rfl | ⟨z,hz,⟨e1,rfl⟩ | ⟨rfl,rfl⟩⟩
   · exact (h.t k hfree).1
   · exact h.g y hz
   · exact h.g z hx
 · have hik:i≠k:=fun e=>hi _ hnew e.symm
   have hix:i≠x.i:=fun e=>hi _ hbx e.symm
   have hold:∀ z∈D.L,z.i≠i:=fun z hz e=>by
     by_cases e1:z.i=x.i
     · exact hix (e.symm.trans e1)
     · exact hi z (hb z hz e1) e
   obtain ⟨t1,t2,t3,t4⟩:=h.t i hold;rw [hg,hnd,hds,hpn,if_neg hix,if_neg hik,if_neg hix,if_neg (fun e=>hik e.1)];refine ⟨?_,t2,t3,t4⟩;show T.g i=setN D.t k _ i;rw [setN_other _ _ hik];exact t1
 · rcases hm y hy with rfl | ⟨z,hz,⟨e1,rfl⟩ | ⟨rfl,rfl⟩⟩
   · refine ⟨nk,by rw [hnd,if_neg (Ne.symm hxk),if_pos rfl],b1,b2,b3,b4,?_,fun q=>?_,b7⟩
     · rw [b5]
       unfold Dt.links
       split
       · rfl
       · rename_i e
         have:(D.made x.i x.c s k K).cnt k (D.t k)=1:=by
          rw [hc,cnt_zero hI hfree,if_pos (to_iff.2 ⟨rfl,rfl⟩)]
         show (1:Int)=(((D.made x.i x.c s k K).cnt k (D.t k):Nat):Int);rw [this];rfl
     · have hk0:k≠0:=by
         obtain ⟨z,hz,q1,_⟩:=hI.root;intro e;exact hfree z hz (q1.trans e.symm)
       have hu:=hI'.up_is hnew q hk0 hbx (any_to.2 ⟨⟨s,k,D.t k⟩,mem_insE.2 (Or.inl rfl),rfl,rfl⟩);refine ⟨(b6 q).1,?_,?_⟩
       · rw [show (D.made x.i x.c s k K).up k (D.t k)=(x.i,x.c) from hu]
         exact (b6 q).2.1
       · rw [show (D.made x.i x.c s k K).up k (D.t k)=(x.i,x.c) from hu]
         exact (b6 q).2.2
   · obtain ⟨n,n0,n1,n2,n3,n4,n5,n6,n7⟩:=h.nd y hz
     refine ⟨n,by rw [hnd,if_neg e1,if_neg (hfree y hz)];exact n0,n1,n2,n3,n4,by rw [hlinks y hz e1];exact n5,fun q=>?_,n7⟩;rw [hup y hz y hy rfl rfl q q];exact n6 q
   · obtain ⟨n,n0,n1,n2,n3,n4,n5,n6,n7⟩:=h.nd z hx
     rw [hna] at n0
     cases n0
     refine ⟨na',by rw [hnd];exact if_pos rfl,a1.trans n1,by rw [a2,n2];rfl,a3.trans n3,a4.trans n4,?_,fun q=>⟨a7,?_,?_⟩,fun q=>?_⟩
     · rw [a8,dirsIn_is hI'.nos hkind' hds' (insE ⟨s,k,D.t k⟩ z.es) (fun e he=>(hI'.live _ hbx e he).2.1)]
       unfold Dt.links
       rw [if_pos (show (Dn.entered ⟨s,k,D.t k⟩ z).K=2 from hK)]
       show _=((2+((insE ⟨s,k,D.t k⟩ z.es).filter (D.made z.i z.c s k K).dirE).length:Nat):Int);omega
     · show na'.UN=(((D.made z.i z.c s k K).up z.i z.c).1:Nat)
       rw [a5,hup z hx _ hbx rfl rfl hK hK];exact (n6 hK).2.1
     · show na'.UG=(((D.made z.i z.c s k K).up z.i z.c).2:Nat)
       rw [a6,hup z hx _ hbx rfl rfl hK hK];exact (n6 hK).2.2
     · have q':z.K=1:=q
       omega
 · rw [hpn]
   rcases hm y hy with rfl | ⟨z,hz,⟨e1,rfl⟩ | ⟨rfl,rfl⟩⟩
   · exact (h.t k hfree).2.2.2
   · exact h.pn y hz
   · exact h.pn z hx
theorem Rep.build {T:Tr}{D:Dt}(hI:DInv D)(hm:T.most=D.most)(hg:∀ x∈D.L,T.g x.i=x.c)(ht:∀ i,(∀ x∈D.L,x.i≠i)→T.g i=D.t i∧T.nd i=none∧T.ds i=none∧T.pn i=0)
   (hds:∀ x∈D.L,(x.K=2→∃ b,T.ds x.i=some ⟨b,x.es⟩)∧(x.K=1→T.ds x.i=none)) (hpn:∀ x∈D.L,T.pn x.i=x.p)
   (hnd:∀ x∈D.L,∃ n,T.nd x.i=some n∧n.K=x.K∧n.C=x.C∧n.S=x.S∧n.H=x.H∧(x.K=1→n.L=(D.cnt x.i x.c:Nat)∧n.UN=0∧n.UG=0)∧(x.K=2→n.L=2+(dirsIn x.es T.ds:Int)∧n.Z=(x.es.length:Nat)∧n.UN=((D.up x.i x.c).1:Nat)∧n.UG=((D.up x.i x.c).2:Nat))):Rep T D:=by
 have hk:∀ y∈D.L,y.K=1∨y.K=2:=fun y hy=>(hI.kind y hy).imp And.left And.left;refine ⟨hm,hg,ht,fun x hx=>?_,hds,hpn⟩;obtain ⟨n,n0,n1,n2,n3,n4,n5,n6⟩:=hnd x hx;refine ⟨n,n0,n1,n2,n3,n4,?_,fun q=>(n6 q).2,fun q=>(n5 q).2⟩;unfold Dt.links
 split
 · rename_i q
   rw [(n6 q).1,dirsIn_is hI.nos hk hds x.es (fun e he=>(hI.live x hx e he).2.1)];omega
 · rename_i q
   rcases hk x hx with q1 | q1
   · exact (n5 q1).1
   · exact absurd q1 q
theorem Rep.counted {T:Tr}{D:Dt}(h:Rep T D)(hI:DInv D){x:Dn}(hx:x∈D.L):∃ n,T.nd x.i=some n∧n.K=x.K∧n.C=x.C∧n.S=x.S∧n.H=x.H∧(x.K=1→n.L=(D.cnt x.i x.c:Nat)∧n.UN=0∧n.UG=0)∧(x.K=2→n.L=2+(dirsIn x.es T.ds:Int)∧n.Z=(x.es.length:Nat)∧n.UN=((D.up x.i x.c).1:Nat)∧n.UG=((D.up x.i x.c).2:Nat)):=by
 have hk:∀ y∈D.L,y.K=1∨y.K=2:=fun y hy=>(hI.kind y hy).imp And.left And.left;obtain ⟨n,n0,n1,n2,n3,n4,n5,n6,n7⟩:=h.nd x hx;refine ⟨n,n0,n1,n2,n3,n4,fun q=>⟨?_,n7 q⟩,fun q=>⟨?_,n6 q⟩⟩
 · rw [n5]
   unfold Dt.links;rw [if_neg (by omega)]
 · rw [n5,dirsIn_is hI.nos hk h.ds x.es (fun e he=>(hI.live x hx e he).2.1)]
   unfold Dt.links;rw [if_pos q];omega
theorem dirsIn_same {l:List Ent}{ds ds':Nat→Option DirM}(h:∀ e∈l,(ds' e.i).isSome=(ds e.i).isSome):dirsIn l ds'=dirsIn l ds:=by
 unfold dirsIn;congr 1;exact List.filter_congr h
theorem gone_turn (D:Dt){y:Dn}{f:Dn→Dn}(hf:∀ x,(f x).i=x.i∧(f x).c=x.c):(D.turn y.i y.c f).gone y.i y.c=D.gone y.i y.c:=by
 unfold Dt.gone Dt.turn
 have:∀ L:List Dn,(turnL y.i y.c f L).filter (fun x=>!x.is y.i y.c)=L.filter (fun x=>!x.is y.i y.c):=by
  intro L
  induction L with
  | nil=>rfl
  | cons x L ih =>
   show ((if x.is y.i y.c then f x else x)::turnL y.i y.c f L).filter _=_;rw [List.filter_cons,List.filter_cons,ih]
   by_cases e:x.is y.i y.c=true
   · have e2:(f x).is y.i y.c=true:=by
      rw [is_iff,(hf x).1,(hf x).2];exact is_iff.1 e
     rw [if_pos e,e,e2];rfl
   · rw [if_neg e]
 rw [this]
def MakeR (D:Dt)(N G:Int)(s:ByteArray)(K:Int)(c i g:Nat)(D':Dt):Prop :=
 (dirN D N G≠0∧c=dirN D N G∧i=0∧g=0∧D'=D)∨(dirN D N G=0∧¬ OkN s∧c=4∧i=0∧g=0∧D'=D) ∨
 ∃ x,D.atZ N G=some x∧x.K=2∧OkN s∧(((K≠1∧K≠2)∧c=3∧i=0∧g=0∧D'=D)∨((K=1∨K=2)∧findE x.es s.data.toList≠none∧c=6∧i=0∧g=0∧D'=D) ∨
  ((K=1∨K=2)∧findE x.es s.data.toList=none∧(60≤x.es.length∨∀ j,j < D.most→∃ y∈D.L,y.i=j)∧c=9∧i=0∧g=0∧D'=D) ∨
  ((K=1∨K=2)∧findE x.es s.data.toList=none∧x.es.length < 60∧i < D.most∧(∀ j,j < i→∃ y∈D.L,y.i=j)∧(∀ y∈D.L,y.i≠i)∧c=0∧g=D.t i∧D'=D.made x.i x.c s.data.toList i K))
def Dn.drop (s:List UInt8)(x:Dn):Dn:={ x with es:=dropE x.es s }
def Dn.ins (e:Ent)(x:Dn):Dn:={ x with es:=insE e x.es }
theorem cnt_drop (D:Dt){e:Ent}{x:Dn}(hn:(D.L.map (·.i)).Nodup)(hx:x∈D.L)(hr:RisingE x.es)(he:e∈x.es)(i c:Nat):(D.turn x.i x.c (Dn.drop e.s)).cnt i c+(if e.to i c then 1 else 0)=D.cnt i c:=by
 have h1:=cntL_turn (·.to i c) (Dn.drop e.s) hn hx;have h2:=filter_dropE (·.to i c) (rising_nodup hr) he;have h3:((Dn.drop e.s x).es.filter (·.to i c)).length=((dropE x.es e.s).filter (·.to i c)).length:=rfl;rw [h3] at h1;unfold Dt.cnt;show cntL _ (turnL _ _ _ _)+_=_;omega
theorem DInv.dropped {D:Dt}(h:DInv D){x:Dn}(hx:x∈D.L){e:Ent}(he:e∈x.es):DMid (D.turn x.i x.c (Dn.drop e.s)) e.i:=by
 have hm:∀ y∈(D.turn x.i x.c (Dn.drop e.s)).L,∃ z∈D.L,y.i=z.i∧y.c=z.c∧y.K=z.K∧y.p=z.p∧(y.es=z.es∨z=x∧y.es=dropE x.es e.s):=fun y hy=>by
   obtain ⟨z,hz,rfl⟩:=mem_turnL.1 hy;refine ⟨z,hz,?_⟩
   split
   · rename_i k
     have hzx:=same_no h.nos hz hx (is_iff.1 k).1;exact ⟨rfl,rfl,rfl,rfl,Or.inr ⟨hzx,by rw [hzx];rfl⟩⟩
   · exact ⟨rfl,rfl,rfl,rfl,Or.inl rfl⟩
 have hb:∀ z∈D.L,∃ y∈(D.turn x.i x.c (Dn.drop e.s)).L,y.i=z.i∧y.c=z.c∧y.K=z.K:=fun z hz=>by
   refine ⟨_,mem_turnL.2 ⟨z,hz,rfl⟩,?_⟩
   split<;>exact ⟨rfl,rfl,rfl⟩
 have hco:∀ i c,i≠e.i→(D.turn x.i x.c (Dn.drop e.s)).cnt i c=D.cnt i c:=fun i c hi=>by
   have:=cnt_drop D h.nos hx (h.rise x hx).1 he i c;rw [if_neg (fun q=>hi (to_iff.1 q).1.symm)] at this;exact this
 have hsub:∀ y∈(D.turn x.i x.c (Dn.drop e.s)).L,∀ z∈D.L,(y.es=z.es∨z=x∧y.es=dropE x.es e.s)→∀ q∈y.es,q∈z.es:=fun y _ z _ k q hq=>by
   rcases k with k | ⟨k1,k⟩
   · rw [k] at hq;exact hq
   · rw [k] at hq;rw [k1];exact mem_dropE hq
 refine ⟨h.most,by rw [show (D.turn x.i x.c (Dn.drop e.s)).L=turnL x.i x.c (Dn.drop e.s) D.L from rfl,turnL_nos (f:=Dn.drop e.s) (fun _=>rfl)];exact h.nos,fun y hy=>?_,?_,fun y hy=>?_,fun y hy=>?_,fun y hy q hq=>?_,fun y hy hk hY h0=>?_,fun y hy hk hY=>?_,?_⟩
 · obtain ⟨z,hz,e1,e2,_⟩:=hm y hy
   rw [e1,e2];exact h.lt z hz
 · obtain ⟨z,hz,e1,e2,e3⟩:=h.root
   obtain ⟨y,hy,d1,d2,d3⟩:=hb z hz;exact ⟨y,hy,d1.trans e1,d2.trans e2,d3.trans e3⟩
 · obtain ⟨z,hz,e1,e2,e3,e4,e5⟩:=hm y hy
   rw [e3,e4];rcases h.kind z hz with k | k
   · refine Or.inl ⟨k.1,?_⟩
     rcases e5 with e5 | ⟨e6,e5⟩
     · rw [e5];exact k.2
     · subst e6
       rw [k.2] at he
       cases he
   · exact Or.inr k
 · obtain ⟨z,hz,e1,e2,e3,e4,e5⟩:=hm y hy
   rcases e5 with e5 | ⟨e6,e5⟩
   · rw [e5];exact h.rise z hz
   · rw [e5]
     refine ⟨dropE_rising _ (h.rise x hx).1,Nat.le_trans (List.length_filter_le _ _) (h.rise x hx).2⟩
 · obtain ⟨z,hz,e1,e2,e3,e4,e5⟩:=hm y hy
   obtain ⟨k1,⟨v,hv,k2,k3⟩,k4⟩:=h.live z hz q (hsub y hy z hz e5 q hq);obtain ⟨v',hv',d1,d2,_⟩:=hb v hv;exact ⟨k1,⟨v',hv',d1.trans k2,d2.trans k3⟩,k4⟩
 · obtain ⟨z,hz,e1,e2,e3,e4,e5⟩:=hm y hy
   rw [e1] at hk h0;rw [e1,e2,hco _ _ hk];exact h.dirs z hz (e3 ▸ hY) h0
 · obtain ⟨z,hz,e1,e2,e3,e4,e5⟩:=hm y hy
   rw [e1] at hk;rw [e1,e2,e4,hco _ _ hk];exact h.files z hz (e3 ▸ hY)
 · obtain ⟨r,hr⟩:=h.rank
   refine ⟨r,fun y hy q hq ⟨v,hv,k1,k2⟩=>?_⟩;obtain ⟨z,hz,e1,e2,e3,e4,e5⟩:=hm y hy;obtain ⟨v',hv',d1,_,d3,_⟩:=hm v hv;rw [e1];exact hr z hz q (hsub y hy z hz e5 q hq) ⟨v',hv',d1.symm.trans k1,d3.symm.trans k2⟩
theorem cnt_ins (D:Dt)(e:Ent){x:Dn}(hn:(D.L.map (·.i)).Nodup)(hx:x∈D.L)(i c:Nat):cntL (·.to i c) (turnL x.i x.c (Dn.ins e) D.L)=D.cnt i c+if e.to i c then 1 else 0:=by
 have h1:=cntL_turn (·.to i c) (Dn.ins e) hn hx;have h2:=filter_insE (·.to i c) e x.es;have h3:((Dn.ins e x).es.filter (·.to i c)).length=((insE e x.es).filter (·.to i c)).length:=rfl;rw [h3,h2] at h1;unfold Dt.cnt;omega
theorem DInv.lostD {D:Dt}(h:DInv D){x:Dn}(hx:x∈D.L){e:Ent}(he:e∈x.es){y:Dn}(hy:y∈D.L)(hi:y.i=e.i)(hc:y.c=e.c)(hes:y.es=[]):DInv ((D.turn x.i x.c (Dn.drop e.s)).lost y):=by
 have hM:=h.dropped hx he;rw [← hi] at hM
 have hyx:y.i≠x.i:=fun k=>by
   rw [same_no h.nos hy hx k] at hes;rw [hes] at he
   cases he
 have hy2:y∈(D.turn x.i x.c (Dn.drop e.s)).L:=mem_turn_other hy hyx
 have hy0:y.i≠0:=by rw [hi];exact (h.live x hx e he).1
 have hcnt:=cnt_drop D h.nos hx (h.rise x hx).1 he y.i y.c;rw [if_pos (to_iff.2 ⟨hi.symm,hc.symm⟩)] at hcnt;unfold Dt.lost
 split
 · rename_i hK
   refine hM.gone hy2 hy0 hes fun c=>?_
   by_cases e1:c=y.c
   · rw [e1]
     have:=h.dirs y hy hK hy0;omega
   · exact cnt_other_times hM hy2 e1
 · rename_i hK
   have hK1:y.K=1:=by
     rcases h.kind y hy with ⟨k,_⟩ | ⟨k,_⟩
     · exact k
     · exact absurd k hK
   have hT:=hM.touched (i:=y.i) (c:=y.c);have hty:Dn.touched y∈((D.turn x.i x.c (Dn.drop e.s)).turn y.i y.c Dn.touched).L:=mem_turn_same hy2;have hct:∀ a b,((D.turn x.i x.c (Dn.drop e.s)).turn y.i y.c Dn.touched).cnt a b=(D.turn x.i x.c (Dn.drop e.s)).cnt a b:=fun a b=>cntL_quiet (f:=Dn.touched) _ (fun _=>rfl) _;have h8:=(h.files y hy hK1).1
   by_cases hz:(D.turn x.i x.c (Dn.drop e.s)).cnt y.i y.c=0∧y.p=0
   · rw [DMid.swept (y:=Dn.touched y) hT hty hK1 hz.2 (by rw [hct];exact hz.1)]
     refine DMid.gone (x:=Dn.touched y) hT hty hy0 hes fun c=>?_;rw [hct]
     by_cases e1:c=y.c
     · rw [e1];exact hz.1
     · exact cnt_other_times hM hy2 e1
   · have hfull:DInv ((D.turn x.i x.c (Dn.drop e.s)).turn y.i y.c Dn.touched):=by
       refine hT.full (fun v hv k hV h0=>?_) (fun v hv k hV=>?_)
       · rw [same_no hT.nos hv hty k] at hV
         exact absurd hV hK
       · rw [same_no hT.nos hv hty k]
         show _∧(_∨0 < y.p)
         rw [show ((D.turn x.i x.c (Dn.drop e.s)).turn y.i y.c Dn.touched).cnt (Dn.touched y).i (Dn.touched y).c=(D.turn x.i x.c (Dn.drop e.s)).cnt y.i y.c from hct _ _]
         exact ⟨by omega,by omega⟩
     rw [hfull.swept];exact hfull
end
end Go.Proofs.YtbdfjbmocifhmaaGreatDoor
