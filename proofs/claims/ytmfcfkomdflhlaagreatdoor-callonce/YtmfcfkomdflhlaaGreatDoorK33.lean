import Derived.Test.YtmfcfkomdflhlaaGreatDoorK30
import Derived.Test.YtmfcfkomdflhlaaGreatDoorK32
namespace Go.Proofs.YtmfcfkomdflhlaaGreatDoor
section
open Go Go.RowKit Go.Deep Go.Maps
structure RootAt (w:World)(tr:Nat)(T:Tr)(c:Nat):Prop where
 tree:TreeAt w tr T
 root:∃ na,T.nd 0=some na∧na.K=2∧na.Z=(c:Int)∧na.C=(c:Int)
 g0:T.g 0=0
 kinds:Kinds T
theorem RootAt.kept {w w':World}{tr c:Nat}{T:Tr}{L:List Nat}(h:RootAt w tr T c)(ho:Only L w w')(hL:∀ k,FootT tr T k→k∉L):RootAt w' tr T c:=⟨h.tree.kept ho hL,h.root,h.g0,h.kinds⟩
theorem root_fresh {w:World}{tr t:Nat}{p:Row}{most b db B pb:Nat}(h:TreeAt w tr (Tr.fresh t p most b db B pb)):RootAt w tr (Tr.fresh t p most b db B pb) 0:=by
 refine ⟨h,⟨_,rfl,rfl,rfl,rfl⟩,rfl,fun i n hn=>?_⟩
 by_cases e:i=0
 · subst e
   have:some { newNod b 2 with Z:=0,L:=2 }=some n:=hn
   cases this
   exact Or.inr ⟨rfl,_,rfl⟩
 · have:setN (fun _=>none) 0 (some { newNod b 2 with Z:=0,L:=2 }) i=some n:=hn
   rw [setN_other _ _ e] at this
   cases this
theorem RootAt.attr {w:World}{tr c:Nat}{T:Tr}{A:Nat→Addr}(h:RootAt w tr T c)(hE:Errs w A):
  ∃ L UN UG,∀ W,Only [] w W→Calls Tryz.prog 15 #[.pointer (some ⟨tr,0,none⟩),.agg #[.int .i64 0,.int .i64 0]] W fun e w'=>e = .returned (.tuple #[.agg #[.int .i64 2,.int .i64 c,.int .i64 L,.int .i64 c,.int .i64 UN,.int .i64 UG],.nilIface])∧Only [] W w':=by
 obtain ⟨na,hn,hK,hZ,hC⟩:=h.root;obtain ⟨K,Z,L,C,UN,UG,o,hA,hcall⟩:=attr_any h.tree hE h.kinds 0 0
 have hA2:o=none∧K=2∧Z=(c:Int)∧C=(c:Int):=by
  rcases hA with ⟨i,n,e1,e2,hi,ho,k1,k2,k3,k4,_⟩ | ⟨hs,_⟩
  · obtain rfl:i=0:=by omega
    rw [hn] at hi
    cases hi
    rw [hK] at k1 k2;exact ⟨ho,k1,by rw [k2,if_neg (by decide)];exact hZ,by rw [k4];exact hC⟩
  · exact absurd (by rw [h.g0];rfl) (hs 0 na rfl hn)
 obtain ⟨rfl,rfl,rfl,rfl⟩:=hA2;exact ⟨L,UN,UG,hcall⟩
def MadeT (tr N0:Nat)(W w':World):Prop:=∃ T,RootAt w' tr T 1∧∀ k,FootT tr T k→k < N0∨W.heap.size≤k
theorem create_fresh (A:Nat→Addr)(w:World)(tr t:Nat)(p:Row)(b db B pb:Nat)(nm:ByteArray)(hE:Errs w A)(hT:TreeAt w tr (Tr.fresh t p 20 b db B pb))(hN:p.N=1)(hok:OkN nm)(N0:Nat)(hF:∀ k,FootT tr (Tr.fresh t p 20 b db B pb) k→k < N0):
   Calls Tryz.prog 155 #[.pointer (some ⟨tr,0,none⟩),.agg #[.int .i64 0,.int .i64 0],.string nm,.int .i64 1] w fun e w'=>e = .returned (.tuple #[.agg #[.int .i64 1,.int .i64 0],.nilIface])∧MadeT tr N0 w w'∧Only (B::b::t::p.a.toList) w w':=by
 have hcount:countTo (Tr.fresh t p 20 b db B pb).nd (Tr.fresh t p 20 b db B pb).p.N < (Tr.fresh t p 20 b db B pb).most:=by
   have:=countTo_le (Tr.fresh t p 20 b db B pb).nd (Tr.fresh t p 20 b db B pb).p.N;show _ < 20
   rw [show (Tr.fresh t p 20 b db B pb).p.N=1 from hN] at this ⊢
   omega
 have hsz:nm.size≤1000:=by have:=hok.2.1;omega
 have hcall:=create_file w tr (Tr.fresh t p 20 b db B pb) A 0 1 { newNod b 2 with Z:=0,L:=2 } ⟨B,[]⟩ nm hT hE rfl rfl rfl ⟨(show (0:Int)≤0 by decide),(show (0:Int)≤9000000000000000000 by decide)⟩ hok hsz rfl (by simp) (fun e he=>by cases he) (by decide) hcount rfl (fun j hj=>by obtain rfl:j=0:=(by omega);rfl);refine hcall.mono fun e w' hh=>?_;obtain ⟨he,p',b',hT0,hN',hb',hpa,ho⟩:=hh
 obtain ⟨T',ni,na',dd,hT',t1,t2,t3,t4,t6,t7,t8,n1,n4,m1,m2,m4,m3⟩:∃ (T':Tr) (ni na':Nod) (dd:DirM),TreeAt w' tr T'∧T'.t=t∧T'.db=db∧T'.pb=pb∧T'.g=(Tr.fresh t p 20 b db B pb).g∧T'.p=p'∧T'.ds=setN (Tr.fresh t p 20 b db B pb).ds 0 (some dd)∧T'.nd=setN (setN (Tr.fresh t p 20 b db B pb).nd 1 (some ni)) 0 (some na')∧ni.K=1∧(∀ k∈ni.foot,k=b')∧na'.K=2∧na'.C=1∧na'.Z=1∧(∀ k∈na'.foot,FootT tr (Tr.fresh t p 20 b db B pb) k)∧dd.b=B :=
   ⟨_,_,_,_,hT0,rfl,rfl,rfl,rfl,rfl,rfl,rfl,rfl,(fun k hk=>by simpa [newNod,Nod.foot,footD] using hk),rfl,rfl,rfl,(fun k hk=>foot_node (i:=0) (n:={ newNod b 2 with Z:=0,L:=2 }) rfl hk),rfl⟩
 have at0:T'.nd 0=some na':=by rw [t8,setN_same]
 refine ⟨he,⟨T',⟨hT',⟨na',at0,m1,m4,m2⟩,by rw [t4];rfl,fun i n hn=>?_⟩,fun k hk=>?_⟩,ho⟩
 · rw [t8] at hn
   by_cases e0:i=0
   · subst e0
     rw [setN_same] at hn
     cases hn
     exact Or.inr ⟨m1,dd,by rw [t7,setN_same]⟩
   · rw [setN_other _ _ e0] at hn
     by_cases e1:i=1
     · subst e1
       rw [setN_same] at hn
       cases hn
       exact Or.inl ⟨n1,by rw [t7,setN_other _ _ e0];exact setN_other (fun _=>none) (some (⟨B,[]⟩:DirM)) e0⟩
     · rw [setN_other _ _ e1] at hn
       have hn3:setN (fun _=>none) 0 (some { newNod b 2 with Z:=0,L:=2 }) i=some n:=hn;rw [setN_other _ _ e0] at hn3
       cases hn3
 · rcases foot_step (T:=Tr.fresh t p 20 b db B pb) t1 t2 t3 hk with h1 | h1 | ⟨j,x,hx,hf⟩ | ⟨j,x,hx,hf⟩
   · exact Or.inl (hF k h1)
   · rw [t6] at h1
     rcases hpa k h1 with h2 | h2
     · exact Or.inl (hF k (foot_p h2))
     · exact Or.inr h2
   · rw [t8] at hx
     by_cases e0:j=0
     · subst e0
       rw [setN_same] at hx
       cases hx
       exact Or.inl (hF k (m3.1 k hf))
     · rw [setN_other _ _ e0] at hx
       by_cases e1:j=1
       · subst e1
         rw [setN_same] at hx
         cases hx
         rw [n4 k hf];exact Or.inr hb'
       · rw [setN_other _ _ e1] at hx
         exact Or.inl (hF k (foot_node hx hf))
   · rw [t7] at hx
     by_cases e0:j=0
     · subst e0
       rw [setN_same] at hx
       cases hx
       rw [hf,m3.2];exact Or.inl (hF _ (foot_dir (a:=0) (d:=⟨B,[]⟩) rfl rfl))
     · rw [setN_other _ _ e0] at hx
       rw [hf];exact Or.inl (hF _ (foot_dir hx rfl))
theorem refuse_fresh (A:Nat→Addr)(w:World)(tr t:Nat)(p:Row)(b db B pb:Nat)(nm:ByteArray)(hE:Errs w A)(hT:TreeAt w tr (Tr.fresh t p 20 b db B pb))(hok:¬ OkN nm):
  Calls Tryz.prog 155 #[.pointer (some ⟨tr,0,none⟩),.agg #[.int .i64 0,.int .i64 0],.string nm,.int .i64 1] w fun e w'=>e = .returned (.tuple #[.agg #[.int .i64 0,.int .i64 0],.iface 485 (.pointer (some (A 3)))])∧Only [] w w' :=
 create_err w tr 0 0 1 nm none (some (A 3)) (A 3)
  (fun W ho=>dir_yes (T:=Tr.fresh t p 20 b db B pb) (a:=0) (na:={ newNod b 2 with Z:=0,L:=2 }) (hT.only ho) rfl rfl)
  (fun W ho=>(check_any nm A W (hE.below (ho.to_below (Nat.le_refl _) (fun _ h=>by cases h)) (Nat.le_refl _))).mono fun e w' q=>by
   rcases q with ⟨⟨q,_⟩ | ⟨_,q⟩,hb⟩
   · exact absurd q hok
   · exact ⟨q,Only.of_below hb _⟩) rfl
theorem compound_made (A:Nat→Addr)(w:World)(s tr t:Nat)(p:Row)(b db B pb g cap:Nat)(nm:ByteArray)(hE:Errs w A)(hs:w.cell? ⟨s,0,none⟩=some (.pointer (some ⟨tr,0,none⟩)))(hT:TreeAt w tr (Tr.fresh t p 20 b db B pb))(hN:p.N=1)(hok:OkN nm)(N0:Nat)(hF:∀ k,FootT tr (Tr.fresh t p 20 b db B pb) k→k < N0)
  (hr:Rws w w.heap.size opC 9 (some ⟨g,0,none⟩) [opR,opM nm]) (hg:g < w.heap.size) :
  Calls Tryz.prog 88 #[.pointer (some ⟨s,0,none⟩),.slice (some ⟨g,0,none⟩) 2 cap] w fun e w'=>TwoR w 0 (B::b::t::p.a.toList) (MadeT tr N0) e w':=by
 have hlt:=lt_of_cell hs
 have hL:∀ k∈B::b::t::p.a.toList,k < w.heap.size:=fun k hk=>by
  rcases List.mem_cons.1 hk with e | hk
  · exact hT.foot_lt k (foot_dir (a:=0) (d:=⟨B,[]⟩) rfl e)
  · rcases List.mem_cons.1 hk with e | hk
    · rw [e];exact hT.foot_lt b (foot_node (i:=0) (n:={ newNod b 2 with Z:=0,L:=2 }) rfl (Nod.b_foot _))
    · rcases List.mem_cons.1 hk with e | hk
      · rw [e];exact hT.foot_lt t foot_t
      · exact hT.foot_lt k (foot_p (show p.a=some k by simpa using hk))
 refine compound_two w s tr g cap nm .nilIface 0 (MadeT tr N0) (B::b::t::p.a.toList) hs hr hg hL ?_ (fun W _=>codedS_nil W 0);intro W c x ho hc hC hX
 have hcL:c∉B::b::t::p.a.toList:=fun h=>by have:=hL c h;omega
 refine (needCur_make W c s x 0 0 1 0 (opM nm) .nilIface w.heap.size hc (MadeT tr N0) (B::b::t::p.a.toList) hC hX (fun k hk=>Nat.lt_of_lt_of_le (hL k hk) ho.size) ?_).mono fun e w' q=>⟨q.1,q.2.2.1,q.2.2.2⟩;intro W1 ho1;have ho2:=ho.trans ho1 (fun _ hk=>by cases hk);have hs1:W1.cell? ⟨s,0,none⟩=some (.pointer (some ⟨tr,0,none⟩)):=(ho2.cell (p:=⟨s,0,none⟩) hlt (by simp)).trans hs;refine make_ok W1 c s tr 0 0 (opM nm) 1 0 w.heap.size hc (MadeT tr N0) (B::b::t::p.a.toList) (hC.only ho1 (by simp)) hs1 hcL (fun k hk=>Nat.lt_of_lt_of_le (hL k hk) ho2.size) (fun W2 ho3=>?_);have ho4:=ho2.trans ho3 (fun _ hk=>by cases hk);exact create_fresh A W2 tr t p b db B pb nm (hE.below (ho4.to_below (Nat.le_refl _) (fun _ h=>by cases h)) (Nat.le_refl _)) (hT.only ho4) hN hok N0 hF
theorem compound_refused (A:Nat→Addr)(w:World)(s tr t:Nat)(p:Row)(b db B pb g cap:Nat)(nm:ByteArray)(hE:Errs w A)(hs:w.cell? ⟨s,0,none⟩=some (.pointer (some ⟨tr,0,none⟩)))(hT:TreeAt w tr (Tr.fresh t p 20 b db B pb))(hok:¬ OkN nm)
  (hr:Rws w w.heap.size opC 9 (some ⟨g,0,none⟩) [opR,opM nm]) (hg:g < w.heap.size) :
  Calls Tryz.prog 88 #[.pointer (some ⟨s,0,none⟩),.slice (some ⟨g,0,none⟩) 2 cap] w fun e w'=>TwoR w 4 [] (fun _ _=>True) e w':=by
 have hlt:=lt_of_cell hs;refine compound_two w s tr g cap nm (.iface 485 (.pointer (some (A 3)))) 4 (fun _ _=>True) [] hs hr hg (fun k hk=>by cases hk) ?_ (fun W ho=>codedS_err A W 3 (by decide) (hE.below (ho.to_below (Nat.le_refl _) (fun _ h=>by cases h)) (Nat.le_refl _)));intro W c x ho hc hC hX;refine (needCur_make W c s x 0 0 0 0 (opM nm) _ w.heap.size hc (fun _ _=>True) [] hC hX (fun k hk=>by cases hk) ?_).mono fun e w' q=>⟨q.1,q.2.2.1,q.2.2.2⟩;intro W1 ho1;have ho2:=ho.trans ho1 (fun _ hk=>by cases hk);have hs1:W1.cell? ⟨s,0,none⟩=some (.pointer (some ⟨tr,0,none⟩)):=(ho2.cell (p:=⟨s,0,none⟩) hlt (by simp)).trans hs;refine (make_err W1 c s tr 0 0 (opM nm) _ _ (hC.only ho1 (by simp)) hs1 (fun W2 ho3=>?_)).mono fun e w' q=>⟨q.1,(hC.only ho1 (by simp)).only q.2 (by simp),⟨w',w',[],q.2.size,trivial,Only.refl _ _,fun k hk=>by cases hk⟩,q.2.mono (fun _ hk=>by cases hk)⟩;have ho4:=ho2.trans ho3 (fun _ hk=>by cases hk);exact refuse_fresh A W2 tr t p b db B pb nm (hE.below (ho4.to_below (Nat.le_refl _) (fun _ h=>by cases h)) (Nat.le_refl _)) (hT.only ho4) hok
end
section
open Go Go.RowKit Go.Deep
abbrev Dt8 (t:ByteArray):List UInt8:=t.data.toList
def catW:List Step→List UInt8
 | []=>[]
 | some x::L=>Dt8 x++catW L
 | none::L=>catW L
def allS (L:List Step):Bool:=L.all Option.isSome
theorem catW_app (L M:List Step):catW (L++M)=catW L++catW M:=by
 induction L with
 | nil=>rfl
 | cons x L ih=>cases x<;>simp [catW,ih]
theorem allS_app (L M:List Step):allS (L++M)=(allS L&&allS M):=by simp [allS]
theorem catW_one (x:ByteArray):catW [some x]=Dt8 x:=by simp [catW]
theorem runW_all {s:ByteArray}{L:List Step}(h:allS L=true)(hl:s.size+(catW L).length≤4000):∃ t,runW (s,0) L=(t,0)∧Dt8 t=Dt8 s++catW L:=by
 induction L generalizing s with
 | nil=>exact ⟨s,rfl,by simp [catW]⟩
 | cons x L ih =>
  cases x with
  | none=>simp [allS] at h
  | some x =>
   have hx:(Dt8 x).length=x.size:=rfl
   have hl':s.size+x.size+(catW L).length≤4000:=by simp [catW] at hl;omega
   obtain ⟨t,h1,h2⟩:=ih (s:=s++x) (by simpa [allS] using h) (by rw [ByteArray.size_append];omega);refine ⟨t,?_,by rw [h2];simp [catW,List.append_assoc]⟩;show runW (if s.size+x.size≤4000 then (s++x,0) else (s,9)) L=(t,0);rw [if_pos (by omega)];exact h1
theorem Dt8_bs (l:List UInt8):Dt8 (bs l)=l:=bs_data l
def InvB {α:Type}(p:Par α)(W:α→List Step)(ok:α→Prop):Prop:=∀ t a rest,ok a→allS (W a)=true→t.size≤4000→Dt8 t=catW (W a)++rest→∃ t',p t=some (a,t')∧Dt8 t'=rest∧t'.size≤4000
def intW (n:Nat):List Step:=[some (bs (be 4 n))]
def longW (n:Nat):List Step:=[some (bs (be 8 n))]
def flagW (b:Bool):List Step:=[some (bs (be 4 b.toNat))]
def textW (s:ByteArray):List Step:=[some (itemS s)]
theorem sgn_pos (n:Nat):sgn (n:Int)=[some (bs (be 4 0)),some (bs (be 8 n))]:=by
 unfold sgn;rw [if_neg (by omega),if_neg (by omega),Int.toNat_natCast]
theorem sgn_neg (n:Nat)(h0:n≠0)(h:n≤9223372036854775807):sgn (-(n:Int))=[some (bs (be 4 1)),some (bs (be 8 n))]:=by
 unfold sgn;rw [if_neg (by omega),if_pos (by omega),Int.neg_neg,Int.toNat_natCast]
theorem invB_num {k n:Nat}{t:ByteArray}{rest:List UInt8}(hn:n < 256 ^ k)(ht:t.size≤4000)(h:Dt8 t=be k n++rest):k≤t.size∧numAt t k=n∧Dt8 (cutAt t k)=rest∧(cutAt t k).size≤4000:=by
 obtain ⟨h1,h2,h3⟩:=read_num t k n rest h hn;exact ⟨h1,h2,h3,Nat.le_trans (cut_le _ _) ht⟩
theorem invB_int:InvB pInt intW (fun n=>n≤4294967295):=by
 intro t a rest ha _ ht h;rw [intW,catW_one,Dt8_bs] at h;obtain ⟨h1,h2,h3,h4⟩:=invB_num (show a < 256 ^ 4 by omega) ht h;exact ⟨_,by unfold pInt;rw [if_pos h1,h2],h3,h4⟩
theorem invB_long:InvB pLong longW (fun n=>n≤9223372036854775807):=by
 intro t a rest ha _ ht h;rw [longW,catW_one,Dt8_bs] at h;obtain ⟨h1,h2,h3,h4⟩:=invB_num (show a < 256 ^ 8 by omega) ht h;exact ⟨_,by unfold pLong;rw [if_pos ⟨h1,by rw [h2];exact ha⟩,h2],h3,h4⟩
theorem invB_flag:InvB pFlag flagW (fun _=>True):=by
 intro t a rest _ _ ht h;rw [flagW,catW_one,Dt8_bs] at h
 have hb:a.toNat≤1:=by cases a<;>decide
 obtain ⟨h1,h2,h3,h4⟩:=invB_num (show a.toNat < 256 ^ 4 by omega) ht h;refine ⟨_,by unfold pFlag;rw [if_pos ⟨h1,by rw [h2];exact hb⟩,h2,show (((a.toNat:Nat):Int)==1)=a by cases a<;>rfl],h3,h4⟩
theorem invB_text:InvB pBytes textW (fun _=>True):=by
 intro t a rest _ _ ht h;rw [textW,catW_one] at h;have hsz:=itemS_size a
 have hl:t.size=(itemS a).size+rest.length:=by
  have:=congrArg List.length h
  simpa using this
 obtain ⟨h1,h2,h3,h4,h5,h6⟩:=read_item t a rest h (by omega);refine ⟨_,by unfold pBytes;rw [if_pos ((itemB_iff t).2 ⟨h1,by rw [h2];omega,by rw [h2];exact h3,by rw [h2];exact h4⟩),h2,h5],h6,Nat.le_trans (cut_le _ _) ht⟩
theorem sgn_least:allS (sgn (-9223372036854775808))=false:=by
 unfold sgn;rw [if_pos rfl];rfl
theorem invB_number:InvB pNumber sgn I64:=by
 intro t a rest ha hs ht h;obtain ⟨ha1,ha2⟩:=ha
 have hne:a ≠ -9223372036854775808:=fun e=>by
   rw [e,sgn_least] at hs
   cases hs
 by_cases hneg:a < 0
 · obtain ⟨n,rfl⟩:∃ n:Nat,a = -(n:Int):=⟨(-a).toNat,by omega⟩
   rw [sgn_neg n (by omega) (by omega)] at h
   have h':Dt8 t=catW (flagW true)++(catW (longW n)++rest):=by rw [h];simp [catW,flagW,longW]
   obtain ⟨t1,p1,d1,l1⟩:=invB_flag t true _ trivial rfl ht h';obtain ⟨t2,p2,d2,l2⟩:=invB_long t1 n rest (by omega) rfl l1 d1;refine ⟨t2,?_,d2,l2⟩;unfold pNumber;rw [bindP_some p1,bindP_some p2,if_neg (by simp;omega),if_pos rfl]
 · obtain ⟨n,rfl⟩:∃ n:Nat,a=(n:Int):=⟨a.toNat,by omega⟩
   rw [sgn_pos] at h
   have h':Dt8 t=catW (flagW false)++(catW (longW n)++rest):=by rw [h];simp [catW,flagW,longW]
   obtain ⟨t1,p1,d1,l1⟩:=invB_flag t false _ trivial rfl ht h';obtain ⟨t2,p2,d2,l2⟩:=invB_long t1 n rest (by omega) rfl l1 d1;refine ⟨t2,?_,d2,l2⟩;unfold pNumber;rw [bindP_some p1,bindP_some p2];rfl
theorem invB_two:InvB pTwo (fun p=>sgn p.1++sgn p.2) (fun p=>I64 p.1∧I64 p.2):=by
 intro t a rest ha hs ht h;simp only [allS_app,Bool.and_eq_true] at hs;simp only [catW_app,List.append_assoc] at h;obtain ⟨t1,p1,d1,l1⟩:=invB_number t a.1 _ ha.1 hs.1 ht h;obtain ⟨t2,p2,d2,l2⟩:=invB_number t1 a.2 _ ha.2 hs.2 l1 d1;exact ⟨t2,by unfold pTwo;rw [bindP_some p1,bindP_some p2];rfl,d2,l2⟩
theorem invB_op:InvB pOp opW OpV.ok:=by
 intro t a rest ha hs ht h;obtain ⟨a1,a2,a3,a4,a5,a6⟩:=ha;simp only [opW,allS_app,Bool.and_eq_true] at hs;obtain ⟨s1,s2,s3,s4,s5,s6,s7,s8⟩:=hs;simp only [opW,catW_app,List.append_assoc] at h;obtain ⟨t1,p1,d1,l1⟩:=invB_text t a.K _ trivial rfl ht h;obtain ⟨t2,p2,d2,l2⟩:=invB_text t1 a.N _ trivial rfl l1 d1;obtain ⟨t3,p3,d3,l3⟩:=invB_text t2 a.T _ trivial rfl l2 d2;obtain ⟨t4,p4,d4,l4⟩:=invB_number t3 a.x1 _ a1 s4 l3 d3;obtain ⟨t5,p5,d5,l5⟩:=invB_number t4 a.x2 _ a2 s5 l4 d4;obtain ⟨t6,p6,d6,l6⟩:=invB_number t5 a.x3 _ a3 s6 l5 d5;obtain ⟨t7,p7,d7,l7⟩:=invB_number t6 a.x4 _ a4 s7 l6 d6;obtain ⟨t8,p8,d8,l8⟩:=invB_two t7 (a.x5,a.x6) rest ⟨a5,a6⟩ (by simp only [allS_app,Bool.and_eq_true];exact s8) l7 (by rw [d7];simp only [catW_app,List.append_assoc]);exact ⟨t8,by unfold pOp;rw [bindP_some p1,bindP_some p2,bindP_some p3,bindP_some p4,bindP_some p5,bindP_some p6,bindP_some p7,bindP_some p8];rfl,d8,l8⟩
theorem invB_times {α:Type}{p:Par α}{W:α→List Step}{ok:α→Prop}(hp:InvB p W ok)(l:List α)(t:ByteArray)(rest:List UInt8)(hl:∀ a∈l,ok a)(hs:allS (listW W l)=true)(ht:t.size≤4000)(h:Dt8 t=catW (listW W l)++rest):
  ∃ t',pTimes p l.length t=some (l,t')∧Dt8 t'=rest∧t'.size≤4000:=by
 induction l generalizing t with
 | nil=>exact ⟨t,rfl,h,ht⟩
 | cons a l ih =>
  simp only [listW,allS_app,Bool.and_eq_true] at hs;simp only [listW,catW_app,List.append_assoc] at h;obtain ⟨t1,p1,d1,l1⟩:=hp t a _ (hl a (List.mem_cons_self ..)) hs.1 ht h;obtain ⟨t2,p2,d2,l2⟩:=ih t1 (fun x hx=>hl x (List.mem_cons_of_mem _ hx)) hs.2 l1 d1;exact ⟨t2,by show bindP p _ t=_;rw [bindP_some p1,bindP_some p2];rfl,d2,l2⟩
theorem invB_list {α:Type}{p:Par α}{W:α→List Step}{ok:α→Prop}(hp:InvB p W ok):InvB (pList p) (listsW W) (fun l=>l.length≤4294967295∧∀ a∈l,ok a):=by
 intro t l rest ha hs ht h;simp only [listsW,allS_app,Bool.and_eq_true] at hs;simp only [listsW,catW_app,List.append_assoc] at h;obtain ⟨t1,p1,d1,l1⟩:=invB_int t l.length _ ha.1 rfl ht h;obtain ⟨t2,p2,d2,l2⟩:=invB_times hp l t1 rest ha.2 hs.2 l1 d1;exact ⟨t2,by unfold pList;rw [bindP_some p1];exact p2,d2,l2⟩
end
end Go.Proofs.YtmfcfkomdflhlaaGreatDoor
