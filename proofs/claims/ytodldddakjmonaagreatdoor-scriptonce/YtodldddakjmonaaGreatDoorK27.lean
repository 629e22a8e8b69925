import Derived.Test.YtodldddakjmonaaGreatDoorK24
import Derived.Test.YtodldddakjmonaaGreatDoorK26
namespace Go.Proofs.YtodldddakjmonaaGreatDoor
section
open Go Go.RowKit Go.Deep Go.Maps
structure RootAt (w:World)(tr:Nat)(T:Tr)(c:Nat):Prop where
 tree:TreeAt w tr T
 root:∃ na,T.nd 0=some na∧na.K=2∧na.Z=(c:Int)∧na.C=(c:Int)
 g0:T.g 0=0
 kinds:Kinds T
theorem RootAt.kept {w w':World}{tr c:Nat}{T:Tr}{L:List Nat}(h:RootAt w tr T c)(ho:Only L w w')(hL:∀ k,FootT tr T k→k∉L):RootAt w' tr T c:=⟨h.tree.kept ho hL,h.root,h.g0,h.kinds⟩
end
section
open Go Go.RowKit Go.Deep
abbrev Dt8 (t:ByteArray):List UInt8:=t.data.toList
def catW:List Step→List UInt8
 | []=>[]
 | some x::L=>Dt8 x++catW L
 | none::L=>catW L
def allS (L:List Step):Bool:=L.all Option.isSome
theorem catW_app (L M:List Step):catW (L++M)=catW L++catW M:=by
 induction L with
 | nil=>rfl
 | cons x L ih=>cases x<;>simp [catW,ih]
theorem allS_app (L M:List Step):allS (L++M)=(allS L&&allS M):=by simp [allS]
theorem catW_one (x:ByteArray):catW [some x]=Dt8 x:=by simp [catW]
theorem runW_some {s t:ByteArray}{L:List Step}(h:runW (s,0) L=(t,0)):allS L=true∧Dt8 t=Dt8 s++catW L:=by
 induction L generalizing s with
 | nil=>cases h;simp [allS,catW]
 | cons x L ih =>
  cases x with
  | none =>
   have h':runW (s,2) L=(t,0):=h;rw [runW_stuck s 1 L] at h'
   cases h'
  | some x =>
   have h':runW (if s.size+x.size≤4000 then (s++x,0) else (s,9)) L=(t,0):=h
   by_cases hf:s.size+x.size≤4000
   · rw [if_pos hf] at h'
     obtain ⟨h1,h2⟩:=ih h';refine ⟨by simpa [allS] using h1,?_⟩;rw [h2];simp [catW,List.append_assoc]
   · rw [if_neg hf,runW_stuck s 8 L] at h'
     cases h'
theorem runW_all {s:ByteArray}{L:List Step}(h:allS L=true)(hl:s.size+(catW L).length≤4000):∃ t,runW (s,0) L=(t,0)∧Dt8 t=Dt8 s++catW L:=by
 induction L generalizing s with
 | nil=>exact ⟨s,rfl,by simp [catW]⟩
 | cons x L ih =>
  cases x with
  | none=>simp [allS] at h
  | some x =>
   have hx:(Dt8 x).length=x.size:=rfl
   have hl':s.size+x.size+(catW L).length≤4000:=by simp [catW] at hl;omega
   obtain ⟨t,h1,h2⟩:=ih (s:=s++x) (by simpa [allS] using h) (by rw [ByteArray.size_append];omega);refine ⟨t,?_,by rw [h2];simp [catW,List.append_assoc]⟩;show runW (if s.size+x.size≤4000 then (s++x,0) else (s,9)) L=(t,0);rw [if_pos (by omega)];exact h1
theorem Dt8_bs (l:List UInt8):Dt8 (bs l)=l:=bs_data l
def InvB {α:Type}(p:ParW α)(W:α→List Step)(ok:α→Prop):Prop:=∀ t a rest,ok a→allS (W a)=true→t.size≤4000→Dt8 t=catW (W a)++rest→∃ t',p t=some (a,t')∧Dt8 t'=rest∧t'.size≤4000
def intW (n:Nat):List Step:=[some (bs (be 4 n))]
def longW (n:Nat):List Step:=[some (bs (be 8 n))]
def flagW (b:Bool):List Step:=[some (bs (be 4 b.toNat))]
def textW (s:ByteArray):List Step:=[some (itemS s)]
theorem sgn_pos (n:Nat):sgn (n:Int)=[some (bs (be 4 0)),some (bs (be 8 n))]:=by
 unfold sgn;rw [if_neg (by omega),if_neg (by omega),Int.toNat_natCast]
theorem sgn_neg (n:Nat)(h0:n≠0)(h:n≤9223372036854775807):sgn (-(n:Int))=[some (bs (be 4 1)),some (bs (be 8 n))]:=by
 unfold sgn;rw [if_neg (by omega),if_pos (by omega),Int.neg_neg,Int.toNat_natCast]
theorem invB_num {k n:Nat}{t:ByteArray}{rest:List UInt8}(hn:n < 256 ^ k)(ht:t.size≤4000)(h:Dt8 t=be k n++rest):k≤t.size∧numAt t k=n∧Dt8 (cutAt t k)=rest∧(cutAt t k).size≤4000:=by
 obtain ⟨h1,h2,h3⟩:=read_num t k n rest h hn;exact ⟨h1,h2,h3,Nat.le_trans (cut_leW _ _) ht⟩
theorem invB_int:InvB pInt intW (fun n=>n≤4294967295):=by
 intro t a rest ha _ ht h;rw [intW,catW_one,Dt8_bs] at h;obtain ⟨h1,h2,h3,h4⟩:=invB_num (show a < 256 ^ 4 by omega) ht h;exact ⟨_,by unfold pInt;rw [if_pos h1,h2],h3,h4⟩
theorem invB_long:InvB pLong longW (fun n=>n≤9223372036854775807):=by
 intro t a rest ha _ ht h;rw [longW,catW_one,Dt8_bs] at h;obtain ⟨h1,h2,h3,h4⟩:=invB_num (show a < 256 ^ 8 by omega) ht h;exact ⟨_,by unfold pLong;rw [if_pos ⟨h1,by rw [h2];exact ha⟩,h2],h3,h4⟩
theorem invB_flag:InvB pFlag flagW (fun _=>True):=by
 intro t a rest _ _ ht h;rw [flagW,catW_one,Dt8_bs] at h
 have hb:a.toNat≤1:=by cases a<;>decide
 obtain ⟨h1,h2,h3,h4⟩:=invB_num (show a.toNat < 256 ^ 4 by omega) ht h;refine ⟨_,by unfold pFlag;rw [if_pos ⟨h1,by rw [h2];exact hb⟩,h2,show (((a.toNat:Nat):Int)==1)=a by cases a<;>rfl],h3,h4⟩
theorem invB_text:InvB pBytes textW (fun _=>True):=by
 intro t a rest _ _ ht h;rw [textW,catW_one] at h;have hsz:=itemS_size a
 have hl:t.size=(itemS a).size+rest.length:=by
  have:=congrArg List.length h
  simpa using this
 obtain ⟨h1,h2,h3,h4,h5,h6⟩:=read_item t a rest h (by omega);refine ⟨_,by unfold pBytes;rw [if_pos ((itemB_iff t).2 ⟨h1,by rw [h2];omega,by rw [h2];exact h3,by rw [h2];exact h4⟩),h2,h5],h6,Nat.le_trans (cut_leW _ _) ht⟩
theorem sgn_least:allS (sgn (-9223372036854775808))=false:=by
 unfold sgn;rw [if_pos rfl];rfl
theorem invB_number:InvB pNumber sgn I64:=by
 intro t a rest ha hs ht h;obtain ⟨ha1,ha2⟩:=ha
 have hne:a ≠ -9223372036854775808:=fun e=>by
   rw [e,sgn_least] at hs
   cases hs
 by_cases hneg:a < 0
 · obtain ⟨n,rfl⟩:∃ n:Nat,a = -(n:Int):=⟨(-a).toNat,by omega⟩
   rw [sgn_neg n (by omega) (by omega)] at h
   have h':Dt8 t=catW (flagW true)++(catW (longW n)++rest):=by rw [h];simp [catW,flagW,longW]
   obtain ⟨t1,p1,d1,l1⟩:=invB_flag t true _ trivial rfl ht h';obtain ⟨t2,p2,d2,l2⟩:=invB_long t1 n rest (by omega) rfl l1 d1;refine ⟨t2,?_,d2,l2⟩;unfold pNumber;rw [bindP_someW p1,bindP_someW p2,if_neg (by simp;omega),if_pos rfl]
 · obtain ⟨n,rfl⟩:∃ n:Nat,a=(n:Int):=⟨a.toNat,by omega⟩
   rw [sgn_pos] at h
   have h':Dt8 t=catW (flagW false)++(catW (longW n)++rest):=by rw [h];simp [catW,flagW,longW]
   obtain ⟨t1,p1,d1,l1⟩:=invB_flag t false _ trivial rfl ht h';obtain ⟨t2,p2,d2,l2⟩:=invB_long t1 n rest (by omega) rfl l1 d1;refine ⟨t2,?_,d2,l2⟩;unfold pNumber;rw [bindP_someW p1,bindP_someW p2];rfl
theorem invB_two:InvB pTwo (fun p=>sgn p.1++sgn p.2) (fun p=>I64 p.1∧I64 p.2):=by
 intro t a rest ha hs ht h;simp only [allS_app,Bool.and_eq_true] at hs;simp only [catW_app,List.append_assoc] at h;obtain ⟨t1,p1,d1,l1⟩:=invB_number t a.1 _ ha.1 hs.1 ht h;obtain ⟨t2,p2,d2,l2⟩:=invB_number t1 a.2 _ ha.2 hs.2 l1 d1;exact ⟨t2,by unfold pTwo;rw [bindP_someW p1,bindP_someW p2];rfl,d2,l2⟩
theorem invB_entry:InvB pEntry enW EnV.ok:=by
 intro t a rest ha hs ht h;simp only [enW,allS_app,Bool.and_eq_true] at hs;simp only [enW,catW_app,List.append_assoc] at h;obtain ⟨t1,p1,d1,l1⟩:=invB_text t a.n _ trivial rfl ht h;obtain ⟨t2,p2,d2,l2⟩:=invB_two t1 (a.x,a.y) rest ha (by simp only [allS_app,Bool.and_eq_true];exact hs.2) l1 (by rw [d1];simp only [catW_app,List.append_assoc]);exact ⟨t2,by unfold pEntry;rw [bindP_someW p1,bindP_someW p2];rfl,d2,l2⟩
theorem invB_op:InvB pOp opW OpV.ok:=by
 intro t a rest ha hs ht h;obtain ⟨a1,a2,a3,a4,a5,a6⟩:=ha;simp only [opW,allS_app,Bool.and_eq_true] at hs;obtain ⟨s1,s2,s3,s4,s5,s6,s7,s8⟩:=hs;simp only [opW,catW_app,List.append_assoc] at h;obtain ⟨t1,p1,d1,l1⟩:=invB_text t a.K _ trivial rfl ht h;obtain ⟨t2,p2,d2,l2⟩:=invB_text t1 a.N _ trivial rfl l1 d1;obtain ⟨t3,p3,d3,l3⟩:=invB_text t2 a.T _ trivial rfl l2 d2;obtain ⟨t4,p4,d4,l4⟩:=invB_number t3 a.x1 _ a1 s4 l3 d3;obtain ⟨t5,p5,d5,l5⟩:=invB_number t4 a.x2 _ a2 s5 l4 d4;obtain ⟨t6,p6,d6,l6⟩:=invB_number t5 a.x3 _ a3 s6 l5 d5;obtain ⟨t7,p7,d7,l7⟩:=invB_number t6 a.x4 _ a4 s7 l6 d6;obtain ⟨t8,p8,d8,l8⟩:=invB_two t7 (a.x5,a.x6) rest ⟨a5,a6⟩ (by simp only [allS_app,Bool.and_eq_true];exact s8) l7 (by rw [d7];simp only [catW_app,List.append_assoc]);exact ⟨t8,by unfold pOp;rw [bindP_someW p1,bindP_someW p2,bindP_someW p3,bindP_someW p4,bindP_someW p5,bindP_someW p6,bindP_someW p7,bindP_someW p8];rfl,d8,l8⟩
theorem invB_times {α:Type}{p:ParW α}{W:α→List Step}{ok:α→Prop}(hp:InvB p W ok)(l:List α)(t:ByteArray)(rest:List UInt8)(hl:∀ a∈l,ok a)(hs:allS (listW W l)=true)(ht:t.size≤4000)(h:Dt8 t=catW (listW W l)++rest):
  ∃ t',pTimesW p l.length t=some (l,t')∧Dt8 t'=rest∧t'.size≤4000:=by
 induction l generalizing t with
 | nil=>exact ⟨t,rfl,h,ht⟩
 | cons a l ih =>
  simp only [listW,allS_app,Bool.and_eq_true] at hs;simp only [listW,catW_app,List.append_assoc] at h;obtain ⟨t1,p1,d1,l1⟩:=hp t a _ (hl a (List.mem_cons_self ..)) hs.1 ht h;obtain ⟨t2,p2,d2,l2⟩:=ih t1 (fun x hx=>hl x (List.mem_cons_of_mem _ hx)) hs.2 l1 d1;exact ⟨t2,by show bindPW p _ t=_;rw [bindP_someW p1,bindP_someW p2];rfl,d2,l2⟩
theorem invB_list {α:Type}{p:ParW α}{W:α→List Step}{ok:α→Prop}(hp:InvB p W ok):InvB (pList p) (listsW W) (fun l=>l.length≤4294967295∧∀ a∈l,ok a):=by
 intro t l rest ha hs ht h;simp only [listsW,allS_app,Bool.and_eq_true] at hs;simp only [listsW,catW_app,List.append_assoc] at h;obtain ⟨t1,p1,d1,l1⟩:=invB_int t l.length _ ha.1 rfl ht h;obtain ⟨t2,p2,d2,l2⟩:=invB_times hp l t1 rest ha.2 hs.2 l1 d1;exact ⟨t2,by unfold pList;rw [bindP_someW p1];exact p2,d2,l2⟩
theorem invB_reply:InvB pReply rpW RpV.ok:=by
 intro t a rest ha hs ht h;obtain ⟨a1,a2,a3,a4,a5,a6,a7,a8⟩:=ha;simp only [rpW,allS_app,Bool.and_eq_true] at hs;obtain ⟨s1,s2,s3,s4,s5,s6,s7⟩:=hs;simp only [rpW,catW_app,List.append_assoc] at h;obtain ⟨t1,p1,d1,l1⟩:=invB_number t a.c _ a1 s1 ht h;obtain ⟨t2,p2,d2,l2⟩:=invB_text t1 a.T _ trivial rfl l1 d1;obtain ⟨t3,p3,d3,l3⟩:=invB_two t2 (a.x1,a.x2) _ ⟨a2,a3⟩ (by simp only [allS_app,Bool.and_eq_true];exact s3) l2 (by rw [d2];simp only [catW_app,List.append_assoc];rfl);obtain ⟨t4,p4,d4,l4⟩:=invB_two t3 (a.x3,a.x4) _ ⟨a4,a5⟩ (by simp only [allS_app,Bool.and_eq_true];exact s4) l3 (by rw [d3];simp only [catW_app,List.append_assoc];rfl);obtain ⟨t5,p5,d5,l5⟩:=invB_list invB_entry t4 a.L _ ⟨a7,a8⟩ s5 l4 d4;obtain ⟨t6,p6,d6,l6⟩:=invB_number t5 a.n _ a6 s6 l5 d5;obtain ⟨t7,p7,d7,l7⟩:=invB_flag t6 a.e _ trivial rfl l6 d6;exact ⟨t7,by unfold pReply;rw [bindP_someW p1,bindP_someW p2,bindP_someW p3,bindP_someW p4,bindP_someW p5,bindP_someW p6,bindP_someW p7];rfl,d7,l7⟩
end
end Go.Proofs.YtodldddakjmonaaGreatDoor
