import Derived.Test.YtbdfjbmocifhmaaGreatDoorK36
import Derived.Laws.AppendOwnNone
namespace Go.Proofs.YtbdfjbmocifhmaaGreatDoor
section
open Go Go.RowKit Go.Deep Go.Maps
theorem own_blk {w:World}{base e k n b:Nat}{v:Value}{xs:List Value}(h:w.ownsRow base e k v n xs)(hb:v.ownBlock=some b):base≤b∧b < w.heap.size∧∃ cur,w.heap[b]?=some (.cells cur e (0,0)):=by
 rcases h.2 with ⟨rfl,_⟩ | ⟨g,cap,cur,rfl,h1,h2,h3⟩
 · cases hb
 · cases hb
   exact ⟨h1,(Array.getElem?_eq_some_iff.1 h2).1,cur,h2⟩
def isB (N G:Int)(x:Dn):Bool:=(x.i:Int)==N&&(x.c:Int)==G
theorem isB_iff {N G:Int}{x:Dn}:isB N G x=true↔(x.i:Int)=N∧(x.c:Int)=G:=by simp [isB]
theorem atZ_some {D:Dt}{N G:Int}{x:Dn}(h:D.atZ N G=some x):x∈D.L∧(x.i:Int)=N∧(x.c:Int)=G:=by
 have h1:=List.find?_some h;exact ⟨List.mem_of_find?_eq_some h,isB_iff.1 h1⟩
def dirN (D:Dt)(N G:Int):Nat:=match D.atZ N G with
 | none=>10
 | some x=>if x.K=2 then 0 else 7
theorem findE_idx {l:List Ent}{s:List UInt8}{e:Ent}(h:findE l s=some e):∃ k:Nat,l[k]?=some e∧e.s=s:=by
 have h1:=List.mem_of_find?_eq_some h;have h2:=List.find?_some h;obtain ⟨k,hk⟩:=List.mem_iff_getElem?.1 h1;exact ⟨k,hk,by simpa using h2⟩
theorem dir_no {D:Dt}{N G:Int}{x:Dn}(h:D.atZ N G=some x)(hK:x.K=2):dirN D N G=0:=by unfold dirN;rw [h];simp [hK]
theorem dir_cases (D:Dt)(N G:Int):(∃ x,D.atZ N G=some x∧x.K=2∧dirN D N G=0)∨(dirN D N G=7∧∃ x,D.atZ N G=some x∧x.K≠2)∨dirN D N G=10∧D.atZ N G=none:=by
 unfold dirN
 cases h:D.atZ N G with
 | none=>exact Or.inr (Or.inr ⟨rfl,rfl⟩)
 | some x =>
  by_cases hK:x.K=2
  · exact Or.inl ⟨x,rfl,hK,by simp [hK]⟩
  · exact Or.inr (Or.inl ⟨by simp [hK],x,rfl,hK⟩)
def LookR (D:Dt)(N G:Int)(s:ByteArray)(c i k:Nat):Prop :=
 (dirN D N G≠0∧c=dirN D N G∧i=0∧k=0)∨(dirN D N G=0∧¬ OkN s∧c=4∧i=0∧k=0) ∨
 ∃ x,D.atZ N G=some x∧x.K=2∧OkN s∧((findE x.es s.data.toList=none∧c=5∧i=0∧k=0)∨∃ e,findE x.es s.data.toList=some e∧c=0∧i=e.i∧k=e.c)
def DB (D:Dt)(B:Nat):Prop:=(∀ x∈D.L,0≤x.C∧x.C≤(B:Int)∧x.p≤B)∧∀ i,D.t i≤B
theorem turn_turn {D:Dt}{i c:Nat}{f g:Dn→Dn}(hf:∀ x,(f x).i=x.i∧(f x).c=x.c):(D.turn i c f).turn i c g=D.turn i c (fun x=>g (f x)):=by
 unfold Dt.turn;congr 1;show turnL i c g (turnL i c f D.L)=_;unfold turnL;rw [List.map_map];apply List.map_congr_left;intro x _;show (if (if x.is i c=true then f x else x).is i c=true then _ else _)=_
 by_cases h:x.is i c=true
 · rw [if_pos h,if_pos h]
   have:(f x).is i c=true:=is_iff.2 ⟨by rw [(hf x).1];exact (is_iff.1 h).1,by rw [(hf x).2];exact (is_iff.1 h).2⟩;rw [if_pos this];show g (if x.is i c=true then f x else x)=g (f x);rw [if_pos h]
 · rw [if_neg h,if_neg h,if_neg h]
def RemR (D:Dt)(N G:Int)(s:ByteArray)(c:Nat)(D':Dt):Prop :=
 (∃ i k,LookR D N G s c i k∧c≠0∧D'=D)∨∃ x e y,D.atZ N G=some x∧x.K=2∧OkN s∧findE x.es s.data.toList=some e∧y∈D.L∧y.i=e.i∧y.c=e.c∧((y.es≠[]∧c=11∧D'=D)∨(y.es=[]∧c=0∧D'=(D.turn x.i x.c (Dn.left e.s)).lost y))
end
end Go.Proofs.YtbdfjbmocifhmaaGreatDoor
