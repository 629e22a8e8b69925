import Derived.Test.YtmfcfkomdflhlaaGreatDoorK17
namespace Go.Proofs.YtmfcfkomdflhlaaGreatDoor
section
open Go Go.RowKit Go.Deep Go.Maps
theorem okN_a:OkN ⟨#[97]⟩:=by
 refine ⟨by decide,by decide,by rw [Lib.toList_data];decide,by rw [Lib.toList_data];decide,fun x hx=>?_⟩
 have:x=0:=by have h:x < 1:=hx;omega
 subst this;rfl
theorem foot_step {tr k:Nat}{T T':Tr}(h1:T'.t=T.t)(h2:T'.db=T.db)(h3:T'.pb=T.pb)(hk:FootT tr T' k):FootT tr T k∨T'.p.a=some k∨(∃ j x,T'.nd j=some x∧k∈x.foot)∨∃ j x,T'.ds j=some x∧k=x.b:=by
 rcases hk with e | e | e | h | hk
 · exact Or.inl (Or.inl e)
 · exact Or.inl (Or.inr (Or.inl (e.trans h2)))
 · exact Or.inl (Or.inr (Or.inr (Or.inl (e.trans h3))))
 · exact Or.inr (Or.inr (Or.inr h))
 · rcases hk with e | e | h
   · exact Or.inl (Or.inr (Or.inr (Or.inr (Or.inr (Or.inl (e.trans h1))))))
   · exact Or.inr (Or.inl e)
   · exact Or.inr (Or.inr (Or.inl h))
theorem foot_dir {tr a k:Nat}{T:Tr}{d:DirM}(hd:T.ds a=some d)(hk:k=d.b):FootT tr T k:=Or.inr (Or.inr (Or.inr (Or.inl ⟨a,d,hd,hk⟩)))
theorem foot_t {tr:Nat}{T:Tr}:FootT tr T T.t:=Or.inr (Or.inr (Or.inr (Or.inr (Or.inl rfl))))
theorem foot_p {tr k:Nat}{T:Tr}(h:T.p.a=some k):FootT tr T k:=Or.inr (Or.inr (Or.inr (Or.inr (Or.inr (Or.inl h)))))
theorem foot_node {tr i k:Nat}{T:Tr}{n:Nod}(h:T.nd i=some n)(hk:k∈n.foot):FootT tr T k:=Or.inr (Or.inr (Or.inr (Or.inr (.node h hk))))
end
end Go.Proofs.YtmfcfkomdflhlaaGreatDoor
