import Derived.Test.YtkcabopgajlmdaaGreatDoorK22
namespace Go.Proofs.YtkcabopgajlmdaaGreatDoor
section
open Go Go.RowKit Go.Deep Go.Maps
def AttrE (T:Tr)(A:Nat→Addr)(N G K Z L C UN UG:Int)(o:Option Addr):Prop :=
 (∃ (i:Nat) (n:Nod),N=(i:Int)∧G=(T.g i:Nat)∧T.nd i=some n∧o=none∧K=n.K∧Z=(if n.K=1 then (n.S.size:Int) else n.Z)∧L=n.L∧C=n.C∧UN=n.UN∧UG=n.UG) ∨
 (Stale0 T.g T.nd N G∧o=some (A 9)∧K=0∧Z=0∧L=0∧C=0∧UN=0∧UG=0)
theorem tattr_any {w:World}{tr:Nat}{T:Tr}{A:Nat→Addr}(h:TreeAt w tr T)(hE:Errs w A)(hk:Kinds T)(N G:Int):∃ K Z L C UN UG o,AttrE T A N G K Z L C UN UG o∧∀ W,zQ w W→zO 52 #[zP T.t,zG N G] W (.tuple #[.agg #[zI K,zI Z,zI L,zI C,zI UN,zI UG],errO o]):=by
 rcases live_or T N G with hs | ⟨i,n,rfl,rfl,hn⟩
 · exact ⟨0,0,0,0,0,0,some (A 9),Or.inr ⟨hs,rfl,rfl,rfl,rfl,rfl,rfl,rfl⟩,fun W ho=>tattr_stale W T.t T.p T.most T.g T.nd N G (A 9) (h.only ho).tab ((errs_only hE ho).cell 9 (by decide)) hs⟩
 · refine ⟨n.K,_,n.L,n.C,n.UN,n.UG,none,Or.inl ⟨i,n,rfl,rfl,hn,rfl,rfl,rfl,rfl,rfl,rfl,rfl⟩,fun W ho=>?_⟩
   refine tattr_ok W T.t T.p T.most i T.g T.nd n _ (h.only ho).tab hn ?_;rcases hk i n hn with ⟨h1,_⟩ | ⟨h1,_⟩
   · exact Or.inl ⟨h1,by rw [if_pos h1]⟩
   · exact Or.inr ⟨h1,by rw [if_neg (by omega)]⟩
end
end Go.Proofs.YtkcabopgajlmdaaGreatDoor
