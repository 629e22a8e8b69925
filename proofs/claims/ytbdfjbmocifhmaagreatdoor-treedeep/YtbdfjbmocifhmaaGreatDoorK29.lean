import Derived.Test.YtbdfjbmocifhmaaGreatDoorK28
namespace Go.Proofs.YtbdfjbmocifhmaaGreatDoor
section
open Go Go.RowKit Go.Deep
def ItemOk (s:ByteArray)(m:Int):Prop:=4≤s.size∧(numAt s 4:Int)≤m∧4+numAt s 4+fillN (numAt s 4)≤s.size∧zerosB (s.extract (4+numAt s 4) (4+numAt s 4+fillN (numAt s 4)))=true
theorem rBytes_ends (b:Nat)(t:ByteArray)(m:Int)(T:TypeId)(v:Value)(w:World)(hc:w.cell? ⟨b,0,none⟩=some (.string t))(hf:w.frozen? ⟨b,0,none⟩=false)(hE:w.cell? ⟨6,0,none⟩=some (.iface T v))(ht:t.size≤15000):
   Calls Tryz.prog 170 #[.pointer (some ⟨b,0,none⟩),.int .i64 m] w fun e w' =>
     (ItemOk t m∧e = .returned (.tuple #[.string (t.extract 4 (4+numAt t 4)),.nilIface])∧w.setCell ⟨b,0,none⟩ (.string (cutAt t (4+numAt t 4+fillN (numAt t 4))))=w') ∨
     (¬ ItemOk t m∧e = .returned (.tuple #[.string (bs []),.iface T v])∧Below w.heap.size w w'):=by
 by_cases h4:4≤t.size
 · by_cases hm:(numAt t 4:Int)≤m
   · by_cases hs:4+numAt t 4+fillN (numAt t 4)≤t.size
     · cases hz:zerosB (t.extract (4+numAt t 4) (4+numAt t 4+fillN (numAt t 4)))
       · exact (rBytes_fill b t m T v w hc hE h4 (by omega) hm hs hz).mono fun e w' h=>Or.inr ⟨fun k=>Bool.noConfusion (hz.symm.trans k.2.2.2),h⟩
       · exact (rBytes_ok b t m w hc hf h4 (by omega) hm hs hz).mono fun e w' h=>Or.inl ⟨⟨h4,hm,hs,hz⟩,h⟩
     · exact (rBytes_few b t m T v w hc hE h4 (by omega) hm (by omega)).mono fun e w' h=>Or.inr ⟨fun k=>hs k.2.2.1,h⟩
   · exact (rBytes_many b t m T v w hc hE h4 (by omega) (by omega)).mono fun e w' h=>Or.inr ⟨fun k=>hm k.2.1,h⟩
 · exact (rBytes_short b t m T v w hc hE (by omega)).mono fun e w' h=>Or.inr ⟨fun k=>h4 k.1,h⟩
end
end Go.Proofs.YtbdfjbmocifhmaaGreatDoor
