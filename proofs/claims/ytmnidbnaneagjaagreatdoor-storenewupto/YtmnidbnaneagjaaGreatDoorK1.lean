import Derived.Test.YtmnidbnaneagjaaGreatDoorProg
import Derived.Test.YtmnidbnaneagjaaGreatDoorK0
import Derived.WalkKit
import Derived.WalkSpells
import Derived.Deep.RegionWith
import Derived.Lib.Strings
namespace Go.Proofs.YtmnidbnaneagjaaGreatDoor
section
open Go Go.RowKit Go.Deep
def okC (c:Nat):Bool:=decide (97≤c∧c≤122∨65≤c∧c≤90∨48≤c∧c≤57∨c=46∨c=45∨c=95)
def OkN (s:ByteArray):Prop:=1≤s.size∧s.size≤24∧(s.toList==[46])=false∧(s.toList==[46,46])=false∧∀ x,(hx:x < s.size)→okC s[x].toNat=true
theorem classes (c:Nat):(okC c=true∧(97≤c∧c≤122∨65≤c∧c≤90∨48≤c∧c≤57∨46≤c∧c≤46∨45≤c∧c≤45∨95≤c∧c≤95))∨(okC c=false∧(0≤c∧c≤44∨47≤c∧c≤47∨58≤c∧c≤64∨91≤c∧c≤94∨96≤c∧c≤96∨123≤c∧123≤c)):=by
 by_cases h:97≤c∧c≤122∨65≤c∧c≤90∨48≤c∧c≤57∨c=46∨c=45∨c=95
 · exact Or.inl ⟨decide_eq_true h,by omega⟩
 · exact Or.inr ⟨decide_eq_false h,by omega⟩
def cellsT (L:List (List UInt8)):List Value:=L.map fun p => .string (bs p)
end
end Go.Proofs.YtmnidbnaneagjaaGreatDoor
