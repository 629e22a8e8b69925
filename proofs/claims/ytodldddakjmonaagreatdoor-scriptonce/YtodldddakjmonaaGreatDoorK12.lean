import Derived.Test.YtodldddakjmonaaGreatDoorProg
import Derived.Test.YtodldddakjmonaaGreatDoorK0
import Derived.WalkKit
import Derived.WalkSpells
import Derived.Deep.RegionWith
import Derived.Deep.OwnRows
import Derived.Lib.Strings
namespace Go.Proofs.YtodldddakjmonaaGreatDoor
section
open Go Go.RowKit Go.Deep
def okC (c:Nat):Bool:=decide (97≤c∧c≤122∨65≤c∧c≤90∨48≤c∧c≤57∨c=46∨c=45∨c=95)
def OkN (s:ByteArray):Prop:=1≤s.size∧s.size≤24∧(s.toList==[46])=false∧(s.toList==[46,46])=false∧∀ x,(hx:x < s.size)→okC s[x].toNat=true
theorem classes (c:Nat):(okC c=true∧(97≤c∧c≤122∨65≤c∧c≤90∨48≤c∧c≤57∨46≤c∧c≤46∨45≤c∧c≤45∨95≤c∧c≤95))∨(okC c=false∧(0≤c∧c≤44∨47≤c∧c≤47∨58≤c∧c≤64∨91≤c∧c≤94∨96≤c∧c≤96∨123≤c∧123≤c)):=by
 by_cases h:97≤c∧c≤122∨65≤c∧c≤90∨48≤c∧c≤57∨c=46∨c=45∨c=95
 · exact Or.inl ⟨decide_eq_true h,by omega⟩
 · exact Or.inr ⟨decide_eq_false h,by omega⟩
def TextsIn (w:World)(a:Option Addr)(n:Nat)(T:Nat→ByteArray):Prop :=
 n=0∨∃ ab ao,a=some ⟨ab,ao,none⟩∧∀ i,i < n→w.cell? ⟨ab,ao+i,none⟩=some (.string (T i))
theorem TextsIn.below {w w':World}{a:Option Addr}{n B:Nat}{T:Nat→ByteArray}(h:TextsIn w a n T)(hb:Below B w w')(hB:w.heap.size≤B):TextsIn w' a n T:=by
 rcases h with h | ⟨ab,ao,ha,hc⟩
 · exact Or.inl h
 · exact Or.inr ⟨ab,ao,ha,fun i hi=>(hb.cell (p:=⟨ab,ao+i,none⟩) (Nat.lt_of_lt_of_le (lt_of_cell (hc i hi)) hB)).trans (hc i hi)⟩
def PathIs (n:Nat)(T:Nat→ByteArray)(code place:Int):Prop :=
 (∃ i,i < n∧¬ OkN (T i)∧(∀ k,k < i→OkN (T k))∧code=4∧place=(i:Int))∨((∀ k,k < n→OkN (T k))∧12 < n∧code=2∧place = -1)∨((∀ k,k < n→OkN (T k))∧n≤12∧code=0∧place = -1)
def sstep (st:List (List UInt8)×List UInt8)(c:UInt8):List (List UInt8)×List UInt8:=if c.toNat=47 then (st.1++[st.2],[]) else (st.1,st.2++[c])
def scan (l:List UInt8):List (List UInt8)×List UInt8:=l.foldl sstep ([],[])
def wordsOf (l:List UInt8):List (List UInt8):=(scan (l.drop 1)).1++[(scan (l.drop 1)).2]
def cellsT (L:List (List UInt8)):List Value:=L.map fun p => .string (bs p)
end
end Go.Proofs.YtodldddakjmonaaGreatDoor
