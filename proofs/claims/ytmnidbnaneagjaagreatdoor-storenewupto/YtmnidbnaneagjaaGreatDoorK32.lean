import Derived.Test.YtmnidbnaneagjaaGreatDoorK14
import Derived.Deep.MidRow
namespace Go.Proofs.YtmnidbnaneagjaaGreatDoor
section
open Go Go.RowKit Go.Deep
abbrev Sec:={ l:List UInt8 // l.length=64 }
def zeroS:Sec:=⟨List.replicate 64 0,by simp⟩
def padB (s:ByteArray):Sec:=⟨(s.data.toList++List.replicate 64 0).take 64,by simp⟩
def secC (s:Sec):List Value:=Lib.byteCells s.1
theorem secC_len (s:Sec):(secC s).length=64:=by simp [secC,Lib.byteCells,s.2]
theorem secC_one (s:Sec):∀ v∈secC s,v.oneCell'=true:=Lib.byteCells_one _
structure Wr where
 n:Nat
 was:Sec
 now:Sec
def wrC (x:Wr):List Value := .int .i64 (x.n:Nat)::(secC x.was++secC x.now)
theorem wrC_len (x:Wr):(wrC x).length=129:=by simp [wrC,secC_len]
theorem wrC_one (x:Wr):∀ v∈wrC x,v.oneCell'=true:=by
 intro v hv;rcases List.mem_cons.1 hv with rfl | hv
 · rfl
 · rcases List.mem_append.1 hv with hv | hv
   · exact secC_one _ v hv
   · exact secC_one _ v hv
def undo (sec:List Sec)(wt:List Wr):List Sec:=wt.foldr (fun x l=>l.set x.n x.was) sec
theorem undo_len (sec:List Sec)(wt:List Wr):(undo sec wt).length=sec.length:=by
 induction wt with
 | nil=>rfl
 | cons x l ih=>simpa [undo] using ih
def redo (keep:Nat→Bool)(wt:List Wr)(sec:List Sec):Nat→List Sec
 | 0=>sec
 | i+1=>match wt[i]? with
  | some x=>if keep i then (redo keep wt sec i).set x.n x.now else redo keep wt sec i
  | none=>redo keep wt sec i
theorem redo_len (keep:Nat→Bool)(wt:List Wr)(sec:List Sec)(k:Nat):(redo keep wt sec k).length=sec.length:=by
 induction k with
 | zero=>rfl
 | succ k ih =>
  simp only [redo]
  split
  · split
    · simpa using ih
    · exact ih
  · exact ih
def keepB (l:List Bool)(i:Nat):Bool:=l.getD i false
theorem rowOf_over {α:Type}{c:α→List Value}{n:Nat}(hc:∀ a,(c a).length=n)(l:List α)(i:Nat)(a:α)(hi:i < l.length):overV (rowOf c l) (i*n) (c a)=rowOf c (l.set i a):=by
 have h1:rowOf c (l.set i a)=rowOf c (l.take i)++c a++rowOf c (l.drop (i+1)):=by
  rw [List.set_eq_take_append_cons_drop,if_pos hi,rowOf_append];simp [rowOf]
 rw [h1,rowOf_take hc,rowOf_drop hc,overV,hc,Nat.add_mul,Nat.one_mul]
theorem rowOf_part {α:Type}{c:α→List Value}{n:Nat}(hc:∀ a,(c a).length=n)(l:List α)(i:Nat)(a:α)(hi:l[i]?=some a):∀ j v,(c a)[j]?=some v→(rowOf c l)[i*n+j]?=some v:=fun j v hv=>by
 have hj:j < n:=by rw [← hc a];exact (List.getElem?_eq_some_iff.1 hv).1
 rw [rowOf_get hc l i j a hj hi,hv]
section
variable {P:Program}
theorem own_range {w:World}{base:Nat}{e:TypeId}{k g len cap:Nat}{xs:List Value}(h:w.ownsRow base e k (.slice (some ⟨g,0,none⟩) len cap) len xs)(o:Nat){cs:List Value}(hx:∀ j v,cs[j]?=some v→xs[o+j]?=some v):w.rangeAt g o cs:=fun j v hv=>by
 have h2:=hx j v hv;have hlt:=(List.getElem?_eq_some_iff.1 h2).1;obtain ⟨g',cap',cur,e1,_,hg,_,_,hc,ht⟩:=own_open h (by simp)
 cases e1
 have hxl:xs.length≤len*k:=by rw [← ht];simp;omega
 rw [World.ownsRow.cellAt h _ (by omega),h2]
end
theorem own_set {α:Type}{c:α→List Value}{k:Nat}(hc:∀ a,(c a).length=k){w:World}{base:Nat}{e:TypeId}{g len cap:Nat}{l:List α}{cur:Array Value}(h:w.ownsRow base e k (.slice (some ⟨g,0,none⟩) len cap) l.length (rowOf c l))(hg:w.heap[g]?=some (.cells cur e (0,0)))(hlen:len=l.length){i:Nat}(hi:i < l.length)(a:α):
   (w.setRow g (overV cur.toList (i*k) (c a)).toArray).ownsRow base e k (.slice (some ⟨g,0,none⟩) len cap) (l.set i a).length (rowOf c (l.set i a)):=by
 subst hlen;obtain ⟨g',cap',cur',e1,hb,hg',h1,h2,h3,h4⟩:=own_open h (by simp)
 cases e1
 rw [hg] at hg'
 cases hg'
 have hk:i*k+k≤l.length*k:=by
   have:=Nat.mul_le_mul_right k (show i+1≤l.length from hi)
   rw [Nat.add_mul,Nat.one_mul] at this;exact this
 have hk2:l.length*k≤cur.size:=by rw [h3];exact Nat.mul_le_mul_right k h1
 refine ⟨by rw [rowOf_len hc],Or.inr ⟨g,cap,(overV cur.toList (i*k) (c a)).toArray,by simp,hb,setRow_heap w g _ _ e _ hg,by simpa using h1,h2,?_,?_⟩⟩
 · simp only [List.size_toArray]
   rw [overV_len (by rw [hc];simp;omega)]
   simpa using h3
 · simp only [List.length_set]
   rw [overV_take (by rw [hc];exact hk) (by simpa using hk2),h4,rowOf_over hc l i a hi]
end
end Go.Proofs.YtmnidbnaneagjaaGreatDoor
