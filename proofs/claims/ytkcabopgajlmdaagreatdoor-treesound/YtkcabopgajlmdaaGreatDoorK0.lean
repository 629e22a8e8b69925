import Derived.Below
import Derived.Laws.AppendOwn
import Derived.Deep.OwnRows
import Derived.ProofKit
namespace Go.Proofs.YtkcabopgajlmdaaGreatDoor
section
open Go Go.RowKit
def bs (l:List UInt8):ByteArray:=⟨l.toArray⟩
theorem bs_data (l:List UInt8):(bs l).data.toList=l:=by simp [bs]
theorem bs_size (l:List UInt8):(bs l).size=l.length:=by simp [bs,ByteArray.size]
theorem bs_self (s:ByteArray):bs s.data.toList=s:=by simp [bs]
theorem zv {w:World}{a:Addr}{v:Value}(h:w.cell? a=some v):a.block < w.heap.size:=by
 rcases Nat.lt_or_ge a.block w.heap.size with h1 | h1
 · exact h1
 · simp [World.cell?,Array.getElem?_eq_none h1] at h
theorem below_from_drew {B:Nat}{w w1:World}(h:Below B w.drew w1):Below B w w1:=⟨h.os,h.tape,h.output,h.size,h.block⟩
theorem put_cell {w w':World}{a:Addr}{u v:Value}(h:Below w.heap.size (w.setCell a v) w')(hc:w.cell? a=some u):w'.cell? a=some v :=
 (h.cell (p:=a) (zv hc)).trans (World.cell?_setCell_same _ _ _ hc)
theorem put_frozen {w w':World}{a:Addr}{u v:Value}(h:Below w.heap.size (w.setCell a v) w')(hc:w.cell? a=some u):w'.frozen? a=w.frozen? a :=
 (h.frozen (p:=a) (zv hc)).trans (by simp)
theorem put_below {w w':World}{a:Addr}{v:Value}{B:Nat}(h:Below w.heap.size (w.setCell a v) w')(hB:B≤a.block)(hB':B≤w.heap.size):Below B w w' :=
 ((Below.refl _ _).setCell hB v).trans (h.mono hB')
theorem owns_below {w w':World}{base:Nat}{e:TypeId}{size:Nat}{v:Value}{n:Nat}{xs:List Value}(h:w.ownsRow base e size v n xs)(hb:Below w.heap.size w w'):w'.ownsRow base e size v n xs:=by
 obtain ⟨h1,h2⟩:=h;refine ⟨h1,?_⟩;rcases h2 with h2 | ⟨g,cap,cur,hv,hg,hh,r⟩
 · exact Or.inl h2
 · refine Or.inr ⟨g,cap,cur,hv,hg,?_,r⟩
   rw [hb.block g (Array.getElem?_eq_some_iff.1 hh).1];exact hh
theorem put_owns {w w':World}{a:Addr}{u:Value}{base:Nat}{e:TypeId}{size:Nat}{v:Value}{n:Nat}{xs:List Value}(h:Below w.heap.size (w.setCell a u) w')(ho:w.ownsRow base e size v n xs)(ha:a.block < base):w'.ownsRow base e size v n xs :=
 owns_below (ownsRow_setCell_below ho ha u) (by simpa [World.setCell] using h)
structure Only (L:List Nat)(w w':World):Prop where
 os:w'.os=w.os
 tape:w'.tape=w.tape
 output:w'.output=w.output
 size:w.heap.size≤w'.heap.size
 block:∀ k,k < w.heap.size→k∉L→w'.heap[k]?=w.heap[k]?
theorem Only.refl (L:List Nat)(w:World):Only L w w:=⟨rfl,rfl,rfl,Nat.le_refl _,fun _ _ _=>rfl⟩
theorem Only.of_below {w w':World}(h:Below w.heap.size w w')(L:List Nat):Only L w w':=⟨h.os,h.tape,h.output,h.size,fun k hk _=>h.block k hk⟩
theorem Only.to_below {L:List Nat}{w w':World}{B:Nat}(h:Only L w w')(hB:B≤w.heap.size)(hL:∀ k∈L,B≤k):Below B w w' :=
 ⟨h.os,h.tape,h.output,h.size,fun k hk=>h.block k (Nat.lt_of_lt_of_le hk hB) fun hm=>absurd (hL k hm) (by omega)⟩
theorem Only.trans {L L':List Nat}{a b c:World}(h:Only L a b)(k:Only L' b c)(hL:∀ i∈L',i∈L∨a.heap.size≤i):Only L a c :=
 ⟨k.os.trans h.os,k.tape.trans h.tape,k.output.trans h.output,Nat.le_trans h.size k.size,fun i hi hn =>
  (k.block i (Nat.lt_of_lt_of_le hi h.size) fun hm=>(hL i hm).elim hn (fun x=>absurd x (by omega))).trans (h.block i hi hn)⟩
theorem Only.mono {L L':List Nat}{a b:World}(h:Only L a b)(hL:∀ i∈L,i∈L'∨a.heap.size≤i):Only L' a b :=
 ⟨h.os,h.tape,h.output,h.size,fun i hi hn=>h.block i hi fun hm=>(hL i hm).elim hn (fun x=>absurd x (by omega))⟩
theorem Only.alloc {L:List Nat}{a w:World}(h:Only L a w)(o:Obj):Only L a (w.alloc o) :=
 h.trans (Only.of_below ((Below.refl _ _).alloc (Nat.le_refl _) o) []) (fun _ k=>by cases k)
theorem Only.drew {L:List Nat}{a w:World}(h:Only L a w):Only L a w.drew:=⟨h.os,h.tape,h.output,h.size,h.block⟩
theorem Only.setCell {L:List Nat}{a w:World}(h:Only L a w){p:Addr}(hp:p.block∈L∨a.heap.size≤p.block)(u:Value):Only L a (w.setCell p u):=by
 have hb:Below 0 w (w.setCell p u):=(Below.refl _ _).setCell (Nat.zero_le _) u;exact ⟨hb.os.trans h.os,hb.tape.trans h.tape,hb.output.trans h.output,Nat.le_trans h.size hb.size,fun i hi hn=>(Below.heap_setCell w p u i (fun e=>hp.elim (fun x=>hn (e ▸ x)) (fun x=>absurd x (by omega)))).trans (h.block i hi hn)⟩
theorem Only.grown {L:List Nat}{a w w':World}{row:Option Nat}(h:Only L a w)(hg:w.grownBy w' row)(hr:∀ k,row=some k→k∈L∨a.heap.size≤k):Only L a w' :=
 ⟨hg.os.trans h.os,hg.tape.trans h.tape,hg.output.trans h.output,Nat.le_trans h.size hg.size,fun i hi hn =>
  (hg.block i (Nat.lt_of_lt_of_le hi h.size) fun e=>(hr i e.symm).elim hn (fun x=>absurd x (by omega))).trans (h.block i hi hn)⟩
theorem Only.cell {L:List Nat}{w w':World}(h:Only L w w'){p:Addr}(hp:p.block < w.heap.size)(hn:p.block∉L):w'.cell? p=w.cell? p:=World.cell?_of_block (w:=w) (h.block p.block hp hn)
theorem Only.frozen {L:List Nat}{w w':World}(h:Only L w w'){p:Addr}(hp:p.block < w.heap.size)(hn:p.block∉L):w'.frozen? p=w.frozen? p:=World.frozen?_of_block (w:=w) (h.block p.block hp hn)
theorem Only.owns {L:List Nat}{w w':World}{base:Nat}{e:TypeId}{size:Nat}{v:Value}{n:Nat}{xs:List Value}(h:Only L w w')(ho:w.ownsRow base e size v n xs)(hn:∀ k,v.ownBlock=some k→k∉L):w'.ownsRow base e size v n xs:=by
 obtain ⟨h1,h2⟩:=ho;refine ⟨h1,?_⟩;rcases h2 with h2 | ⟨g,cap,cur,hv,hg,hh,r⟩
 · exact Or.inl h2
 · have hlt:g < w.heap.size:=(Array.getElem?_eq_some_iff.1 hh).1
   exact Or.inr ⟨g,cap,cur,hv,hg,(h.block g hlt (hn g (by rw [hv];rfl))).trans hh,r⟩
end
section
open Go
def zer (k:Nat):ByteArray:=bs (List.replicate k 0)
theorem zer_size (k:Nat):(zer k).size=k:=by unfold zer;rw [bs_size];simp
def shrinkTo (H:List Bool)(n j:Nat):List Bool:=H.mapIdx fun k x=>if k < j then x || decide (n≤k*64) else x
theorem shrinkTo_len (H:List Bool)(n j:Nat):(shrinkTo H n j).length=H.length:=by simp [shrinkTo]
theorem shrinkTo_zero (H:List Bool)(n:Nat):shrinkTo H n 0=H:=by
 apply List.ext_getElem
 · simp [shrinkTo]
 · intro i h1 h2
   simp [shrinkTo]
theorem shrinkTo_yes (H:List Bool)(n j:Nat)(h:n≤j*64):(shrinkTo H n j).set j true=shrinkTo H n (j+1):=by
 apply List.ext_getElem
 · simp [shrinkTo]
 · intro i h1 h2
   rw [List.getElem_set]
   by_cases e:j=i
   · subst e
     simp [shrinkTo,h]
   · rw [if_neg e]
     simp only [shrinkTo,List.getElem_mapIdx]
     by_cases k:i < j
     · rw [if_pos k,if_pos (by omega)]
     · rw [if_neg k,if_neg (by omega)]
theorem shrinkTo_no (H:List Bool)(n j:Nat)(h:j*64 < n):shrinkTo H n (j+1)=shrinkTo H n j:=by
 apply List.ext_getElem
 · simp [shrinkTo]
 · intro i h1 h2
   simp only [shrinkTo,List.getElem_mapIdx]
   by_cases e:i=j
   · subst e
     rw [if_pos (by omega),if_neg (by omega)];have:decide (n≤i*64)=false:=decide_eq_false (by omega);rw [this];simp
   · by_cases k:i < j
     · rw [if_pos k,if_pos (by omega)]
     · rw [if_neg k,if_neg (by omega)]
def resizeS (S:ByteArray)(n:Nat):ByteArray:=if S.size≤n then S++zer (n - S.size) else S.extract 0 n
def resizeH (S:ByteArray)(H:List Bool)(n:Nat):List Bool:=if S.size≤n then H else shrinkTo H n H.length
def padS (S:ByteArray)(a:Nat):ByteArray:=if S.size < a then S++zer (a - S.size) else S
def tailS (P:ByteArray)(k:Nat):ByteArray:=if k < P.size then P.extract k P.size else ⟨#[]⟩
def writeS (S:ByteArray)(a:Nat)(s:ByteArray):ByteArray:=(padS S a).extract 0 a++s++tailS (padS S a) (a+s.size)
theorem padS_size (S:ByteArray)(a:Nat):a≤(padS S a).size∧(padS S a).size≤max S.size a:=by
 unfold padS
 split
 · rw [ByteArray.size_append,zer_size];omega
 · omega
def moreH (H:List Bool)(i:Nat):List Bool:=H++List.replicate i true
theorem moreH_len (H:List Bool)(i:Nat):(moreH H i).length=H.length+i:=by simp [moreH]
theorem moreH_succ (H:List Bool)(i:Nat):moreH H (i+1)=moreH H i++[true]:=by simp [moreH,List.replicate_succ']
def markH (H:List Bool)(k:Nat):List Bool:=(moreH H (k+1 - H.length)).set k false
def marksH (H:List Bool)(k:Nat):Nat→List Bool
 | 0=>H
 | i+1=>markH (marksH H k i) (k+i)
theorem markH_len (H:List Bool)(k:Nat):(markH H k).length=max H.length (k+1):=by simp [markH,moreH_len];omega
theorem marksH_len (H:List Bool)(k i:Nat):(marksH H k i).length≤max H.length (k+i):=by
 induction i with
 | zero=>simp [marksH];omega
 | succ i ih=>rw [marksH,markH_len];omega
def rowOf {α:Type}(c:α→List Value):List α→List Value
 | []=>[]
 | a::l=>c a++rowOf c l
section
variable {α:Type}{c:α→List Value}{n:Nat}
theorem rowOf_len (hc:∀ a,(c a).length=n)(l:List α):(rowOf c l).length=l.length*n:=by
 induction l with
 | nil=>simp [rowOf]
 | cons a l ih=>simp [rowOf,hc,ih,Nat.add_mul];omega
theorem rowOf_get (hc:∀ a,(c a).length=n)(l:List α)(i j:Nat)(a:α)(hj:j < n)(hi:l[i]?=some a):(rowOf c l)[i*n+j]?=(c a)[j]?:=by
 induction l generalizing i with
 | nil=>cases hi
 | cons b l ih =>
  cases i with
  | zero =>
   simp at hi;subst hi;simp only [rowOf,Nat.zero_mul,Nat.zero_add];rw [List.getElem?_append_left (by rw [hc];exact hj)]
  | succ i =>
   simp at hi;simp only [rowOf];rw [List.getElem?_append_right (by rw [hc,Nat.add_mul];omega),hc,show (i+1)*n+j - n=i*n+j by rw [Nat.add_mul];omega];exact ih i hi
theorem rowOf_append (l l':List α):rowOf c (l++l')=rowOf c l++rowOf c l':=by
 induction l with
 | nil=>rfl
 | cons a l ih=>simp [rowOf,ih]
theorem rowOf_set (hc:∀ a,(c a).length=n)(l:List α)(i j:Nat)(a a':α)(v:Value)(hj:j < n)(hi:l[i]?=some a)(ha:c a'=(c a).set j v):(rowOf c l).set (i*n+j) v=rowOf c (l.set i a'):=by
 induction l generalizing i with
 | nil=>cases hi
 | cons b l ih =>
  cases i with
  | zero =>
   simp at hi;subst hi;simp only [rowOf,List.set_cons_zero,Nat.zero_mul,Nat.zero_add,ha];rw [List.set_append_left _ _ (by rw [hc];exact hj)]
  | succ i =>
   simp at hi;simp only [rowOf,List.set_cons_succ];rw [List.set_append_right _ _ (by rw [hc,Nat.add_mul];omega),hc,show (i+1)*n+j - n=i*n+j by rw [Nat.add_mul];omega,ih i hi]
theorem rowOf_take (hc:∀ a,(c a).length=n)(l:List α)(k:Nat):rowOf c (l.take k)=(rowOf c l).take (k*n):=by
 induction l generalizing k with
 | nil=>simp [rowOf]
 | cons a l ih =>
  cases k with
  | zero=>simp [rowOf]
  | succ k =>
   simp only [List.take_succ_cons,rowOf,ih];rw [List.take_append,hc,List.take_of_length_le (l:=c a) (by rw [hc,Nat.add_mul];omega),show (k+1)*n - n=k*n by rw [Nat.add_mul];omega]
theorem rowOf_drop (hc:∀ a,(c a).length=n)(l:List α)(k:Nat):rowOf c (l.drop k)=(rowOf c l).drop (k*n):=by
 induction l generalizing k with
 | nil=>simp [rowOf]
 | cons a l ih =>
  cases k with
  | zero=>simp [rowOf]
  | succ k =>
   simp only [List.drop_succ_cons,rowOf,ih];rw [List.drop_append,hc,List.drop_eq_nil_of_le (as:=c a) (by rw [hc,Nat.add_mul];omega),show (k+1)*n - n=k*n by rw [Nat.add_mul];omega];rfl
theorem rowOf_one {p:Value→Prop}(h:∀ a,∀ v∈c a,p v)(l:List α):∀ v∈rowOf c l,p v:=by
 induction l with
 | nil=>intro v hv;cases hv
 | cons a l ih =>
  intro v hv;rcases List.mem_append.1 hv with hv | hv
  · exact h a v hv
  · exact ih v hv
end
structure Nod where
 b:Nat
 K:Int
 Z:Int
 L:Int
 C:Int
 UN:Int
 UG:Int
 S:ByteArray
 H:List Bool
 m:Option Nat
def setN {α:Type}(f:Nat→α)(i:Nat)(v:α):Nat→α:=fun j=>if j=i then v else f j
theorem setN_same {α:Type}(f:Nat→α)(i:Nat)(v:α):setN f i v i=v:=if_pos rfl
theorem setN_other {α:Type}(f:Nat→α){i j:Nat}(v:α)(h:j≠i):setN f i v j=f j:=if_neg h
end
end Go.Proofs.YtkcabopgajlmdaaGreatDoor
