import Derived.ProofKit
namespace Go.Proofs.YtodldddakjmonaaGreatDoor
section
open Go
def rowOf {α:Type}(c:α→List Value):List α→List Value
 | []=>[]
 | a::l=>c a++rowOf c l
section
variable {α:Type}{c:α→List Value}{n:Nat}
theorem rowOf_len (hc:∀ a,(c a).length=n)(l:List α):(rowOf c l).length=l.length*n:=by
 induction l with
 | nil=>simp [rowOf]
 | cons a l ih=>simp [rowOf,hc,ih,Nat.add_mul];omega
theorem rowOf_get (hc:∀ a,(c a).length=n)(l:List α)(i j:Nat)(a:α)(hj:j < n)(hi:l[i]?=some a):(rowOf c l)[i*n+j]?=(c a)[j]?:=by
 induction l generalizing i with
 | nil=>cases hi
 | cons b l ih =>
  cases i with
  | zero =>
   simp at hi;subst hi;simp only [rowOf,Nat.zero_mul,Nat.zero_add];rw [List.getElem?_append_left (by rw [hc];exact hj)]
  | succ i =>
   simp at hi;simp only [rowOf];rw [List.getElem?_append_right (by rw [hc,Nat.add_mul];omega),hc,show (i+1)*n+j - n=i*n+j by rw [Nat.add_mul];omega];exact ih i hi
theorem rowOf_append (l l':List α):rowOf c (l++l')=rowOf c l++rowOf c l':=by
 induction l with
 | nil=>rfl
 | cons a l ih=>simp [rowOf,ih]
theorem rowOf_set (hc:∀ a,(c a).length=n)(l:List α)(i j:Nat)(a a':α)(v:Value)(hj:j < n)(hi:l[i]?=some a)(ha:c a'=(c a).set j v):(rowOf c l).set (i*n+j) v=rowOf c (l.set i a'):=by
 induction l generalizing i with
 | nil=>cases hi
 | cons b l ih =>
  cases i with
  | zero =>
   simp at hi;subst hi;simp only [rowOf,List.set_cons_zero,Nat.zero_mul,Nat.zero_add,ha];rw [List.set_append_left _ _ (by rw [hc];exact hj)]
  | succ i =>
   simp at hi;simp only [rowOf,List.set_cons_succ];rw [List.set_append_right _ _ (by rw [hc,Nat.add_mul];omega),hc,show (i+1)*n+j - n=i*n+j by rw [Nat.add_mul];omega,ih i hi]
theorem rowOf_take (hc:∀ a,(c a).length=n)(l:List α)(k:Nat):rowOf c (l.take k)=(rowOf c l).take (k*n):=by
 induction l generalizing k with
 | nil=>simp [rowOf]
 | cons a l ih =>
  cases k with
  | zero=>simp [rowOf]
  | succ k =>
   simp only [List.take_succ_cons,rowOf,ih];rw [List.take_append,hc,List.take_of_length_le (l:=c a) (by rw [hc,Nat.add_mul];omega),show (k+1)*n - n=k*n by rw [Nat.add_mul];omega]
theorem rowOf_drop (hc:∀ a,(c a).length=n)(l:List α)(k:Nat):rowOf c (l.drop k)=(rowOf c l).drop (k*n):=by
 induction l generalizing k with
 | nil=>simp [rowOf]
 | cons a l ih =>
  cases k with
  | zero=>simp [rowOf]
  | succ k =>
   simp only [List.drop_succ_cons,rowOf,ih];rw [List.drop_append,hc,List.drop_eq_nil_of_le (as:=c a) (by rw [hc,Nat.add_mul];omega),show (k+1)*n - n=k*n by rw [Nat.add_mul];omega];rfl
theorem rowOf_one {p:Value→Prop}(h:∀ a,∀ v∈c a,p v)(l:List α):∀ v∈rowOf c l,p v:=by
 induction l with
 | nil=>intro v hv;cases hv
 | cons a l ih =>
  intro v hv;rcases List.mem_append.1 hv with hv | hv
  · exact h a v hv
  · exact ih v hv
end
structure Nod where
 b:Nat
 K:Int
 Z:Int
 L:Int
 C:Int
 UN:Int
 UG:Int
 S:ByteArray
 H:List Bool
 m:Option Nat
def setN {α:Type}(f:Nat→α)(i:Nat)(v:α):Nat→α:=fun j=>if j=i then v else f j
theorem setN_same {α:Type}(f:Nat→α)(i:Nat)(v:α):setN f i v i=v:=if_pos rfl
theorem setN_other {α:Type}(f:Nat→α){i j:Nat}(v:α)(h:j≠i):setN f i v j=f j:=if_neg h
end
end Go.Proofs.YtodldddakjmonaaGreatDoor
