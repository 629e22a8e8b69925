import Derived.Below
import Derived.Laws.AppendOwn
namespace Go.Proofs.YtodldddakjmonaaGreatDoor
section
open Go Go.RowKit
def be:Nat→Nat→List UInt8
 | 0,_=>[]
 | k+1,n=>UInt8.ofNat (n / 256 ^ k)::be k n
def num (l:List UInt8):Nat:=l.foldl (fun a b=>a*256+b.toNat) 0
def bs (l:List UInt8):ByteArray:=⟨l.toArray⟩
theorem be_length (k n:Nat):(be k n).length=k:=by
 induction k with
 | zero=>rfl
 | succ k ih=>simp [be,ih]
theorem num_from (l:List UInt8)(a:Nat):l.foldl (fun a b=>a*256+b.toNat) a=a*256 ^ l.length+num l:=by
 induction l generalizing a with
 | nil=>simp [num]
 | cons b l ih =>
  show l.foldl _ (a*256+b.toNat)=a*256 ^ (l.length+1)+l.foldl _ (0*256+b.toNat);rw [ih,ih,Nat.pow_succ,Nat.add_mul,Nat.zero_mul,Nat.zero_add,Nat.mul_comm (256 ^ l.length) 256,Nat.mul_assoc,Nat.add_assoc]
theorem num_cons (b:UInt8)(l:List UInt8):num (b::l)=b.toNat*256 ^ l.length+num l:=by
 have:=num_from l b.toNat
 simpa [num] using this
theorem num_snoc (l:List UInt8)(b:UInt8):num (l++[b])=num l*256+b.toNat:=by
 simp [num,List.foldl_append]
theorem num_lt (l:List UInt8):num l < 256 ^ l.length:=by
 induction l with
 | nil=>simp [num]
 | cons b l ih =>
  rw [num_cons,List.length_cons,Nat.pow_succ];have hb:b.toNat < 256:=b.toNat_lt
  have:b.toNat*256 ^ l.length+256 ^ l.length≤256*256 ^ l.length:=by
   rw [← Nat.succ_mul];exact Nat.mul_le_mul_right _ hb
  rw [Nat.mul_comm (256 ^ l.length)];omega
theorem num_be (k n:Nat):num (be k n)=n % 256 ^ k:=by
 induction k with
 | zero=>simp [be,num,Nat.mod_one]
 | succ k ih =>
  rw [be,num_cons,be_length,ih,UInt8.toNat_ofNat'];show n / 256 ^ k % 256*256 ^ k+n % 256 ^ k=n % 256 ^ (k+1);rw [Nat.pow_succ,Nat.mod_mul,Nat.mul_comm,Nat.add_comm]
theorem be_get (k n x:Nat)(hx:x < (be k n).length):(be k n)[x].toNat=n / 256 ^ (k - 1 - x) % 256:=by
 induction k generalizing x with
 | zero=>simp [be] at hx
 | succ k ih =>
  cases x with
  | zero =>
   show (UInt8.ofNat (n / 256 ^ k)).toNat=_;rw [UInt8.toNat_ofNat'];rfl
  | succ x =>
   have hx':x < (be k n).length:=by simpa [be] using hx
   show (be k n)[x].toNat=_;rw [ih x hx']
   have:k - 1 - x=k+1 - 1 - (x+1):=by omega
   rw [this]
theorem bs_data (l:List UInt8):(bs l).data.toList=l:=by simp [bs]
theorem bs_size (l:List UInt8):(bs l).size=l.length:=by simp [bs,ByteArray.size]
theorem bs_self (s:ByteArray):bs s.data.toList=s:=by simp [bs]
theorem data_inj {a b:ByteArray}(h:a.data.toList=b.data.toList):a=b:=by
 rw [← bs_self a,← bs_self b,h]
theorem bs_append (a b:List UInt8):bs a++bs b=bs (a++b):=by
 apply data_inj;simp [bs]
theorem num_take_succ (l:List UInt8)(k:Nat)(h:k < l.length):num (l.take (k+1))=num (l.take k)*256+l[k].toNat:=by
 rw [List.take_succ_eq_append_getElem h,num_snoc]
theorem num_take_lt (l:List UInt8)(k:Nat):num (l.take k) < 256 ^ k :=
 Nat.lt_of_lt_of_le (num_lt _) (Nat.pow_le_pow_right (by decide) (List.length_take_le _ _))
theorem lt_of_cell {w:World}{a:Addr}{v:Value}(h:w.cell? a=some v):a.block < w.heap.size:=by
 rcases Nat.lt_or_ge a.block w.heap.size with h1 | h1
 · exact h1
 · simp [World.cell?,Array.getElem?_eq_none h1] at h
theorem below_set {B:Nat}{w w1:World}(h:Below B w w1)(a:Addr)(v:Value):Below B (w.setCell a v) (w1.setCell a v):=by
 refine ⟨h.os,h.tape,h.output,by simpa [World.setCell] using h.size,fun k hk=>?_⟩;simp only [World.setCell,Array.getElem?_modify];rw [h.block k hk]
theorem below_from_drew {B:Nat}{w w1:World}(h:Below B w.drew w1):Below B w w1:=⟨h.os,h.tape,h.output,h.size,h.block⟩
theorem put_cell {w w':World}{a:Addr}{u v:Value}(h:Below w.heap.size (w.setCell a v) w')(hc:w.cell? a=some u):w'.cell? a=some v :=
 (h.cell (p:=a) (lt_of_cell hc)).trans (World.cell?_setCell_same _ _ _ hc)
theorem put_frozen {w w':World}{a:Addr}{u v:Value}(h:Below w.heap.size (w.setCell a v) w')(hc:w.cell? a=some u):w'.frozen? a=w.frozen? a :=
 (h.frozen (p:=a) (lt_of_cell hc)).trans (by simp)
theorem put_below {w w':World}{a:Addr}{v:Value}{B:Nat}(h:Below w.heap.size (w.setCell a v) w')(hB:B≤a.block)(hB':B≤w.heap.size):Below B w w' :=
 ((Below.refl _ _).setCell hB v).trans (h.mono hB')
theorem owns_below {w w':World}{base:Nat}{e:TypeId}{size:Nat}{v:Value}{n:Nat}{xs:List Value}(h:w.ownsRow base e size v n xs)(hb:Below w.heap.size w w'):w'.ownsRow base e size v n xs:=by
 obtain ⟨h1,h2⟩:=h;refine ⟨h1,?_⟩;rcases h2 with h2 | ⟨g,cap,cur,hv,hg,hh,r⟩
 · exact Or.inl h2
 · refine Or.inr ⟨g,cap,cur,hv,hg,?_,r⟩
   rw [hb.block g (Array.getElem?_eq_some_iff.1 hh).1];exact hh
theorem put_owns {w w':World}{a:Addr}{u:Value}{base:Nat}{e:TypeId}{size:Nat}{v:Value}{n:Nat}{xs:List Value}(h:Below w.heap.size (w.setCell a u) w')(ho:w.ownsRow base e size v n xs)(ha:a.block < base):w'.ownsRow base e size v n xs :=
 owns_below (ownsRow_setCell_below ho ha u) (by simpa [World.setCell] using h)
end
end Go.Proofs.YtodldddakjmonaaGreatDoor
