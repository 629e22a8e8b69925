import Derived.Test.YtmfcfkomdflhlaaGreatDoorK48
import Derived.Deep.Strs
import Derived.Deep.Slices
import Derived.OpenShut
import Derived.Lib.SmallJoins
set_option maxRecDepth 100000
set_option maxHeartbeats 8000000
namespace Go.Proofs.YtmfcfkomdflhlaaGreatDoor
section
open Go Go.RowKit Go.Deep Go.Maps
theorem once_short (A:Nat→Addr)(w:World)(nm:ByteArray)(n:Int)(len cap:Nat)(ad:Option Addr)(hE:Errs w A)(hc:n < 0∨10 < n∨60 < len∨100 < nm.size):
   Calls Tryz.prog 3 #[.string nm,.int .i64 n,.slice ad len cap] w fun e w'=>e = .returned (.bool true)∧Below w.heap.size w w':=by
 have H:Hid (Calls Tryz.prog 4 #[] w fun e w'=>e = .returned (.bool true)∧Below w.heap.size w w'):=asks_any A w hE;clear hE
 by_cases h1:n < 0
 · have d1:decide (n < 0)=true:=decide_eq_true h1
   go_enter Tryz.func3,Tryz.ntmps3
   go_wp2_with (go_at_call 4;refine H.out.mono ?_;rintro e w1 ⟨rfl,hb⟩;have B1:Hid (Below w.heap.size w w1):=hb;clear hb)
   go_ret
   exact ⟨rfl,B1.out⟩
 · have d1:decide (n < 0)=false:=decide_eq_false h1
   by_cases h2:10 < n
   · have d2:decide (10 < n)=true:=decide_eq_true h2
     go_enter Tryz.func3,Tryz.ntmps3
     go_wp2_with (go_at_call 4;refine H.out.mono ?_;rintro e w1 ⟨rfl,hb⟩;have B1:Hid (Below w.heap.size w w1):=hb;clear hb)
     go_ret
     exact ⟨rfl,B1.out⟩
   · have d2:decide (10 < n)=false:=decide_eq_false h2
     by_cases h3:60 < len
     · have d3:decide ((60:Int) < (len:Int))=true:=decide_eq_true (by omega)
       go_enter Tryz.func3,Tryz.ntmps3
       go_wp2_with (go_at_call 4;refine H.out.mono ?_;rintro e w1 ⟨rfl,hb⟩;have B1:Hid (Below w.heap.size w w1):=hb;clear hb)
       go_ret
       exact ⟨rfl,B1.out⟩
     · have d3:decide ((60:Int) < (len:Int))=false:=decide_eq_false (by omega)
       have d4:decide ((100:Int) < (nm.size:Int))=true:=decide_eq_true (by omega)
       go_enter Tryz.func3,Tryz.ntmps3
       go_wp2_with (go_at_call 4;refine H.out.mono ?_;rintro e w1 ⟨rfl,hb⟩;have B1:Hid (Below w.heap.size w w1):=hb;clear hb)
       go_ret
       exact ⟨rfl,B1.out⟩
def IsInts (w:World)(a:Option Addr)(len:Nat):Prop:=∃ P:Nat→Int,∀ j,j < len→∃ ab ao,a=some ⟨ab,ao,none⟩∧ab < w.heap.size∧w.cell? ⟨ab,ao+j,none⟩=some (.int .i64 (P j))
theorem Tryz.cellsIntO:Tryz.prog.cellsOf 3=1:=by kernel_rfl
theorem choose_ltO {α:Type}[Inhabited α]{n:Nat}{p:Nat→α→Prop}(h:∀ i,i < n→∃ a,p i a):∃ f:Nat→α,∀ i,i < n→p i (f i) :=
 ⟨fun i=>if hi:i < n then Classical.choose (h i hi) else default,fun i hi=>by simp only [hi,dif_pos];exact Classical.choose_spec (h i hi)⟩
theorem isInts_of {H:Type}{enc:TypeId×Value→H}{w:World}{base n:Nat}{sp:Nat→Bool}{held:Bool}{a:Option Addr}{len cap:Nat}{x:DataW H×List MemPlace}(h:DataW.trod enc Tryz.prog w base sp held n 22 [.slice a len cap]=some x):IsInts w a len:=by
 rcases open_slice Tryz.underlying22 h with ⟨e,_⟩ | ⟨ad,len',cap',m,n',D,Pl,e,_,hl,hm,hmm,_,hx⟩
 · simp at e
   obtain ⟨_,e2,_⟩:=e;exact ⟨fun _=>0,fun j hj=>by omega⟩
 · simp at e
   obtain ⟨rfl,rfl,rfl⟩:=e;rcases Nat.eq_zero_or_pos len with h0 | h0
   · exact ⟨fun _=>0,fun j hj=>by omega⟩
   have hle:len≤m:=by rw [hmm];split<;>omega
   rw [Tryz.cellsIntO] at hx
   obtain ⟨P,hP⟩:=choose_ltO (α:=Int) (n:=len) (p:=fun i p=>w.cells? base (ad.add (i*1)) 1=some [.int .i64 p]) (fun i hi=>by
     obtain ⟨cs',c1,c2⟩:=hx i (by omega);obtain ⟨k,rfl,_,_⟩:=DataW.trod_int Tryz.underlying3 c2
     exact ⟨k,c1⟩)
   obtain ⟨ab,ao,spot⟩:=ad;have cell:∀ i,i < len→w.cell? (((⟨ab,ao,spot⟩:Addr).add (i*1)).add 0)=some (.int .i64 (P i)):=fun i hi=>(World.cells?_some (hP i hi)).2.2 0 (by decide)
   have hspot:spot=none:=by
     have:=cell 0 h0;simp [Addr.add] at this;exact World.cell?_spot this
   subst hspot
   have hadd:∀ i,((⟨ab,ao,none⟩:Addr).add (i*1)).add 0=⟨ab,ao+i,none⟩:=fun i=>by
     unfold Addr.add
     split<;>split<;>simp_all
   refine ⟨P,fun i hi=>?_⟩;have c0:=cell i hi;rw [hadd] at c0;exact ⟨ab,ao,rfl,lt_of_cell c0,c0⟩
theorem once_all (A:Nat→Addr)(w:World)(nm:ByteArray)(n:Int)(len cap:Nat)(ad:Option Addr)(hE:Errs w A)(hp:IsInts w ad len):
   Calls Tryz.prog 3 #[.string nm,.int .i64 n,.slice ad len cap] w fun e w'=>e = .returned (.bool true)∧Below w.heap.size w w':=by
 by_cases hc:n < 0∨10 < n∨60 < len∨100 < nm.size
 · exact once_short A w nm n len cap ad hE hc
 · obtain ⟨P,hP⟩:=hp
   obtain ⟨N,rfl⟩:∃ N:Nat,n=(N:Int):=⟨n.toNat,by omega⟩;exact once_walk A w nm N len cap ad hE (by omega) (by omega) (by omega) P hP
end
end Go.Proofs.YtmfcfkomdflhlaaGreatDoor
