import Derived.Test.YtbdfjbmocifhmaaGreatDoorK0
import Derived.Test.YtbdfjbmocifhmaaGreatDoorProg
import Derived.WalkKit
import Derived.Deep.WholeRow
import Derived.Laws.IdiomStrings
import Derived.WalkSpells
import Derived.Deep.RegionWith
set_option maxHeartbeats 8000000
namespace Go.Proofs.YtbdfjbmocifhmaaGreatDoor
section
open Go Go.RowKit
abbrev zI (a:Int):Value := .int .i64 a
abbrev zH (a b:Int):Obj := .cells #[.int .i64 a,.int .i64 b] 35
abbrev zG (a b:Int):Value := .agg #[.int .i64 a,.int .i64 b]
abbrev zP (a:Nat):Value := .pointer (some ⟨a,0,none⟩)
abbrev zA (a b:Nat):Addr:=⟨a,b,none⟩
abbrev zO (f:FuncId)(A:Array Value)(W:World)(v:Value):Prop:=Calls Tryz.prog f A W fun e w'=>e = .returned v∧Only [] W w'
abbrev zQ (a b:World):Prop:=Only [] a b
abbrev zK (f:FuncId)(A:Array Value)(w:World)(R:Ending→World→Prop):Prop:=Calls Tryz.prog f A w R
abbrev zE (f:FuncId)(A:Array Value)(W:World)(v:Value):Prop:=Calls Tryz.prog f A W fun e w'=>e = .returned v∧W=w'
abbrev zF (f:FuncId)(A:Array Value)(W:World)(v:Value):Prop:=Calls Tryz.prog f A W fun e w'=>e = .returned v∧w'=W
theorem zh (w:World)(o:Obj):(w.alloc o).heap[w.heap.size]?=some o:=heap_alloc_last w o
theorem zb {α:Type}[BEq α][LawfulBEq α]{a b:α}(h:a≠b):(a==b)=false:=beq_eq_false_iff_ne.2 h
theorem zT {a b c:World}(h:Hid (Only [] a b))(k:Only [] b c):Hid (Only [] a c):=Only.trans h.out k (fun _ hk=>by cases hk)
end
section
open Go Go.RowKit Go.Deep
theorem Tryz.info5:(Tryz.prog.info? 5).map (fun i=>(i.zero,i.size,i.bytes))=some (some (.int .u8 0),1,1):=by kernel_rfl
def dig (n k x:Nat):Int:=((n / 256 ^ (k - 1 - x) % 256:Nat):Int)
theorem dig_at (n k j:Nat)(h:j < k):(n:Int) / 2 ^ (8*j) % 256=dig n k (k - 1 - j):=by
 unfold dig
 have e:k - 1 - (k - 1 - j)=j:=by omega
 rw [e,show (256:Nat) ^ j=2 ^ (8*j) by rw [Nat.pow_mul]];simp
theorem dig_be (n k x:Nat)(h:x < (be k n).length):dig n k x=(((be k n)[x].toNat:Nat):Int):=by
 rw [be_get];rfl
theorem addr_head (b x:Nat):(⟨b,0,none⟩:Addr).add x=⟨b,x,none⟩:=by
 by_cases h:x=0<;>simp [Addr.add,h]
theorem row_step {wr:World}{b k j n:Nat}{t:TypeId}(hlt:j < k)(h:wr.rowIs b t k (fun x=>if x+j < k then .int .u8 0 else .int .u8 (dig n k x))):
   (wr.setCell ⟨b,k - 1 - j,none⟩ (.int .u8 ((n:Int) / 2 ^ (8*j) % 256))).rowIs b t k (fun x=>if x+(j+1) < k then .int .u8 0 else .int .u8 (dig n k x)):=by
 refine (h.set (k - 1 - j) _).congr fun i hi=>?_
 show (if i=k - 1 - j then _ else if i+j < k then _ else _)=(if i+(j+1) < k then _ else _)
 by_cases e:i=k - 1 - j
 · subst e
   rw [if_pos rfl,if_neg (by omega),dig_at n k j hlt]
 · rw [if_neg e]
   by_cases e2:i+(j+1) < k
   · rw [if_pos e2,if_pos (by omega)]
   · rw [if_neg e2,if_neg (by omega)]
theorem digits_any (n k:Nat)(w:World)(_hn:n < 9223372036854775808)(hk:k≤8):
  Calls Tryz.prog 157 #[.int .i64 n,.int .i64 k] w fun e w'=>e = .returned (.string (bs (be k n)))∧Below w.heap.size w w':=by
 have hmk:=run_make_row' (P:=Tryz.prog) 87 5 (.int .u8 0) 1 Tryz.underlying87 Tryz.info5 rfl .i64 .i64 k (by omega) (by omega)
 go_enter Tryz.func157,Tryz.ntmps157
 go_wp2
 go_loopw [10] (fun i wr=>∃ j:Nat,j≤k∧i = .int .i64 j∧wr.rowIs w.heap.size 5 k (fun x=>if x+j < k then .int .u8 0 else .int .u8 (dig n k x))∧Below w.heap.size w wr) (fun i _=>k - (intOf i).toNat)
 case atStart=>exact ⟨0,Nat.zero_le _,rfl,(World.rowIs_made w (.int .u8 0) k 5).congr (fun i hi=>by simp [hi]),(Below.refl _ _).alloc (Nat.le_refl _) _⟩
 case round =>
  obtain ⟨j,hj,rfl,hrow,hb⟩:=hrel
  by_cases hlt:j < k
  · have hc:=hrow.cell (i:=k - 1 - j) (by omega)
    have hf:=hrow.frozen (k - 1 - j);have R:=row_step hlt hrow
    go_wp2
    go_roundw
    case rel=>exact ⟨j+1,by omega,by go_num,R,hb.setCell (Nat.le_refl _) _⟩
    case measure=>simp [intOf];omega
  · have hcv:=run_convert_bytes_back (P:=Tryz.prog) wr 87 9 5 ⟨w.heap.size,0,none⟩ k (be k n) Tryz.underlying87 Tryz.underlying5 Tryz.underlying9 (fun x hx=>by
     have hx':x < k:=by simpa [be_length] using hx
     have:=hrow.cell hx';rw [← dig_be];rw [addr_head]
     simpa [show ¬ x+j < k by omega] using this)
    rw [be_length] at hcv
    go_wp2
    go_ret
    exact ⟨rfl,hb⟩
theorem isInt_yes (n:Int)(w:World)(_h0:0≤n)(_h1:n≤4294967295):Calls Tryz.prog 159 #[.int .i64 n] w fun e w'=>e = .returned (.bool true)∧w=w':=by
 go_enter Tryz.func159,Tryz.ntmps159
 go_wp2
 go_ret
 exact ⟨rfl,rfl⟩
def fillN (n:Nat):Nat:=(4 - n % 4) % 4
theorem fillN_lt (n:Nat):fillN n < 4:=by unfold fillN;omega
theorem filling_any (n:Nat)(w:World)(_h:n < 9223372036854775000):Calls Tryz.prog 160 #[.int .i64 n] w fun e w'=>e = .returned (.int .i64 (fillN n))∧w=w':=by
 have e:((fillN n:Nat):Int)=(4 - (n:Int) % 4) % 4:=by unfold fillN;omega
 rw [e]
 go_enter Tryz.func160,Tryz.ntmps160
 go_wp2
 go_ret
 exact ⟨rfl,rfl⟩
theorem hasRoom_any (b:Nat)(t:ByteArray)(n:Nat)(w:World)(hc:w.cell? ⟨b,0,none⟩=some (.string t))(_ht:t.size≤4000):
  Calls Tryz.prog 156 #[.pointer (some ⟨b,0,none⟩),.int .i64 n] w fun e w'=>e = .returned (.bool (decide (n+t.size≤4000)))∧w=w':=by
 have e:decide (n+t.size≤4000)=decide ((n:Int)≤4000 - (t.size:Int)):=by
  rw [decide_eq_decide];omega
 rw [e]
 go_enter Tryz.func156,Tryz.ntmps156
 go_wp2
 go_ret
 exact ⟨rfl,rfl⟩
theorem number_ok (b:Nat)(t:ByteArray)(n k:Nat)(w:World)(hc:w.cell? ⟨b,0,none⟩=some (.string t))(hf:w.frozen? ⟨b,0,none⟩=false)(ht:t.size≤4000)(hn:n < 9223372036854775808)(hk:k≤8)(h:k+t.size≤4000):
  Calls Tryz.prog 132 #[.pointer (some ⟨b,0,none⟩),.int .i64 n,.int .i64 k] w fun e w'=>e = .returned .nilIface∧Below w.heap.size (w.setCell ⟨b,0,none⟩ (.string (t++bs (be k n)))) w':=by
 have hd:decide (k+t.size≤4000)=true:=decide_eq_true h
 go_enter Tryz.func132,Tryz.ntmps132
 go_wp2_with (go_at_call 156;refine (hasRoom_any b t k _ hc ht).mono ?_;rintro e w' ⟨rfl,rfl⟩;rw [hd])
 have hlt:b < w.heap.size:=lt_of_cell hc
 have hs:(bs (be k n)).size=k:=by rw [bs_size,be_length]
 have HS:Hid ((bs (be k n)).size=k):=hs;clear hs
 have hs8:(bs (be k n)).size≤8:=by rw [HS.out];exact hk
 go_region_with (go_at_call 157;refine (digits_any n k _ hn hk).mono ?_;rintro e w1 ⟨rfl,hb⟩;have k1:w1.cell? ⟨b,0,none⟩=some (.string t):=(hb.cell (p:=⟨b,0,none⟩) hlt).trans hc;have k2:w1.frozen? ⟨b,0,none⟩=false:=(hb.frozen (p:=⟨b,0,none⟩) hlt).trans hf)
 all_goals
  go_wp2
  go_ret
  exact ⟨rfl,below_set (below_from_drew hb) _ _⟩
theorem number8_ok (b:Nat)(t:ByteArray)(n:Nat)(w:World)(hc:w.cell? ⟨b,0,none⟩=some (.string t))(hf:w.frozen? ⟨b,0,none⟩=false)(ht:t.size≤4000)(hn:n < 9223372036854775808)(h:8+t.size≤4000):
  Calls Tryz.prog 132 #[.pointer (some ⟨b,0,none⟩),.int .i64 n,.int .i64 8] w fun e w'=>e = .returned .nilIface∧Below w.heap.size (w.setCell ⟨b,0,none⟩ (.string (t++bs (be 8 n)))) w' :=
 number_ok b t n 8 w hc hf ht hn (by decide) h
theorem long_ok (b:Nat)(t:ByteArray)(n:Nat)(w:World)(hc:w.cell? ⟨b,0,none⟩=some (.string t))(hf:w.frozen? ⟨b,0,none⟩=false)(ht:t.size≤4000)(h1:n < 9223372036854775808)(h:8+t.size≤4000):
  Calls Tryz.prog 99 #[.pointer (some ⟨b,0,none⟩),.int .i64 n] w fun e w'=>e = .returned .nilIface∧Below w.heap.size (w.setCell ⟨b,0,none⟩ (.string (t++bs (be 8 n)))) w':=by
 go_enter Tryz.func99,Tryz.ntmps99
 go_wp2_with (go_at_call 132;refine (number8_ok b t n _ hc hf ht h1 h).mono ?_;rintro e w' ⟨rfl,hb⟩)
 go_ret
 exact ⟨rfl,hb⟩
theorem text_any (b:Nat)(t:ByteArray)(w:World)(hc:w.cell? ⟨b,0,none⟩=some (.string t)):
  Calls Tryz.prog 101 #[.pointer (some ⟨b,0,none⟩)] w fun e w'=>e = .returned (.string t)∧w=w':=by
 go_enter Tryz.func101,Tryz.ntmps101
 go_wp2
 go_ret
 exact ⟨rfl,rfl⟩
def itemS (s:ByteArray):ByteArray:=bs (be 4 s.size)++s++bs (be (fillN s.size) 0)
theorem itemS_size (s:ByteArray):(itemS s).size=4+s.size+fillN s.size:=by
 simp [itemS,ByteArray.size_append,bs_size,be_length]
theorem digits_len (n:Nat)(w:World)(hn:n < 9223372036854775808):
 Calls Tryz.prog 157 #[.int .i64 n,.int .i64 4] w fun e w'=>e = .returned (.string (bs (be 4 n)))∧Below w.heap.size w w':=digits_any n 4 w hn (by decide)
theorem digits_zero (k:Nat)(w:World)(hk:k≤8):
 Calls Tryz.prog 157 #[.int .i64 0,.int .i64 k] w fun e w'=>e = .returned (.string (bs (be k 0)))∧Below w.heap.size w w':=digits_any 0 k w (by decide) hk
theorem bytes_full (b:Nat)(t s:ByteArray)(E:Value)(w:World)(hc:w.cell? ⟨b,0,none⟩=some (.string t))(ht:t.size≤4000)(hE:w.cell? ⟨4,0,none⟩=some E)(hs:s.size≤5000)(h:4000 < (itemS s).size+t.size):
  Calls Tryz.prog 134 #[.pointer (some ⟨b,0,none⟩),.string s] w fun e w'=>e = .returned E∧w=w':=by
 rw [itemS_size] at h;have hz:=fillN_lt s.size;have hr:=hasRoom_any b t (4+s.size+fillN s.size) w hc ht
 rw [show decide (4+s.size+fillN s.size+t.size≤4000)=false from decide_eq_false (by omega),show ((4+s.size+fillN s.size:Nat):Int)=4+(s.size:Int)+(fillN s.size:Int) by omega] at hr
 have H:Hid _:=hr;clear hr
 go_enter Tryz.func134,Tryz.ntmps134
 go_wp2_with (first
  | (go_at_call 159;refine (isInt_yes _ _ (by omega) (by omega)).mono ?_;rintro e w' ⟨rfl,rfl⟩)
  | (go_at_call 160;refine (filling_any s.size _ (by omega)).mono ?_;rintro e w' ⟨rfl,rfl⟩)
  | (go_at_call 156;refine Calls.mono H.out ?_;rintro e w' ⟨rfl,rfl⟩))
 go_ret
 exact ⟨rfl,rfl⟩
theorem bytes_ok (b:Nat)(t s:ByteArray)(w:World)(hc:w.cell? ⟨b,0,none⟩=some (.string t))(hf:w.frozen? ⟨b,0,none⟩=false)(ht:t.size≤4000)(hs:s.size≤5000)(h:(itemS s).size+t.size≤4000):
  Calls Tryz.prog 134 #[.pointer (some ⟨b,0,none⟩),.string s] w fun e w'=>e = .returned .nilIface∧Below w.heap.size (w.setCell ⟨b,0,none⟩ (.string (t++itemS s))) w':=by
 have HI:Hid (itemS s=bs (be 4 s.size)++s++bs (be (fillN s.size) 0)):=rfl;rw [itemS_size] at h;have hz:=fillN_lt s.size;have hr:=hasRoom_any b t (4+s.size+fillN s.size) w hc ht
 rw [show decide (4+s.size+fillN s.size+t.size≤4000)=true from decide_eq_true (by omega),show ((4+s.size+fillN s.size:Nat):Int)=4+(s.size:Int)+(fillN s.size:Int) by omega] at hr
 have H:Hid _:=hr;clear hr;have hlt:b < w.heap.size:=lt_of_cell hc
 have hz4:(bs (be 4 s.size)).size≤4:=by rw [bs_size,be_length];exact Nat.le_refl _
 have hz0:(bs (be (fillN s.size) 0)).size≤4:=by rw [bs_size,be_length];omega
 have hz1:(bs (be 4 s.size)++s).size≤5004:=by rw [ByteArray.size_append];omega
 have hz2:(bs (be 4 s.size)++s++bs (be (fillN s.size) 0)).size≤5008:=by rw [ByteArray.size_append];omega
 go_enter Tryz.func134,Tryz.ntmps134
 go_wp2_with (first
  | (go_at_call 159;refine (isInt_yes _ _ (by omega) (by omega)).mono ?_;rintro e w' ⟨rfl,rfl⟩)
  | (go_at_call 160;refine (filling_any s.size _ (by omega)).mono ?_;rintro e w' ⟨rfl,rfl⟩)
  | (go_at_call 156;refine Calls.mono H.out ?_;rintro e w' ⟨rfl,rfl⟩))
 go_region_with (first
  | (go_at_call_of 157 (Value.int IntKind.i64 (4:Int));refine (digits_len s.size _ (by omega)).mono ?_;rintro e w1 ⟨rfl,hb⟩;have k1:w1.cell? ⟨b,0,none⟩=some (.string t):=(hb.cell (p:=⟨b,0,none⟩) hlt).trans hc;have k2:w1.frozen? ⟨b,0,none⟩=false:=(hb.frozen (p:=⟨b,0,none⟩) hlt).trans hf;have hl1:b < w1.heap.size:=Nat.lt_of_lt_of_le hlt hb.size)
  | (go_at_call_of 157 (Value.int IntKind.i64 (0:Int));refine (digits_zero (fillN s.size) _ (by omega)).mono ?_;rintro e w2 ⟨rfl,hb2⟩;have k3:w2.cell? ⟨b,0,none⟩=some (.string t):=(hb2.cell (p:=⟨b,0,none⟩) hl1).trans k1;have k4:w2.frozen? ⟨b,0,none⟩=false:=(hb2.frozen (p:=⟨b,0,none⟩) hl1).trans k2;clear k1 k2))
 all_goals
  go_wp2
  go_ret
  exact ⟨rfl,HI.out ▸ below_set ((below_from_drew hb).trans (hb2.mono hb.size)) _ _⟩
end
end Go.Proofs.YtbdfjbmocifhmaaGreatDoor
