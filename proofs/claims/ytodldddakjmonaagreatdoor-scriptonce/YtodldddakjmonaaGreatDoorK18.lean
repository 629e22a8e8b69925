import Derived.Laws.IdiomStrings
import Derived.Test.YtodldddakjmonaaGreatDoorK16
import Derived.Laws.IdiomRangeMap
import Derived.Deep.LoopGhost
import Derived.WideKeyEntry
import Derived.Laws.Bits64b
set_option maxHeartbeats 8000000
namespace Go.Proofs.YtodldddakjmonaaGreatDoor
section
open Go Go.RowKit Go.Deep
theorem Tryz.info5:(Tryz.prog.info? 5).map (fun i=>(i.zero,i.size,i.bytes))=some (some (.int .u8 0),1,1):=by kernel_rfl
def dig (n k x:Nat):Int:=((n / 256 ^ (k - 1 - x) % 256:Nat):Int)
theorem dig_at (n k j:Nat)(h:j < k):(n:Int) / 2 ^ (8*j) % 256=dig n k (k - 1 - j):=by
 unfold dig
 have e:k - 1 - (k - 1 - j)=j:=by omega
 rw [e,show (256:Nat) ^ j=2 ^ (8*j) by rw [Nat.pow_mul]];simp
theorem dig_be (n k x:Nat)(h:x < (be k n).length):dig n k x=(((be k n)[x].toNat:Nat):Int):=by
 rw [be_get];rfl
theorem addr_head (b x:Nat):(⟨b,0,none⟩:Addr).add x=⟨b,x,none⟩:=by
 by_cases h:x=0<;>simp [Addr.add,h]
theorem row_step {wr:World}{b k j n:Nat}{t:TypeId}(hlt:j < k)(h:wr.rowIs b t k (fun x=>if x+j < k then .int .u8 0 else .int .u8 (dig n k x))):
   (wr.setCell ⟨b,k - 1 - j,none⟩ (.int .u8 ((n:Int) / 2 ^ (8*j) % 256))).rowIs b t k (fun x=>if x+(j+1) < k then .int .u8 0 else .int .u8 (dig n k x)):=by
 refine (h.set (k - 1 - j) _).congr fun i hi=>?_
 show (if i=k - 1 - j then _ else if i+j < k then _ else _)=(if i+(j+1) < k then _ else _)
 by_cases e:i=k - 1 - j
 · subst e
   rw [if_pos rfl,if_neg (by omega),dig_at n k j hlt]
 · rw [if_neg e]
   by_cases e2:i+(j+1) < k
   · rw [if_pos e2,if_pos (by omega)]
   · rw [if_neg e2,if_neg (by omega)]
theorem digits_any (n k:Nat)(w:World)(_hn:n < 9223372036854775808)(hk:k≤8):
  Calls Tryz.prog 200 #[.int .i64 n,.int .i64 k] w fun e w'=>e = .returned (.string (bs (be k n)))∧Below w.heap.size w w':=by
 have hmk:=run_make_row' (P:=Tryz.prog) 76 5 (.int .u8 0) 1 Tryz.underlying76 Tryz.info5 rfl .i64 .i64 k (by omega) (by omega)
 go_enter Tryz.func200,Tryz.ntmps200
 go_wp2
 go_loopw [10] (fun i wr=>∃ j:Nat,j≤k∧i = .int .i64 j∧wr.rowIs w.heap.size 5 k (fun x=>if x+j < k then .int .u8 0 else .int .u8 (dig n k x))∧Below w.heap.size w wr) (fun i _=>k - (intOf i).toNat)
 case atStart=>exact ⟨0,Nat.zero_le _,rfl,(World.rowIs_made w (.int .u8 0) k 5).congr (fun i hi=>by simp [hi]),(Below.refl _ _).alloc (Nat.le_refl _) _⟩
 case round =>
  obtain ⟨j,hj,rfl,hrow,hb⟩:=hrel
  by_cases hlt:j < k
  · have hc:=hrow.cell (i:=k - 1 - j) (by omega)
    have hf:=hrow.frozen (k - 1 - j);have R:=row_step hlt hrow
    go_wp2
    go_roundw
    case rel=>exact ⟨j+1,by omega,by go_num,R,hb.setCell (Nat.le_refl _) _⟩
    case measure=>simp [intOf];omega
  · have hcv:=run_convert_bytes_back (P:=Tryz.prog) wr 76 9 5 ⟨w.heap.size,0,none⟩ k (be k n) Tryz.underlying76 Tryz.underlying5 Tryz.underlying9 (fun x hx=>by
     have hx':x < k:=by simpa [be_length] using hx
     have:=hrow.cell hx';rw [← dig_be];rw [addr_head]
     simpa [show ¬ x+j < k by omega] using this)
    rw [be_length] at hcv
    go_wp2
    go_ret
    exact ⟨rfl,hb⟩
end
section
open Go Go.RowKit Go.Deep Go.Maps
def Tr.pinned (T:Tr)(i k:Nat):Tr:={ T with pn:=setN T.pn i k }
theorem pinsF_key (T:Tr)(hp:∀ i,0 < T.pn i→i < T.p.N)(i c:Nat)(h:T.pinsF (i,c)≠none):c=T.g i∧i < T.p.N:=by
 unfold Tr.pinsF at h
 by_cases e:c=T.g i∧0 < T.pn i
 · exact ⟨e.1,hp i e.2⟩
 · exact absurd (if_neg e) h
theorem TreeAt.pinned {w w':World}{tr i k n:Nat}{T:Tr}{D:DataW Unit}(h:TreeAt w tr T)(hi:i < T.p.N)(hown:w'.ownsMap Tryz.prog 116 (plainElem Tryz.prog 3) T.pb n D)(hr:Reads hkey numD D (T.pinned i k).pinsF)(ho:Only [T.pb] w w'):TreeAt w' tr (T.pinned i k):=by
 have htr:tr < w.heap.size:=lt_of_cell h.c0;obtain ⟨D0,n0,d1,d2,d3⟩:=h.dirs;obtain ⟨P,m,p1,_,_⟩:=h.pins
 have hne:tr∉[T.pb]:=by simpa using (own_ne_cell p1 h.c0).symm
 have hpl:∀ j,0 < (T.pinned i k).pn j→j < T.p.N:=fun j hj=>by
  by_cases e:j=i
  · rw [e];exact hi
  · rw [show (T.pinned i k).pn j=T.pn j from setN_other _ _ e] at hj
    exact h.plt j hj
 refine ⟨(ho.cell (p:=⟨tr,0,none⟩) htr hne).trans h.c0,(ho.cell (p:=⟨tr,1,none⟩) htr hne).trans h.c1,(ho.cell (p:=⟨tr,2,none⟩) htr hne).trans h.c2,h.tab.kept ho (fun k hk hm=>by simp at hm;subst hm;exact h.fpb hk),
  ⟨D0,n0,own_only d1 ho (show T.db∉[T.pb] from by simpa using h.dp),d2,d3⟩,fun j d e=>own_only (h.dir j d e) ho (by simpa using (h.fdir j d e).2.2),⟨D,_,own_sized hown,?_,hr⟩,
  h.one,⟨h.small.N,h.small.g⟩,h.ftr,h.fdb,h.fpb,h.fdir,h.dp,h.dlt,hpl⟩
 have:=reads_size (hown.tidy lawH) (own_keys hown) hr (pinsF_key (T.pinned i k) hpl) h.small.N h.small.g;have h2:=h.small.N;exact Nat.le_trans this (by show T.p.N≤_;omega)
end
section
open Go Go.RowKit Go.Deep
theorem isInt_yes (n:Int)(w:World)(_h0:0≤n)(_h1:n≤4294967295):Calls Tryz.prog 197 #[.int .i64 n] w fun e w'=>e = .returned (.bool true)∧w=w':=by
 go_enter Tryz.func197,Tryz.ntmps197
 go_wp2
 go_ret
 exact ⟨rfl,rfl⟩
def fillN (n:Nat):Nat:=(4 - n % 4) % 4
theorem fillN_lt (n:Nat):fillN n < 4:=by unfold fillN;omega
theorem filling_any (n:Nat)(w:World)(_h:n < 9223372036854775000):Calls Tryz.prog 198 #[.int .i64 n] w fun e w'=>e = .returned (.int .i64 (fillN n))∧w=w':=by
 have e:((fillN n:Nat):Int)=(4 - (n:Int) % 4) % 4:=by unfold fillN;omega
 rw [e]
 go_enter Tryz.func198,Tryz.ntmps198
 go_wp2
 go_ret
 exact ⟨rfl,rfl⟩
theorem hasRoom_any (b:Nat)(t:ByteArray)(n:Nat)(w:World)(hc:w.cell? ⟨b,0,none⟩=some (.string t))(_ht:t.size≤4000):
  Calls Tryz.prog 199 #[.pointer (some ⟨b,0,none⟩),.int .i64 n] w fun e w'=>e = .returned (.bool (decide (n+t.size≤4000)))∧w=w':=by
 have e:decide (n+t.size≤4000)=decide ((n:Int)≤4000 - (t.size:Int)):=by
  rw [decide_eq_decide];omega
 rw [e]
 go_enter Tryz.func199,Tryz.ntmps199
 go_wp2
 go_ret
 exact ⟨rfl,rfl⟩
theorem number_full (b:Nat)(t:ByteArray)(n:Int)(k:Nat)(E:Value)(w:World)(hc:w.cell? ⟨b,0,none⟩=some (.string t))(ht:t.size≤4000)(hE:w.cell? ⟨7,0,none⟩=some E)(h:4000 < k+t.size):
  Calls Tryz.prog 196 #[.pointer (some ⟨b,0,none⟩),.int .i64 n,.int .i64 k] w fun e w'=>e = .returned E∧w=w':=by
 have hd:decide (k+t.size≤4000)=false:=decide_eq_false (by omega)
 go_enter Tryz.func196,Tryz.ntmps196
 go_wp2_with (go_at_call 199;refine (hasRoom_any b t k _ hc ht).mono ?_;rintro e w' ⟨rfl,rfl⟩;rw [hd])
 go_ret
 exact ⟨rfl,rfl⟩
theorem number_ok (b:Nat)(t:ByteArray)(n k:Nat)(w:World)(hc:w.cell? ⟨b,0,none⟩=some (.string t))(hf:w.frozen? ⟨b,0,none⟩=false)(ht:t.size≤4000)(hn:n < 9223372036854775808)(hk:k≤8)(h:k+t.size≤4000):
  Calls Tryz.prog 196 #[.pointer (some ⟨b,0,none⟩),.int .i64 n,.int .i64 k] w fun e w'=>e = .returned .nilIface∧Below w.heap.size (w.setCell ⟨b,0,none⟩ (.string (t++bs (be k n)))) w':=by
 have hd:decide (k+t.size≤4000)=true:=decide_eq_true h
 go_enter Tryz.func196,Tryz.ntmps196
 go_wp2_with (go_at_call 199;refine (hasRoom_any b t k _ hc ht).mono ?_;rintro e w' ⟨rfl,rfl⟩;rw [hd])
 have hlt:b < w.heap.size:=lt_of_cell hc
 have hs:(bs (be k n)).size=k:=by rw [bs_size,be_length]
 have HS:Hid ((bs (be k n)).size=k):=hs;clear hs
 have hs8:(bs (be k n)).size≤8:=by rw [HS.out];exact hk
 go_region_with (go_at_call 200;refine (digits_any n k _ hn hk).mono ?_;rintro e w1 ⟨rfl,hb⟩;have k1:w1.cell? ⟨b,0,none⟩=some (.string t):=(hb.cell (p:=⟨b,0,none⟩) hlt).trans hc;have k2:w1.frozen? ⟨b,0,none⟩=false:=(hb.frozen (p:=⟨b,0,none⟩) hlt).trans hf)
 all_goals
  go_wp2
  go_ret
  exact ⟨rfl,below_set (below_from_drew hb) _ _⟩
theorem number4_ok (b:Nat)(t:ByteArray)(n:Nat)(w:World)(hc:w.cell? ⟨b,0,none⟩=some (.string t))(hf:w.frozen? ⟨b,0,none⟩=false)(ht:t.size≤4000)(hn:n < 9223372036854775808)(h:4+t.size≤4000):
  Calls Tryz.prog 196 #[.pointer (some ⟨b,0,none⟩),.int .i64 n,.int .i64 4] w fun e w'=>e = .returned .nilIface∧Below w.heap.size (w.setCell ⟨b,0,none⟩ (.string (t++bs (be 4 n)))) w' :=
 number_ok b t n 4 w hc hf ht hn (by decide) h
theorem number8_ok (b:Nat)(t:ByteArray)(n:Nat)(w:World)(hc:w.cell? ⟨b,0,none⟩=some (.string t))(hf:w.frozen? ⟨b,0,none⟩=false)(ht:t.size≤4000)(hn:n < 9223372036854775808)(h:8+t.size≤4000):
  Calls Tryz.prog 196 #[.pointer (some ⟨b,0,none⟩),.int .i64 n,.int .i64 8] w fun e w'=>e = .returned .nilIface∧Below w.heap.size (w.setCell ⟨b,0,none⟩ (.string (t++bs (be 8 n)))) w' :=
 number_ok b t n 8 w hc hf ht hn (by decide) h
theorem number4_full (b:Nat)(t:ByteArray)(n:Int)(E:Value)(w:World)(hc:w.cell? ⟨b,0,none⟩=some (.string t))(ht:t.size≤4000)(hE:w.cell? ⟨7,0,none⟩=some E)(h:4000 < 4+t.size):
 Calls Tryz.prog 196 #[.pointer (some ⟨b,0,none⟩),.int .i64 n,.int .i64 4] w fun e w'=>e = .returned E∧w=w':=number_full b t n 4 E w hc ht hE h
theorem number8_full (b:Nat)(t:ByteArray)(n:Int)(E:Value)(w:World)(hc:w.cell? ⟨b,0,none⟩=some (.string t))(ht:t.size≤4000)(hE:w.cell? ⟨7,0,none⟩=some E)(h:4000 < 8+t.size):
 Calls Tryz.prog 196 #[.pointer (some ⟨b,0,none⟩),.int .i64 n,.int .i64 8] w fun e w'=>e = .returned E∧w=w':=number_full b t n 8 E w hc ht hE h
theorem int_full (b:Nat)(t:ByteArray)(n:Int)(E:Value)(w:World)(hc:w.cell? ⟨b,0,none⟩=some (.string t))(ht:t.size≤4000)(hE:w.cell? ⟨7,0,none⟩=some E)(h0:0≤n)(h1:n≤4294967295)(h:4000 < 4+t.size):
  Calls Tryz.prog 193 #[.pointer (some ⟨b,0,none⟩),.int .i64 n] w fun e w'=>e = .returned E∧w=w':=by
 go_enter Tryz.func193,Tryz.ntmps193
 go_wp2_with (first | (go_at_call 197;refine (isInt_yes n _ h0 h1).mono ?_;rintro e w' ⟨rfl,rfl⟩) | (go_at_call 196;refine (number4_full b t n E _ hc ht hE h).mono ?_;rintro e w' ⟨rfl,rfl⟩))
 go_ret
 exact ⟨rfl,rfl⟩
theorem int_ok (b:Nat)(t:ByteArray)(n:Nat)(w:World)(hc:w.cell? ⟨b,0,none⟩=some (.string t))(hf:w.frozen? ⟨b,0,none⟩=false)(ht:t.size≤4000)(h1:n≤4294967295)(h:4+t.size≤4000):
  Calls Tryz.prog 193 #[.pointer (some ⟨b,0,none⟩),.int .i64 n] w fun e w'=>e = .returned .nilIface∧Below w.heap.size (w.setCell ⟨b,0,none⟩ (.string (t++bs (be 4 n)))) w':=by
 go_enter Tryz.func193,Tryz.ntmps193
 go_wp2_with (first | (go_at_call 197;refine (isInt_yes _ _ (by omega) (by omega)).mono ?_;rintro e w' ⟨rfl,rfl⟩) | (go_at_call 196;refine (number4_ok b t n _ hc hf ht (by omega) h).mono ?_;rintro e w' ⟨rfl,hb⟩))
 go_ret
 exact ⟨rfl,hb⟩
theorem long_bound (b:Nat)(n:Int)(E:Value)(w:World)(hE:w.cell? ⟨0,0,none⟩=some E)(h:n < 0):
  Calls Tryz.prog 148 #[.pointer (some ⟨b,0,none⟩),.int .i64 n] w fun e w'=>e = .returned E∧w=w':=by
 go_enter Tryz.func148,Tryz.ntmps148
 go_wp2
 go_ret
 exact ⟨rfl,rfl⟩
theorem long_full (b:Nat)(t:ByteArray)(n:Int)(E:Value)(w:World)(hc:w.cell? ⟨b,0,none⟩=some (.string t))(ht:t.size≤4000)(hE:w.cell? ⟨7,0,none⟩=some E)(h0:0≤n)(h:4000 < 8+t.size):
  Calls Tryz.prog 148 #[.pointer (some ⟨b,0,none⟩),.int .i64 n] w fun e w'=>e = .returned E∧w=w':=by
 go_enter Tryz.func148,Tryz.ntmps148
 go_wp2_with (go_at_call 196;refine (number8_full b t n E _ hc ht hE h).mono ?_;rintro e w' ⟨rfl,rfl⟩)
 go_ret
 exact ⟨rfl,rfl⟩
theorem long_ok (b:Nat)(t:ByteArray)(n:Nat)(w:World)(hc:w.cell? ⟨b,0,none⟩=some (.string t))(hf:w.frozen? ⟨b,0,none⟩=false)(ht:t.size≤4000)(h1:n < 9223372036854775808)(h:8+t.size≤4000):
  Calls Tryz.prog 148 #[.pointer (some ⟨b,0,none⟩),.int .i64 n] w fun e w'=>e = .returned .nilIface∧Below w.heap.size (w.setCell ⟨b,0,none⟩ (.string (t++bs (be 8 n)))) w':=by
 go_enter Tryz.func148,Tryz.ntmps148
 go_wp2_with (go_at_call 196;refine (number8_ok b t n _ hc hf ht h1 h).mono ?_;rintro e w' ⟨rfl,hb⟩)
 go_ret
 exact ⟨rfl,hb⟩
theorem bool_full (b:Nat)(t:ByteArray)(x:Bool)(E:Value)(w:World)(hc:w.cell? ⟨b,0,none⟩=some (.string t))(ht:t.size≤4000)(hE:w.cell? ⟨7,0,none⟩=some E)(h:4000 < 4+t.size):
  Calls Tryz.prog 195 #[.pointer (some ⟨b,0,none⟩),.bool x] w fun e w'=>e = .returned E∧w=w':=by
 cases x
 all_goals
  go_enter Tryz.func195,Tryz.ntmps195
  go_wp2_with (go_at_call 193;refine (int_full b t _ E _ hc ht hE (by decide) (by decide) h).mono ?_;rintro e w' ⟨rfl,rfl⟩)
  go_ret
  exact ⟨rfl,rfl⟩
theorem bool_ok (b:Nat)(t:ByteArray)(x:Bool)(w:World)(hc:w.cell? ⟨b,0,none⟩=some (.string t))(hf:w.frozen? ⟨b,0,none⟩=false)(ht:t.size≤4000)(h:4+t.size≤4000):
   Calls Tryz.prog 195 #[.pointer (some ⟨b,0,none⟩),.bool x] w fun e w'=>e = .returned .nilIface∧Below w.heap.size (w.setCell ⟨b,0,none⟩ (.string (t++bs (be 4 x.toNat)))) w':=by
 have h1:=fun w hc hf=>int_ok b t 1 w hc hf ht (by decide) h;have h0:=fun w hc hf=>int_ok b t 0 w hc hf ht (by decide) h
 cases x
 · go_enter Tryz.func195,Tryz.ntmps195
   go_wp2_with (go_at_call 193;refine (h0 _ hc hf).mono ?_;rintro e w' ⟨rfl,hb⟩)
   go_ret
   exact ⟨rfl,hb⟩
 · go_enter Tryz.func195,Tryz.ntmps195
   go_wp2_with (go_at_call 193;refine (h1 _ hc hf).mono ?_;rintro e w' ⟨rfl,hb⟩)
   go_ret
   exact ⟨rfl,hb⟩
theorem text_any (b:Nat)(t:ByteArray)(w:World)(hc:w.cell? ⟨b,0,none⟩=some (.string t)):
  Calls Tryz.prog 144 #[.pointer (some ⟨b,0,none⟩)] w fun e w'=>e = .returned (.string t)∧w=w':=by
 go_enter Tryz.func144,Tryz.ntmps144
 go_wp2
 go_ret
 exact ⟨rfl,rfl⟩
def itemS (s:ByteArray):ByteArray:=bs (be 4 s.size)++s++bs (be (fillN s.size) 0)
theorem itemS_size (s:ByteArray):(itemS s).size=4+s.size+fillN s.size:=by
 simp [itemS,ByteArray.size_append,bs_size,be_length]
theorem digits_len (n:Nat)(w:World)(hn:n < 9223372036854775808):
 Calls Tryz.prog 200 #[.int .i64 n,.int .i64 4] w fun e w'=>e = .returned (.string (bs (be 4 n)))∧Below w.heap.size w w':=digits_any n 4 w hn (by decide)
theorem digits_zero (k:Nat)(w:World)(hk:k≤8):
 Calls Tryz.prog 200 #[.int .i64 0,.int .i64 k] w fun e w'=>e = .returned (.string (bs (be k 0)))∧Below w.heap.size w w':=digits_any 0 k w (by decide) hk
theorem bytes_full (b:Nat)(t s:ByteArray)(E:Value)(w:World)(hc:w.cell? ⟨b,0,none⟩=some (.string t))(ht:t.size≤4000)(hE:w.cell? ⟨7,0,none⟩=some E)(hs:s.size≤5000)(h:4000 < (itemS s).size+t.size):
  Calls Tryz.prog 149 #[.pointer (some ⟨b,0,none⟩),.string s] w fun e w'=>e = .returned E∧w=w':=by
 rw [itemS_size] at h;have hz:=fillN_lt s.size;have hr:=hasRoom_any b t (4+s.size+fillN s.size) w hc ht
 rw [show decide (4+s.size+fillN s.size+t.size≤4000)=false from decide_eq_false (by omega),show ((4+s.size+fillN s.size:Nat):Int)=4+(s.size:Int)+(fillN s.size:Int) by omega] at hr
 have H:Hid _:=hr;clear hr
 go_enter Tryz.func149,Tryz.ntmps149
 go_wp2_with (first
  | (go_at_call 197;refine (isInt_yes _ _ (by omega) (by omega)).mono ?_;rintro e w' ⟨rfl,rfl⟩)
  | (go_at_call 198;refine (filling_any s.size _ (by omega)).mono ?_;rintro e w' ⟨rfl,rfl⟩)
  | (go_at_call 199;refine Calls.mono H.out ?_;rintro e w' ⟨rfl,rfl⟩))
 go_ret
 exact ⟨rfl,rfl⟩
theorem bytes_ok (b:Nat)(t s:ByteArray)(w:World)(hc:w.cell? ⟨b,0,none⟩=some (.string t))(hf:w.frozen? ⟨b,0,none⟩=false)(ht:t.size≤4000)(hs:s.size≤5000)(h:(itemS s).size+t.size≤4000):
  Calls Tryz.prog 149 #[.pointer (some ⟨b,0,none⟩),.string s] w fun e w'=>e = .returned .nilIface∧Below w.heap.size (w.setCell ⟨b,0,none⟩ (.string (t++itemS s))) w':=by
 have HI:Hid (itemS s=bs (be 4 s.size)++s++bs (be (fillN s.size) 0)):=rfl;rw [itemS_size] at h;have hz:=fillN_lt s.size;have hr:=hasRoom_any b t (4+s.size+fillN s.size) w hc ht
 rw [show decide (4+s.size+fillN s.size+t.size≤4000)=true from decide_eq_true (by omega),show ((4+s.size+fillN s.size:Nat):Int)=4+(s.size:Int)+(fillN s.size:Int) by omega] at hr
 have H:Hid _:=hr;clear hr;have hlt:b < w.heap.size:=lt_of_cell hc
 have hz4:(bs (be 4 s.size)).size≤4:=by rw [bs_size,be_length];exact Nat.le_refl _
 have hz0:(bs (be (fillN s.size) 0)).size≤4:=by rw [bs_size,be_length];omega
 have hz1:(bs (be 4 s.size)++s).size≤5004:=by rw [ByteArray.size_append];omega
 have hz2:(bs (be 4 s.size)++s++bs (be (fillN s.size) 0)).size≤5008:=by rw [ByteArray.size_append];omega
 go_enter Tryz.func149,Tryz.ntmps149
 go_wp2_with (first
  | (go_at_call 197;refine (isInt_yes _ _ (by omega) (by omega)).mono ?_;rintro e w' ⟨rfl,rfl⟩)
  | (go_at_call 198;refine (filling_any s.size _ (by omega)).mono ?_;rintro e w' ⟨rfl,rfl⟩)
  | (go_at_call 199;refine Calls.mono H.out ?_;rintro e w' ⟨rfl,rfl⟩))
 go_region_with (first
  | (go_at_call_of 200 (Value.int IntKind.i64 (4:Int));refine (digits_len s.size _ (by omega)).mono ?_;rintro e w1 ⟨rfl,hb⟩;have k1:w1.cell? ⟨b,0,none⟩=some (.string t):=(hb.cell (p:=⟨b,0,none⟩) hlt).trans hc;have k2:w1.frozen? ⟨b,0,none⟩=false:=(hb.frozen (p:=⟨b,0,none⟩) hlt).trans hf;have hl1:b < w1.heap.size:=Nat.lt_of_lt_of_le hlt hb.size)
  | (go_at_call_of 200 (Value.int IntKind.i64 (0:Int));refine (digits_zero (fillN s.size) _ (by omega)).mono ?_;rintro e w2 ⟨rfl,hb2⟩;have k3:w2.cell? ⟨b,0,none⟩=some (.string t):=(hb2.cell (p:=⟨b,0,none⟩) hl1).trans k1;have k4:w2.frozen? ⟨b,0,none⟩=false:=(hb2.frozen (p:=⟨b,0,none⟩) hl1).trans k2;clear k1 k2))
 all_goals
  go_wp2
  go_ret
  exact ⟨rfl,HI.out ▸ below_set ((below_from_drew hb).trans (hb2.mono hb.size)) _ _⟩
theorem or_step (a c:Nat)(ha:a < 72057594037927936)(hc:c < 256):bits BinOp.or IntKind.u64 ((a:Int)*256) (IntKind.u64.wrap (c:Int))=((a*256+c:Nat):Int):=by
 have e:IntKind.u64.wrap (c:Int)=(c:Int):=by
  simp [IntKind.wrap,IntKind.signed,IntKind.bits];omega
 rw [e,show (a:Int)*256=((a*256:Nat):Int) by omega,bits_or_u64_nat _ _ (by omega) (by omega)];have h2:=Nat.two_pow_add_eq_or_of_lt (i:=8) hc a;rw [show a*256=2 ^ 8*a by omega,← h2]
theorem next_short (b:Nat)(t:ByteArray)(k:Nat)(E:Value)(w:World)(hc:w.cell? ⟨b,0,none⟩=some (.string t))(hE:w.cell? ⟨1,0,none⟩=some E)(h:t.size < k)(_hk:k≤8):
  Calls Tryz.prog 159 #[.pointer (some ⟨b,0,none⟩),.int .i64 k] w fun e w'=>e = .returned (.tuple #[.int .u64 0,E])∧Below w.heap.size w w':=by
 go_enter Tryz.func159,Tryz.ntmps159
 go_wp2
 go_region
 all_goals
  go_wp2
  go_ret2
  exact ⟨rfl,(Below.refl _ _).drew⟩
theorem next_ok (b:Nat)(t:ByteArray)(k:Nat)(w:World)(hc:w.cell? ⟨b,0,none⟩=some (.string t))(h:k≤t.size)(hk:k≤8)(ht:t.size≤1000000):
  Calls Tryz.prog 159 #[.pointer (some ⟨b,0,none⟩),.int .i64 k] w fun e w'=>e = .returned (.tuple #[.int .u64 (num (t.data.toList.take k)),.nilIface])∧w=w':=by
 go_enter Tryz.func159,Tryz.ntmps159
 go_wp2
 go_loop [6,17] (fun n i=>∃ j:Nat,j≤k∧i = .int .i64 j∧n = .int .u64 (num (t.data.toList.take j))) (fun _ i=>k - (intOf i).toNat)
 case atStart=>exact ⟨0,Nat.zero_le _,rfl,rfl⟩
 case round =>
  obtain ⟨j,hj,rfl,rfl⟩:=hrel
  by_cases hlt:j < k
  · have hjt:j < t.size:=by omega
    have hb1:num (t.data.toList.take j) < 72057594037927936:=Nat.lt_of_lt_of_le (num_take_lt _ _) (Nat.le_trans (Nat.pow_le_pow_right (by decide) (show j≤7 by omega)) (by decide));have HS:Hid (num (t.data.toList.take (j+1))=num (t.data.toList.take j)*256+t[j].toNat):=num_take_succ t.data.toList j (by simpa using hjt);have HO:Hid _:=or_step (num (t.data.toList.take j)) t[j].toNat hb1 t[j].toNat_lt
    go_wp2
    go_round
    case rel=>exact ⟨j+1,by omega,by go_num,by rw [HS.out];exact congrArg _ HO.out⟩
    case measure=>simp [intOf];omega
  · obtain rfl:j=k:=by omega
    go_wp2
    go_ret2
    exact ⟨rfl,rfl⟩
theorem skip_any (b:Nat)(t:ByteArray)(k:Nat)(w:World)(hc:w.cell? ⟨b,0,none⟩=some (.string t))(hf:w.frozen? ⟨b,0,none⟩=false)(h:k≤t.size)(_ht:t.size≤1000000):
  Calls Tryz.prog 160 #[.pointer (some ⟨b,0,none⟩),.int .i64 k] w fun e w'=>e = .returned (.tuple #[])∧w.setCell ⟨b,0,none⟩ (.string (t.extract k t.size))=w':=by
 go_enter Tryz.func160,Tryz.ntmps160
 go_wp2
 go_end0
 exact ⟨rfl,rfl⟩
def zerosB (s:ByteArray):Bool:=s.data.toList.all (·==0)
theorem zeros_no {s:ByteArray}{j:Nat}(hj:j < s.size)(h:((s[j].toNat:Int) != 0)=true):zerosB s=false:=by
 unfold zerosB;rw [List.all_eq_false];refine ⟨s[j],List.getElem_mem (l:=s.data.toList) (by simpa using hj),?_⟩;intro e;rw [beq_iff_eq] at e;rw [e] at h;simp at h
theorem zeros_yes {s:ByteArray}(h:∀ x,(hx:x < s.size)→s[x]=0):zerosB s=true:=by
 unfold zerosB;rw [List.all_eq_true];intro c hc;obtain ⟨i,hi,rfl⟩:=List.getElem_of_mem hc;rw [beq_iff_eq];exact h i (by simpa using hi)
theorem zero_of {c:UInt8}(h:((c.toNat:Int) != 0)=false):c=0:=by
 have:c.toNat=0:=by simpa using h
 exact UInt8.toNat_inj.1 this
theorem isZeros_any (s:ByteArray)(w:World)(hs:s.size≤1000000):
  Calls Tryz.prog 227 #[.string s] w fun e w'=>e = .returned (.bool (zerosB s))∧w=w':=by
 go_enter Tryz.func227,Tryz.ntmps227
 go_wp2
 go_loop [6] (fun i=>∃ j:Nat,j≤s.size∧i = .int .i64 j∧∀ x,(hx:x < s.size)→x < j→s[x]=0) (fun i=>s.size - (intOf i).toNat)
 case atStart=>exact ⟨0,Nat.zero_le _,rfl,fun x _ h=>absurd h (Nat.not_lt_zero _)⟩
 case round =>
  obtain ⟨j,hj,rfl,hall⟩:=hrel;have HA:Hid (∀ x,(hx:x < s.size)→x < j→s[x]=0):=hall;clear hall
  by_cases hlt:j < s.size
  · go_wp2
    · have hz:zerosB s=false:=zeros_no hlt (by assumption)
      go_ret
      exact ⟨by rw [hz];rfl,rfl⟩
    · have hz:s[j]=0:=zero_of (by assumption)
      have HZ:Hid (s[j]=0):=hz;clear hz
      go_round
      case rel=>exact ⟨j+1,by omega,by go_num,fun x hx hxj=>by
       rcases Nat.lt_or_ge x j with h1 | h1
       · exact HA.out x hx h1
       · obtain rfl:x=j:=by omega
         exact HZ.out⟩
      case measure=>simp [intOf];omega
  · have hz:zerosB s=true:=zeros_yes fun x hx=>HA.out x hx (by omega)
    go_wp2
    go_ret
    exact ⟨rfl,rfl⟩
def numAt (t:ByteArray)(k:Nat):Nat:=num (t.data.toList.take k)
theorem numAt_lt (t:ByteArray)(k:Nat):numAt t k < 256 ^ k:=num_take_lt _ _
def cutAt (t:ByteArray)(k:Nat):ByteArray:=t.extract k t.size
theorem cutAt_size (t:ByteArray)(k:Nat):(cutAt t k).size=t.size - k:=by simp [cutAt,ByteArray.size_extract]
theorem next4_short (b:Nat)(t:ByteArray)(E:Value)(w:World)(hc:w.cell? ⟨b,0,none⟩=some (.string t))(hE:w.cell? ⟨1,0,none⟩=some E)(h:t.size < 4):
 Calls Tryz.prog 159 #[.pointer (some ⟨b,0,none⟩),.int .i64 4] w fun e w'=>e = .returned (.tuple #[.int .u64 0,E])∧Below w.heap.size w w':=next_short b t 4 E w hc hE h (by decide)
theorem next8_short (b:Nat)(t:ByteArray)(E:Value)(w:World)(hc:w.cell? ⟨b,0,none⟩=some (.string t))(hE:w.cell? ⟨1,0,none⟩=some E)(h:t.size < 8):
 Calls Tryz.prog 159 #[.pointer (some ⟨b,0,none⟩),.int .i64 8] w fun e w'=>e = .returned (.tuple #[.int .u64 0,E])∧Below w.heap.size w w':=next_short b t 8 E w hc hE h (by decide)
theorem next4_ok (b:Nat)(t:ByteArray)(w:World)(hc:w.cell? ⟨b,0,none⟩=some (.string t))(h:4≤t.size)(ht:t.size≤1000000):
 Calls Tryz.prog 159 #[.pointer (some ⟨b,0,none⟩),.int .i64 4] w fun e w'=>e = .returned (.tuple #[.int .u64 (numAt t 4),.nilIface])∧w=w':=next_ok b t 4 w hc h (by decide) ht
theorem next8_ok (b:Nat)(t:ByteArray)(w:World)(hc:w.cell? ⟨b,0,none⟩=some (.string t))(h:8≤t.size)(ht:t.size≤1000000):
 Calls Tryz.prog 159 #[.pointer (some ⟨b,0,none⟩),.int .i64 8] w fun e w'=>e = .returned (.tuple #[.int .u64 (numAt t 8),.nilIface])∧w=w':=next_ok b t 8 w hc h (by decide) ht
theorem skip4 (b:Nat)(t:ByteArray)(w:World)(hc:w.cell? ⟨b,0,none⟩=some (.string t))(hf:w.frozen? ⟨b,0,none⟩=false)(h:4≤t.size)(ht:t.size≤1000000):
 Calls Tryz.prog 160 #[.pointer (some ⟨b,0,none⟩),.int .i64 4] w fun e w'=>e = .returned (.tuple #[])∧w.setCell ⟨b,0,none⟩ (.string (cutAt t 4))=w':=skip_any b t 4 w hc hf h ht
theorem skip8 (b:Nat)(t:ByteArray)(w:World)(hc:w.cell? ⟨b,0,none⟩=some (.string t))(hf:w.frozen? ⟨b,0,none⟩=false)(h:8≤t.size)(ht:t.size≤1000000):
 Calls Tryz.prog 160 #[.pointer (some ⟨b,0,none⟩),.int .i64 8] w fun e w'=>e = .returned (.tuple #[])∧w.setCell ⟨b,0,none⟩ (.string (cutAt t 8))=w':=skip_any b t 8 w hc hf h ht
theorem rInt_short (b:Nat)(t:ByteArray)(T:TypeId)(v:Value)(w:World)(hc:w.cell? ⟨b,0,none⟩=some (.string t))(hE:w.cell? ⟨1,0,none⟩=some (.iface T v))(h:t.size < 4):
  Calls Tryz.prog 114 #[.pointer (some ⟨b,0,none⟩)] w fun e w'=>e = .returned (.tuple #[.int .i64 0,.iface T v])∧Below w.heap.size w w':=by
 go_enter Tryz.func114,Tryz.ntmps114
 go_wp2_with (go_at_call 159;refine (next4_short b t _ _ hc hE h).mono ?_;rintro e w1 ⟨rfl,hb⟩)
 go_ret2
 exact ⟨rfl,hb⟩
theorem rInt_ok (b:Nat)(t:ByteArray)(w:World)(hc:w.cell? ⟨b,0,none⟩=some (.string t))(hf:w.frozen? ⟨b,0,none⟩=false)(h:4≤t.size)(ht:t.size≤1000000):
  Calls Tryz.prog 114 #[.pointer (some ⟨b,0,none⟩)] w fun e w'=>e = .returned (.tuple #[.int .i64 (numAt t 4),.nilIface])∧w.setCell ⟨b,0,none⟩ (.string (cutAt t 4))=w':=by
 have hl:numAt t 4 < 4294967296:=numAt_lt t 4
 go_enter Tryz.func114,Tryz.ntmps114
 go_wp2_with (first
  | (go_at_call 159;refine (next4_ok b t _ hc h ht).mono ?_;rintro e w1 ⟨rfl,rfl⟩)
  | (go_at_call 160;refine (skip4 b t _ hc hf h ht).mono ?_;rintro e w1 ⟨rfl,rfl⟩))
 go_ret2
 exact ⟨rfl,rfl⟩
theorem rLong_short (b:Nat)(t:ByteArray)(T:TypeId)(v:Value)(w:World)(hc:w.cell? ⟨b,0,none⟩=some (.string t))(hE:w.cell? ⟨1,0,none⟩=some (.iface T v))(h:t.size < 8):
  Calls Tryz.prog 169 #[.pointer (some ⟨b,0,none⟩)] w fun e w'=>e = .returned (.tuple #[.int .i64 0,.iface T v])∧Below w.heap.size w w':=by
 go_enter Tryz.func169,Tryz.ntmps169
 go_wp2_with (go_at_call 159;refine (next8_short b t _ _ hc hE h).mono ?_;rintro e w1 ⟨rfl,hb⟩)
 go_ret2
 exact ⟨rfl,hb⟩
theorem rLong_great (b:Nat)(t:ByteArray)(T:TypeId)(v:Value)(w:World)(hc:w.cell? ⟨b,0,none⟩=some (.string t))(hE:w.cell? ⟨1,0,none⟩=some (.iface T v))(h:8≤t.size)(ht:t.size≤1000000)(hg:9223372036854775807 < numAt t 8):
  Calls Tryz.prog 169 #[.pointer (some ⟨b,0,none⟩)] w fun e w'=>e = .returned (.tuple #[.int .i64 0,.iface T v])∧Below w.heap.size w w':=by
 go_enter Tryz.func169,Tryz.ntmps169
 go_wp2_with (go_at_call 159;refine (next8_ok b t _ hc h ht).mono ?_;rintro e w1 ⟨rfl,rfl⟩)
 go_region
 all_goals
  go_wp2
  go_ret2
  exact ⟨rfl,(Below.refl _ _).drew⟩
theorem rLong_ok (b:Nat)(t:ByteArray)(w:World)(hc:w.cell? ⟨b,0,none⟩=some (.string t))(hf:w.frozen? ⟨b,0,none⟩=false)(h:8≤t.size)(ht:t.size≤1000000)(hg:numAt t 8≤9223372036854775807):
  Calls Tryz.prog 169 #[.pointer (some ⟨b,0,none⟩)] w fun e w'=>e = .returned (.tuple #[.int .i64 (numAt t 8),.nilIface])∧w.setCell ⟨b,0,none⟩ (.string (cutAt t 8))=w':=by
 go_enter Tryz.func169,Tryz.ntmps169
 go_wp2_with (first
  | (go_at_call 159;refine (next8_ok b t _ hc h ht).mono ?_;rintro e w1 ⟨rfl,rfl⟩)
  | (go_at_call 160;refine (skip8 b t _ hc hf h ht).mono ?_;rintro e w1 ⟨rfl,rfl⟩))
 go_ret2
 exact ⟨rfl,rfl⟩
theorem rBool_short (b:Nat)(t:ByteArray)(T:TypeId)(v:Value)(w:World)(hc:w.cell? ⟨b,0,none⟩=some (.string t))(hE:w.cell? ⟨1,0,none⟩=some (.iface T v))(h:t.size < 4):
  Calls Tryz.prog 260 #[.pointer (some ⟨b,0,none⟩)] w fun e w'=>e = .returned (.tuple #[.bool false,.iface T v])∧Below w.heap.size w w':=by
 go_enter Tryz.func260,Tryz.ntmps260
 go_wp2_with (go_at_call 159;refine (next4_short b t _ _ hc hE h).mono ?_;rintro e w1 ⟨rfl,hb⟩)
 go_ret2
 exact ⟨rfl,hb⟩
theorem rBool_great (b:Nat)(t:ByteArray)(T:TypeId)(v:Value)(w:World)(hc:w.cell? ⟨b,0,none⟩=some (.string t))(hE:w.cell? ⟨1,0,none⟩=some (.iface T v))(h:4≤t.size)(ht:t.size≤1000000)(hg:1 < numAt t 4):
  Calls Tryz.prog 260 #[.pointer (some ⟨b,0,none⟩)] w fun e w'=>e = .returned (.tuple #[.bool false,.iface T v])∧Below w.heap.size w w':=by
 go_enter Tryz.func260,Tryz.ntmps260
 go_wp2_with (go_at_call 159;refine (next4_ok b t _ hc h ht).mono ?_;rintro e w1 ⟨rfl,rfl⟩)
 go_region
 all_goals
  go_wp2
  go_ret2
  exact ⟨rfl,(Below.refl _ _).drew⟩
theorem rBool_ok (b:Nat)(t:ByteArray)(w:World)(hc:w.cell? ⟨b,0,none⟩=some (.string t))(hf:w.frozen? ⟨b,0,none⟩=false)(h:4≤t.size)(ht:t.size≤1000000)(_hg:numAt t 4≤1):
  Calls Tryz.prog 260 #[.pointer (some ⟨b,0,none⟩)] w fun e w'=>e = .returned (.tuple #[.bool ((numAt t 4:Int)==1),.nilIface])∧w.setCell ⟨b,0,none⟩ (.string (cutAt t 4))=w':=by
 go_enter Tryz.func260,Tryz.ntmps260
 go_wp2_with (first
  | (go_at_call 159;refine (next4_ok b t _ hc h ht).mono ?_;rintro e w1 ⟨rfl,rfl⟩)
  | (go_at_call 160;refine (skip4 b t _ hc hf h ht).mono ?_;rintro e w1 ⟨rfl,rfl⟩))
 go_ret2
 exact ⟨rfl,rfl⟩
theorem rEnd_some (b:Nat)(t:ByteArray)(E:Value)(w:World)(hc:w.cell? ⟨b,0,none⟩=some (.string t))(hE:w.cell? ⟨1,0,none⟩=some E)(h:0 < t.size):
  Calls Tryz.prog 164 #[.pointer (some ⟨b,0,none⟩)] w fun e w'=>e = .returned E∧w=w':=by
 have hne:t.toList.isEmpty=false:=by
  rw [ByteArray.toList_eq]
  cases hd:t.data.toList with
  | nil=>rw [← bs_self t,hd] at h;exact absurd h (by decide)
  | cons _ _=>rfl
 go_enter Tryz.func164,Tryz.ntmps164
 go_wp2
 go_ret
 exact ⟨rfl,rfl⟩
theorem rEnd_none (b:Nat)(w:World)(hc:w.cell? ⟨b,0,none⟩=some (.string (bs []))):
  Calls Tryz.prog 164 #[.pointer (some ⟨b,0,none⟩)] w fun e w'=>e = .returned .nilIface∧w=w':=by
 have hc':w.cell? ⟨b,0,none⟩=some (.string ⟨#[]⟩):=hc;clear hc
 go_enter Tryz.func164,Tryz.ntmps164
 go_wp2
 go_ret
 exact ⟨rfl,rfl⟩
theorem newReader_any (s:ByteArray)(w:World):
  Calls Tryz.prog 113 #[.string s] w fun e w'=>e = .returned (.pointer (some ⟨w.heap.size,0,none⟩))∧w.alloc (.cells #[.string s] 284)=w':=by
 go_enter Tryz.func113,Tryz.ntmps113
 go_wp2
 go_ret
 exact ⟨rfl,rfl⟩
theorem skip_int (b:Nat)(t:ByteArray)(n:Int)(k:Nat)(w:World)(hn:n=(k:Int))(hc:w.cell? ⟨b,0,none⟩=some (.string t))(hf:w.frozen? ⟨b,0,none⟩=false)(h:k≤t.size)(ht:t.size≤1000000):
  Calls Tryz.prog 160 #[.pointer (some ⟨b,0,none⟩),.int .i64 n] w fun e w'=>e = .returned (.tuple #[])∧w.setCell ⟨b,0,none⟩ (.string (cutAt t k))=w':=by
 subst hn;exact skip_any b t k w hc hf h ht
theorem rBytes_short (b:Nat)(t:ByteArray)(m:Int)(T:TypeId)(v:Value)(w:World)(hc:w.cell? ⟨b,0,none⟩=some (.string t))(hE:w.cell? ⟨1,0,none⟩=some (.iface T v))(h:t.size < 4):
  Calls Tryz.prog 170 #[.pointer (some ⟨b,0,none⟩),.int .i64 m] w fun e w'=>e = .returned (.tuple #[.string (bs []),.iface T v])∧Below w.heap.size w w':=by
 go_enter Tryz.func170,Tryz.ntmps170
 go_wp2_with (go_at_call 159;refine (next4_short b t _ _ hc hE h).mono ?_;rintro e w1 ⟨rfl,hb⟩)
 go_ret2
 exact ⟨rfl,hb⟩
theorem rBytes_many (b:Nat)(t:ByteArray)(m:Int)(T:TypeId)(v:Value)(w:World)(hc:w.cell? ⟨b,0,none⟩=some (.string t))(hE:w.cell? ⟨1,0,none⟩=some (.iface T v))(h:4≤t.size)(ht:t.size≤1000000)(hm:m < (numAt t 4:Int)):
  Calls Tryz.prog 170 #[.pointer (some ⟨b,0,none⟩),.int .i64 m] w fun e w'=>e = .returned (.tuple #[.string (bs []),.iface T v])∧Below w.heap.size w w':=by
 have hl:numAt t 4 < 4294967296:=numAt_lt t 4;have hz:=fillN_lt (numAt t 4)
 go_enter Tryz.func170,Tryz.ntmps170
 go_wp2_with (first
  | (go_at_call 159;refine (next4_ok b t _ hc h ht).mono ?_;rintro e w1 ⟨rfl,rfl⟩)
  | (go_at_call 198;refine (filling_any (numAt t 4) _ (by omega)).mono ?_;rintro e w1 ⟨rfl,rfl⟩))
 go_region
 all_goals
  go_wp2
  go_ret2
  exact ⟨rfl,(Below.refl _ _).drew⟩
theorem rBytes_few (b:Nat)(t:ByteArray)(m:Int)(T:TypeId)(v:Value)(w:World)(hc:w.cell? ⟨b,0,none⟩=some (.string t))(hE:w.cell? ⟨1,0,none⟩=some (.iface T v))(h:4≤t.size)(ht:t.size≤1000000)(hm:(numAt t 4:Int)≤m)(hs:t.size < 4+numAt t 4+fillN (numAt t 4)):
  Calls Tryz.prog 170 #[.pointer (some ⟨b,0,none⟩),.int .i64 m] w fun e w'=>e = .returned (.tuple #[.string (bs []),.iface T v])∧Below w.heap.size w w':=by
 have hl:numAt t 4 < 4294967296:=numAt_lt t 4;have hz:=fillN_lt (numAt t 4);have hd1:decide (m < (numAt t 4:Int))=false:=decide_eq_false (by omega);have hd2:decide ((t.size:Int) < 4+(numAt t 4:Int)+(fillN (numAt t 4):Int))=true:=decide_eq_true (by omega)
 go_enter Tryz.func170,Tryz.ntmps170
 go_wp2_with (first
  | (go_at_call 159;refine (next4_ok b t _ hc h ht).mono ?_;rintro e w1 ⟨rfl,rfl⟩)
  | (go_at_call 198;refine (filling_any (numAt t 4) _ (by omega)).mono ?_;rintro e w1 ⟨rfl,rfl⟩))
 go_region
 all_goals
  go_wp2
  go_ret2
  exact ⟨rfl,(Below.refl _ _).drew⟩
theorem rBytes_fill (b:Nat)(t:ByteArray)(m:Int)(T:TypeId)(v:Value)(w:World)(hc:w.cell? ⟨b,0,none⟩=some (.string t))(hE:w.cell? ⟨1,0,none⟩=some (.iface T v))(h:4≤t.size)(ht:t.size≤1000000)(hm:(numAt t 4:Int)≤m)(hs:4+numAt t 4+fillN (numAt t 4)≤t.size)
  (hzz:zerosB (t.extract (4+numAt t 4) (4+numAt t 4+fillN (numAt t 4)))=false) :
  Calls Tryz.prog 170 #[.pointer (some ⟨b,0,none⟩),.int .i64 m] w fun e w'=>e = .returned (.tuple #[.string (bs []),.iface T v])∧Below w.heap.size w w':=by
 have hl:numAt t 4 < 4294967296:=numAt_lt t 4;have hz:=fillN_lt (numAt t 4);have hd1:decide (m < (numAt t 4:Int))=false:=decide_eq_false (by omega);have hd2:decide ((t.size:Int) < 4+(numAt t 4:Int)+(fillN (numAt t 4):Int))=false:=decide_eq_false (by omega)
 go_enter Tryz.func170,Tryz.ntmps170
 go_wp2_with (first
  | (go_at_call 159;refine (next4_ok b t _ hc h ht).mono ?_;rintro e w1 ⟨rfl,rfl⟩)
  | (go_at_call 198;refine (filling_any (numAt t 4) _ (by omega)).mono ?_;rintro e w1 ⟨rfl,rfl⟩)
  | (go_at_call 227;refine (isZeros_any _ _ (by simp only [ByteArray.size_extract];omega)).mono ?_;rintro e w1 ⟨rfl,rfl⟩;rw [hzz]))
 go_region
 all_goals
  go_wp2
  go_ret2
  exact ⟨rfl,(Below.refl _ _).drew⟩
theorem rBytes_ok (b:Nat)(t:ByteArray)(m:Int)(w:World)(hc:w.cell? ⟨b,0,none⟩=some (.string t))(hf:w.frozen? ⟨b,0,none⟩=false)(h:4≤t.size)(ht:t.size≤1000000)(hm:(numAt t 4:Int)≤m)(hs:4+numAt t 4+fillN (numAt t 4)≤t.size)
  (hzz:zerosB (t.extract (4+numAt t 4) (4+numAt t 4+fillN (numAt t 4)))=true) :
  Calls Tryz.prog 170 #[.pointer (some ⟨b,0,none⟩),.int .i64 m] w fun e w'=>e = .returned (.tuple #[.string (t.extract 4 (4+numAt t 4)),.nilIface])∧w.setCell ⟨b,0,none⟩ (.string (cutAt t (4+numAt t 4+fillN (numAt t 4))))=w':=by
 have hl:numAt t 4 < 4294967296:=numAt_lt t 4;have hz:=fillN_lt (numAt t 4);have hd1:decide (m < (numAt t 4:Int))=false:=decide_eq_false (by omega);have hd2:decide ((t.size:Int) < 4+(numAt t 4:Int)+(fillN (numAt t 4):Int))=false:=decide_eq_false (by omega)
 go_enter Tryz.func170,Tryz.ntmps170
 go_wp2_with (first
  | (go_at_call 159;refine (next4_ok b t _ hc h ht).mono ?_;rintro e w1 ⟨rfl,rfl⟩)
  | (go_at_call 198;refine (filling_any (numAt t 4) _ (by omega)).mono ?_;rintro e w1 ⟨rfl,rfl⟩)
  | (go_at_call 227;refine (isZeros_any _ _ (by simp only [ByteArray.size_extract];omega)).mono ?_;rintro e w1 ⟨rfl,rfl⟩;rw [hzz])
  | (go_at_call 160;refine (skip_int b t _ (4+numAt t 4+fillN (numAt t 4)) _ (by omega) hc hf hs ht).mono ?_;rintro e w1 ⟨rfl,rfl⟩))
 go_ret2
 exact ⟨rfl,rfl⟩
end
end Go.Proofs.YtodldddakjmonaaGreatDoor
