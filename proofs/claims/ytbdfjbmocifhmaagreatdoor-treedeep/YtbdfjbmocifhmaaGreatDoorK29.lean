import Derived.Test.YtbdfjbmocifhmaaGreatDoorK2
import Derived.BigQuiet
import Derived.Laws.Bits64b
import Derived.Lib.Strings
set_option maxHeartbeats 8000000
namespace Go.Proofs.YtbdfjbmocifhmaaGreatDoor
section
open Go Go.RowKit Go.Deep
theorem or_step (a c:Nat)(ha:a < 72057594037927936)(hc:c < 256):bits BinOp.or IntKind.u64 ((a:Int)*256) (IntKind.u64.wrap (c:Int))=((a*256+c:Nat):Int):=by
 have e:IntKind.u64.wrap (c:Int)=(c:Int):=by
  simp [IntKind.wrap,IntKind.signed,IntKind.bits];omega
 rw [e,show (a:Int)*256=((a*256:Nat):Int) by omega,bits_or_u64_nat _ _ (by omega) (by omega)];have h2:=Nat.two_pow_add_eq_or_of_lt (i:=8) hc a;rw [show a*256=2 ^ 8*a by omega,← h2]
theorem next_short (b:Nat)(t:ByteArray)(k:Nat)(E:Value)(w:World)(hc:w.cell? ⟨b,0,none⟩=some (.string t))(hE:w.cell? ⟨6,0,none⟩=some E)(h:t.size < k)(_hk:k≤8):
  Calls Tryz.prog 167 #[.pointer (some ⟨b,0,none⟩),.int .i64 k] w fun e w'=>e = .returned (.tuple #[.int .u64 0,E])∧Below w.heap.size w w':=by
 go_enter Tryz.func167,Tryz.ntmps167
 go_wp2
 go_region
 all_goals
  go_wp2
  go_ret2
  exact ⟨rfl,(Below.refl _ _).drew⟩
theorem next_ok (b:Nat)(t:ByteArray)(k:Nat)(w:World)(hc:w.cell? ⟨b,0,none⟩=some (.string t))(h:k≤t.size)(hk:k≤8)(ht:t.size≤1000000):
  Calls Tryz.prog 167 #[.pointer (some ⟨b,0,none⟩),.int .i64 k] w fun e w'=>e = .returned (.tuple #[.int .u64 (num (t.data.toList.take k)),.nilIface])∧w=w':=by
 go_enter Tryz.func167,Tryz.ntmps167
 go_wp2
 go_loop [6,17] (fun n i=>∃ j:Nat,j≤k∧i = .int .i64 j∧n = .int .u64 (num (t.data.toList.take j))) (fun _ i=>k - (intOf i).toNat)
 case atStart=>exact ⟨0,Nat.zero_le _,rfl,rfl⟩
 case round =>
  obtain ⟨j,hj,rfl,rfl⟩:=hrel
  by_cases hlt:j < k
  · have hjt:j < t.size:=by omega
    have hb1:num (t.data.toList.take j) < 72057594037927936:=Nat.lt_of_lt_of_le (num_take_lt _ _) (Nat.le_trans (Nat.pow_le_pow_right (by decide) (show j≤7 by omega)) (by decide));have HS:Hid (num (t.data.toList.take (j+1))=num (t.data.toList.take j)*256+t[j].toNat):=num_take_succ t.data.toList j (by simpa using hjt);have HO:Hid _:=or_step (num (t.data.toList.take j)) t[j].toNat hb1 t[j].toNat_lt
    go_wp2
    go_round
    case rel=>exact ⟨j+1,by omega,by go_num,by rw [HS.out];exact congrArg _ HO.out⟩
    case measure=>simp [intOf];omega
  · obtain rfl:j=k:=by omega
    go_wp2
    go_ret2
    exact ⟨rfl,rfl⟩
theorem skip_any (b:Nat)(t:ByteArray)(k:Nat)(w:World)(hc:w.cell? ⟨b,0,none⟩=some (.string t))(hf:w.frozen? ⟨b,0,none⟩=false)(h:k≤t.size)(_ht:t.size≤1000000):
  Calls Tryz.prog 168 #[.pointer (some ⟨b,0,none⟩),.int .i64 k] w fun e w'=>e = .returned (.tuple #[])∧w.setCell ⟨b,0,none⟩ (.string (t.extract k t.size))=w':=by
 go_enter Tryz.func168,Tryz.ntmps168
 go_wp2
 go_end0
 exact ⟨rfl,rfl⟩
def zerosB (s:ByteArray):Bool:=s.data.toList.all (·==0)
theorem zeros_no {s:ByteArray}{j:Nat}(hj:j < s.size)(h:((s[j].toNat:Int) != 0)=true):zerosB s=false:=by
 unfold zerosB;rw [List.all_eq_false];refine ⟨s[j],List.getElem_mem (l:=s.data.toList) (by simpa using hj),?_⟩;intro e;rw [beq_iff_eq] at e;rw [e] at h;simp at h
theorem zeros_yes {s:ByteArray}(h:∀ x,(hx:x < s.size)→s[x]=0):zerosB s=true:=by
 unfold zerosB;rw [List.all_eq_true];intro c hc;obtain ⟨i,hi,rfl⟩:=List.getElem_of_mem hc;rw [beq_iff_eq];exact h i (by simpa using hi)
theorem zero_of {c:UInt8}(h:((c.toNat:Int) != 0)=false):c=0:=by
 have:c.toNat=0:=by simpa using h
 exact UInt8.toNat_inj.1 this
theorem isZeros_any (s:ByteArray)(w:World)(hs:s.size≤1000000):
  Calls Tryz.prog 188 #[.string s] w fun e w'=>e = .returned (.bool (zerosB s))∧w=w':=by
 go_enter Tryz.func188,Tryz.ntmps188
 go_wp2
 go_loop [6] (fun i=>∃ j:Nat,j≤s.size∧i = .int .i64 j∧∀ x,(hx:x < s.size)→x < j→s[x]=0) (fun i=>s.size - (intOf i).toNat)
 case atStart=>exact ⟨0,Nat.zero_le _,rfl,fun x _ h=>absurd h (Nat.not_lt_zero _)⟩
 case round =>
  obtain ⟨j,hj,rfl,hall⟩:=hrel;have HA:Hid (∀ x,(hx:x < s.size)→x < j→s[x]=0):=hall;clear hall
  by_cases hlt:j < s.size
  · go_wp2
    · have hz:zerosB s=false:=zeros_no hlt (by assumption)
      go_ret
      exact ⟨by rw [hz];rfl,rfl⟩
    · have hz:s[j]=0:=zero_of (by assumption)
      have HZ:Hid (s[j]=0):=hz;clear hz
      go_round
      case rel=>exact ⟨j+1,by omega,by go_num,fun x hx hxj=>by
       rcases Nat.lt_or_ge x j with h1 | h1
       · exact HA.out x hx h1
       · obtain rfl:x=j:=by omega
         exact HZ.out⟩
      case measure=>simp [intOf];omega
  · have hz:zerosB s=true:=zeros_yes fun x hx=>HA.out x hx (by omega)
    go_wp2
    go_ret
    exact ⟨rfl,rfl⟩
def numAt (t:ByteArray)(k:Nat):Nat:=num (t.data.toList.take k)
theorem numAt_lt (t:ByteArray)(k:Nat):numAt t k < 256 ^ k:=num_take_lt _ _
def cutAt (t:ByteArray)(k:Nat):ByteArray:=t.extract k t.size
theorem cutAt_size (t:ByteArray)(k:Nat):(cutAt t k).size=t.size - k:=by simp [cutAt,ByteArray.size_extract]
theorem next4_short (b:Nat)(t:ByteArray)(E:Value)(w:World)(hc:w.cell? ⟨b,0,none⟩=some (.string t))(hE:w.cell? ⟨6,0,none⟩=some E)(h:t.size < 4):
 Calls Tryz.prog 167 #[.pointer (some ⟨b,0,none⟩),.int .i64 4] w fun e w'=>e = .returned (.tuple #[.int .u64 0,E])∧Below w.heap.size w w':=next_short b t 4 E w hc hE h (by decide)
theorem next8_short (b:Nat)(t:ByteArray)(E:Value)(w:World)(hc:w.cell? ⟨b,0,none⟩=some (.string t))(hE:w.cell? ⟨6,0,none⟩=some E)(h:t.size < 8):
 Calls Tryz.prog 167 #[.pointer (some ⟨b,0,none⟩),.int .i64 8] w fun e w'=>e = .returned (.tuple #[.int .u64 0,E])∧Below w.heap.size w w':=next_short b t 8 E w hc hE h (by decide)
theorem next4_ok (b:Nat)(t:ByteArray)(w:World)(hc:w.cell? ⟨b,0,none⟩=some (.string t))(h:4≤t.size)(ht:t.size≤1000000):
 Calls Tryz.prog 167 #[.pointer (some ⟨b,0,none⟩),.int .i64 4] w fun e w'=>e = .returned (.tuple #[.int .u64 (numAt t 4),.nilIface])∧w=w':=next_ok b t 4 w hc h (by decide) ht
theorem next8_ok (b:Nat)(t:ByteArray)(w:World)(hc:w.cell? ⟨b,0,none⟩=some (.string t))(h:8≤t.size)(ht:t.size≤1000000):
 Calls Tryz.prog 167 #[.pointer (some ⟨b,0,none⟩),.int .i64 8] w fun e w'=>e = .returned (.tuple #[.int .u64 (numAt t 8),.nilIface])∧w=w':=next_ok b t 8 w hc h (by decide) ht
theorem skip8 (b:Nat)(t:ByteArray)(w:World)(hc:w.cell? ⟨b,0,none⟩=some (.string t))(hf:w.frozen? ⟨b,0,none⟩=false)(h:8≤t.size)(ht:t.size≤1000000):
 Calls Tryz.prog 168 #[.pointer (some ⟨b,0,none⟩),.int .i64 8] w fun e w'=>e = .returned (.tuple #[])∧w.setCell ⟨b,0,none⟩ (.string (cutAt t 8))=w':=skip_any b t 8 w hc hf h ht
theorem rLong_short (b:Nat)(t:ByteArray)(T:TypeId)(v:Value)(w:World)(hc:w.cell? ⟨b,0,none⟩=some (.string t))(hE:w.cell? ⟨6,0,none⟩=some (.iface T v))(h:t.size < 8):
  Calls Tryz.prog 142 #[.pointer (some ⟨b,0,none⟩)] w fun e w'=>e = .returned (.tuple #[.int .i64 0,.iface T v])∧Below w.heap.size w w':=by
 go_enter Tryz.func142,Tryz.ntmps142
 go_wp2_with (go_at_call 167;refine (next8_short b t _ _ hc hE h).mono ?_;rintro e w1 ⟨rfl,hb⟩)
 go_ret2
 exact ⟨rfl,hb⟩
theorem rLong_great (b:Nat)(t:ByteArray)(T:TypeId)(v:Value)(w:World)(hc:w.cell? ⟨b,0,none⟩=some (.string t))(hE:w.cell? ⟨6,0,none⟩=some (.iface T v))(h:8≤t.size)(ht:t.size≤1000000)(hg:9223372036854775807 < numAt t 8):
  Calls Tryz.prog 142 #[.pointer (some ⟨b,0,none⟩)] w fun e w'=>e = .returned (.tuple #[.int .i64 0,.iface T v])∧Below w.heap.size w w':=by
 go_enter Tryz.func142,Tryz.ntmps142
 go_wp2_with (go_at_call 167;refine (next8_ok b t _ hc h ht).mono ?_;rintro e w1 ⟨rfl,rfl⟩)
 go_region
 all_goals
  go_wp2
  go_ret2
  exact ⟨rfl,(Below.refl _ _).drew⟩
theorem rLong_ok (b:Nat)(t:ByteArray)(w:World)(hc:w.cell? ⟨b,0,none⟩=some (.string t))(hf:w.frozen? ⟨b,0,none⟩=false)(h:8≤t.size)(ht:t.size≤1000000)(hg:numAt t 8≤9223372036854775807):
  Calls Tryz.prog 142 #[.pointer (some ⟨b,0,none⟩)] w fun e w'=>e = .returned (.tuple #[.int .i64 (numAt t 8),.nilIface])∧w.setCell ⟨b,0,none⟩ (.string (cutAt t 8))=w':=by
 go_enter Tryz.func142,Tryz.ntmps142
 go_wp2_with (first
  | (go_at_call 167;refine (next8_ok b t _ hc h ht).mono ?_;rintro e w1 ⟨rfl,rfl⟩)
  | (go_at_call 168;refine (skip8 b t _ hc hf h ht).mono ?_;rintro e w1 ⟨rfl,rfl⟩))
 go_ret2
 exact ⟨rfl,rfl⟩
theorem newReader_any (s:ByteArray)(w:World):
  Calls Tryz.prog 51 #[.string s] w fun e w'=>e = .returned (.pointer (some ⟨w.heap.size,0,none⟩))∧w.alloc (.cells #[.string s] 183)=w':=by
 go_enter Tryz.func51,Tryz.ntmps51
 go_wp2
 go_ret
 exact ⟨rfl,rfl⟩
theorem skip_int (b:Nat)(t:ByteArray)(n:Int)(k:Nat)(w:World)(hn:n=(k:Int))(hc:w.cell? ⟨b,0,none⟩=some (.string t))(hf:w.frozen? ⟨b,0,none⟩=false)(h:k≤t.size)(ht:t.size≤1000000):
  Calls Tryz.prog 168 #[.pointer (some ⟨b,0,none⟩),.int .i64 n] w fun e w'=>e = .returned (.tuple #[])∧w.setCell ⟨b,0,none⟩ (.string (cutAt t k))=w':=by
 subst hn;exact skip_any b t k w hc hf h ht
theorem rBytes_short (b:Nat)(t:ByteArray)(m:Int)(T:TypeId)(v:Value)(w:World)(hc:w.cell? ⟨b,0,none⟩=some (.string t))(hE:w.cell? ⟨6,0,none⟩=some (.iface T v))(h:t.size < 4):
  Calls Tryz.prog 170 #[.pointer (some ⟨b,0,none⟩),.int .i64 m] w fun e w'=>e = .returned (.tuple #[.string (bs []),.iface T v])∧Below w.heap.size w w':=by
 go_enter Tryz.func170,Tryz.ntmps170
 go_wp2_with (go_at_call 167;refine (next4_short b t _ _ hc hE h).mono ?_;rintro e w1 ⟨rfl,hb⟩)
 go_ret2
 exact ⟨rfl,hb⟩
theorem rBytes_many (b:Nat)(t:ByteArray)(m:Int)(T:TypeId)(v:Value)(w:World)(hc:w.cell? ⟨b,0,none⟩=some (.string t))(hE:w.cell? ⟨6,0,none⟩=some (.iface T v))(h:4≤t.size)(ht:t.size≤1000000)(hm:m < (numAt t 4:Int)):
  Calls Tryz.prog 170 #[.pointer (some ⟨b,0,none⟩),.int .i64 m] w fun e w'=>e = .returned (.tuple #[.string (bs []),.iface T v])∧Below w.heap.size w w':=by
 have hl:numAt t 4 < 4294967296:=numAt_lt t 4;have hz:=fillN_lt (numAt t 4)
 go_enter Tryz.func170,Tryz.ntmps170
 go_wp2_with (first
  | (go_at_call 167;refine (next4_ok b t _ hc h ht).mono ?_;rintro e w1 ⟨rfl,rfl⟩)
  | (go_at_call 160;refine (filling_any (numAt t 4) _ (by omega)).mono ?_;rintro e w1 ⟨rfl,rfl⟩))
 go_region
 all_goals
  go_wp2
  go_ret2
  exact ⟨rfl,(Below.refl _ _).drew⟩
theorem rBytes_few (b:Nat)(t:ByteArray)(m:Int)(T:TypeId)(v:Value)(w:World)(hc:w.cell? ⟨b,0,none⟩=some (.string t))(hE:w.cell? ⟨6,0,none⟩=some (.iface T v))(h:4≤t.size)(ht:t.size≤1000000)(hm:(numAt t 4:Int)≤m)(hs:t.size < 4+numAt t 4+fillN (numAt t 4)):
  Calls Tryz.prog 170 #[.pointer (some ⟨b,0,none⟩),.int .i64 m] w fun e w'=>e = .returned (.tuple #[.string (bs []),.iface T v])∧Below w.heap.size w w':=by
 have hl:numAt t 4 < 4294967296:=numAt_lt t 4;have hz:=fillN_lt (numAt t 4);have hd1:decide (m < (numAt t 4:Int))=false:=decide_eq_false (by omega);have hd2:decide ((t.size:Int) < 4+(numAt t 4:Int)+(fillN (numAt t 4):Int))=true:=decide_eq_true (by omega)
 go_enter Tryz.func170,Tryz.ntmps170
 go_wp2_with (first
  | (go_at_call 167;refine (next4_ok b t _ hc h ht).mono ?_;rintro e w1 ⟨rfl,rfl⟩)
  | (go_at_call 160;refine (filling_any (numAt t 4) _ (by omega)).mono ?_;rintro e w1 ⟨rfl,rfl⟩))
 go_region
 all_goals
  go_wp2
  go_ret2
  exact ⟨rfl,(Below.refl _ _).drew⟩
theorem rBytes_fill (b:Nat)(t:ByteArray)(m:Int)(T:TypeId)(v:Value)(w:World)(hc:w.cell? ⟨b,0,none⟩=some (.string t))(hE:w.cell? ⟨6,0,none⟩=some (.iface T v))(h:4≤t.size)(ht:t.size≤1000000)(hm:(numAt t 4:Int)≤m)(hs:4+numAt t 4+fillN (numAt t 4)≤t.size)
  (hzz:zerosB (t.extract (4+numAt t 4) (4+numAt t 4+fillN (numAt t 4)))=false) :
  Calls Tryz.prog 170 #[.pointer (some ⟨b,0,none⟩),.int .i64 m] w fun e w'=>e = .returned (.tuple #[.string (bs []),.iface T v])∧Below w.heap.size w w':=by
 have hl:numAt t 4 < 4294967296:=numAt_lt t 4;have hz:=fillN_lt (numAt t 4);have hd1:decide (m < (numAt t 4:Int))=false:=decide_eq_false (by omega);have hd2:decide ((t.size:Int) < 4+(numAt t 4:Int)+(fillN (numAt t 4):Int))=false:=decide_eq_false (by omega)
 go_enter Tryz.func170,Tryz.ntmps170
 go_wp2_with (first
  | (go_at_call 167;refine (next4_ok b t _ hc h ht).mono ?_;rintro e w1 ⟨rfl,rfl⟩)
  | (go_at_call 160;refine (filling_any (numAt t 4) _ (by omega)).mono ?_;rintro e w1 ⟨rfl,rfl⟩)
  | (go_at_call 188;refine (isZeros_any _ _ (by simp only [ByteArray.size_extract];omega)).mono ?_;rintro e w1 ⟨rfl,rfl⟩;rw [hzz]))
 go_region
 all_goals
  go_wp2
  go_ret2
  exact ⟨rfl,(Below.refl _ _).drew⟩
theorem rBytes_ok (b:Nat)(t:ByteArray)(m:Int)(w:World)(hc:w.cell? ⟨b,0,none⟩=some (.string t))(hf:w.frozen? ⟨b,0,none⟩=false)(h:4≤t.size)(ht:t.size≤1000000)(hm:(numAt t 4:Int)≤m)(hs:4+numAt t 4+fillN (numAt t 4)≤t.size)
  (hzz:zerosB (t.extract (4+numAt t 4) (4+numAt t 4+fillN (numAt t 4)))=true) :
  Calls Tryz.prog 170 #[.pointer (some ⟨b,0,none⟩),.int .i64 m] w fun e w'=>e = .returned (.tuple #[.string (t.extract 4 (4+numAt t 4)),.nilIface])∧w.setCell ⟨b,0,none⟩ (.string (cutAt t (4+numAt t 4+fillN (numAt t 4))))=w':=by
 have hl:numAt t 4 < 4294967296:=numAt_lt t 4;have hz:=fillN_lt (numAt t 4);have hd1:decide (m < (numAt t 4:Int))=false:=decide_eq_false (by omega);have hd2:decide ((t.size:Int) < 4+(numAt t 4:Int)+(fillN (numAt t 4):Int))=false:=decide_eq_false (by omega)
 go_enter Tryz.func170,Tryz.ntmps170
 go_wp2_with (first
  | (go_at_call 167;refine (next4_ok b t _ hc h ht).mono ?_;rintro e w1 ⟨rfl,rfl⟩)
  | (go_at_call 160;refine (filling_any (numAt t 4) _ (by omega)).mono ?_;rintro e w1 ⟨rfl,rfl⟩)
  | (go_at_call 188;refine (isZeros_any _ _ (by simp only [ByteArray.size_extract];omega)).mono ?_;rintro e w1 ⟨rfl,rfl⟩;rw [hzz])
  | (go_at_call 168;refine (skip_int b t _ (4+numAt t 4+fillN (numAt t 4)) _ (by omega) hc hf hs ht).mono ?_;rintro e w1 ⟨rfl,rfl⟩))
 go_ret2
 exact ⟨rfl,rfl⟩
theorem data_length (t:ByteArray):t.data.toList.length=t.size:=rfl
theorem cutAt_data (t:ByteArray)(k:Nat):(cutAt t k).data.toList=t.data.toList.drop k:=by
 unfold cutAt;rw [Lib.extract_data];exact List.take_of_length_le (by rw [List.length_drop,data_length];exact Nat.le_refl _)
theorem read_num (t:ByteArray)(k n:Nat)(rest:List UInt8)(h:t.data.toList=be k n++rest)(hn:n < 256 ^ k):k≤t.size∧numAt t k=n∧(cutAt t k).data.toList=rest:=by
 have hl:(be k n).length=k:=be_length k n;refine ⟨?_,?_,?_⟩
 · rw [← data_length,h,List.length_append];omega
 · unfold numAt
   rw [h,List.take_append_of_le_length (by omega),List.take_of_length_le (by omega),num_be,Nat.mod_eq_of_lt hn]
 · rw [cutAt_data,h,List.drop_append_of_le_length (by omega),List.drop_of_length_le (by omega)];rfl
theorem be_zero (k:Nat):be k 0=List.replicate k 0:=by
 induction k with
 | zero=>rfl
 | succ k ih=>rw [be,ih,List.replicate_succ];simp
theorem itemS_data (s:ByteArray):(itemS s).data.toList=be 4 s.size++(s.data.toList++be (fillN s.size) 0):=by
 simp [itemS,bs]
theorem zeros_of {s:ByteArray}{k:Nat}(h:s.data.toList=be k 0):zerosB s=true:=by
 unfold zerosB;rw [h,be_zero];simp
theorem read_item (t s:ByteArray)(rest:List UInt8)(h:t.data.toList=(itemS s).data.toList++rest)(hs:s.size≤5000):
   4≤t.size∧numAt t 4=s.size∧4+s.size+fillN s.size≤t.size∧zerosB (t.extract (4+s.size) (4+s.size+fillN s.size))=true∧t.extract 4 (4+s.size)=s∧(cutAt t (4+s.size+fillN s.size)).data.toList=rest:=by
 rw [itemS_data] at h
 have h1:t.data.toList=be 4 s.size++(s.data.toList++be (fillN s.size) 0++rest):=by rw [h];simp
 obtain ⟨a,b,c⟩:=read_num t 4 s.size _ h1 (by have:(256:Nat) ^ 4=4294967296:=(by decide);omega)
 have c':t.data.toList.drop 4=s.data.toList++(be (fillN s.size) 0++rest):=by rw [← cutAt_data,c];simp
 have d1:t.data.toList.drop (4+s.size)=be (fillN s.size) 0++rest:=by
   rw [← List.drop_drop,c',List.drop_append_of_le_length (by rw [data_length];omega),List.drop_of_length_le (by rw [data_length];omega)];rfl
 have d2:t.data.toList.drop (4+s.size+fillN s.size)=rest:=by
   rw [← List.drop_drop,d1,List.drop_append_of_le_length (by rw [be_length];omega),List.drop_of_length_le (by rw [be_length];omega)];rfl
 refine ⟨a,b,?_,?_,?_,?_⟩
 · have:=congrArg List.length h1
   simp only [data_length,List.length_append,be_length] at this;omega
 · apply zeros_of (k:=fillN s.size)
   rw [Lib.extract_data,d1,List.take_append_of_le_length (by rw [be_length];omega),List.take_of_length_le (by rw [be_length];omega)]
 · apply data_inj
   rw [Lib.extract_data,c',List.take_append_of_le_length (by rw [data_length];omega),List.take_of_length_le (by rw [data_length];omega)]
 · rw [cutAt_data,d2]
def ItemOk (s:ByteArray)(m:Int):Prop:=4≤s.size∧(numAt s 4:Int)≤m∧4+numAt s 4+fillN (numAt s 4)≤s.size∧zerosB (s.extract (4+numAt s 4) (4+numAt s 4+fillN (numAt s 4)))=true
theorem rBytes_ends (b:Nat)(t:ByteArray)(m:Int)(T:TypeId)(v:Value)(w:World)(hc:w.cell? ⟨b,0,none⟩=some (.string t))(hf:w.frozen? ⟨b,0,none⟩=false)(hE:w.cell? ⟨6,0,none⟩=some (.iface T v))(ht:t.size≤15000):
   Calls Tryz.prog 170 #[.pointer (some ⟨b,0,none⟩),.int .i64 m] w fun e w' =>
     (ItemOk t m∧e = .returned (.tuple #[.string (t.extract 4 (4+numAt t 4)),.nilIface])∧w.setCell ⟨b,0,none⟩ (.string (cutAt t (4+numAt t 4+fillN (numAt t 4))))=w') ∨
     (¬ ItemOk t m∧e = .returned (.tuple #[.string (bs []),.iface T v])∧Below w.heap.size w w'):=by
 by_cases h4:4≤t.size
 · by_cases hm:(numAt t 4:Int)≤m
   · by_cases hs:4+numAt t 4+fillN (numAt t 4)≤t.size
     · cases hz:zerosB (t.extract (4+numAt t 4) (4+numAt t 4+fillN (numAt t 4)))
       · exact (rBytes_fill b t m T v w hc hE h4 (by omega) hm hs hz).mono fun e w' h=>Or.inr ⟨fun k=>Bool.noConfusion (hz.symm.trans k.2.2.2),h⟩
       · exact (rBytes_ok b t m w hc hf h4 (by omega) hm hs hz).mono fun e w' h=>Or.inl ⟨⟨h4,hm,hs,hz⟩,h⟩
     · exact (rBytes_few b t m T v w hc hE h4 (by omega) hm (by omega)).mono fun e w' h=>Or.inr ⟨fun k=>hs k.2.2.1,h⟩
   · exact (rBytes_many b t m T v w hc hE h4 (by omega) (by omega)).mono fun e w' h=>Or.inr ⟨fun k=>hm k.2.1,h⟩
 · exact (rBytes_short b t m T v w hc hE (by omega)).mono fun e w' h=>Or.inr ⟨fun k=>h4 k.1,h⟩
end
end Go.Proofs.YtbdfjbmocifhmaaGreatDoor
