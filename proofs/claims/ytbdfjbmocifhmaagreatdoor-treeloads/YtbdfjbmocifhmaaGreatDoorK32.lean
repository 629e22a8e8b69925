import Derived.Test.YtbdfjbmocifhmaaGreatDoorK31
set_option maxHeartbeats 8000000
namespace Go.Proofs.YtbdfjbmocifhmaaGreatDoor
section
open Go Go.RowKit Go.Deep
def numAt (t:ByteArray)(k:Nat):Nat:=num (t.data.toList.take k)
theorem numAt_lt (t:ByteArray)(k:Nat):numAt t k < 256 ^ k:=num_take_lt _ _
def cutAt (t:ByteArray)(k:Nat):ByteArray:=t.extract k t.size
theorem cutAt_size (t:ByteArray)(k:Nat):(cutAt t k).size=t.size - k:=by simp [cutAt,ByteArray.size_extract]
theorem next4_short (b:Nat)(t:ByteArray)(E:Value)(w:World)(hc:w.cell? ⟨b,0,none⟩=some (.string t))(hE:w.cell? ⟨6,0,none⟩=some E)(h:t.size < 4):
 Calls Tryz.prog 167 #[.pointer (some ⟨b,0,none⟩),.int .i64 4] w fun e w'=>e = .returned (.tuple #[.int .u64 0,E])∧Below w.heap.size w w':=next_short b t 4 E w hc hE h (by decide)
theorem next8_short (b:Nat)(t:ByteArray)(E:Value)(w:World)(hc:w.cell? ⟨b,0,none⟩=some (.string t))(hE:w.cell? ⟨6,0,none⟩=some E)(h:t.size < 8):
 Calls Tryz.prog 167 #[.pointer (some ⟨b,0,none⟩),.int .i64 8] w fun e w'=>e = .returned (.tuple #[.int .u64 0,E])∧Below w.heap.size w w':=next_short b t 8 E w hc hE h (by decide)
theorem next4_ok (b:Nat)(t:ByteArray)(w:World)(hc:w.cell? ⟨b,0,none⟩=some (.string t))(h:4≤t.size)(ht:t.size≤1000000):
 Calls Tryz.prog 167 #[.pointer (some ⟨b,0,none⟩),.int .i64 4] w fun e w'=>e = .returned (.tuple #[.int .u64 (numAt t 4),.nilIface])∧w=w':=next_ok b t 4 w hc h (by decide) ht
theorem next8_ok (b:Nat)(t:ByteArray)(w:World)(hc:w.cell? ⟨b,0,none⟩=some (.string t))(h:8≤t.size)(ht:t.size≤1000000):
 Calls Tryz.prog 167 #[.pointer (some ⟨b,0,none⟩),.int .i64 8] w fun e w'=>e = .returned (.tuple #[.int .u64 (numAt t 8),.nilIface])∧w=w':=next_ok b t 8 w hc h (by decide) ht
theorem skip8 (b:Nat)(t:ByteArray)(w:World)(hc:w.cell? ⟨b,0,none⟩=some (.string t))(hf:w.frozen? ⟨b,0,none⟩=false)(h:8≤t.size)(ht:t.size≤1000000):
 Calls Tryz.prog 168 #[.pointer (some ⟨b,0,none⟩),.int .i64 8] w fun e w'=>e = .returned (.tuple #[])∧w.setCell ⟨b,0,none⟩ (.string (cutAt t 8))=w':=skip_any b t 8 w hc hf h ht
theorem rLong_short (b:Nat)(t:ByteArray)(T:TypeId)(v:Value)(w:World)(hc:w.cell? ⟨b,0,none⟩=some (.string t))(hE:w.cell? ⟨6,0,none⟩=some (.iface T v))(h:t.size < 8):
  Calls Tryz.prog 142 #[.pointer (some ⟨b,0,none⟩)] w fun e w'=>e = .returned (.tuple #[.int .i64 0,.iface T v])∧Below w.heap.size w w':=by
 go_enter Tryz.func142,Tryz.ntmps142
 go_wp2_with (go_at_call 167;refine (next8_short b t _ _ hc hE h).mono ?_;rintro e w1 ⟨rfl,hb⟩)
 go_ret2
 exact ⟨rfl,hb⟩
theorem rLong_great (b:Nat)(t:ByteArray)(T:TypeId)(v:Value)(w:World)(hc:w.cell? ⟨b,0,none⟩=some (.string t))(hE:w.cell? ⟨6,0,none⟩=some (.iface T v))(h:8≤t.size)(ht:t.size≤1000000)(hg:9223372036854775807 < numAt t 8):
  Calls Tryz.prog 142 #[.pointer (some ⟨b,0,none⟩)] w fun e w'=>e = .returned (.tuple #[.int .i64 0,.iface T v])∧Below w.heap.size w w':=by
 go_enter Tryz.func142,Tryz.ntmps142
 go_wp2_with (go_at_call 167;refine (next8_ok b t _ hc h ht).mono ?_;rintro e w1 ⟨rfl,rfl⟩)
 go_region
 all_goals
  go_wp2
  go_ret2
  exact ⟨rfl,(Below.refl _ _).drew⟩
theorem rLong_ok (b:Nat)(t:ByteArray)(w:World)(hc:w.cell? ⟨b,0,none⟩=some (.string t))(hf:w.frozen? ⟨b,0,none⟩=false)(h:8≤t.size)(ht:t.size≤1000000)(hg:numAt t 8≤9223372036854775807):
  Calls Tryz.prog 142 #[.pointer (some ⟨b,0,none⟩)] w fun e w'=>e = .returned (.tuple #[.int .i64 (numAt t 8),.nilIface])∧w.setCell ⟨b,0,none⟩ (.string (cutAt t 8))=w':=by
 go_enter Tryz.func142,Tryz.ntmps142
 go_wp2_with (first
  | (go_at_call 167;refine (next8_ok b t _ hc h ht).mono ?_;rintro e w1 ⟨rfl,rfl⟩)
  | (go_at_call 168;refine (skip8 b t _ hc hf h ht).mono ?_;rintro e w1 ⟨rfl,rfl⟩))
 go_ret2
 exact ⟨rfl,rfl⟩
theorem newReader_any (s:ByteArray)(w:World):
  Calls Tryz.prog 51 #[.string s] w fun e w'=>e = .returned (.pointer (some ⟨w.heap.size,0,none⟩))∧w.alloc (.cells #[.string s] 183)=w':=by
 go_enter Tryz.func51,Tryz.ntmps51
 go_wp2
 go_ret
 exact ⟨rfl,rfl⟩
theorem skip_int (b:Nat)(t:ByteArray)(n:Int)(k:Nat)(w:World)(hn:n=(k:Int))(hc:w.cell? ⟨b,0,none⟩=some (.string t))(hf:w.frozen? ⟨b,0,none⟩=false)(h:k≤t.size)(ht:t.size≤1000000):
  Calls Tryz.prog 168 #[.pointer (some ⟨b,0,none⟩),.int .i64 n] w fun e w'=>e = .returned (.tuple #[])∧w.setCell ⟨b,0,none⟩ (.string (cutAt t k))=w':=by
 subst hn;exact skip_any b t k w hc hf h ht
theorem rBytes_short (b:Nat)(t:ByteArray)(m:Int)(T:TypeId)(v:Value)(w:World)(hc:w.cell? ⟨b,0,none⟩=some (.string t))(hE:w.cell? ⟨6,0,none⟩=some (.iface T v))(h:t.size < 4):
  Calls Tryz.prog 170 #[.pointer (some ⟨b,0,none⟩),.int .i64 m] w fun e w'=>e = .returned (.tuple #[.string (bs []),.iface T v])∧Below w.heap.size w w':=by
 go_enter Tryz.func170,Tryz.ntmps170
 go_wp2_with (go_at_call 167;refine (next4_short b t _ _ hc hE h).mono ?_;rintro e w1 ⟨rfl,hb⟩)
 go_ret2
 exact ⟨rfl,hb⟩
theorem rBytes_many (b:Nat)(t:ByteArray)(m:Int)(T:TypeId)(v:Value)(w:World)(hc:w.cell? ⟨b,0,none⟩=some (.string t))(hE:w.cell? ⟨6,0,none⟩=some (.iface T v))(h:4≤t.size)(ht:t.size≤1000000)(hm:m < (numAt t 4:Int)):
  Calls Tryz.prog 170 #[.pointer (some ⟨b,0,none⟩),.int .i64 m] w fun e w'=>e = .returned (.tuple #[.string (bs []),.iface T v])∧Below w.heap.size w w':=by
 have hl:numAt t 4 < 4294967296:=numAt_lt t 4;have hz:=fillN_lt (numAt t 4)
 go_enter Tryz.func170,Tryz.ntmps170
 go_wp2_with (first
  | (go_at_call 167;refine (next4_ok b t _ hc h ht).mono ?_;rintro e w1 ⟨rfl,rfl⟩)
  | (go_at_call 160;refine (filling_any (numAt t 4) _ (by omega)).mono ?_;rintro e w1 ⟨rfl,rfl⟩))
 go_region
 all_goals
  go_wp2
  go_ret2
  exact ⟨rfl,(Below.refl _ _).drew⟩
theorem rBytes_few (b:Nat)(t:ByteArray)(m:Int)(T:TypeId)(v:Value)(w:World)(hc:w.cell? ⟨b,0,none⟩=some (.string t))(hE:w.cell? ⟨6,0,none⟩=some (.iface T v))(h:4≤t.size)(ht:t.size≤1000000)(hm:(numAt t 4:Int)≤m)(hs:t.size < 4+numAt t 4+fillN (numAt t 4)):
  Calls Tryz.prog 170 #[.pointer (some ⟨b,0,none⟩),.int .i64 m] w fun e w'=>e = .returned (.tuple #[.string (bs []),.iface T v])∧Below w.heap.size w w':=by
 have hl:numAt t 4 < 4294967296:=numAt_lt t 4;have hz:=fillN_lt (numAt t 4);have hd1:decide (m < (numAt t 4:Int))=false:=decide_eq_false (by omega);have hd2:decide ((t.size:Int) < 4+(numAt t 4:Int)+(fillN (numAt t 4):Int))=true:=decide_eq_true (by omega)
 go_enter Tryz.func170,Tryz.ntmps170
 go_wp2_with (first
  | (go_at_call 167;refine (next4_ok b t _ hc h ht).mono ?_;rintro e w1 ⟨rfl,rfl⟩)
  | (go_at_call 160;refine (filling_any (numAt t 4) _ (by omega)).mono ?_;rintro e w1 ⟨rfl,rfl⟩))
 go_region
 all_goals
  go_wp2
  go_ret2
  exact ⟨rfl,(Below.refl _ _).drew⟩
theorem rBytes_fill (b:Nat)(t:ByteArray)(m:Int)(T:TypeId)(v:Value)(w:World)(hc:w.cell? ⟨b,0,none⟩=some (.string t))(hE:w.cell? ⟨6,0,none⟩=some (.iface T v))(h:4≤t.size)(ht:t.size≤1000000)(hm:(numAt t 4:Int)≤m)(hs:4+numAt t 4+fillN (numAt t 4)≤t.size)
  (hzz:zerosB (t.extract (4+numAt t 4) (4+numAt t 4+fillN (numAt t 4)))=false) :
  Calls Tryz.prog 170 #[.pointer (some ⟨b,0,none⟩),.int .i64 m] w fun e w'=>e = .returned (.tuple #[.string (bs []),.iface T v])∧Below w.heap.size w w':=by
 have hl:numAt t 4 < 4294967296:=numAt_lt t 4;have hz:=fillN_lt (numAt t 4);have hd1:decide (m < (numAt t 4:Int))=false:=decide_eq_false (by omega);have hd2:decide ((t.size:Int) < 4+(numAt t 4:Int)+(fillN (numAt t 4):Int))=false:=decide_eq_false (by omega)
 go_enter Tryz.func170,Tryz.ntmps170
 go_wp2_with (first
  | (go_at_call 167;refine (next4_ok b t _ hc h ht).mono ?_;rintro e w1 ⟨rfl,rfl⟩)
  | (go_at_call 160;refine (filling_any (numAt t 4) _ (by omega)).mono ?_;rintro e w1 ⟨rfl,rfl⟩)
  | (go_at_call 188;refine (isZeros_any _ _ (by simp only [ByteArray.size_extract];omega)).mono ?_;rintro e w1 ⟨rfl,rfl⟩;rw [hzz]))
 go_region
 all_goals
  go_wp2
  go_ret2
  exact ⟨rfl,(Below.refl _ _).drew⟩
theorem rBytes_ok (b:Nat)(t:ByteArray)(m:Int)(w:World)(hc:w.cell? ⟨b,0,none⟩=some (.string t))(hf:w.frozen? ⟨b,0,none⟩=false)(h:4≤t.size)(ht:t.size≤1000000)(hm:(numAt t 4:Int)≤m)(hs:4+numAt t 4+fillN (numAt t 4)≤t.size)
  (hzz:zerosB (t.extract (4+numAt t 4) (4+numAt t 4+fillN (numAt t 4)))=true) :
  Calls Tryz.prog 170 #[.pointer (some ⟨b,0,none⟩),.int .i64 m] w fun e w'=>e = .returned (.tuple #[.string (t.extract 4 (4+numAt t 4)),.nilIface])∧w.setCell ⟨b,0,none⟩ (.string (cutAt t (4+numAt t 4+fillN (numAt t 4))))=w':=by
 have hl:numAt t 4 < 4294967296:=numAt_lt t 4;have hz:=fillN_lt (numAt t 4);have hd1:decide (m < (numAt t 4:Int))=false:=decide_eq_false (by omega);have hd2:decide ((t.size:Int) < 4+(numAt t 4:Int)+(fillN (numAt t 4):Int))=false:=decide_eq_false (by omega)
 go_enter Tryz.func170,Tryz.ntmps170
 go_wp2_with (first
  | (go_at_call 167;refine (next4_ok b t _ hc h ht).mono ?_;rintro e w1 ⟨rfl,rfl⟩)
  | (go_at_call 160;refine (filling_any (numAt t 4) _ (by omega)).mono ?_;rintro e w1 ⟨rfl,rfl⟩)
  | (go_at_call 188;refine (isZeros_any _ _ (by simp only [ByteArray.size_extract];omega)).mono ?_;rintro e w1 ⟨rfl,rfl⟩;rw [hzz])
  | (go_at_call 168;refine (skip_int b t _ (4+numAt t 4+fillN (numAt t 4)) _ (by omega) hc hf hs ht).mono ?_;rintro e w1 ⟨rfl,rfl⟩))
 go_ret2
 exact ⟨rfl,rfl⟩
def ItemOk (s:ByteArray)(m:Int):Prop:=4≤s.size∧(numAt s 4:Int)≤m∧4+numAt s 4+fillN (numAt s 4)≤s.size∧zerosB (s.extract (4+numAt s 4) (4+numAt s 4+fillN (numAt s 4)))=true
theorem rBytes_ends (b:Nat)(t:ByteArray)(m:Int)(T:TypeId)(v:Value)(w:World)(hc:w.cell? ⟨b,0,none⟩=some (.string t))(hf:w.frozen? ⟨b,0,none⟩=false)(hE:w.cell? ⟨6,0,none⟩=some (.iface T v))(ht:t.size≤15000):
   Calls Tryz.prog 170 #[.pointer (some ⟨b,0,none⟩),.int .i64 m] w fun e w' =>
     (ItemOk t m∧e = .returned (.tuple #[.string (t.extract 4 (4+numAt t 4)),.nilIface])∧w.setCell ⟨b,0,none⟩ (.string (cutAt t (4+numAt t 4+fillN (numAt t 4))))=w') ∨
     (¬ ItemOk t m∧e = .returned (.tuple #[.string (bs []),.iface T v])∧Below w.heap.size w w'):=by
 by_cases h4:4≤t.size
 · by_cases hm:(numAt t 4:Int)≤m
   · by_cases hs:4+numAt t 4+fillN (numAt t 4)≤t.size
     · cases hz:zerosB (t.extract (4+numAt t 4) (4+numAt t 4+fillN (numAt t 4)))
       · exact (rBytes_fill b t m T v w hc hE h4 (by omega) hm hs hz).mono fun e w' h=>Or.inr ⟨fun k=>Bool.noConfusion (hz.symm.trans k.2.2.2),h⟩
       · exact (rBytes_ok b t m w hc hf h4 (by omega) hm hs hz).mono fun e w' h=>Or.inl ⟨⟨h4,hm,hs,hz⟩,h⟩
     · exact (rBytes_few b t m T v w hc hE h4 (by omega) hm (by omega)).mono fun e w' h=>Or.inr ⟨fun k=>hs k.2.2.1,h⟩
   · exact (rBytes_many b t m T v w hc hE h4 (by omega) (by omega)).mono fun e w' h=>Or.inr ⟨fun k=>hm k.2.1,h⟩
 · exact (rBytes_short b t m T v w hc hE (by omega)).mono fun e w' h=>Or.inr ⟨fun k=>h4 k.1,h⟩
end
end Go.Proofs.YtbdfjbmocifhmaaGreatDoor
