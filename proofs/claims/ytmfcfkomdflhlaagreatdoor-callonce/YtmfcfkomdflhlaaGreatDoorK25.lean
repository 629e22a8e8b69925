import Derived.Test.YtmfcfkomdflhlaaGreatDoorK21
namespace Go.Proofs.YtmfcfkomdflhlaaGreatDoor
section
open Go Go.RowKit Go.Deep
theorem be_size (k n:Nat):(bs (be k n)).size=k:=by rw [bs_size,be_length]
theorem data_length (t:ByteArray):t.data.toList.length=t.size:=rfl
theorem cutAt_data (t:ByteArray)(k:Nat):(cutAt t k).data.toList=t.data.toList.drop k:=by
 unfold cutAt;rw [Lib.extract_data];exact List.take_of_length_le (by rw [List.length_drop,data_length];exact Nat.le_refl _)
theorem read_num (t:ByteArray)(k n:Nat)(rest:List UInt8)(h:t.data.toList=be k n++rest)(hn:n < 256 ^ k):k≤t.size∧numAt t k=n∧(cutAt t k).data.toList=rest:=by
 have hl:(be k n).length=k:=be_length k n;refine ⟨?_,?_,?_⟩
 · rw [← data_length,h,List.length_append];omega
 · unfold numAt
   rw [h,List.take_append_of_le_length (by omega),List.take_of_length_le (by omega),num_be,Nat.mod_eq_of_lt hn]
 · rw [cutAt_data,h,List.drop_append_of_le_length (by omega),List.drop_of_length_le (by omega)];rfl
theorem be_zero (k:Nat):be k 0=List.replicate k 0:=by
 induction k with
 | zero=>rfl
 | succ k ih=>rw [be,ih,List.replicate_succ];simp
theorem itemS_data (s:ByteArray):(itemS s).data.toList=be 4 s.size++(s.data.toList++be (fillN s.size) 0):=by
 simp [itemS,bs]
theorem zeros_of {s:ByteArray}{k:Nat}(h:s.data.toList=be k 0):zerosB s=true:=by
 unfold zerosB;rw [h,be_zero];simp
theorem read_item (t s:ByteArray)(rest:List UInt8)(h:t.data.toList=(itemS s).data.toList++rest)(hs:s.size≤5000):
   4≤t.size∧numAt t 4=s.size∧4+s.size+fillN s.size≤t.size∧zerosB (t.extract (4+s.size) (4+s.size+fillN s.size))=true∧t.extract 4 (4+s.size)=s∧(cutAt t (4+s.size+fillN s.size)).data.toList=rest:=by
 rw [itemS_data] at h
 have h1:t.data.toList=be 4 s.size++(s.data.toList++be (fillN s.size) 0++rest):=by rw [h];simp
 obtain ⟨a,b,c⟩:=read_num t 4 s.size _ h1 (by have:(256:Nat) ^ 4=4294967296:=(by decide);omega)
 have c':t.data.toList.drop 4=s.data.toList++(be (fillN s.size) 0++rest):=by rw [← cutAt_data,c];simp
 have d1:t.data.toList.drop (4+s.size)=be (fillN s.size) 0++rest:=by
   rw [← List.drop_drop,c',List.drop_append_of_le_length (by rw [data_length];omega),List.drop_of_length_le (by rw [data_length];omega)];rfl
 have d2:t.data.toList.drop (4+s.size+fillN s.size)=rest:=by
   rw [← List.drop_drop,d1,List.drop_append_of_le_length (by rw [be_length];omega),List.drop_of_length_le (by rw [be_length];omega)];rfl
 refine ⟨a,b,?_,?_,?_,?_⟩
 · have:=congrArg List.length h1
   simp only [data_length,List.length_append,be_length] at this;omega
 · apply zeros_of (k:=fillN s.size)
   rw [Lib.extract_data,d1,List.take_append_of_le_length (by rw [be_length];omega),List.take_of_length_le (by rw [be_length];omega)]
 · apply data_inj
   rw [Lib.extract_data,c',List.take_append_of_le_length (by rw [data_length];omega),List.take_of_length_le (by rw [data_length];omega)]
 · rw [cutAt_data,d2]
def ItemOk (s:ByteArray)(m:Int):Prop:=4≤s.size∧(numAt s 4:Int)≤m∧4+numAt s 4+fillN (numAt s 4)≤s.size∧zerosB (s.extract (4+numAt s 4) (4+numAt s 4+fillN (numAt s 4)))=true
theorem rBytes_ends (b:Nat)(t:ByteArray)(m:Int)(T:TypeId)(v:Value)(w:World)(hc:w.cell? ⟨b,0,none⟩=some (.string t))(hf:w.frozen? ⟨b,0,none⟩=false)(hE:w.cell? ⟨6,0,none⟩=some (.iface T v))(ht:t.size≤15000):
   Calls Tryz.prog 53 #[.pointer (some ⟨b,0,none⟩),.int .i64 m] w fun e w' =>
     (ItemOk t m∧e = .returned (.tuple #[.string (t.extract 4 (4+numAt t 4)),.nilIface])∧w.setCell ⟨b,0,none⟩ (.string (cutAt t (4+numAt t 4+fillN (numAt t 4))))=w') ∨
     (¬ ItemOk t m∧e = .returned (.tuple #[.string (bs []),.iface T v])∧Below w.heap.size w w'):=by
 by_cases h4:4≤t.size
 · by_cases hm:(numAt t 4:Int)≤m
   · by_cases hs:4+numAt t 4+fillN (numAt t 4)≤t.size
     · cases hz:zerosB (t.extract (4+numAt t 4) (4+numAt t 4+fillN (numAt t 4)))
       · exact (rBytes_fill b t m T v w hc hE h4 (by omega) hm hs hz).mono fun e w' h=>Or.inr ⟨fun k=>Bool.noConfusion (hz.symm.trans k.2.2.2),h⟩
       · exact (rBytes_ok b t m w hc hf h4 (by omega) hm hs hz).mono fun e w' h=>Or.inl ⟨⟨h4,hm,hs,hz⟩,h⟩
     · exact (rBytes_few b t m T v w hc hE h4 (by omega) hm (by omega)).mono fun e w' h=>Or.inr ⟨fun k=>hs k.2.2.1,h⟩
   · exact (rBytes_many b t m T v w hc hE h4 (by omega) (by omega)).mono fun e w' h=>Or.inr ⟨fun k=>hm k.2.1,h⟩
 · exact (rBytes_short b t m T v w hc hE (by omega)).mono fun e w' h=>Or.inr ⟨fun k=>h4 k.1,h⟩
end
end Go.Proofs.YtmfcfkomdflhlaaGreatDoor
