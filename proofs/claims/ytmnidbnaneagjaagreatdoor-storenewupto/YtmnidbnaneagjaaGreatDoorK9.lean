import Derived.Lib.SlMapFilter
import Derived.Lib.UnsafeStr
import Derived.Test.YtmnidbnaneagjaaGreatDoorK8
import Derived.Laws.CopyRow
import Derived.Lib.BufferWrite
import Derived.Deep.WholeRow
import Derived.Test.YtmnidbnaneagjaaGreatDoorProg
import Derived.WalkKit
import Derived.WalkSpells
import Derived.Deep.RegionWith
import Derived.DeepKeys5
import Derived.Maps.OwnOps
import Derived.Maps.RangeWalk
import Derived.RegionTactic
import Derived.Deep.RegionHeld3
import Derived.Deep.DeepCutAuto
import Derived.Shelf.SlMaps.Clone
set_option maxRecDepth 100000
set_option maxHeartbeats 8000000
namespace Go.Proofs.YtmnidbnaneagjaaGreatDoor
section
open Go Go.RowKit Go.Maps
def bytesFrom:List Value→Option (List UInt8)
 | []=>some []
 | .int .u8 n::r=>if 0≤n∧n < 256 then (bytesFrom r).map (UInt8.ofNat n.toNat::·) else none
 | _::_=>none
theorem bytesFrom_cells:∀ bs:List UInt8,bytesFrom (Lib.byteCells bs)=some bs
 | []=>rfl
 | b::r=>by
  have ih:=bytesFrom_cells r;unfold Lib.byteCells at ih ⊢
  have hb:(b.toNat:Int) < 256:=by have:=b.toNat_lt;omega
  simp [bytesFrom,ih,hb]
theorem bytesFrom_inv:∀ (l:List Value) (bs:List UInt8),bytesFrom l=some bs→l=Lib.byteCells bs
 | [],bs,h=>by simp [bytesFrom] at h;subst h;rfl
 | v::r,bs,h=>by
  unfold bytesFrom at h
  split at h
  · rename_i e;cases e
  · rename_i n r' e
    cases e
    split at h
    · rename_i hc
      cases hr:bytesFrom r with
      | none=>rw [hr] at h;cases h
      | some t =>
       rw [hr] at h;simp at h;subst h;have ih:=bytesFrom_inv r t hr;subst ih
       have hn:((n.toNat:Nat):Int)=n:=by omega
       have h3:n.toNat % 256=n.toNat:=by omega
       simp [Lib.byteCells,h3,hn]
    · cases h
  · cases h
def blkV (bs:List UInt8):Value := .agg (Lib.byteCells bs).toArray
def blkElem:Value→Option (DataW Unit×List MemPlace)
 | .agg cs=>match bytesFrom cs.toList with
  | some bs=>if bs.length=64 then some (.lit (.string bs),[]) else none
  | none=>none
 | _=>none
theorem blkElem_mk {bs:List UInt8}(h:bs.length=64):blkElem (blkV bs)=some (.lit (.string bs),[]):=by
 simp [blkElem,blkV,bytesFrom_cells,h]
theorem blkElem_inv {v:Value}{y:DataW Unit×List MemPlace}(h:blkElem v=some y):∃ bs,bs.length=64∧v=blkV bs∧y=(.lit (.string bs),[]):=by
 unfold blkElem at h
 split at h
 · rename_i cs
   cases hb:bytesFrom cs.toList with
   | none=>rw [hb] at h;cases h
   | some bs =>
    rw [hb] at h;simp at h;obtain ⟨h1,rfl⟩:=h;refine ⟨bs,h1,?_,rfl⟩;unfold blkV;rw [← bytesFrom_inv _ _ hb]
 · cases h
def zero64:List UInt8:=List.replicate 64 0
theorem zero64_len:zero64.length=64:=by simp [zero64]
def key (k:Nat):Lit := .int .i64 k
theorem key_inj {j k:Nat}(h:key j=key k):j=k:=by
 unfold key at h;have:=(Lit.int.inj h).2;omega
theorem key_wf {k:Nat}(h:k < 9223372036854775808):(Lit.int .i64 (k:Int)).wf=true:=by
 simp [Lit.wf,IntKind.min,IntKind.max,IntKind.signed,IntKind.bits];omega
theorem key_key (k:Nat):WideAt.IsKeyLit (key k):=by unfold key;trivial
structure Holds (D:DataW Unit)(f:Nat→Option (List UInt8)):Prop where
 keys:∀ kl,has D kl=true→∃ k,k < 64∧kl=key k
 gone:∀ k,f k=none→has D (key k)=false
 there:∀ k bs,f k=some bs→has D (key k)=true∧(∀ z,D.atKey (key k) z = .lit (.string bs))∧bs.length=64
theorem Holds.empty:Holds (.map []) (fun _=>none):=⟨fun kl h=>by simp [has] at h,fun k _=>by simp [has],fun k bs h=>by cases h⟩
theorem Holds.lt {D:DataW Unit}{f:Nat→Option (List UInt8)}(h:Holds D f){k:Nat}{bs:List UInt8}(e:f k=some bs):k < 64:=by
 obtain ⟨j,hj,ej⟩:=h.keys _ (h.there k bs e).1;have:=key_inj ej;omega
theorem Holds.isSome {D:DataW Unit}{f:Nat→Option (List UInt8)}(h:Holds D f)(k:Nat):(f k).isSome=has D (key k):=by
 cases e:f k with
 | none=>rw [h.gone k e];rfl
 | some bs=>rw [(h.there k bs e).1];rfl
theorem Holds.look {D:DataW Unit}{f:Nat→Option (List UInt8)}(h:Holds D f)(k:Nat):D.atKey (key k) (.lit (.string zero64)) = .lit (.string ((f k).getD zero64)):=by
 cases e:f k with
 | none=>exact atKey_of_not_has (h.gone k e) _
 | some bs=>exact (h.there k bs e).2.1 _
theorem Holds.len {D:DataW Unit}{f:Nat→Option (List UInt8)}(h:Holds D f)(k:Nat):((f k).getD zero64).length=64:=by
 cases e:f k with
 | none=>exact zero64_len
 | some bs=>exact (h.there k bs e).2.2
def upd (f:Nat→Option (List UInt8))(k:Nat)(bs:List UInt8):Nat→Option (List UInt8):=fun j=>if j=k then some bs else f j
theorem Holds.put {D:DataW Unit}{f:Nat→Option (List UInt8)}(h:Holds D f)(hD:IsMap D){k:Nat}(hk:k < 64){bs:List UInt8}(hb:bs.length=64):Holds (D.put (key k) (.lit (.string bs))) (upd f k bs):=by
 refine ⟨fun kl hh=>?_,fun j hj=>?_,fun j cs hj=>?_⟩
 · by_cases e:kl=key k
   · exact ⟨k,hk,e⟩
   · rw [has_put_other e] at hh
     exact h.keys kl hh
 · unfold upd at hj
   by_cases e:j=k
   · rw [if_pos e] at hj;cases hj
   · rw [if_neg e] at hj
     rw [has_put_other (fun x=>e (key_inj x))];exact h.gone j hj
 · unfold upd at hj
   by_cases e:j=k
   · rw [if_pos e] at hj
     cases hj
     subst e;exact ⟨has_put_same hD (key_key j) _,fun z=>atKey_put_same hD (key_key j) _ z,hb⟩
   · rw [if_neg e] at hj
     obtain ⟨h1,h2,h3⟩:=h.there j cs hj;exact ⟨by rw [has_put_other (fun x=>e (key_inj x))];exact h1,fun z=>by rw [atKey_put_other (fun x=>e (key_inj x))];exact h2 z,h3⟩
def behindK (n:Nat):Lit→Bool
 | .int _ k=>decide ((n:Int)≤k*64)
 | _=>false
def behind (n:Nat)(kl:Lit)(_:DataW Unit):Bool:=behindK n kl
def cutF (f:Nat→Option (List UInt8))(n:Nat):Nat→Option (List UInt8):=fun j=>if n≤j*64 then none else f j
theorem behind_key (n k:Nat):behindK n (key k)=decide (n≤k*64):=by
 unfold behindK key;simp only [decide_eq_decide];omega
theorem has_cut (pk:Lit→Bool)(es:List (Lit×DataW Unit))(kl:Lit):has (.map (es.filter fun p=>!pk p.1)) kl=(has (.map es) kl&&!pk kl):=by
 simp only [has]
 induction es with
 | nil=>rfl
 | cons p r ih =>
  by_cases hp:pk p.1
  · rw [List.filter_cons_of_neg (by simp [hp]),ih,List.any_cons]
    cases hs:p.1.sameKey kl
    · simp
    · have e:=WideAt.sameKey_eq hs
      rw [← e,hp];simp
  · rw [List.filter_cons_of_pos (by simp [hp]),List.any_cons,List.any_cons,ih]
    cases hs:p.1.sameKey kl
    · simp
    · have e:=WideAt.sameKey_eq hs
      rw [← e];simp [hp]
theorem Holds.cut {D:DataW Unit}{f:Nat→Option (List UInt8)}(h:Holds D f)(hD:IsMap D)(n:Nat):Holds (Lib.deleteFuncD (behind n) D) (cutF f n):=by
 obtain ⟨es,rfl⟩:=hD;have e0:Lib.deleteFuncD (behind n) (.map es) = .map (es.filter fun p=>!behindK n p.1):=rfl;rw [e0];refine ⟨fun kl hh=>?_,fun j hj=>?_,fun j cs hj=>?_⟩
 · rw [has_cut] at hh
   exact h.keys kl (by revert hh;cases has (.map es) kl<;>simp)
 · rw [has_cut,behind_key]
   unfold cutF at hj
   by_cases e:n≤j*64
   · simp [e]
   · rw [if_neg e] at hj
     rw [h.gone j hj];rfl
 · unfold cutF at hj
   by_cases e:n≤j*64
   · rw [if_pos e] at hj;cases hj
   · rw [if_neg e] at hj
     obtain ⟨h1,h2,h3⟩:=h.there j cs hj;refine ⟨by rw [has_cut,behind_key,h1];simp [e],fun z=>?_,h3⟩
     have hf:(es.filter fun p=>!behindK n p.1).find? (fun p=>p.1.sameKey (key j))=es.find? (fun p=>p.1.sameKey (key j)) :=
      find_filter_keep (f:=fun p:Lit×DataW Unit=>p.1.sameKey (key j)) (g:=fun p=>!behindK n p.1) (fun p hp=>by
       have e1:=WideAt.sameKey_eq hp;show (!behindK n p.1)=true;rw [e1,behind_key]
       simp [e]) es
     have:=h2 z;simp only [DataW.atKey] at this ⊢;rw [hf];exact this
theorem Holds.size {D:DataW Unit}{f:Nat→Option (List UInt8)}(h:Holds D f)(hT:Tidy D)(hK:∀ es,D = .map es→∀ p∈es,WideAt.IsKeyLit p.1):Maps.size D=((List.range 64).filter (fun k=>(f k).isSome)).length:=by
 obtain ⟨es,rfl,hp⟩:=hT
 have n1:(es.map Prod.fst).Nodup:=by
  unfold List.Nodup;rw [List.pairwise_map];exact hp
 have n2:(((List.range 64).filter (fun k=>(f k).isSome)).map key).Nodup:=by
  unfold List.Nodup;rw [List.pairwise_map];exact (List.Pairwise.filter _ (List.nodup_range (n:=64))).imp (fun hne e=>hne (key_inj e))
 have hm:(es.map Prod.fst).Perm (((List.range 64).filter (fun k=>(f k).isSome)).map key):=by
  rw [List.perm_ext_iff_of_nodup n1 n2];intro kl
  constructor
  · intro hk
    obtain ⟨p,hp1,rfl⟩:=List.mem_map.1 hk;have hh:has (.map es) p.1=true:=List.any_eq_true.2 ⟨p,hp1,WideAt.sameKey_self (hK es rfl p hp1)⟩;obtain ⟨k,hk64,ek⟩:=h.keys _ hh;refine List.mem_map.2 ⟨k,List.mem_filter.2 ⟨List.mem_range.2 hk64,?_⟩,ek.symm⟩;rw [h.isSome k,← ek];exact hh
  · intro hk
    obtain ⟨k,hk1,rfl⟩:=List.mem_map.1 hk;have hs:=(List.mem_filter.1 hk1).2;rw [h.isSome k] at hs;obtain ⟨p,hp1,hp2⟩:=List.any_eq_true.1 hs;exact List.mem_map.2 ⟨p,hp1,WideAt.sameKey_eq hp2⟩
 have:=hm.length_eq
 simpa [Maps.size] using this
end
section
open Go Go.Maps
def byteS (S:ByteArray)(i:Nat):UInt8:=S.data.toList.getD i 0
theorem size_list (S:ByteArray):S.data.toList.length=S.size:=rfl
theorem byteS_out {S:ByteArray}{i:Nat}(h:S.size≤i):byteS S i=0:=by
 unfold byteS;rw [List.getD_eq_getElem?_getD,List.getElem?_eq_none (by rw [size_list];exact h)];rfl
theorem byteS_append (A B:ByteArray)(i:Nat):byteS (A++B) i=if i < A.size then byteS A i else byteS B (i - A.size):=by
 unfold byteS;rw [ByteArray.data_append,Array.toList_append];simp only [List.getD_eq_getElem?_getD]
 by_cases h:i < A.size
 · rw [if_pos h,List.getElem?_append_left (by rw [size_list];exact h)]
 · rw [if_neg h,List.getElem?_append_right (by rw [size_list];omega),size_list]
theorem byteS_extract (A:ByteArray)(i j k:Nat):byteS (A.extract i j) k=if k < j - i then byteS A (i+k) else 0:=by
 unfold byteS;rw [ByteArray.data_extract,Array.toList_extract];simp only [List.getD_eq_getElem?_getD,List.extract_eq_take_drop,List.getElem?_take,List.getElem?_drop]
 split<;>rfl
theorem byteS_bs (l:List UInt8)(i:Nat):byteS (bs l) i=l.getD i 0:=by
 unfold byteS;rw [bs_data]
theorem byteS_zer (k i:Nat):byteS (zer k) i=0:=by
 unfold zer;rw [byteS_bs];simp only [List.getD_eq_getElem?_getD,List.getElem?_replicate]
 split<;>rfl
theorem byteS_ext {A B:ByteArray}(hs:A.size=B.size)(h:∀ i,i < A.size→byteS A i=byteS B i):A=B:=by
 rw [← bs_self A,← bs_self B];congr 1;apply List.ext_getElem
 · rw [size_list,size_list,hs]
 · intro i h1 h2
   have:=h i (by rw [size_list] at h1;exact h1);unfold byteS at this;rw [List.getD_eq_getElem?_getD,List.getD_eq_getElem?_getD,List.getElem?_eq_getElem h1,List.getElem?_eq_getElem h2] at this;exact this
theorem padS_bytes (S:ByteArray)(a i:Nat):byteS (padS S a) i=byteS S i:=by
 unfold padS
 split
 · rw [byteS_append]
   split
   · rfl
   · rw [byteS_zer,byteS_out (by omega)]
 · rfl
theorem padS_max (S:ByteArray)(a:Nat):(padS S a).size=max S.size a:=by
 unfold padS
 split
 · rw [ByteArray.size_append,zer_size];omega
 · omega
theorem tailS_size (P:ByteArray)(k:Nat):(tailS P k).size=P.size - k:=by
 unfold tailS
 split
 · rw [ByteArray.size_extract];omega
 · show 0=_
   omega
theorem tailS_bytes (P:ByteArray)(k i:Nat):byteS (tailS P k) i=byteS P (k+i):=by
 unfold tailS
 split
 · rw [byteS_extract]
   split
   · rfl
   · rw [byteS_out (by omega)]
 · rw [byteS_out (S:=P) (by omega)]
   rfl
theorem head_size (P:ByteArray)(a:Nat)(h:a≤P.size):(P.extract 0 a).size=a:=by rw [ByteArray.size_extract];omega
theorem writeS_size (S:ByteArray)(a:Nat)(s:ByteArray):(writeS S a s).size=max S.size (a+s.size):=by
 unfold writeS;have h:=padS_max S a;rw [ByteArray.size_append,ByteArray.size_append,head_size _ _ (by omega),tailS_size,h];omega
theorem writeS_bytes (S:ByteArray)(a:Nat)(s:ByteArray)(i:Nat):byteS (writeS S a s) i=if a≤i∧i < a+s.size then byteS s (i - a) else byteS S i:=by
 unfold writeS;have h:=padS_max S a;have h1:=head_size (padS S a) a (by omega);rw [byteS_append,byteS_append,ByteArray.size_append,h1]
 by_cases c1:i < a
 · rw [if_pos (by omega),if_pos c1,if_neg (by omega),byteS_extract,if_pos (by omega),padS_bytes,Nat.zero_add]
 · by_cases c2:i < a+s.size
   · rw [if_pos c2,if_neg c1,if_pos ⟨by omega,c2⟩]
   · rw [if_neg c2,if_neg (by omega),tailS_bytes,padS_bytes]
     congr 1;omega
def isF (H:List Bool)(k:Nat):Bool:=H[k]?==some false
theorem isF_more (H:List Bool)(i j:Nat):isF (moreH H i) j=isF H j:=by
 unfold isF moreH
 by_cases h:j < H.length
 · rw [List.getElem?_append_left h]
 · rw [List.getElem?_append_right (by omega),List.getElem?_replicate,List.getElem?_eq_none (l:=H) (by omega)]
   split<;>rfl
theorem isF_mark (H:List Bool)(k j:Nat):isF (markH H k) j=(isF H j || decide (j=k)):=by
 have h:=isF_more H (k+1 - H.length) j;have hl:=moreH_len H (k+1 - H.length);unfold markH;generalize moreH H (k+1 - H.length)=M at h hl;rw [← h];unfold isF;rw [List.getElem?_set]
 by_cases e:k=j
 · subst e
   rw [if_pos rfl,if_pos (by omega)];simp
 · rw [if_neg e]
   have:decide (j=k)=false:=decide_eq_false (by omega);rw [this,Bool.or_false]
theorem isF_marks (H:List Bool)(k:Nat):∀ i j,isF (marksH H k i) j=(isF H j || decide (k≤j∧j < k+i))
 | 0,j=>by
  have:decide (k≤j∧j < k+0)=false:=decide_eq_false (by omega);rw [this,Bool.or_false];rfl
 | i+1,j=>by
  rw [marksH,isF_mark,isF_marks H k i j,Bool.or_assoc];congr 1;rw [← Bool.decide_or];exact decide_eq_decide.2 (by omega)
theorem isF_shrink (H:List Bool)(n k:Nat):isF (shrinkTo H n H.length) k=(isF H k&&!decide (n≤k*64)):=by
 unfold isF shrinkTo;rw [List.getElem?_mapIdx]
 by_cases h:k < H.length
 · rw [List.getElem?_eq_getElem h]
   simp only [Option.map_some,if_pos h]
   cases H[k]<;>cases decide (n≤k*64)<;>rfl
 · rw [List.getElem?_eq_none (by omega)]
   rfl
def byteF (f:Nat→Option (List UInt8))(i:Nat):UInt8:=((f (i / 64)).getD zero64).getD (i % 64) 0
structure Same (f:Nat→Option (List UInt8))(S:ByteArray)(H:List Bool):Prop where
 le:S.size≤4096
 bytes:∀ i,i < 4096→byteF f i=byteS S i
 lenH:H.length≤64
 holes:∀ k,k < 64→(f k).isSome=isF H k
theorem byteF_upd (f:Nat→Option (List UInt8))(K:Nat)(l:List UInt8)(i:Nat):byteF (upd f K l) i=if i / 64=K then l.getD (i % 64) 0 else byteF f i:=by
 unfold byteF upd
 split<;>rfl
theorem zero64_get (i:Nat):zero64.getD i 0=0:=by
 simp only [zero64,List.getD_eq_getElem?_getD,List.getElem?_replicate]
 split<;>rfl
theorem Same.start:Same (fun _=>none) ⟨#[]⟩ []:=⟨Nat.zero_le _,fun i _=>by
 show zero64.getD (i % 64) 0=_
 rw [zero64_get,byteS_out (Nat.zero_le _)],Nat.zero_le _,fun k _=>by simp [isF]⟩
structure Wrote (f0:Nat→Option (List UInt8))(a:Nat)(s:ByteArray)(d:Nat)(f:Nat→Option (List UInt8)):Prop where
 bytes:∀ i,i < 4096→byteF f i=if a≤i∧i < a+d then byteS s (i - a) else byteF f0 i
 there:∀ k,k < 64→(f k).isSome=((f0 k).isSome || decide (0 < d∧a / 64≤k∧k*64 < a+d))
theorem Wrote.start (f0:Nat→Option (List UInt8))(a:Nat)(s:ByteArray):Wrote f0 a s 0 f0 :=
 ⟨fun i _=>by rw [if_neg (by omega)],fun k _=>by
  have:decide (0 < 0∧a / 64≤k∧k*64 < a+0)=false:=decide_eq_false (by omega)
  rw [this,Bool.or_false]⟩
def over (b:List UInt8)(o:Nat)(l:List UInt8):List UInt8:=b.take o++l++b.drop (o+l.length)
theorem over_len {b l:List UInt8}{o:Nat}(h:o+l.length≤b.length):(over b o l).length=b.length:=by
 unfold over;simp only [List.length_append,List.length_take,List.length_drop];omega
theorem over_get {b l:List UInt8}{o:Nat}(h:o+l.length≤b.length)(i:Nat):(over b o l).getD i 0=if o≤i∧i < o+l.length then l.getD (i - o) 0 else b.getD i 0:=by
 unfold over;simp only [List.getD_eq_getElem?_getD]
 have ht:(b.take o).length=o:=by rw [List.length_take];omega
 by_cases c1:i < o
 · rw [if_neg (by omega),List.append_assoc,List.getElem?_append_left (by omega),List.getElem?_take,if_pos c1]
 · by_cases c2:i < o+l.length
   · rw [if_pos ⟨by omega,c2⟩,List.append_assoc,List.getElem?_append_right (by omega),ht,List.getElem?_append_left (by omega)]
   · rw [if_neg (by omega),List.getElem?_append_right (by rw [List.length_append,ht];omega),List.length_append,ht,List.getElem?_drop]
     congr 2;omega
def partS (s:ByteArray)(d n:Nat):List UInt8:=(s.data.toList.drop d).take n
theorem partS_len {s:ByteArray}{d n:Nat}(h:d+n≤s.size):(partS s d n).length=n:=by
 unfold partS;rw [List.length_take,List.length_drop,size_list];omega
theorem partS_get (s:ByteArray)(d n i:Nat)(h:i < n):(partS s d n).getD i 0=byteS s (d+i):=by
 unfold partS byteS;simp only [List.getD_eq_getElem?_getD,List.getElem?_take,List.getElem?_drop];rw [if_pos h]
theorem Wrote.step {f0 f:Nat→Option (List UInt8)}{a d n:Nat}{s:ByteArray}(h:Wrote f0 a s d f)(hd:d < s.size)(hl:((f ((a+d) / 64)).getD zero64).length=64)(hn:n=min (64 - (a+d) % 64) (s.size - d)):
   Wrote f0 a s (d+n) (upd f ((a+d) / 64) (over ((f ((a+d) / 64)).getD zero64) ((a+d) % 64) (partS s d n))):=by
 have hp:(partS s d n).length=n:=partS_len (by omega);refine ⟨fun i hi=>?_,fun k hk=>?_⟩
 · rw [byteF_upd]
   by_cases c:i / 64=(a+d) / 64
   · rw [if_pos c,over_get (by rw [hp,hl];omega),hp]
     by_cases c1:(a+d) % 64≤i % 64∧i % 64 < (a+d) % 64+n
     · rw [if_pos c1,if_pos (by omega),partS_get _ _ _ _ (by omega)]
       congr 1;omega
     · rw [if_neg c1]
       have e:((f ((a+d) / 64)).getD zero64).getD (i % 64) 0=byteF f i:=by unfold byteF;rw [c]
       rw [e,h.bytes i hi]
       by_cases c2:a≤i∧i < a+d
       · rw [if_pos c2,if_pos (by omega)]
       · rw [if_neg c2,if_neg (by omega)]
   · rw [if_neg c,h.bytes i hi]
     by_cases c2:a≤i∧i < a+d
     · rw [if_pos c2,if_pos (by omega)]
     · rw [if_neg c2,if_neg (by omega)]
 · unfold upd
   by_cases c:k=(a+d) / 64
   · rw [if_pos c]
     have:decide (0 < d+n∧a / 64≤k∧k*64 < a+(d+n))=true:=decide_eq_true (by omega);rw [this,Bool.or_true];rfl
   · rw [if_neg c,h.there k hk]
     congr 1;exact decide_eq_decide.2 (by omega)
theorem Wrote.same {f0 f:Nat→Option (List UInt8)}{a:Nat}{s S:ByteArray}{H:List Bool}(hS:Same f0 S H)(h:Wrote f0 a s s.size f)(h1:1≤s.size)(hle:a+s.size≤4096):
   Same f (writeS S a s) (marksH H (a / 64) ((a+s.size - 1) / 64+1 - a / 64)):=by
 refine ⟨by rw [writeS_size];have:=hS.le;omega,fun i hi=>?_,?_,fun k hk=>?_⟩
 · rw [writeS_bytes,h.bytes i hi]
   by_cases c:a≤i∧i < a+s.size
   · rw [if_pos c,if_pos c]
   · rw [if_neg c,if_neg c,hS.bytes i hi]
 · have:=marksH_len H (a / 64) ((a+s.size - 1) / 64+1 - a / 64)
   have:=hS.lenH;omega
 · rw [isF_marks,h.there k hk,hS.holes k hk]
   congr 1;exact decide_eq_decide.2 (by omega)
theorem Same.grow {f:Nat→Option (List UInt8)}{S:ByteArray}{H:List Bool}(h:Same f S H){n:Nat}(hn:n≤4096)(hle:S.size≤n):Same f (S++zer (n - S.size)) H:=by
 refine ⟨by rw [ByteArray.size_append,zer_size];omega,fun i hi=>?_,h.lenH,h.holes⟩;rw [byteS_append,h.bytes i hi]
 split
 · rfl
 · rw [byteS_zer,byteS_out (by omega)]
theorem cut_there (f:Nat→Option (List UInt8))(n k:Nat):(cutF f n k).isSome=((f k).isSome&&!decide (n≤k*64)):=by
 unfold cutF
 by_cases c:n≤k*64
 · rw [if_pos c,decide_eq_true c];simp
 · rw [if_neg c,decide_eq_false c];simp
def endF (f:Nat→Option (List UInt8))(n:Nat):Nat→Option (List UInt8) :=
 match cutF f n (n / 64) with
 | none=>cutF f n
 | some b=>upd (cutF f n) (n / 64) (over b (n % 64) (List.replicate (64 - n % 64) 0))
theorem Same.cut {f:Nat→Option (List UInt8)}{S:ByteArray}{H:List Bool}(h:Same f S H){n:Nat}(hn:n < S.size)(hl:∀ k b,f k=some b→b.length=64):Same (endF f n) (S.extract 0 n) (shrinkTo H n H.length):=by
 have hS:=h.le
 have hz:∀ i,i < 4096→byteF (cutF f n) i=if n≤i / 64*64 then 0 else byteS S i:=by
   intro i hi;unfold byteF cutF
   by_cases c:n≤i / 64*64
   · rw [if_pos c,if_pos c]
     exact zero64_get _
   · rw [if_neg c,if_neg c]
     exact h.bytes i hi
 refine ⟨by rw [ByteArray.size_extract];omega,fun i hi=>?_,by rw [shrinkTo_len];exact h.lenH,fun k hk=>?_⟩
 · rw [byteS_extract]
   unfold endF
   cases e:cutF f n (n / 64) with
   | none =>
     rw [hz i hi]
     by_cases c:n≤i / 64*64
     · rw [if_pos c,if_neg (by omega)]
     · rw [if_neg c]
       by_cases c2:i < n - 0
       · rw [if_pos c2,Nat.zero_add]
       · rw [if_neg c2]
         have hk:i / 64=n / 64:=by omega
         have:=hz i hi;rw [if_neg c] at this;rw [← this];unfold byteF;rw [hk,e];exact zero64_get _
   | some b =>
     have hb:b.length=64:=by
       unfold cutF at e
       split at e
       · cases e
       · exact hl _ _ e
     rw [byteF_upd]
     by_cases c:i / 64=n / 64
     · rw [if_pos c,over_get (by rw [List.length_replicate];omega),List.length_replicate]
       by_cases c2:i % 64 < n % 64
       · rw [if_neg (by omega),if_pos (by omega),Nat.zero_add]
         have:=hz i hi;rw [if_neg (by omega)] at this;rw [← this];unfold byteF;rw [c,e];rfl
       · rw [if_pos (by omega),if_neg (by omega)]
         simp only [List.getD_eq_getElem?_getD,List.getElem?_replicate]
         split<;>rfl
     · rw [if_neg c,hz i hi]
       by_cases c2:n≤i / 64*64
       · rw [if_pos c2,if_neg (by omega)]
       · rw [if_neg c2,if_pos (by omega),Nat.zero_add]
 · rw [isF_shrink,← h.holes k hk,← cut_there]
   unfold endF
   cases e:cutF f n (n / 64) with
   | none=>rfl
   | some b =>
     show (upd (cutF f n) (n / 64) _ k).isSome=_;unfold upd
     by_cases c:k=n / 64
     · rw [if_pos c,c,e];rfl
     · rw [if_neg c]
theorem read_text {S:ByteArray}{l:List UInt8}{a:Nat}(hle:a+l.length≤S.size)(h:∀ j,j < l.length→l.getD j 0=byteS S (a+j)):bs l=S.extract a (a+l.length):=by
 apply byteS_ext
 · rw [bs_size,ByteArray.size_extract];omega
 · intro i hi
   rw [bs_size] at hi;rw [byteS_bs,byteS_extract,if_pos (by omega),h i hi]
end
section
open Go Go.RowKit
theorem cells_len (l:List UInt8):(Lib.byteCells l).length=l.length:=by simp [Lib.byteCells]
theorem cells_over {b l:List UInt8}{o:Nat}:(Lib.byteCells b).take o++Lib.byteCells l++(Lib.byteCells b).drop (o+l.length)=Lib.byteCells (over b o l):=by
 simp [Lib.byteCells,over,List.map_take,List.map_drop]
def RowAt (w:World)(g:Nat)(t:TypeId)(l:List UInt8):Prop:=w.heap[g]?=some (.cells (Lib.byteCells l).toArray t (0,0))
theorem RowAt.set {w:World}{g:Nat}{t:TypeId}{l:List UInt8}(h:RowAt w g t l)(l':List UInt8):RowAt (w.setRow g (Lib.byteCells l').toArray) g t l':=setRow_heap w g _ _ t _ h
theorem lt_of_heap {w:World}{g:Nat}{o:Obj}(h:w.heap[g]?=some o):g < w.heap.size:=(Array.getElem?_eq_some_iff.1 h).1
theorem only_setRow (w:World)(g:Nat)(c:Array Value):∀ k,k≠g→(w.setRow g c).heap[k]?=w.heap[k]?:=by
 intro k hk;simp only [World.setRow];rw [Array.getElem?_modify,if_neg (fun e=>hk e.symm)]
theorem run_copy_part {P:Program}(w:World)(dT sT ty elem:TypeId)(g o dLen dCap:Nat)(s:ByteArray)(b:List UInt8)(t:TypeId)
  (hu:P.underlying dT=some (.slice elem)) (hs:(P.info? elem).map (·.size)=some 1) (hg:RowAt w g t b) (hfit:o+dLen≤b.length) :
  (Builtin.copy_ #[dT,sT] ty #[.slice (some ⟨g,o,none⟩) dLen dCap,.string s]).run P w =
   .ok (.int .i64 (min s.size dLen:Nat)) (w.setRow g (Lib.byteCells (over b o (partS s 0 (min s.size dLen)))).toArray):=by
 have hl:(partS s 0 (min s.size dLen)).length=min s.size dLen:=partS_len (by omega);have hst:=run_storeCells_at P g o t (Lib.byteCells (partS s 0 (min s.size dLen))) 0 _ w hg (by rw [cells_len,hl];simp only [List.size_toArray,cells_len];omega) (Lib.byteCells_one _);simp only [Nat.add_zero,cells_len] at hst;rw [cells_over] at hst
 have hc:((s.extract 0 (min s.size dLen)).data.map fun b:UInt8=>Value.int .u8 b.toNat).toList=Lib.byteCells (partS s 0 (min s.size dLen)):=by
  rw [Array.toList_map,ByteArray.data_extract,Array.toList_extract];simp [partS,Lib.byteCells,List.extract_eq_take_drop]
 have hm:Nat.min s.size dLen=min s.size dLen:=rfl;generalize min s.size dLen=m at hl hst hc hm ⊢
 cases hq:P.info? elem with
 | none=>simp [hq] at hs
 | some i =>
  simp only [Builtin.copy_,Sem.run_bind,run_underlying hu,Builtin.lenOf,Builtin.firstCells,sizeOf,typeInfo,Sem.run_pure,hm,goInt,Result.andThen_ok,List.getElem?_toArray,List.getElem?_cons_zero,List.getElem?_cons_succ,hc];simp [hq,hst]
theorem part_cell {w:World}{g o:Nat}{t:TypeId}{b:List UInt8}(h:RowAt w g t b)(n:Nat)(j:Nat)(v:Value)(hv:(Lib.byteCells ((b.drop o).take n))[j]?=some v):w.cell? ((⟨g,o,none⟩:Addr).add j)=some v:=by
 have hadd:(⟨g,o,none⟩:Addr).add j=⟨g,o+j,none⟩:=by unfold Addr.add;split<;>simp_all
 rw [hadd,cell_of_row _ _ _ _ _ _ h];simp only [Lib.byteCells,List.getElem?_map,List.getElem?_take,List.getElem?_drop] at hv;simp only [Lib.byteCells,List.getElem?_toArray,List.getElem?_map]
 split at hv
 · exact hv
 · cases hv
theorem run_copy_block {P:Program}(w:World)(dT sT ty elem:TypeId)(g p dLen dCap gb o sLen sCap:Nat)(l b:List UInt8)(t tb:TypeId)
  (hu:P.underlying dT=some (.slice elem)) (hs:(P.info? elem).map (·.size)=some 1) (hg:RowAt w g t l) (hb:RowAt w gb tb b) (hfit:p+dLen≤l.length) (hsrc:o+sLen≤b.length) :
  (Builtin.copy_ #[dT,sT] ty #[.slice (some ⟨g,p,none⟩) dLen dCap,.slice (some ⟨gb,o,none⟩) sLen sCap]).run P w =
   .ok (.int .i64 (min sLen dLen:Nat)) (w.setRow g (Lib.byteCells (over l p ((b.drop o).take (min sLen dLen)))).toArray):=by
 have hl:((b.drop o).take (min sLen dLen)).length=min sLen dLen:=by rw [List.length_take,List.length_drop];omega
 have h:=run_copy_row P w dT sT ty elem g p dLen dCap ⟨gb,o,none⟩ sLen sCap (Lib.byteCells l).toArray t (Lib.byteCells ((b.drop o).take (min sLen dLen))) hu hs hg (by rw [cells_len,hl]) (fun j v hv=>part_cell hb _ j v hv)
  (by rw [cells_len,hl];simp only [List.size_toArray,cells_len];omega) (Lib.byteCells_one _)
 simp only [cells_len] at h;rw [cells_over] at h;rw [h,hl];rfl
theorem zeroCells_one (n:Nat):(Builtin.zeroCells #[.int .u8 0] n).toList=Lib.byteCells (List.replicate n 0):=by
 simp only [Builtin.zeroCells,Lib.byteCells,List.map_replicate,Array.toList_map,Array.toList_range];apply List.ext_getElem
 · simp
 · intro i h1 h2
   simp [Nat.mod_one]
theorem run_clear_row {P:Program}(w:World)(t ty elem:TypeId)(g o n cap:Nat)(b:List UInt8)(tb:TypeId)
  (hu:P.underlying t=some (.slice elem)) (hz:∀ w,(zeroValue elem).run P w = .ok (.int .u8 0) w) (hg:RowAt w g tb b) (hn:0 < n) (hfit:o+n≤b.length) :
  (Builtin.clear_ #[t] ty #[.slice (some ⟨g,o,none⟩) n cap]).run P w = .ok (.tuple #[]) (w.setRow g (Lib.byteCells (over b o (List.replicate n 0))).toArray):=by
 have hst:=run_storeCells_at P g o tb (Lib.byteCells (List.replicate n 0)) 0 _ w hg (by rw [cells_len,List.length_replicate];simp only [List.size_toArray,cells_len];omega) (Lib.byteCells_one _);simp only [Nat.add_zero,cells_len] at hst;rw [cells_over] at hst;obtain ⟨k,rfl⟩:∃ k,n=k+1:=⟨n - 1,by omega⟩;have hz2:=zeroCells_one (k+1);simp only [Builtin.clear_,Sem.run_bind,run_underlying hu,hz,Result.andThen_ok,List.getElem?_toArray,List.getElem?_cons_zero,Value.cells];rw [hz2,hst];rfl
end
section
open Go Go.RowKit Go.Deep Go.Maps
theorem lawInt:Keyed Tryz.prog 3:=int_keyed Tryz.underlying3
theorem keyInt (k:Nat)(h:k < 9223372036854775808):keyOf Tryz.prog 3 (.int .i64 k)=some (key k):=keyOf_int_mk Tryz.underlying3 (key_wf h)
theorem infoBlk:(Tryz.prog.info? 384).map (fun i=>(i.zero,i.size))=some (some (blkV zero64),64):=by kernel_rfl
theorem undBlk:Tryz.prog.underlying 384=some (.array 64 5):=by kernel_rfl
theorem undMap:Tryz.prog.underlying 371=some (.map 3 384):=by kernel_rfl
theorem zeroBlk (w:World):(zeroValue 384).run Tryz.prog w = .ok (blkV zero64) w:=(zero_of_info infoBlk).1 w
theorem sizeBlk:(Tryz.prog.info? 384).map (·.size)=some 64:=(zero_of_info infoBlk).2
def MapAt (w:World)(m:Option Nat)(f:Nat→Option (List UInt8)):Prop :=
 match m with
 | none=>f=fun _=>none
 | some b=>∃ D,w.ownsMap Tryz.prog 3 blkElem b 64 D∧Holds D f
theorem own_tight {w:World}{b n:Nat}{D:DataW Unit}{f:Nat→Option (List UInt8)}(h:w.ownsMap Tryz.prog 3 blkElem b n D)(hf:Holds D f):w.ownsMap Tryz.prog 3 blkElem b 64 D∧Maps.size D=((List.range 64).filter (fun k=>(f k).isSome)).length:=by
 have hs:Maps.size D=((List.range 64).filter (fun k=>(f k).isSome)).length:=hf.size (h.tidy lawInt) (fun es e p hp=>by
  obtain ⟨es',e',_,hk⟩:=h.entries lawInt;rw [e] at e'
  cases e'
  exact hk p hp)
 have hle:Maps.size D≤64:=by
  rw [hs];exact Nat.le_trans (List.length_filter_le _ _) (by simp)
 refine ⟨?_,hs⟩;obtain ⟨es,clock,hb,F,_,rfl⟩:=h;exact ⟨es,clock,hb,F,by simpa [Maps.size,length_sorted] using hle,rfl⟩
theorem MapAt.lt {w:World}{b:Nat}{f:Nat→Option (List UInt8)}(h:MapAt w (some b) f):b < w.heap.size:=by
 obtain ⟨D,h,_⟩:=h;exact h.lt
theorem MapAt.kept {w w':World}{m:Option Nat}{f:Nat→Option (List UInt8)}(h:MapAt w m f)(hb:∀ b,m=some b→w'.heap[b]?=w.heap[b]?):MapAt w' m f:=by
 cases m with
 | none=>exact h
 | some b =>
  obtain ⟨D,⟨es,clock,h1,r⟩,h2⟩:=h;exact ⟨D,⟨es,clock,(hb b rfl).trans h1,r⟩,h2⟩
theorem MapAt.only {w w':World}{m:Option Nat}{f:Nat→Option (List UInt8)}{L:List Nat}(h:MapAt w m f)(ho:Only L w w')(hd:∀ b,m=some b→b∉L):MapAt w' m f :=
 h.kept fun b e=>ho.block b (by subst e;exact h.lt) (hd b e)
theorem MapAt.len {w:World}{m:Option Nat}{f:Nat→Option (List UInt8)}(h:MapAt w m f)(k:Nat)(bs:List UInt8)(e:f k=some bs):bs.length=64∧k < 64:=by
 cases m with
 | none=>rw [show f=_ from h] at e;cases e
 | some b =>
  obtain ⟨D,_,h2⟩:=h;exact ⟨(h2.there k bs e).2.2,h2.lt e⟩
theorem MapAt.getLen {w:World}{m:Option Nat}{f:Nat→Option (List UInt8)}(h:MapAt w m f)(k:Nat):((f k).getD zero64).length=64:=by
 cases e:f k with
 | none=>exact zero64_len
 | some bs=>exact (h.len k bs e).1
theorem own_ne {w:World}{b n g:Nat}{D:DataW Unit}{v:Value}(h:w.ownsMap Tryz.prog 3 blkElem b n D){o:Nat}(hc:w.cell? ⟨g,o,none⟩=some v):b≠g:=by
 obtain ⟨es,clock,hb,_⟩:=h;intro e;subst e;simp [World.cell?,hb] at hc
def footD (g:Nat)(m:Option Nat):List Nat:=g::m.toList
theorem undHandle:(match Tryz.prog.underlying 94 with | some (.array _ _) | some (.struct _)=>true | _=>false)=true:=by kernel_rfl
theorem keyHandle:Tryz.prog.keyType 94=true:=by kernel_rfl
theorem laidOut:laidOutB Tryz.prog=true:=by kernel_rfl
theorem lawH:Keyed Tryz.prog 94:=Keyed.of_law (deep_law_gate laidOut (by decide +kernel) (by decide +kernel) keyHandle undHandle)
theorem lawS:Keyed Tryz.prog 9:=Keyed.of_law (WideMaps.string_law Tryz.underlying9)
def handV (i c:Nat):Value := .agg #[.int .i64 i,.int .i64 c]
def hkey (k:Nat×Nat):Lit:=if k.1 < 9223372036854775808∧k.2 < 9223372036854775808 then .string (keyBytes [.int .i64 (k.1:Nat),.int .i64 (k.2:Nat)]) else .bool false
theorem hkey_key (k:Nat×Nat):WideAt.IsKeyLit (hkey k):=by
 unfold hkey
 split<;>trivial
theorem cellsInt:Tryz.prog.cellsOf 3=1:=by kernel_rfl
theorem cellsHandle:Tryz.prog.cellsOf 94=2:=by kernel_rfl
theorem lits_int (d:Nat)(n:Nat)(h:n < 9223372036854775808):Tryz.prog.keyLits (d+1) 3 [.int .i64 n]=some [.int .i64 n]:=by
 have hw:=key_wf h;unfold Program.keyLits;rw [Tryz.underlying3];simp [hw]
theorem keyOf_handle {i c:Nat}(hi:i < 9223372036854775808)(hc:c < 9223372036854775808):keyOf Tryz.prog 94 (handV i c)=some (hkey (i,c)):=by
 have h0:0 < Tryz.prog.types.size:=by decide +kernel
 obtain ⟨m,hm⟩:∃ m,Tryz.prog.types.size=m+1:=⟨Tryz.prog.types.size - 1,by omega⟩
 have hf:(handV i c).formed Tryz.prog 94=true:=by
  unfold handV Value.formed;rw [Tryz.underlying94,cellsHandle];rfl
 have hl:Tryz.prog.keyLits (m+1+1) 94 (handV i c).cells.toList=some [.int .i64 i,.int .i64 c]:=by
  unfold Program.keyLits;rw [Tryz.underlying94,cellsHandle];simp [handV,Value.cells,cellsInt,lits_int m i hi,lits_int m c hc]
 have hkk:hkey (i,c) = .string (keyBytes [.int .i64 (i:Nat),.int .i64 (c:Nat)]):=if_pos (And.intro hi hc);rw [hkk];unfold keyOf;rw [Tryz.underlying94,keyHandle,hf,hm,hl];rfl
theorem handV_inj {i c j d:Nat}(h:handV i c=handV j d):i=j∧c=d:=by
 unfold handV at h;simp only [Value.agg.injEq,Array.mk.injEq,List.cons.injEq,Value.int.injEq,true_and,and_true] at h;omega
theorem undDirs:Tryz.prog.underlying 125=some (.map 94 267):=by kernel_rfl
theorem undNames:Tryz.prog.underlying 267=some (.map 9 94):=by kernel_rfl
theorem undPins:Tryz.prog.underlying 126=some (.map 94 3):=by kernel_rfl
theorem infoDir:(Tryz.prog.info? 267).map (fun i=>(i.zero,i.size))=some (some (.map none),1):=by kernel_rfl
theorem infoHand:(Tryz.prog.info? 94).map (fun i=>(i.zero,i.size))=some (some (.agg #[.int .i64 0,.int .i64 0]),2):=by kernel_rfl
theorem zeroDir (w:World):(zeroValue 267).run Tryz.prog w = .ok (.map none) w:=(zero_of_info infoDir).1 w
theorem zeroHand (w:World):(zeroValue 94).run Tryz.prog w = .ok (.agg #[.int .i64 0,.int .i64 0]) w:=(zero_of_info infoHand).1 w
def mapElem:Value→Option (DataW Unit×List MemPlace)
 | .map (some b)=>some (.lit (.int .i64 b),[])
 | .map none=>some (.lit (.int .i64 (-1)),[])
 | _=>none
def handElem:Value→Option (DataW Unit×List MemPlace)
 | .agg cs=>match cs.toList with
  | [.int .i64 a,.int .i64 b]=>some (.agg [.lit (.int .i64 a),.lit (.int .i64 b)],[])
  | _=>none
 | _=>none
theorem handElem_mk (i c:Nat):handElem (handV i c)=some (entV i c,[]):=rfl
theorem mapElem_inv {v:Value}{b:Nat}{ps:List MemPlace}(h:mapElem v=some (.lit (.int .i64 b),ps)):v = .map (some b):=by
 unfold mapElem at h
 split at h
 · simp only [Option.some.injEq,Prod.mk.injEq,DataW.lit.injEq,Lit.int.injEq,true_and] at h
   have:(_:Nat)=b:=Int.ofNat_inj.1 h.1;rw [this]
 · simp at h
 · cases h
theorem handElem_inv {v:Value}{i c:Nat}{ps:List MemPlace}(h:handElem v=some (entV i c,ps)):v=handV i c:=by
 unfold handElem at h
 split at h
 · rename_i cs
   split at h
   · rename_i a b e
     simp only [entV,Option.some.injEq,Prod.mk.injEq,DataW.agg.injEq,List.cons.injEq,DataW.lit.injEq,Lit.int.injEq,true_and,and_true] at h;obtain ⟨⟨h1,h2⟩,_⟩:=h;unfold handV;rw [← h1,← h2];congr 1;rw [← e]
   · cases h
 · cases h
theorem look_run (w:World)(m:Option Nat)(f:Nat→Option (List UInt8))(hm:MapAt w m f)(k:Nat)(hk:k < 9223372036854775808):(Instr.lookup 371 (.map m) (.int .i64 k) false).run Tryz.prog w = .ok (blkV ((f k).getD zero64)) w:=by
 cases m with
 | none =>
  rw [show f=_ from hm]
  exact look_nil false lawInt undMap (zeroBlk w) (keyInt k hk)
 | some b =>
  obtain ⟨D,h1,h2⟩:=hm;obtain ⟨v,ps,hr,hv⟩:=h1.lookup lawInt undMap (zeroBlk w) (blkElem_mk zero64_len) (keyInt k hk);obtain ⟨bs,_,rfl,e⟩:=blkElem_inv hv;rw [h2.look k] at e;have e1:=congrArg Prod.fst e;simp at e1;rw [hr,e1]
theorem wpList_look {w:World}{ops:Array Oper}{rest:List Oper}{o:Oper}{a:Act}{Q:Exit→Act→World→Prop}(hg:o.guard=none)(mo x:Operand)(hop:o.op=Op.lookup 371 mo x false)
  (m:Option Nat) (f:Nat→Option (List UInt8)) (hm:MapAt w m f) (k:Nat) (hk:k < 9223372036854775808) (z:Int) (h1:a.eval mo = .map m) (h2:a.eval x = .int .i64 z) (hz:z=(k:Int))
  (hK:wpList Tryz.prog ops Q rest (a.put o.dst (blkV ((f k).getD zero64))) w):wpList Tryz.prog ops Q (o::rest) a w:=by
 subst hz;refine wpList_plain hg fun K' hK'=>?_;unfold Oper.wp;simp [execOp,hop,h1,h2,look_run w m f hm k hk,Result.andThen];exact hK' _ _ hK
theorem wpList_newBlk {w:World}{ops:Array Oper}{rest:List Oper}{o:Oper}{a:Act}{Q:Exit→Act→World→Prop}(hg:o.guard=none)(hop:o.op=Op.alloc 384)
  (hK:∀ w',RowAt w' w.heap.size 384 zero64→Only [] w w'→wpList Tryz.prog ops Q rest (a.put o.dst (.pointer (some ⟨w.heap.size,0,none⟩))) w'):wpList Tryz.prog ops Q (o::rest) a w:=by
 refine wpList_plain hg fun K' hK'=>?_;have:=hK _ (heap_alloc_last w _) ((Only.refl [] w).alloc (.cells (Lib.byteCells zero64).toArray 384));unfold Oper.wp;simp only [execOp,hop]
 have hr:(Instr.alloc 384 true (.tuple #[])).run Tryz.prog w = .ok (.pointer (some ⟨w.heap.size,0,none⟩)) (w.alloc (.cells (Lib.byteCells zero64).toArray 384)):=by
  simp [Instr.alloc,newVar,newRow,Value.cells,Result.andThen,go_sem];rfl
 simp [hr,Result.andThen];exact hK' _ _ this
theorem only_row (w:World)(g:Nat)(c:Array Value):Only [g] w (w.setRow g c) :=
 ⟨rfl,rfl,rfl,by simp [World.setRow],fun k _ hk=>only_setRow w g c k (by simpa using hk)⟩
theorem blk_one (l:List UInt8):(Lib.byteCells l).toArray.all (·.oneCell')=true:=by
 rw [Array.all_eq_true_iff_forall_mem];intro v hv;exact Lib.byteCells_one l v (by simpa using hv)
theorem wpList_storeBlk {w:World}{ops:Array Oper}{rest:List Oper}{o:Oper}{a:Act}{Q:Exit→Act→World→Prop}(hg:o.guard=none)(x y:Operand)(hop:o.op=Op.store 384 x y)
  (g:Nat) (old new:List UInt8) (hr:RowAt w g 384 old) (h1:old.length=64) (h2:new.length=64) (hx:a.eval x = .pointer (some ⟨g,0,none⟩)) (hy:a.eval y=blkV new)
  (hK:∀ w',RowAt w' g 384 new→Only [g] w w'→wpList Tryz.prog ops Q rest (a.put o.dst undef) w'):wpList Tryz.prog ops Q (o::rest) a w :=
 wpList_plain hg fun _ hK'=>wp_store_row _ x y hop g (Lib.byteCells new).toArray hx hy _ _ hr (by rw [sizeBlk];simp [cells_len,h2]) (by simp [cells_len,h1,h2]) (blk_one _) (hK' _ _ (hK _ (hr.set new) (only_row w g _)))
theorem undBlk':Tryz.prog.underlying 384=some (.array (Tryz.prog.arrayLen 384) (Tryz.prog.elem 384)):=by kernel_rfl
theorem slice_blk (W:World)(g o:Nat)(ho:o < 64)(z:Int)(hz:z=(o:Int)):(Instr.sliceAt 384 (.pointer (some ⟨g,0,none⟩)) (some (.int .i64 z)) none none).run Tryz.prog W = .ok (.slice (some ⟨g,o,none⟩) (64 - o) (64 - o)) W:=by
 subst hz
 have hl:Tryz.prog.arrayLen 384=64:=by kernel_rfl
 have he:Tryz.prog.elem 384=5:=by kernel_rfl
 have hadd:(⟨g,0,none⟩:Addr).add (o*1)=⟨g,o,none⟩:=by unfold Addr.add;split<;>simp_all
 rw [run_sliceAt_array_l (P:=Tryz.prog) W 384 ⟨g,0,none⟩ undBlk' .i64 (o:Int) (by omega) (by rw [hl];omega),he,Tryz.sizeOf5,hl];simp only [Result.andThen,slicedAt,Int.toNat_natCast,hadd];rw [if_neg (by omega)]
theorem infoU8:(Tryz.prog.info? 5).map (·.size)=some 1:=by kernel_rfl
theorem wrap_small {z:Int}(h0:0≤z)(h1:z < 9223372036854775808):IntKind.i64.wrap z=z:=by
 simp [IntKind.wrap,IntKind.signed,IntKind.bits];omega
theorem RowAt.range {w:World}{g:Nat}{t:TypeId}{l:List UInt8}(h:RowAt w g t l):w.rangeAt g 0 (Lib.byteCells l):=fun j v hv=>by
 rw [cell_of_row _ _ _ _ _ _ h,Nat.zero_add]
 simpa using hv
theorem RowAt.only {w w':World}{g:Nat}{t:TypeId}{l:List UInt8}{L:List Nat}(h:RowAt w g t l)(ho:Only L w w')(hn:g∉L):RowAt w' g t l:=(ho.block g (lt_of_heap h) hn).trans h
theorem part_tail (s:ByteArray)(d n:Nat):partS (s.extract d s.size) 0 n=partS s d n:=by
 unfold partS;rw [ByteArray.data_extract,Array.toList_extract,List.extract_eq_take_drop,List.drop_zero,List.take_take]
 by_cases h:n≤s.size - d
 · rw [Nat.min_eq_left h]
 · rw [Nat.min_eq_right (by omega),List.take_of_length_le (by rw [List.length_drop,size_list];omega),List.take_of_length_le (by rw [List.length_drop,size_list];omega)]
def Ty (w:World)(g:Nat)(ty:TypeId):Prop:=∃ cs fr,w.heap[g]?=some (.cells cs ty fr)
theorem Ty.lt {w:World}{g:Nat}{ty:TypeId}(h:Ty w g ty):g < w.heap.size:=by
 obtain ⟨cs,fr,h⟩:=h;exact (Array.getElem?_eq_some_iff.1 h).1
theorem Ty.only {w w':World}{g:Nat}{ty:TypeId}{L:List Nat}(h:Ty w g ty)(ho:Only L w w')(hn:g∉L):Ty w' g ty:=by
 have hl:=h.lt;obtain ⟨cs,fr,h⟩:=h;exact ⟨cs,fr,(ho.block g hl hn).trans h⟩
theorem Ty.set {w:World}{g:Nat}{ty:TypeId}(h:Ty w g ty)(p:Addr)(v:Value):Ty (w.setCell p v) g ty:=by
 by_cases e:g=p.block
 · obtain ⟨cs,fr,h⟩:=h
   subst e;unfold Ty World.setCell;simp only [Array.getElem?_modify,h];exact ⟨_,_,rfl⟩
 · obtain ⟨cs,fr,h⟩:=h
   exact ⟨cs,fr,(Below.heap_setCell w p v g e).trans h⟩
structure DataO (w:World)(g o:Nat)(S:ByteArray)(H:List Bool)(m:Option Nat):Prop where
 size:w.cell? ⟨g,o,none⟩=some (.int .i64 (S.size:Nat))
 map:w.cell? ⟨g,o+1,none⟩=some (.map m)
 fz:∀ k,w.frozen? ⟨g,k,none⟩=false
 ty:Ty w g 375
 holds:∃ f,Same f S H∧MapAt w m f
theorem DataO.kept {w w':World}{g o:Nat}{S:ByteArray}{H:List Bool}{m:Option Nat}{L:List Nat}(h:DataO w g o S H m)(ho:Only L w w')(hd:∀ k∈footD g m,k∉L):DataO w' g o S H m:=by
 have hg:g < w.heap.size:=lt_of_cell h.size;have hgl:g∉L:=hd g (List.mem_cons_self ..);obtain ⟨f,h1,h2⟩:=h.holds
 exact ⟨(ho.cell (p:=⟨g,o,none⟩) hg hgl).trans h.size,(ho.cell (p:=⟨g,o+1,none⟩) hg hgl).trans h.map,fun o=>(ho.frozen (p:=⟨g,o,none⟩) hg hgl).trans (h.fz o),h.ty.only ho hgl,
  f,h1,h2.only ho (fun b e=>hd b (List.mem_cons_of_mem _ (by rw [e];simp)))⟩
theorem DataO.foot_lt {w:World}{g o:Nat}{S:ByteArray}{H:List Bool}{m:Option Nat}(h:DataO w g o S H m):∀ k∈footD g m,k < w.heap.size:=by
 intro k hk;rcases List.mem_cons.1 hk with rfl | hk
 · exact lt_of_cell h.size
 · obtain ⟨f,_,h2⟩:=h.holds
   have e:m=some k:=by simpa using hk
   subst e;exact h2.lt
theorem writeInO (w:World)(g o b:Nat)(f:Nat→Option (List UInt8))(D:DataW Unit)(q:Nat)(s:ByteArray)(hc:w.cell? ⟨g,o+1,none⟩=some (.map (some b)))(hown:w.ownsMap Tryz.prog 3 blkElem b 64 D)(hf:Holds D f)(hq:q < 4096):
  Calls Tryz.prog 313 #[.pointer (some ⟨g,o,none⟩),.int .i64 q,.string s] w fun e w'=>e = .returned (.int .i64 (min s.size (64 - q % 64):Nat)) ∧
   ( ∃ D',w'.ownsMap Tryz.prog 3 blkElem b 64 D'∧Holds D' (upd f (q / 64) (over ((f (q / 64)).getD zero64) (q % 64) (partS s 0 (min s.size (64 - q % 64))))))∧Only [b] w w':=by
 have hM:Hid (MapAt w (some b) f):=⟨D,hown,hf⟩;have hlt:g < w.heap.size:=lt_of_cell hc;have hblt:=hown.lt;have hne:b≠g:=own_ne hown hc;have hL:Hid (((f (q / 64)).getD zero64).length=64):=hf.len (q / 64);generalize hBk:(f (q / 64)).getD zero64=Bk at hL ⊢;have hsl:=fun W=>slice_blk W w.heap.size (q % 64) (by omega) ((q:Int) % 64) (by omega)
 go_enter Tryz.func313,Tryz.ntmps313
 go_wp2_with (first
  | (at_lookup;refine wpList_look rfl _ _ rfl (some b) f hM.out (q / 64) (by omega) _ rfl rfl (by omega) ?_;rw [hBk])
  | (refine wpList_newBlk rfl rfl ?_;intro w1 r1 o1)
  | (refine wpList_storeBlk rfl _ _ rfl w.heap.size zero64 Bk r1 zero64_len hL.out rfl rfl ?_;intro w2 r2 o2
     have hcp:=fun ty=>run_copy_part (P:=Tryz.prog) w2 159 9 ty 5 w.heap.size (q % 64) (64 - q % 64) (64 - q % 64) s Bk 384 Tryz.underlying159 infoU8 r2 (by rw [hL.out];omega);generalize hw3:w2.setRow w.heap.size (Lib.byteCells (over Bk (q % 64) (partS s 0 (min s.size (64 - q % 64))))).toArray=w3 at hcp
     have r3:Hid (RowAt w3 w.heap.size 384 (over Bk (q % 64) (partS s 0 (min s.size (64 - q % 64))))):=by subst hw3;exact (r2.set _:RowAt _ _ _ _)
     have o3:Hid (Only [w.heap.size] w w3):=by
      have:Only [w.heap.size] w w3:=by subst hw3;exact ((o1.mono (L':=[w.heap.size]) (by simp)).trans o2 (by simp)).trans (only_row w2 _ _) (by simp)
      exact this
     have c3:w3.cell? ⟨g,o+1,none⟩=some (.map (some b)):=by rw [o3.out.cell hlt (by simp;omega)];exact hc
     clear hw3)
  | go_in)
 have hLn:(over Bk (q % 64) (partS s 0 (min s.size (64 - q % 64)))).length=64:=by
  rw [over_len (by rw [hL.out,partS_len (by omega)];omega),hL.out]
 have own3:w3.drew.ownsMap Tryz.prog 3 blkElem b 64 D:=by
  obtain ⟨es,clock,h1,r⟩:=hown;exact ⟨es,clock,(o3.out.block b hblt (by simp;omega)).trans h1,r⟩
 obtain ⟨w4,hmu,own4,turn4⟩:=own3.store lawInt undMap (by unfold maxLen;omega) (keyInt (q / 64) (by omega)) (blkElem_mk hLn)
 have e64:((q / 64:Nat):Int)=(q:Int) / 64:=by omega
 rw [e64] at hmu
 have HF:Hid (∃ D',w4.ownsMap Tryz.prog 3 blkElem b 64 D'∧Holds D' (upd f (q / 64) (over Bk (q % 64) (partS s 0 (min s.size (64 - q % 64)))))):=by
  have hp:=hf.put (hown.isMap) (k:=q / 64) (by omega) hLn;exact ⟨_,(own_tight own4 hp).1,hp⟩
 have HO:Hid (Only [b] w w4):=by
  have h1:Only [b] w w3.drew:=(o3.out.mono (by simp)).drew;have:Only [b] w w4:=h1.grown turn4.grown (by simp);exact this
 have hlt4:g < w3.heap.size:=Nat.lt_of_lt_of_le hlt o3.out.size
 have hS4:w4.cell? ⟨g,o+1,none⟩=some (.map (some b))∧w4.rangeAt w.heap.size 0 (Lib.byteCells (over Bk (q % 64) (partS s 0 (min s.size (64 - q % 64))))):=by
  have hg:=turn4.grown;refine ⟨(World.cell?_of_block (w:=w3.drew) (hg.block g hlt4 (by simp;omega))).trans c3,fun jj v hv=>?_⟩;have hlt5:w.heap.size < w3.heap.size:=lt_of_heap r3.out;exact (World.cell?_of_block (w:=w3.drew) (hg.block w.heap.size hlt5 (by simp;omega))).trans (r3.out.range jj v hv)
 have hS3:w3.drew.cell? ⟨g,o+1,none⟩=some (.map (some b))∧w3.drew.rangeAt w.heap.size 0 (Lib.byteCells (over Bk (q % 64) (partS s 0 (min s.size (64 - q % 64))))):=⟨c3,fun jj v hv=>r3.out.range jj v hv⟩
 have hi1:(Tryz.prog.info? 384).map (·.size)=some (Lib.byteCells (over Bk (q % 64) (partS s 0 (min s.size (64 - q % 64))))).length:=by rw [sizeBlk,cells_len,hLn]
 have hu1:=undBlk;unfold blkV at hmu;clear hcp hsl r1 o1 r2 o2 r3 o3 own3 own4 turn4 hown hf hM hc e64 hLn hBk hL hlt4 c3;generalize hLE:over Bk (q % 64) (partS s 0 (min s.size (64 - q % 64)))=Ln at hmu hS3 hS4 hi1 HF;have HE:Hid (over Bk (q % 64) (partS s 0 (min s.size (64 - q % 64)))=Ln):=hLE;clear hLE;have hwr:IntKind.i64.wrap ((q:Int) / 64)=(q:Int) / 64:=wrap_small (by omega) (by omega)
 go_region_held3 (fun W=>W.cell? ⟨g,o+1,none⟩=some (.map (some b))∧W.rangeAt w.heap.size 0 (Lib.byteCells Ln)) (first | exact hS3 | exact hS4) (fail)
 all_goals (go_wp2;go_ret;exact ⟨rfl,by rw [HE.out];exact HF.out,HO.out⟩)
end
end Go.Proofs.YtmnidbnaneagjaaGreatDoor
