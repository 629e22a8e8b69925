import Derived.Lib.SlMapFilter
import Derived.Lib.UnsafeStr
import Derived.Laws.CopyRow
import Derived.Lib.BufferWrite
import Derived.Deep.WholeRow
import Derived.Test.YtodldddakjmonaaGreatDoorProg
import Derived.Test.YtodldddakjmonaaGreatDoorK4
import Derived.WalkKit
import Derived.WalkSpells
import Derived.Deep.RegionWith
import Derived.DeepKeys5
import Derived.Maps.OwnOps
import Derived.Maps.RangeWalk
import Derived.RegionTactic
import Derived.Deep.RegionHeld3
import Derived.Deep.DeepCutAuto
import Derived.Shelf.SlMaps.Clone
set_option maxRecDepth 100000
namespace Go.Proofs.YtodldddakjmonaaGreatDoor
section
open Go Go.RowKit Go.Maps
def bytesFrom:List Value→Option (List UInt8)
 | []=>some []
 | .int .u8 n::r=>if 0≤n∧n < 256 then (bytesFrom r).map (UInt8.ofNat n.toNat::·) else none
 | _::_=>none
def blkElem:Value→Option (DataW Unit×List MemPlace)
 | .agg cs=>match bytesFrom cs.toList with
  | some bs=>if bs.length=64 then some (.lit (.string bs),[]) else none
  | none=>none
 | _=>none
def zero64:List UInt8:=List.replicate 64 0
def key (k:Nat):Lit := .int .i64 k
theorem key_inj {j k:Nat}(h:key j=key k):j=k:=by
 unfold key at h;have:=(Lit.int.inj h).2;omega
theorem key_wf {k:Nat}(h:k < 9223372036854775808):(Lit.int .i64 (k:Int)).wf=true:=by
 simp [Lit.wf,IntKind.min,IntKind.max,IntKind.signed,IntKind.bits];omega
structure Holds (D:DataW Unit)(f:Nat→Option (List UInt8)):Prop where
 keys:∀ kl,has D kl=true→∃ k,k < 64∧kl=key k
 gone:∀ k,f k=none→has D (key k)=false
 there:∀ k bs,f k=some bs→has D (key k)=true∧(∀ z,D.atKey (key k) z = .lit (.string bs))∧bs.length=64
theorem Holds.isSome {D:DataW Unit}{f:Nat→Option (List UInt8)}(h:Holds D f)(k:Nat):(f k).isSome=has D (key k):=by
 cases e:f k with
 | none=>rw [h.gone k e];rfl
 | some bs=>rw [(h.there k bs e).1];rfl
theorem Holds.size {D:DataW Unit}{f:Nat→Option (List UInt8)}(h:Holds D f)(hT:Tidy D)(hK:∀ es,D = .map es→∀ p∈es,WideAt.IsKeyLit p.1):Maps.size D=((List.range 64).filter (fun k=>(f k).isSome)).length:=by
 obtain ⟨es,rfl,hp⟩:=hT
 have n1:(es.map Prod.fst).Nodup:=by
  unfold List.Nodup;rw [List.pairwise_map];exact hp
 have n2:(((List.range 64).filter (fun k=>(f k).isSome)).map key).Nodup:=by
  unfold List.Nodup;rw [List.pairwise_map];exact (List.Pairwise.filter _ (List.nodup_range (n:=64))).imp (fun hne e=>hne (key_inj e))
 have hm:(es.map Prod.fst).Perm (((List.range 64).filter (fun k=>(f k).isSome)).map key):=by
  rw [List.perm_ext_iff_of_nodup n1 n2];intro kl
  constructor
  · intro hk
    obtain ⟨p,hp1,rfl⟩:=List.mem_map.1 hk;have hh:has (.map es) p.1=true:=List.any_eq_true.2 ⟨p,hp1,WideAt.sameKey_self (hK es rfl p hp1)⟩;obtain ⟨k,hk64,ek⟩:=h.keys _ hh;refine List.mem_map.2 ⟨k,List.mem_filter.2 ⟨List.mem_range.2 hk64,?_⟩,ek.symm⟩;rw [h.isSome k,← ek];exact hh
  · intro hk
    obtain ⟨k,hk1,rfl⟩:=List.mem_map.1 hk;have hs:=(List.mem_filter.1 hk1).2;rw [h.isSome k] at hs;obtain ⟨p,hp1,hp2⟩:=List.any_eq_true.1 hs;exact List.mem_map.2 ⟨p,hp1,WideAt.sameKey_eq hp2⟩
 have:=hm.length_eq
 simpa [Maps.size] using this
end
section
open Go Go.Maps
def byteS (S:ByteArray)(i:Nat):UInt8:=S.data.toList.getD i 0
theorem size_list (S:ByteArray):S.data.toList.length=S.size:=rfl
theorem byteS_out {S:ByteArray}{i:Nat}(h:S.size≤i):byteS S i=0:=by
 unfold byteS;rw [List.getD_eq_getElem?_getD,List.getElem?_eq_none (by rw [size_list];exact h)];rfl
def isF (H:List Bool)(k:Nat):Bool:=H[k]?==some false
def byteF (f:Nat→Option (List UInt8))(i:Nat):UInt8:=((f (i / 64)).getD zero64).getD (i % 64) 0
structure Same (f:Nat→Option (List UInt8))(S:ByteArray)(H:List Bool):Prop where
 le:S.size≤4096
 bytes:∀ i,i < 4096→byteF f i=byteS S i
 lenH:H.length≤64
 holes:∀ k,k < 64→(f k).isSome=isF H k
theorem zero64_get (i:Nat):zero64.getD i 0=0:=by
 simp only [zero64,List.getD_eq_getElem?_getD,List.getElem?_replicate]
 split<;>rfl
theorem Same.start:Same (fun _=>none) ⟨#[]⟩ []:=⟨Nat.zero_le _,fun i _=>by
 show zero64.getD (i % 64) 0=_
 rw [zero64_get,byteS_out (Nat.zero_le _)],Nat.zero_le _,fun k _=>by simp [isF]⟩
end
section
open Go Go.RowKit
def RowAt (w:World)(g:Nat)(t:TypeId)(l:List UInt8):Prop:=w.heap[g]?=some (.cells (Lib.byteCells l).toArray t (0,0))
end
section
open Go Go.RowKit Go.Deep Go.Maps
def MapAt (w:World)(m:Option Nat)(f:Nat→Option (List UInt8)):Prop :=
 match m with
 | none=>f=fun _=>none
 | some b=>∃ D,w.ownsMap Tryz.prog 3 blkElem b 64 D∧Holds D f
theorem MapAt.lt {w:World}{b:Nat}{f:Nat→Option (List UInt8)}(h:MapAt w (some b) f):b < w.heap.size:=by
 obtain ⟨D,h,_⟩:=h;exact h.lt
theorem MapAt.kept {w w':World}{m:Option Nat}{f:Nat→Option (List UInt8)}(h:MapAt w m f)(hb:∀ b,m=some b→w'.heap[b]?=w.heap[b]?):MapAt w' m f:=by
 cases m with
 | none=>exact h
 | some b =>
  obtain ⟨D,⟨es,clock,h1,r⟩,h2⟩:=h;exact ⟨D,⟨es,clock,(hb b rfl).trans h1,r⟩,h2⟩
theorem MapAt.only {w w':World}{m:Option Nat}{f:Nat→Option (List UInt8)}{L:List Nat}(h:MapAt w m f)(ho:Only L w w')(hd:∀ b,m=some b→b∉L):MapAt w' m f :=
 h.kept fun b e=>ho.block b (by subst e;exact h.lt) (hd b e)
theorem own_ne {w:World}{b n g:Nat}{D:DataW Unit}{v:Value}(h:w.ownsMap Tryz.prog 3 blkElem b n D){o:Nat}(hc:w.cell? ⟨g,o,none⟩=some v):b≠g:=by
 obtain ⟨es,clock,hb,_⟩:=h;intro e;subst e;simp [World.cell?,hb] at hc
def footD (g:Nat)(m:Option Nat):List Nat:=g::m.toList
theorem undHandle:(match Tryz.prog.underlying 116 with | some (.array _ _) | some (.struct _)=>true | _=>false)=true:=by kernel_rfl
theorem keyHandle:Tryz.prog.keyType 116=true:=by kernel_rfl
theorem laidOut:laidOutB Tryz.prog=true:=by kernel_rfl
theorem lawH:Keyed Tryz.prog 116:=Keyed.of_law (deep_law_gate laidOut (by decide +kernel) (by decide +kernel) keyHandle undHandle)
theorem lawS:Keyed Tryz.prog 9:=Keyed.of_law (WideMaps.string_law Tryz.underlying9)
def handV (i c:Nat):Value := .agg #[.int .i64 i,.int .i64 c]
def hkey (k:Nat×Nat):Lit:=if k.1 < 9223372036854775808∧k.2 < 9223372036854775808 then .string (keyBytes [.int .i64 (k.1:Nat),.int .i64 (k.2:Nat)]) else .bool false
theorem hkey_key (k:Nat×Nat):WideAt.IsKeyLit (hkey k):=by
 unfold hkey
 split<;>trivial
theorem cellsInt:Tryz.prog.cellsOf 3=1:=by kernel_rfl
theorem cellsHandle:Tryz.prog.cellsOf 116=2:=by kernel_rfl
theorem lits_int (d:Nat)(n:Nat)(h:n < 9223372036854775808):Tryz.prog.keyLits (d+1) 3 [.int .i64 n]=some [.int .i64 n]:=by
 have hw:=key_wf h;unfold Program.keyLits;rw [Tryz.underlying3];simp [hw]
theorem keyOf_handle {i c:Nat}(hi:i < 9223372036854775808)(hc:c < 9223372036854775808):keyOf Tryz.prog 116 (handV i c)=some (hkey (i,c)):=by
 have h0:0 < Tryz.prog.types.size:=by decide +kernel
 obtain ⟨m,hm⟩:∃ m,Tryz.prog.types.size=m+1:=⟨Tryz.prog.types.size - 1,by omega⟩
 have hf:(handV i c).formed Tryz.prog 116=true:=by
  unfold handV Value.formed;rw [Tryz.underlying116,cellsHandle];rfl
 have hl:Tryz.prog.keyLits (m+1+1) 116 (handV i c).cells.toList=some [.int .i64 i,.int .i64 c]:=by
  unfold Program.keyLits;rw [Tryz.underlying116,cellsHandle];simp [handV,Value.cells,cellsInt,lits_int m i hi,lits_int m c hc]
 have hkk:hkey (i,c) = .string (keyBytes [.int .i64 (i:Nat),.int .i64 (c:Nat)]):=if_pos (And.intro hi hc);rw [hkk];unfold keyOf;rw [Tryz.underlying116,keyHandle,hf,hm,hl];rfl
theorem handV_inj {i c j d:Nat}(h:handV i c=handV j d):i=j∧c=d:=by
 unfold handV at h;simp only [Value.agg.injEq,Array.mk.injEq,List.cons.injEq,Value.int.injEq,true_and,and_true] at h;omega
theorem undDirs:Tryz.prog.underlying 200=some (.map 116 268):=by kernel_rfl
theorem undNames:Tryz.prog.underlying 268=some (.map 9 116):=by kernel_rfl
theorem infoDir:(Tryz.prog.info? 268).map (fun i=>(i.zero,i.size))=some (some (.map none),1):=by kernel_rfl
theorem infoHand:(Tryz.prog.info? 116).map (fun i=>(i.zero,i.size))=some (some (.agg #[.int .i64 0,.int .i64 0]),2):=by kernel_rfl
theorem zeroDir (w:World):(zeroValue 268).run Tryz.prog w = .ok (.map none) w:=(zero_of_info infoDir).1 w
theorem zeroHand (w:World):(zeroValue 116).run Tryz.prog w = .ok (.agg #[.int .i64 0,.int .i64 0]) w:=(zero_of_info infoHand).1 w
def mapElem:Value→Option (DataW Unit×List MemPlace)
 | .map (some b)=>some (.lit (.int .i64 b),[])
 | .map none=>some (.lit (.int .i64 (-1)),[])
 | _=>none
def handElem:Value→Option (DataW Unit×List MemPlace)
 | .agg cs=>match cs.toList with
  | [.int .i64 a,.int .i64 b]=>some (.agg [.lit (.int .i64 a),.lit (.int .i64 b)],[])
  | _=>none
 | _=>none
theorem handElem_mk (i c:Nat):handElem (handV i c)=some (entV i c,[]):=rfl
theorem mapElem_inv {v:Value}{b:Nat}{ps:List MemPlace}(h:mapElem v=some (.lit (.int .i64 b),ps)):v = .map (some b):=by
 unfold mapElem at h
 split at h
 · simp only [Option.some.injEq,Prod.mk.injEq,DataW.lit.injEq,Lit.int.injEq,true_and] at h
   have:(_:Nat)=b:=Int.ofNat_inj.1 h.1;rw [this]
 · simp at h
 · cases h
theorem handElem_inv {v:Value}{i c:Nat}{ps:List MemPlace}(h:handElem v=some (entV i c,ps)):v=handV i c:=by
 unfold handElem at h
 split at h
 · rename_i cs
   split at h
   · rename_i a b e
     simp only [entV,Option.some.injEq,Prod.mk.injEq,DataW.agg.injEq,List.cons.injEq,DataW.lit.injEq,Lit.int.injEq,true_and,and_true] at h;obtain ⟨⟨h1,h2⟩,_⟩:=h;unfold handV;rw [← h1,← h2];congr 1;rw [← e]
   · cases h
 · cases h
theorem RowAt.range {w:World}{g:Nat}{t:TypeId}{l:List UInt8}(h:RowAt w g t l):w.rangeAt g 0 (Lib.byteCells l):=fun j v hv=>by
 rw [cell_of_row _ _ _ _ _ _ h,Nat.zero_add]
 simpa using hv
def Ty (w:World)(g:Nat)(ty:TypeId):Prop:=∃ cs fr,w.heap[g]?=some (.cells cs ty fr)
theorem Ty.lt {w:World}{g:Nat}{ty:TypeId}(h:Ty w g ty):g < w.heap.size:=by
 obtain ⟨cs,fr,h⟩:=h;exact (Array.getElem?_eq_some_iff.1 h).1
theorem Ty.only {w w':World}{g:Nat}{ty:TypeId}{L:List Nat}(h:Ty w g ty)(ho:Only L w w')(hn:g∉L):Ty w' g ty:=by
 have hl:=h.lt;obtain ⟨cs,fr,h⟩:=h;exact ⟨cs,fr,(ho.block g hl hn).trans h⟩
theorem Ty.set {w:World}{g:Nat}{ty:TypeId}(h:Ty w g ty)(p:Addr)(v:Value):Ty (w.setCell p v) g ty:=by
 by_cases e:g=p.block
 · obtain ⟨cs,fr,h⟩:=h
   subst e;unfold Ty World.setCell;simp only [Array.getElem?_modify,h];exact ⟨_,_,rfl⟩
 · obtain ⟨cs,fr,h⟩:=h
   exact ⟨cs,fr,(Below.heap_setCell w p v g e).trans h⟩
structure DataO (w:World)(g o:Nat)(S:ByteArray)(H:List Bool)(m:Option Nat):Prop where
 size:w.cell? ⟨g,o,none⟩=some (.int .i64 (S.size:Nat))
 map:w.cell? ⟨g,o+1,none⟩=some (.map m)
 fz:∀ k,w.frozen? ⟨g,k,none⟩=false
 ty:Ty w g 265
 holds:∃ f,Same f S H∧MapAt w m f
theorem DataO.kept {w w':World}{g o:Nat}{S:ByteArray}{H:List Bool}{m:Option Nat}{L:List Nat}(h:DataO w g o S H m)(ho:Only L w w')(hd:∀ k∈footD g m,k∉L):DataO w' g o S H m:=by
 have hg:g < w.heap.size:=lt_of_cell h.size;have hgl:g∉L:=hd g (List.mem_cons_self ..);obtain ⟨f,h1,h2⟩:=h.holds
 exact ⟨(ho.cell (p:=⟨g,o,none⟩) hg hgl).trans h.size,(ho.cell (p:=⟨g,o+1,none⟩) hg hgl).trans h.map,fun o=>(ho.frozen (p:=⟨g,o,none⟩) hg hgl).trans (h.fz o),h.ty.only ho hgl,
  f,h1,h2.only ho (fun b e=>hd b (List.mem_cons_of_mem _ (by rw [e];simp)))⟩
theorem DataO.foot_lt {w:World}{g o:Nat}{S:ByteArray}{H:List Bool}{m:Option Nat}(h:DataO w g o S H m):∀ k∈footD g m,k < w.heap.size:=by
 intro k hk;rcases List.mem_cons.1 hk with rfl | hk
 · exact lt_of_cell h.size
 · obtain ⟨f,_,h2⟩:=h.holds
   have e:m=some k:=by simpa using hk
   subst e;exact h2.lt
end
end Go.Proofs.YtodldddakjmonaaGreatDoor
