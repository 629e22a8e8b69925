import Derived.Test.YtbdfjbmocifhmaaGreatDoorK4
import Derived.Laws.CopyRow
import Derived.Lib.BufferWrite
import Derived.Deep.WholeRow
import Derived.Test.YtbdfjbmocifhmaaGreatDoorProg
import Derived.WalkKit
import Derived.WalkSpells
import Derived.Deep.RegionWith
import Derived.DeepKeys5
import Derived.Maps.OwnOps
import Derived.Maps.RangeWalk
import Derived.RegionTactic
import Derived.Deep.RegionHeld3
import Derived.Deep.DeepCutAuto
import Derived.Shelf.SlMaps.Clone
set_option maxRecDepth 100000
namespace Go.Proofs.YtbdfjbmocifhmaaGreatDoor
section
open Go Go.RowKit
theorem cells_len (l:List UInt8):(Lib.byteCells l).length=l.length:=by simp [Lib.byteCells]
theorem cells_over {b l:List UInt8}{o:Nat}:(Lib.byteCells b).take o++Lib.byteCells l++(Lib.byteCells b).drop (o+l.length)=Lib.byteCells (over b o l):=by
 simp [Lib.byteCells,over,List.map_take,List.map_drop]
def RowAt (w:World)(g:Nat)(t:TypeId)(l:List UInt8):Prop:=w.heap[g]?=some (.cells (Lib.byteCells l).toArray t (0,0))
theorem RowAt.set {w:World}{g:Nat}{t:TypeId}{l:List UInt8}(h:RowAt w g t l)(l':List UInt8):RowAt (w.setRow g (Lib.byteCells l').toArray) g t l':=setRow_heap w g _ _ t _ h
theorem lt_of_heap {w:World}{g:Nat}{o:Obj}(h:w.heap[g]?=some o):g < w.heap.size:=(Array.getElem?_eq_some_iff.1 h).1
theorem only_setRow (w:World)(g:Nat)(c:Array Value):∀ k,k≠g→(w.setRow g c).heap[k]?=w.heap[k]?:=by
 intro k hk;simp only [World.setRow];rw [Array.getElem?_modify,if_neg (fun e=>hk e.symm)]
theorem run_copy_part {P:Program}(w:World)(dT sT ty elem:TypeId)(g o dLen dCap:Nat)(s:ByteArray)(b:List UInt8)(t:TypeId)
  (hu:P.underlying dT=some (.slice elem)) (hs:(P.info? elem).map (·.size)=some 1) (hg:RowAt w g t b) (hfit:o+dLen≤b.length) :
  (Builtin.copy_ #[dT,sT] ty #[.slice (some ⟨g,o,none⟩) dLen dCap,.string s]).run P w =
   .ok (.int .i64 (min s.size dLen:Nat)) (w.setRow g (Lib.byteCells (over b o (partS s 0 (min s.size dLen)))).toArray):=by
 have hl:(partS s 0 (min s.size dLen)).length=min s.size dLen:=partS_len (by omega);have hst:=run_storeCells_at P g o t (Lib.byteCells (partS s 0 (min s.size dLen))) 0 _ w hg (by rw [cells_len,hl];simp only [List.size_toArray,cells_len];omega) (Lib.byteCells_one _);simp only [Nat.add_zero,cells_len] at hst;rw [cells_over] at hst
 have hc:((s.extract 0 (min s.size dLen)).data.map fun b:UInt8=>Value.int .u8 b.toNat).toList=Lib.byteCells (partS s 0 (min s.size dLen)):=by
  rw [Array.toList_map,ByteArray.data_extract,Array.toList_extract];simp [partS,Lib.byteCells,List.extract_eq_take_drop]
 have hm:Nat.min s.size dLen=min s.size dLen:=rfl;generalize min s.size dLen=m at hl hst hc hm ⊢
 cases hq:P.info? elem with
 | none=>simp [hq] at hs
 | some i =>
  simp only [Builtin.copy_,Sem.run_bind,run_underlying hu,Builtin.lenOf,Builtin.firstCells,sizeOf,typeInfo,Sem.run_pure,hm,goInt,Result.andThen_ok,List.getElem?_toArray,List.getElem?_cons_zero,List.getElem?_cons_succ,hc];simp [hq,hst]
theorem part_cell {w:World}{g o:Nat}{t:TypeId}{b:List UInt8}(h:RowAt w g t b)(n:Nat)(j:Nat)(v:Value)(hv:(Lib.byteCells ((b.drop o).take n))[j]?=some v):w.cell? ((⟨g,o,none⟩:Addr).add j)=some v:=by
 have hadd:(⟨g,o,none⟩:Addr).add j=⟨g,o+j,none⟩:=by unfold Addr.add;split<;>simp_all
 rw [hadd,cell_of_row _ _ _ _ _ _ h];simp only [Lib.byteCells,List.getElem?_map,List.getElem?_take,List.getElem?_drop] at hv;simp only [Lib.byteCells,List.getElem?_toArray,List.getElem?_map]
 split at hv
 · exact hv
 · cases hv
theorem run_copy_block {P:Program}(w:World)(dT sT ty elem:TypeId)(g p dLen dCap gb o sLen sCap:Nat)(l b:List UInt8)(t tb:TypeId)
  (hu:P.underlying dT=some (.slice elem)) (hs:(P.info? elem).map (·.size)=some 1) (hg:RowAt w g t l) (hb:RowAt w gb tb b) (hfit:p+dLen≤l.length) (hsrc:o+sLen≤b.length) :
  (Builtin.copy_ #[dT,sT] ty #[.slice (some ⟨g,p,none⟩) dLen dCap,.slice (some ⟨gb,o,none⟩) sLen sCap]).run P w =
   .ok (.int .i64 (min sLen dLen:Nat)) (w.setRow g (Lib.byteCells (over l p ((b.drop o).take (min sLen dLen)))).toArray):=by
 have hl:((b.drop o).take (min sLen dLen)).length=min sLen dLen:=by rw [List.length_take,List.length_drop];omega
 have h:=run_copy_row P w dT sT ty elem g p dLen dCap ⟨gb,o,none⟩ sLen sCap (Lib.byteCells l).toArray t (Lib.byteCells ((b.drop o).take (min sLen dLen))) hu hs hg (by rw [cells_len,hl]) (fun j v hv=>part_cell hb _ j v hv)
  (by rw [cells_len,hl];simp only [List.size_toArray,cells_len];omega) (Lib.byteCells_one _)
 simp only [cells_len] at h;rw [cells_over] at h;rw [h,hl];rfl
theorem zeroCells_one (n:Nat):(Builtin.zeroCells #[.int .u8 0] n).toList=Lib.byteCells (List.replicate n 0):=by
 simp only [Builtin.zeroCells,Lib.byteCells,List.map_replicate,Array.toList_map,Array.toList_range];apply List.ext_getElem
 · simp
 · intro i h1 h2
   simp [Nat.mod_one]
theorem run_clear_row {P:Program}(w:World)(t ty elem:TypeId)(g o n cap:Nat)(b:List UInt8)(tb:TypeId)
  (hu:P.underlying t=some (.slice elem)) (hz:∀ w,(zeroValue elem).run P w = .ok (.int .u8 0) w) (hg:RowAt w g tb b) (hn:0 < n) (hfit:o+n≤b.length) :
  (Builtin.clear_ #[t] ty #[.slice (some ⟨g,o,none⟩) n cap]).run P w = .ok (.tuple #[]) (w.setRow g (Lib.byteCells (over b o (List.replicate n 0))).toArray):=by
 have hst:=run_storeCells_at P g o tb (Lib.byteCells (List.replicate n 0)) 0 _ w hg (by rw [cells_len,List.length_replicate];simp only [List.size_toArray,cells_len];omega) (Lib.byteCells_one _);simp only [Nat.add_zero,cells_len] at hst;rw [cells_over] at hst;obtain ⟨k,rfl⟩:∃ k,n=k+1:=⟨n - 1,by omega⟩;have hz2:=zeroCells_one (k+1);simp only [Builtin.clear_,Sem.run_bind,run_underlying hu,hz,Result.andThen_ok,List.getElem?_toArray,List.getElem?_cons_zero,Value.cells];rw [hz2,hst];rfl
end
section
open Go Go.RowKit Go.Deep Go.Maps
theorem lawInt:Keyed Tryz.prog 3:=int_keyed Tryz.underlying3
theorem keyInt (k:Nat)(h:k < 9223372036854775808):keyOf Tryz.prog 3 (.int .i64 k)=some (key k):=keyOf_int_mk Tryz.underlying3 (key_wf h)
theorem infoBlk:(Tryz.prog.info? 216).map (fun i=>(i.zero,i.size))=some (some (blkV zero64),64):=by kernel_rfl
theorem undBlk:Tryz.prog.underlying 216=some (.array 64 5):=by kernel_rfl
theorem undMap:Tryz.prog.underlying 201=some (.map 3 216):=by kernel_rfl
theorem zeroBlk (w:World):(zeroValue 216).run Tryz.prog w = .ok (blkV zero64) w:=(zero_of_info infoBlk).1 w
theorem sizeBlk:(Tryz.prog.info? 216).map (·.size)=some 64:=(zero_of_info infoBlk).2
def MapAt (w:World)(m:Option Nat)(f:Nat→Option (List UInt8)):Prop :=
 match m with
 | none=>f=fun _=>none
 | some b=>∃ D,w.ownsMap Tryz.prog 3 blkElem b 64 D∧Holds D f
theorem own_tight {w:World}{b n:Nat}{D:DataW Unit}{f:Nat→Option (List UInt8)}(h:w.ownsMap Tryz.prog 3 blkElem b n D)(hf:Holds D f):w.ownsMap Tryz.prog 3 blkElem b 64 D∧Maps.size D=((List.range 64).filter (fun k=>(f k).isSome)).length:=by
 have hs:Maps.size D=((List.range 64).filter (fun k=>(f k).isSome)).length:=hf.size (h.tidy lawInt) (fun es e p hp=>by
  obtain ⟨es',e',_,hk⟩:=h.entries lawInt;rw [e] at e'
  cases e'
  exact hk p hp)
 have hle:Maps.size D≤64:=by
  rw [hs];exact Nat.le_trans (List.length_filter_le _ _) (by simp)
 refine ⟨?_,hs⟩;obtain ⟨es,clock,hb,F,_,rfl⟩:=h;exact ⟨es,clock,hb,F,by simpa [Maps.size,length_sorted] using hle,rfl⟩
theorem MapAt.lt {w:World}{b:Nat}{f:Nat→Option (List UInt8)}(h:MapAt w (some b) f):b < w.heap.size:=by
 obtain ⟨D,h,_⟩:=h;exact h.lt
theorem MapAt.kept {w w':World}{m:Option Nat}{f:Nat→Option (List UInt8)}(h:MapAt w m f)(hb:∀ b,m=some b→w'.heap[b]?=w.heap[b]?):MapAt w' m f:=by
 cases m with
 | none=>exact h
 | some b =>
  obtain ⟨D,⟨es,clock,h1,r⟩,h2⟩:=h;exact ⟨D,⟨es,clock,(hb b rfl).trans h1,r⟩,h2⟩
theorem MapAt.only {w w':World}{m:Option Nat}{f:Nat→Option (List UInt8)}{L:List Nat}(h:MapAt w m f)(ho:Only L w w')(hd:∀ b,m=some b→b∉L):MapAt w' m f :=
 h.kept fun b e=>ho.block b (by subst e;exact h.lt) (hd b e)
theorem MapAt.len {w:World}{m:Option Nat}{f:Nat→Option (List UInt8)}(h:MapAt w m f)(k:Nat)(bs:List UInt8)(e:f k=some bs):bs.length=64∧k < 64:=by
 cases m with
 | none=>rw [show f=_ from h] at e;cases e
 | some b =>
  obtain ⟨D,_,h2⟩:=h;exact ⟨(h2.there k bs e).2.2,h2.lt e⟩
theorem MapAt.getLen {w:World}{m:Option Nat}{f:Nat→Option (List UInt8)}(h:MapAt w m f)(k:Nat):((f k).getD zero64).length=64:=by
 cases e:f k with
 | none=>exact zero64_len
 | some bs=>exact (h.len k bs e).1
theorem own_ne {w:World}{b n g:Nat}{D:DataW Unit}{v:Value}(h:w.ownsMap Tryz.prog 3 blkElem b n D){o:Nat}(hc:w.cell? ⟨g,o,none⟩=some v):b≠g:=by
 obtain ⟨es,clock,hb,_⟩:=h;intro e;subst e;simp [World.cell?,hb] at hc
def footD (g:Nat)(m:Option Nat):List Nat:=g::m.toList
theorem undHandle:(match Tryz.prog.underlying 34 with | some (.array _ _) | some (.struct _)=>true | _=>false)=true:=by kernel_rfl
theorem keyHandle:Tryz.prog.keyType 34=true:=by kernel_rfl
theorem laidOut:laidOutB Tryz.prog=true:=by kernel_rfl
theorem lawH:Keyed Tryz.prog 34:=Keyed.of_law (deep_law_gate laidOut (by decide +kernel) (by decide +kernel) keyHandle undHandle)
theorem lawS:Keyed Tryz.prog 9:=Keyed.of_law (WideMaps.string_law Tryz.underlying9)
def handV (i c:Nat):Value := .agg #[.int .i64 i,.int .i64 c]
def hkey (k:Nat×Nat):Lit:=if k.1 < 9223372036854775808∧k.2 < 9223372036854775808 then .string (keyBytes [.int .i64 (k.1:Nat),.int .i64 (k.2:Nat)]) else .bool false
theorem hkey_key (k:Nat×Nat):WideAt.IsKeyLit (hkey k):=by
 unfold hkey
 split<;>trivial
theorem cellsInt:Tryz.prog.cellsOf 3=1:=by kernel_rfl
theorem cellsHandle:Tryz.prog.cellsOf 34=2:=by kernel_rfl
theorem lits_int (d:Nat)(n:Nat)(h:n < 9223372036854775808):Tryz.prog.keyLits (d+1) 3 [.int .i64 n]=some [.int .i64 n]:=by
 have hw:=key_wf h;unfold Program.keyLits;rw [Tryz.underlying3];simp [hw]
theorem keyOf_handle {i c:Nat}(hi:i < 9223372036854775808)(hc:c < 9223372036854775808):keyOf Tryz.prog 34 (handV i c)=some (hkey (i,c)):=by
 have h0:0 < Tryz.prog.types.size:=by decide +kernel
 obtain ⟨m,hm⟩:∃ m,Tryz.prog.types.size=m+1:=⟨Tryz.prog.types.size - 1,by omega⟩
 have hf:(handV i c).formed Tryz.prog 34=true:=by
  unfold handV Value.formed;rw [Tryz.underlying34,cellsHandle];rfl
 have hl:Tryz.prog.keyLits (m+1+1) 34 (handV i c).cells.toList=some [.int .i64 i,.int .i64 c]:=by
  unfold Program.keyLits;rw [Tryz.underlying34,cellsHandle];simp [handV,Value.cells,cellsInt,lits_int m i hi,lits_int m c hc]
 have hkk:hkey (i,c) = .string (keyBytes [.int .i64 (i:Nat),.int .i64 (c:Nat)]):=if_pos (And.intro hi hc);rw [hkk];unfold keyOf;rw [Tryz.underlying34,keyHandle,hf,hm,hl];rfl
theorem handV_inj {i c j d:Nat}(h:handV i c=handV j d):i=j∧c=d:=by
 unfold handV at h;simp only [Value.agg.injEq,Array.mk.injEq,List.cons.injEq,Value.int.injEq,true_and,and_true] at h;omega
theorem undDirs:Tryz.prog.underlying 127=some (.map 34 136):=by kernel_rfl
theorem undNames:Tryz.prog.underlying 136=some (.map 9 34):=by kernel_rfl
theorem undPins:Tryz.prog.underlying 128=some (.map 34 3):=by kernel_rfl
theorem infoDir:(Tryz.prog.info? 136).map (fun i=>(i.zero,i.size))=some (some (.map none),1):=by kernel_rfl
theorem infoHand:(Tryz.prog.info? 34).map (fun i=>(i.zero,i.size))=some (some (.agg #[.int .i64 0,.int .i64 0]),2):=by kernel_rfl
theorem zeroDir (w:World):(zeroValue 136).run Tryz.prog w = .ok (.map none) w:=(zero_of_info infoDir).1 w
theorem zeroHand (w:World):(zeroValue 34).run Tryz.prog w = .ok (.agg #[.int .i64 0,.int .i64 0]) w:=(zero_of_info infoHand).1 w
def mapElem:Value→Option (DataW Unit×List MemPlace)
 | .map (some b)=>some (.lit (.int .i64 b),[])
 | .map none=>some (.lit (.int .i64 (-1)),[])
 | _=>none
def handElem:Value→Option (DataW Unit×List MemPlace)
 | .agg cs=>match cs.toList with
  | [.int .i64 a,.int .i64 b]=>some (.agg [.lit (.int .i64 a),.lit (.int .i64 b)],[])
  | _=>none
 | _=>none
theorem handElem_mk (i c:Nat):handElem (handV i c)=some (entV i c,[]):=rfl
theorem mapElem_inv {v:Value}{b:Nat}{ps:List MemPlace}(h:mapElem v=some (.lit (.int .i64 b),ps)):v = .map (some b):=by
 unfold mapElem at h
 split at h
 · simp only [Option.some.injEq,Prod.mk.injEq,DataW.lit.injEq,Lit.int.injEq,true_and] at h
   have:(_:Nat)=b:=Int.ofNat_inj.1 h.1;rw [this]
 · simp at h
 · cases h
theorem handElem_inv {v:Value}{i c:Nat}{ps:List MemPlace}(h:handElem v=some (entV i c,ps)):v=handV i c:=by
 unfold handElem at h
 split at h
 · rename_i cs
   split at h
   · rename_i a b e
     simp only [entV,Option.some.injEq,Prod.mk.injEq,DataW.agg.injEq,List.cons.injEq,DataW.lit.injEq,Lit.int.injEq,true_and,and_true] at h;obtain ⟨⟨h1,h2⟩,_⟩:=h;unfold handV;rw [← h1,← h2];congr 1;rw [← e]
   · cases h
 · cases h
theorem look_run (w:World)(m:Option Nat)(f:Nat→Option (List UInt8))(hm:MapAt w m f)(k:Nat)(hk:k < 9223372036854775808):(Instr.lookup 201 (.map m) (.int .i64 k) false).run Tryz.prog w = .ok (blkV ((f k).getD zero64)) w:=by
 cases m with
 | none =>
  rw [show f=_ from hm]
  exact look_nil false lawInt undMap (zeroBlk w) (keyInt k hk)
 | some b =>
  obtain ⟨D,h1,h2⟩:=hm;obtain ⟨v,ps,hr,hv⟩:=h1.lookup lawInt undMap (zeroBlk w) (blkElem_mk zero64_len) (keyInt k hk);obtain ⟨bs,_,rfl,e⟩:=blkElem_inv hv;rw [h2.look k] at e;have e1:=congrArg Prod.fst e;simp at e1;rw [hr,e1]
theorem wpList_look {w:World}{ops:Array Oper}{rest:List Oper}{o:Oper}{a:Act}{Q:Exit→Act→World→Prop}(hg:o.guard=none)(mo x:Operand)(hop:o.op=Op.lookup 201 mo x false)
  (m:Option Nat) (f:Nat→Option (List UInt8)) (hm:MapAt w m f) (k:Nat) (hk:k < 9223372036854775808) (z:Int) (h1:a.eval mo = .map m) (h2:a.eval x = .int .i64 z) (hz:z=(k:Int))
  (hK:wpList Tryz.prog ops Q rest (a.put o.dst (blkV ((f k).getD zero64))) w):wpList Tryz.prog ops Q (o::rest) a w:=by
 subst hz;refine wpList_plain hg fun K' hK'=>?_;unfold Oper.wp;simp [execOp,hop,h1,h2,look_run w m f hm k hk,Result.andThen];exact hK' _ _ hK
theorem wpList_newBlk {w:World}{ops:Array Oper}{rest:List Oper}{o:Oper}{a:Act}{Q:Exit→Act→World→Prop}(hg:o.guard=none)(hop:o.op=Op.alloc 216)
  (hK:∀ w',RowAt w' w.heap.size 216 zero64→Only [] w w'→wpList Tryz.prog ops Q rest (a.put o.dst (.pointer (some ⟨w.heap.size,0,none⟩))) w'):wpList Tryz.prog ops Q (o::rest) a w:=by
 refine wpList_plain hg fun K' hK'=>?_;have:=hK _ (heap_alloc_last w _) ((Only.refl [] w).alloc (.cells (Lib.byteCells zero64).toArray 216));unfold Oper.wp;simp only [execOp,hop]
 have hr:(Instr.alloc 216 true (.tuple #[])).run Tryz.prog w = .ok (.pointer (some ⟨w.heap.size,0,none⟩)) (w.alloc (.cells (Lib.byteCells zero64).toArray 216)):=by
  simp [Instr.alloc,newVar,newRow,Value.cells,Result.andThen,go_sem];rfl
 simp [hr,Result.andThen];exact hK' _ _ this
theorem only_row (w:World)(g:Nat)(c:Array Value):Only [g] w (w.setRow g c) :=
 ⟨rfl,rfl,rfl,by simp [World.setRow],fun k _ hk=>only_setRow w g c k (by simpa using hk)⟩
theorem blk_one (l:List UInt8):(Lib.byteCells l).toArray.all (·.oneCell')=true:=by
 rw [Array.all_eq_true_iff_forall_mem];intro v hv;exact Lib.byteCells_one l v (by simpa using hv)
theorem wpList_storeBlk {w:World}{ops:Array Oper}{rest:List Oper}{o:Oper}{a:Act}{Q:Exit→Act→World→Prop}(hg:o.guard=none)(x y:Operand)(hop:o.op=Op.store 216 x y)
  (g:Nat) (old new:List UInt8) (hr:RowAt w g 216 old) (h1:old.length=64) (h2:new.length=64) (hx:a.eval x = .pointer (some ⟨g,0,none⟩)) (hy:a.eval y=blkV new)
  (hK:∀ w',RowAt w' g 216 new→Only [g] w w'→wpList Tryz.prog ops Q rest (a.put o.dst undef) w'):wpList Tryz.prog ops Q (o::rest) a w :=
 wpList_plain hg fun _ hK'=>wp_store_row _ x y hop g (Lib.byteCells new).toArray hx hy _ _ hr (by rw [sizeBlk];simp [cells_len,h2]) (by simp [cells_len,h1,h2]) (blk_one _) (hK' _ _ (hK _ (hr.set new) (only_row w g _)))
theorem undBlk':Tryz.prog.underlying 216=some (.array (Tryz.prog.arrayLen 216) (Tryz.prog.elem 216)):=by kernel_rfl
theorem slice_blk (W:World)(g o:Nat)(ho:o < 64)(z:Int)(hz:z=(o:Int)):(Instr.sliceAt 216 (.pointer (some ⟨g,0,none⟩)) (some (.int .i64 z)) none none).run Tryz.prog W = .ok (.slice (some ⟨g,o,none⟩) (64 - o) (64 - o)) W:=by
 subst hz
 have hl:Tryz.prog.arrayLen 216=64:=by kernel_rfl
 have he:Tryz.prog.elem 216=5:=by kernel_rfl
 have hadd:(⟨g,0,none⟩:Addr).add (o*1)=⟨g,o,none⟩:=by unfold Addr.add;split<;>simp_all
 rw [run_sliceAt_array_l (P:=Tryz.prog) W 216 ⟨g,0,none⟩ undBlk' .i64 (o:Int) (by omega) (by rw [hl];omega),he,Tryz.sizeOf5,hl];simp only [Result.andThen,slicedAt,Int.toNat_natCast,hadd];rw [if_neg (by omega)]
theorem infoU8:(Tryz.prog.info? 5).map (·.size)=some 1:=by kernel_rfl
theorem wrap_small {z:Int}(h0:0≤z)(h1:z < 9223372036854775808):IntKind.i64.wrap z=z:=by
 simp [IntKind.wrap,IntKind.signed,IntKind.bits];omega
theorem RowAt.range {w:World}{g:Nat}{t:TypeId}{l:List UInt8}(h:RowAt w g t l):w.rangeAt g 0 (Lib.byteCells l):=fun j v hv=>by
 rw [cell_of_row _ _ _ _ _ _ h,Nat.zero_add]
 simpa using hv
theorem RowAt.only {w w':World}{g:Nat}{t:TypeId}{l:List UInt8}{L:List Nat}(h:RowAt w g t l)(ho:Only L w w')(hn:g∉L):RowAt w' g t l:=(ho.block g (lt_of_heap h) hn).trans h
theorem part_tail (s:ByteArray)(d n:Nat):partS (s.extract d s.size) 0 n=partS s d n:=by
 unfold partS;rw [ByteArray.data_extract,Array.toList_extract,List.extract_eq_take_drop,List.drop_zero,List.take_take]
 by_cases h:n≤s.size - d
 · rw [Nat.min_eq_left h]
 · rw [Nat.min_eq_right (by omega),List.take_of_length_le (by rw [List.length_drop,size_list];omega),List.take_of_length_le (by rw [List.length_drop,size_list];omega)]
end
end Go.Proofs.YtbdfjbmocifhmaaGreatDoor
