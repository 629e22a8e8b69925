import Derived.Test.YtbdfjbmocifhmaaGreatDoorK4
import Derived.RegionTactic
import Derived.Deep.RegionHeld3
import Derived.Deep.DeepCutAuto
import Derived.Shelf.SlMaps.Clone
import Derived.ProofKit
set_option maxRecDepth 100000
set_option maxHeartbeats 8000000
namespace Go.Proofs.YtbdfjbmocifhmaaGreatDoor
section
open Go Go.RowKit Go.Deep Go.Maps
theorem look_run (w:World)(m:Option Nat)(f:Nat→Option (List UInt8))(hm:MapAt w m f)(k:Nat)(hk:k < 9223372036854775808):(Instr.lookup 201 (.map m) (.int .i64 k) false).run Tryz.prog w = .ok (blkV ((f k).getD zero64)) w:=by
 cases m with
 | none =>
  rw [show f=_ from hm]
  exact look_nil false lawInt undMap (zeroBlk w) (keyInt k hk)
 | some b =>
  obtain ⟨D,h1,h2⟩:=hm;obtain ⟨v,ps,hr,hv⟩:=h1.lookup lawInt undMap (zeroBlk w) (blkElem_mk zero64_len) (keyInt k hk);obtain ⟨bs,_,rfl,e⟩:=blkElem_inv hv;rw [h2.look k] at e;have e1:=congrArg Prod.fst e;simp at e1;rw [hr,e1]
theorem wpList_look {w:World}{ops:Array Oper}{rest:List Oper}{o:Oper}{a:Act}{Q:Exit→Act→World→Prop}(hg:o.guard=none)(mo x:Operand)(hop:o.op=Op.lookup 201 mo x false)
  (m:Option Nat) (f:Nat→Option (List UInt8)) (hm:MapAt w m f) (k:Nat) (hk:k < 9223372036854775808) (z:Int) (h1:a.eval mo = .map m) (h2:a.eval x = .int .i64 z) (hz:z=(k:Int))
  (hK:wpList Tryz.prog ops Q rest (a.put o.dst (blkV ((f k).getD zero64))) w):wpList Tryz.prog ops Q (o::rest) a w:=by
 subst hz;refine wpList_plain hg fun K' hK'=>?_;unfold Oper.wp;simp [execOp,hop,h1,h2,look_run w m f hm k hk,Result.andThen];exact hK' _ _ hK
theorem wpList_newBlk {w:World}{ops:Array Oper}{rest:List Oper}{o:Oper}{a:Act}{Q:Exit→Act→World→Prop}(hg:o.guard=none)(hop:o.op=Op.alloc 216)
  (hK:∀ w',RowAt w' w.heap.size 216 zero64→Only [] w w'→wpList Tryz.prog ops Q rest (a.put o.dst (.pointer (some ⟨w.heap.size,0,none⟩))) w'):wpList Tryz.prog ops Q (o::rest) a w:=by
 refine wpList_plain hg fun K' hK'=>?_;have:=hK _ (heap_alloc_last w _) ((Only.refl [] w).alloc (.cells (Lib.byteCells zero64).toArray 216));unfold Oper.wp;simp only [execOp,hop]
 have hr:(Instr.alloc 216 true (.tuple #[])).run Tryz.prog w = .ok (.pointer (some ⟨w.heap.size,0,none⟩)) (w.alloc (.cells (Lib.byteCells zero64).toArray 216)):=by
  simp [Instr.alloc,newVar,newRow,Value.cells,Result.andThen,go_sem];rfl
 simp [hr,Result.andThen];exact hK' _ _ this
theorem only_row (w:World)(g:Nat)(c:Array Value):Only [g] w (w.setRow g c) :=
 ⟨rfl,rfl,rfl,by simp [World.setRow],fun k _ hk=>only_setRow w g c k (by simpa using hk)⟩
theorem blk_one (l:List UInt8):(Lib.byteCells l).toArray.all (·.oneCell')=true:=by
 rw [Array.all_eq_true_iff_forall_mem];intro v hv;exact Lib.byteCells_one l v (by simpa using hv)
theorem wpList_storeBlk {w:World}{ops:Array Oper}{rest:List Oper}{o:Oper}{a:Act}{Q:Exit→Act→World→Prop}(hg:o.guard=none)(x y:Operand)(hop:o.op=Op.store 216 x y)
  (g:Nat) (old new:List UInt8) (hr:RowAt w g 216 old) (h1:old.length=64) (h2:new.length=64) (hx:a.eval x = .pointer (some ⟨g,0,none⟩)) (hy:a.eval y=blkV new)
  (hK:∀ w',RowAt w' g 216 new→Only [g] w w'→wpList Tryz.prog ops Q rest (a.put o.dst undef) w'):wpList Tryz.prog ops Q (o::rest) a w :=
 wpList_plain hg fun _ hK'=>wp_store_row _ x y hop g (Lib.byteCells new).toArray hx hy _ _ hr (by rw [sizeBlk];simp [cells_len,h2]) (by simp [cells_len,h1,h2]) (blk_one _) (hK' _ _ (hK _ (hr.set new) (only_row w g _)))
theorem undBlk':Tryz.prog.underlying 216=some (.array (Tryz.prog.arrayLen 216) (Tryz.prog.elem 216)):=by kernel_rfl
theorem slice_blk (W:World)(g o:Nat)(ho:o < 64)(z:Int)(hz:z=(o:Int)):(Instr.sliceAt 216 (.pointer (some ⟨g,0,none⟩)) (some (.int .i64 z)) none none).run Tryz.prog W = .ok (.slice (some ⟨g,o,none⟩) (64 - o) (64 - o)) W:=by
 subst hz
 have hl:Tryz.prog.arrayLen 216=64:=by kernel_rfl
 have he:Tryz.prog.elem 216=5:=by kernel_rfl
 have hadd:(⟨g,0,none⟩:Addr).add (o*1)=⟨g,o,none⟩:=by unfold Addr.add;split<;>simp_all
 rw [run_sliceAt_array_l (P:=Tryz.prog) W 216 ⟨g,0,none⟩ undBlk' .i64 (o:Int) (by omega) (by rw [hl];omega),he,Tryz.sizeOf5,hl];simp only [Result.andThen,slicedAt,Int.toNat_natCast,hadd];rw [if_neg (by omega)]
theorem infoU8:(Tryz.prog.info? 5).map (·.size)=some 1:=by kernel_rfl
theorem wrap_small {z:Int}(h0:0≤z)(h1:z < 9223372036854775808):IntKind.i64.wrap z=z:=by
 simp [IntKind.wrap,IntKind.signed,IntKind.bits];omega
theorem RowAt.range {w:World}{g:Nat}{t:TypeId}{l:List UInt8}(h:RowAt w g t l):w.rangeAt g 0 (Lib.byteCells l):=fun j v hv=>by
 rw [cell_of_row _ _ _ _ _ _ h,Nat.zero_add]
 simpa using hv
theorem RowAt.only {w w':World}{g:Nat}{t:TypeId}{l:List UInt8}{L:List Nat}(h:RowAt w g t l)(ho:Only L w w')(hn:g∉L):RowAt w' g t l:=(ho.block g (lt_of_heap h) hn).trans h
theorem part_tail (s:ByteArray)(d n:Nat):partS (s.extract d s.size) 0 n=partS s d n:=by
 unfold partS;rw [ByteArray.data_extract,Array.toList_extract,List.extract_eq_take_drop,List.drop_zero,List.take_take]
 by_cases h:n≤s.size - d
 · rw [Nat.min_eq_left h]
 · rw [Nat.min_eq_right (by omega),List.take_of_length_le (by rw [List.length_drop,size_list];omega),List.take_of_length_le (by rw [List.length_drop,size_list];omega)]
def Ty (w:World)(g:Nat)(ty:TypeId):Prop:=∃ cs fr,w.heap[g]?=some (.cells cs ty fr)
theorem Ty.lt {w:World}{g:Nat}{ty:TypeId}(h:Ty w g ty):g < w.heap.size:=by
 obtain ⟨cs,fr,h⟩:=h;exact (Array.getElem?_eq_some_iff.1 h).1
theorem Ty.only {w w':World}{g:Nat}{ty:TypeId}{L:List Nat}(h:Ty w g ty)(ho:Only L w w')(hn:g∉L):Ty w' g ty:=by
 have hl:=h.lt;obtain ⟨cs,fr,h⟩:=h;exact ⟨cs,fr,(ho.block g hl hn).trans h⟩
theorem Ty.set {w:World}{g:Nat}{ty:TypeId}(h:Ty w g ty)(p:Addr)(v:Value):Ty (w.setCell p v) g ty:=by
 by_cases e:g=p.block
 · obtain ⟨cs,fr,h⟩:=h
   subst e;unfold Ty World.setCell;simp only [Array.getElem?_modify,h];exact ⟨_,_,rfl⟩
 · obtain ⟨cs,fr,h⟩:=h
   exact ⟨cs,fr,(Below.heap_setCell w p v g e).trans h⟩
structure DataO (w:World)(g o:Nat)(S:ByteArray)(H:List Bool)(m:Option Nat):Prop where
 size:w.cell? ⟨g,o,none⟩=some (.int .i64 (S.size:Nat))
 map:w.cell? ⟨g,o+1,none⟩=some (.map m)
 fz:∀ k,w.frozen? ⟨g,k,none⟩=false
 ty:Ty w g 205
 holds:∃ f,Same f S H∧MapAt w m f
theorem DataO.kept {w w':World}{g o:Nat}{S:ByteArray}{H:List Bool}{m:Option Nat}{L:List Nat}(h:DataO w g o S H m)(ho:Only L w w')(hd:∀ k∈footD g m,k∉L):DataO w' g o S H m:=by
 have hg:g < w.heap.size:=lt_of_cell h.size;have hgl:g∉L:=hd g (List.mem_cons_self ..);obtain ⟨f,h1,h2⟩:=h.holds
 exact ⟨(ho.cell (p:=⟨g,o,none⟩) hg hgl).trans h.size,(ho.cell (p:=⟨g,o+1,none⟩) hg hgl).trans h.map,fun o=>(ho.frozen (p:=⟨g,o,none⟩) hg hgl).trans (h.fz o),h.ty.only ho hgl,
  f,h1,h2.only ho (fun b e=>hd b (List.mem_cons_of_mem _ (by rw [e];simp)))⟩
theorem DataO.foot_lt {w:World}{g o:Nat}{S:ByteArray}{H:List Bool}{m:Option Nat}(h:DataO w g o S H m):∀ k∈footD g m,k < w.heap.size:=by
 intro k hk;rcases List.mem_cons.1 hk with rfl | hk
 · exact lt_of_cell h.size
 · obtain ⟨f,_,h2⟩:=h.holds
   have e:m=some k:=by simpa using hk
   subst e;exact h2.lt
theorem writeInO (w:World)(g o b:Nat)(f:Nat→Option (List UInt8))(D:DataW Unit)(q:Nat)(s:ByteArray)(hc:w.cell? ⟨g,o+1,none⟩=some (.map (some b)))(hown:w.ownsMap Tryz.prog 3 blkElem b 64 D)(hf:Holds D f)(hq:q < 4096):
  Calls Tryz.prog 129 #[.pointer (some ⟨g,o,none⟩),.int .i64 q,.string s] w fun e w'=>e = .returned (.int .i64 (min s.size (64 - q % 64):Nat)) ∧
   ( ∃ D',w'.ownsMap Tryz.prog 3 blkElem b 64 D'∧Holds D' (upd f (q / 64) (over ((f (q / 64)).getD zero64) (q % 64) (partS s 0 (min s.size (64 - q % 64))))))∧Only [b] w w':=by
 have hM:Hid (MapAt w (some b) f):=⟨D,hown,hf⟩;have hlt:g < w.heap.size:=lt_of_cell hc;have hblt:=hown.lt;have hne:b≠g:=own_ne hown hc;have hL:Hid (((f (q / 64)).getD zero64).length=64):=hf.len (q / 64);generalize hBk:(f (q / 64)).getD zero64=Bk at hL ⊢;have hsl:=fun W=>slice_blk W w.heap.size (q % 64) (by omega) ((q:Int) % 64) (by omega)
 go_enter Tryz.func129,Tryz.ntmps129
 go_wp2_with (first
  | (at_lookup;refine wpList_look rfl _ _ rfl (some b) f hM.out (q / 64) (by omega) _ rfl rfl (by omega) ?_;rw [hBk])
  | (refine wpList_newBlk rfl rfl ?_;intro w1 r1 o1)
  | (refine wpList_storeBlk rfl _ _ rfl w.heap.size zero64 Bk r1 zero64_len hL.out rfl rfl ?_;intro w2 r2 o2
     have hcp:=fun ty=>run_copy_part (P:=Tryz.prog) w2 87 9 ty 5 w.heap.size (q % 64) (64 - q % 64) (64 - q % 64) s Bk 216 Tryz.underlying87 infoU8 r2 (by rw [hL.out];omega);generalize hw3:w2.setRow w.heap.size (Lib.byteCells (over Bk (q % 64) (partS s 0 (min s.size (64 - q % 64))))).toArray=w3 at hcp
     have r3:Hid (RowAt w3 w.heap.size 216 (over Bk (q % 64) (partS s 0 (min s.size (64 - q % 64))))):=by subst hw3;exact (r2.set _:RowAt _ _ _ _)
     have o3:Hid (Only [w.heap.size] w w3):=by
      have:Only [w.heap.size] w w3:=by subst hw3;exact ((o1.mono (L':=[w.heap.size]) (by simp)).trans o2 (by simp)).trans (only_row w2 _ _) (by simp)
      exact this
     have c3:w3.cell? ⟨g,o+1,none⟩=some (.map (some b)):=by rw [o3.out.cell hlt (by simp;omega)];exact hc
     clear hw3)
  | go_in)
 have hLn:(over Bk (q % 64) (partS s 0 (min s.size (64 - q % 64)))).length=64:=by
  rw [over_len (by rw [hL.out,partS_len (by omega)];omega),hL.out]
 have own3:w3.drew.ownsMap Tryz.prog 3 blkElem b 64 D:=by
  obtain ⟨es,clock,h1,r⟩:=hown;exact ⟨es,clock,(o3.out.block b hblt (by simp;omega)).trans h1,r⟩
 obtain ⟨w4,hmu,own4,turn4⟩:=own3.store lawInt undMap (by unfold maxLen;omega) (keyInt (q / 64) (by omega)) (blkElem_mk hLn)
 have e64:((q / 64:Nat):Int)=(q:Int) / 64:=by omega
 rw [e64] at hmu
 have HF:Hid (∃ D',w4.ownsMap Tryz.prog 3 blkElem b 64 D'∧Holds D' (upd f (q / 64) (over Bk (q % 64) (partS s 0 (min s.size (64 - q % 64)))))):=by
  have hp:=hf.put (hown.isMap) (k:=q / 64) (by omega) hLn;exact ⟨_,(own_tight own4 hp).1,hp⟩
 have HO:Hid (Only [b] w w4):=by
  have h1:Only [b] w w3.drew:=(o3.out.mono (by simp)).drew;have:Only [b] w w4:=h1.grown turn4.grown (by simp);exact this
 have hlt4:g < w3.heap.size:=Nat.lt_of_lt_of_le hlt o3.out.size
 have hS4:w4.cell? ⟨g,o+1,none⟩=some (.map (some b))∧w4.rangeAt w.heap.size 0 (Lib.byteCells (over Bk (q % 64) (partS s 0 (min s.size (64 - q % 64))))):=by
  have hg:=turn4.grown;refine ⟨(World.cell?_of_block (w:=w3.drew) (hg.block g hlt4 (by simp;omega))).trans c3,fun jj v hv=>?_⟩;have hlt5:w.heap.size < w3.heap.size:=lt_of_heap r3.out;exact (World.cell?_of_block (w:=w3.drew) (hg.block w.heap.size hlt5 (by simp;omega))).trans (r3.out.range jj v hv)
 have hS3:w3.drew.cell? ⟨g,o+1,none⟩=some (.map (some b))∧w3.drew.rangeAt w.heap.size 0 (Lib.byteCells (over Bk (q % 64) (partS s 0 (min s.size (64 - q % 64))))):=⟨c3,fun jj v hv=>r3.out.range jj v hv⟩
 have hi1:(Tryz.prog.info? 216).map (·.size)=some (Lib.byteCells (over Bk (q % 64) (partS s 0 (min s.size (64 - q % 64))))).length:=by rw [sizeBlk,cells_len,hLn]
 have hu1:=undBlk;unfold blkV at hmu;clear hcp hsl r1 o1 r2 o2 r3 o3 own3 own4 turn4 hown hf hM hc e64 hLn hBk hL hlt4 c3;generalize hLE:over Bk (q % 64) (partS s 0 (min s.size (64 - q % 64)))=Ln at hmu hS3 hS4 hi1 HF;have HE:Hid (over Bk (q % 64) (partS s 0 (min s.size (64 - q % 64)))=Ln):=hLE;clear hLE;have hwr:IntKind.i64.wrap ((q:Int) / 64)=(q:Int) / 64:=wrap_small (by omega) (by omega)
 go_region_held3 (fun W=>W.cell? ⟨g,o+1,none⟩=some (.map (some b))∧W.rangeAt w.heap.size 0 (Lib.byteCells Ln)) (first | exact hS3 | exact hS4) (fail)
 all_goals (go_wp2;go_ret;exact ⟨rfl,by rw [HE.out];exact HF.out,HO.out⟩)
end
section
open Go
def rowOf {α:Type}(c:α→List Value):List α→List Value
 | []=>[]
 | a::l=>c a++rowOf c l
section
variable {α:Type}{c:α→List Value}{n:Nat}
theorem rowOf_len (hc:∀ a,(c a).length=n)(l:List α):(rowOf c l).length=l.length*n:=by
 induction l with
 | nil=>simp [rowOf]
 | cons a l ih=>simp [rowOf,hc,ih,Nat.add_mul];omega
theorem rowOf_get (hc:∀ a,(c a).length=n)(l:List α)(i j:Nat)(a:α)(hj:j < n)(hi:l[i]?=some a):(rowOf c l)[i*n+j]?=(c a)[j]?:=by
 induction l generalizing i with
 | nil=>cases hi
 | cons b l ih =>
  cases i with
  | zero =>
   simp at hi;subst hi;simp only [rowOf,Nat.zero_mul,Nat.zero_add];rw [List.getElem?_append_left (by rw [hc];exact hj)]
  | succ i =>
   simp at hi;simp only [rowOf];rw [List.getElem?_append_right (by rw [hc,Nat.add_mul];omega),hc,show (i+1)*n+j - n=i*n+j by rw [Nat.add_mul];omega];exact ih i hi
theorem rowOf_append (l l':List α):rowOf c (l++l')=rowOf c l++rowOf c l':=by
 induction l with
 | nil=>rfl
 | cons a l ih=>simp [rowOf,ih]
theorem rowOf_set (hc:∀ a,(c a).length=n)(l:List α)(i j:Nat)(a a':α)(v:Value)(hj:j < n)(hi:l[i]?=some a)(ha:c a'=(c a).set j v):(rowOf c l).set (i*n+j) v=rowOf c (l.set i a'):=by
 induction l generalizing i with
 | nil=>cases hi
 | cons b l ih =>
  cases i with
  | zero =>
   simp at hi;subst hi;simp only [rowOf,List.set_cons_zero,Nat.zero_mul,Nat.zero_add,ha];rw [List.set_append_left _ _ (by rw [hc];exact hj)]
  | succ i =>
   simp at hi;simp only [rowOf,List.set_cons_succ];rw [List.set_append_right _ _ (by rw [hc,Nat.add_mul];omega),hc,show (i+1)*n+j - n=i*n+j by rw [Nat.add_mul];omega,ih i hi]
end
structure Nod where
 b:Nat
 K:Int
 Z:Int
 L:Int
 C:Int
 UN:Int
 UG:Int
 S:ByteArray
 H:List Bool
 m:Option Nat
def setN {α:Type}(f:Nat→α)(i:Nat)(v:α):Nat→α:=fun j=>if j=i then v else f j
theorem setN_same {α:Type}(f:Nat→α)(i:Nat)(v:α):setN f i v i=v:=if_pos rfl
theorem setN_other {α:Type}(f:Nat→α){i j:Nat}(v:α)(h:j≠i):setN f i v j=f j:=if_neg h
end
end Go.Proofs.YtbdfjbmocifhmaaGreatDoor
