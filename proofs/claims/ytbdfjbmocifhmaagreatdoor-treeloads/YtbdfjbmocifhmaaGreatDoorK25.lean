import Derived.Test.YtbdfjbmocifhmaaGreatDoorK24
import Derived.Laws.IdiomRangeMap
import Derived.Deep.LoopGhost
set_option maxRecDepth 100000
set_option maxHeartbeats 8000000
namespace Go.Proofs.YtbdfjbmocifhmaaGreatDoor
section
open Go Go.RowKit Go.Deep Go.Maps
theorem Only.toGrown {w w':World}(h:Only [] w w'):w.grownBy w' none:=⟨h.os,h.tape,h.output,h.size,fun i hi _=>h.block i hi (by simp)⟩
theorem Only.ofGrown {w w':World}{b:Nat}(h:w.grownBy w' (some b)):Only [b] w w':=⟨h.os,h.tape,h.output,h.size,fun i hi hn=>h.block i hi (fun e=>hn (by cases e;simp))⟩
theorem closure_cut (W:World)(k:Nat)(l:List UInt8)(bx n:Nat)(hx:W.cell? ⟨bx,0,none⟩=some (.int .i64 n))(hk:k < 64):
  Calls Tryz.prog 155 #[.int .i64 k,blkV l,.pointer (some ⟨bx,0,none⟩)] W fun e w'=>e = .returned (.bool (decide (n≤k*64)))∧Only [] W w':=by
 have hlt:bx < W.heap.size:=lt_of_cell hx;have hb:decide ((n:Int)≤(k:Int)*64)=decide (n≤k*64):=decide_eq_decide.2 (by omega);unfold blkV;generalize (Lib.byteCells l).toArray=cs
 go_enter Tryz.func155,Tryz.ntmps155
 go_wp2
 go_ret
 exact ⟨rfl,(Only.refl _ _).alloc _⟩
theorem delCut (w:World)(b bx n:Nat)(D:DataW Unit)(f:Nat→Option (List UInt8))(hown:w.ownsMap Tryz.prog 3 blkElem b 64 D)(hf:Holds D f)(hx:w.cell? ⟨bx,0,none⟩=some (.int .i64 n)):
  Calls Tryz.prog 154 #[.map (some b),.func (.func 155) #[] #[.pointer (some ⟨bx,0,none⟩)]] w fun e w' =>
   e = .returned (.tuple #[])∧w'.ownsMap Tryz.prog 3 blkElem b 64 (Lib.deleteFuncD (behind n) D)∧w.grownBy w' (some b):=by
 have hxb:b≠bx:=own_ne hown hx;have hxl:bx < w.heap.size:=lt_of_cell hx;obtain ⟨es0,rfl,hap,hkeys⟩:=hown.entries lawInt;have HF:Hid (Holds (.map es0) f):=hf;have HX:Hid (w.cell? ⟨bx,0,none⟩=some (.int .i64 n)):=hx;clear hf hx
 go_enter Tryz.func154,Tryz.ntmps154
 go_wp2_with (first
  | (at_range;refine wpList_range_own _ rfl _ 201 rfl 3 216 lawInt undMap blkElem b 64 _ rfl hown ?_;intro w0 hrg0 hg0 hs0)
  | go_in)
 go_frame
 go_loopw [8] (fun _ wr=>∃ (left:Lit→Bool) (cnt:Nat),wr.ranges Tryz.prog 3 blkElem b w.heap.size 64 (Fk (behind n) es0 left) left cnt∧w.grownBy wr (some b)∧∀ kl,left kl=true→has (.map es0) kl=true)
  (fun _ wr=>wr.rangeLeft b w.heap.size)
 case atStart=>exact ⟨_,_,by rw [Fk_start hkeys];exact hrg0,hg0.but _,fun _ h=>h⟩
 case round =>
  obtain ⟨left,cnt,hrg,hgw,hleft⟩:=hrel
  go_wp2_with (first
   |  (at_next;refine wpList_next_ranges _ rfl _ rfl 3 lawInt blkElem id id (fun key _ _=>⟨key,rfl⟩) (fun v _ _=>⟨v,rfl⟩) b w.heap.size 64 _ _ _ rfl hrg ?_ ?_)
   | go_in)
  ·
   intro _ hl0
   go_wp2
   go_end0
   exact ⟨rfl,by rw [← Fk_end hl0];exact hrg.owns,hgw⟩
  ·
   intro x c kl yd yp w1 cnt1 hkey hlx hv hat hrg1 hlt hg1 hs1 hen;obtain ⟨k,hk64,rfl⟩:=HF.out.keys kl (hleft kl hlx);obtain ⟨z,rfl,hz,_⟩:=keyOf_int_inv Tryz.underlying3 hkey;obtain rfl:z=(k:Int):=(Lit.int.inj hz).2.symm;obtain ⟨l,hl64,rfl,hy⟩:=blkElem_inv hv;have hgw1:=hgw.andThen hg1 (fun j hj=>by cases hj;exact Or.inl (Nat.le_refl _));have hp0:behind n (key k) yd=decide (n≤k*64):=behind_key n k;have hle1:w.heap.size≤w1.heap.size:=hgw1.size;have HG1:Hid (w.grownBy w1 (some b)):=hgw1;have HR1:Hid (w1.ranges Tryz.prog 3 blkElem b w.heap.size 64 (Fk (behind n) es0 left) (fun z=>left z&&!z.sameKey (key k)) cnt1):=hrg1;have HR:Hid (wr.ranges Tryz.prog 3 blkElem b w.heap.size 64 (Fk (behind n) es0 left) left cnt):=hrg;clear hgw1 hrg hg1 hrg0 hg0 hs0 hs1 hv hkey hgw hrg1
   cases hp:decide (n≤k*64)
   ·
      rw [hp] at hp0
      go_wp2_with (first
        | (refine wpList_newBlk rfl rfl ?_;intro w2 r2 o2)
        | (refine wpList_storeBlk rfl _ _ rfl w1.heap.size zero64 l r2 zero64_len hl64 rfl rfl ?_;intro w3 r3 o3
           have o13:Only [] w1 w3:=o2.trans o3 (fun i hi=>by rw [List.mem_singleton] at hi;subst hi;exact Or.inr (Nat.le_refl _))
           have hx3:w3.cell? ⟨bx,0,none⟩=some (.int .i64 n):=by
            rw [o13.cell (p:=⟨bx,0,none⟩) (Nat.lt_of_lt_of_le hxl hle1) (by simp)];exact HG1.out.cell HX.out (by simpa using Ne.symm hxb)
           have hc:=closure_cut w3 k l bx n hx3 hk64
           rw [hp] at hc)
        | (refine wpList_load_row rfl _ _ rfl w1.heap.size rfl _ _ _ _ r3 undBlk rfl (by rw [sizeBlk];simp [cells_len,hl64]) ?_)
        | (go_at_call 155;refine hc.mono ?_;rintro e w4 ⟨rfl,o4⟩)
        | go_in)
      have hg2:=(o13.trans o4 (fun i hi=>by cases hi)).toGrown;have hrg2:=HR1.out.kept hg2 (by simp) (by simp);exact ⟨⟨_,cnt1,by rw [← Fk_stays hap (key_key k) hlx hp0 hat];exact hrg2,HG1.out.andThen hg2 (fun j hj=>by cases hj),fun kl h=>hleft kl (by simp at h;exact h.1)⟩,by rw [hrg2.left_eq,HR.out.left_eq];exact hlt⟩
   ·
      rw [hp] at hp0
      go_wp2_with (first
        | (refine wpList_newBlk rfl rfl ?_;intro w2 r2 o2)
        | (refine wpList_storeBlk rfl _ _ rfl w1.heap.size zero64 l r2 zero64_len hl64 rfl rfl ?_;intro w3 r3 o3
           have o13:Only [] w1 w3:=o2.trans o3 (fun i hi=>by rw [List.mem_singleton] at hi;subst hi;exact Or.inr (Nat.le_refl _))
           have hx3:w3.cell? ⟨bx,0,none⟩=some (.int .i64 n):=by
            rw [o13.cell (p:=⟨bx,0,none⟩) (Nat.lt_of_lt_of_le hxl hle1) (by simp)];exact HG1.out.cell HX.out (by simpa using Ne.symm hxb)
           have hc:=closure_cut w3 k l bx n hx3 hk64
           rw [hp] at hc)
        | (refine wpList_load_row rfl _ _ rfl w1.heap.size rfl _ _ _ _ r3 undBlk rfl (by rw [sizeBlk];simp [cells_len,hl64]) ?_)
        | (go_at_call 155;refine hc.mono ?_;rintro e w4 ⟨rfl,o4⟩;have hrg2:=HR1.out.kept (o13.trans o4 (fun i hi=>by cases hi)).toGrown (by simp) (by simp))
        | (at_delete;refine wpList_delete_ranges _ rfl _ _ 201 3 rfl 216 lawInt undMap blkElem b w.heap.size 64 _ _ _ rfl hrg2 _ _ rfl (keyInt k (by omega)) ?_;intro w5 cnt5 hrg5 hle5 hturn5;go_frame)
        | go_in)
      have hg2:=(o13.trans o4 (fun i hi=>by cases hi)).toGrown;rw [strike_twice] at hrg5;exact ⟨⟨_,cnt5,by rw [← Fk_struck hap (key_key k) hlx hp0 hat];exact hrg5,(HG1.out.andThen hg2 (fun j hj=>by cases hj)).andThen hturn5.grown (fun j hj=>by cases hj;exact Or.inr rfl),fun kl h=>hleft kl (by simp at h;exact h.1)⟩,by rw [hrg5.left_eq,HR.out.left_eq];omega⟩
theorem delCut_nil (w:World)(fv:Value):Calls Tryz.prog 154 #[.map none,fv] w fun e w'=>e = .returned (.tuple #[])∧w'=w.alloc (.mapIter none 0 #[] 0):=by
 have hrg:=run_range_nilMap (P:=Tryz.prog) w 201 _ _ undMap;have hnx:∀ ty,(Instr.next (.pointer (some ⟨w.heap.size,0,none⟩)) false ty).run Tryz.prog (w.alloc (.mapIter none 0 #[] 0))=_:=fun ty=>run_next_nilMap _ ty 0 0 #[]
 go_enter Tryz.func154,Tryz.ntmps154
 go_wp2
 refine wp_loop_rounds 1 ?_;rw [rounds_succ]
 go_wp2
 go_end0
 exact ⟨rfl,rfl⟩
theorem look_ok_run (w:World)(m:Option Nat)(f:Nat→Option (List UInt8))(hm:MapAt w m f)(k:Nat)(hk:k < 9223372036854775808):(Instr.lookup 201 (.map m) (.int .i64 k) true).run Tryz.prog w = .ok (.tuple #[blkV ((f k).getD zero64),.bool (f k).isSome]) w:=by
 cases m with
 | none =>
  rw [show f=_ from hm]
  exact look_nil true lawInt undMap (zeroBlk w) (keyInt k hk)
 | some b =>
  obtain ⟨D,h1,h2⟩:=hm;obtain ⟨v,ps,hr,hv⟩:=h1.look_ok lawInt undMap (zeroBlk w) (blkElem_mk zero64_len) (keyInt k hk);obtain ⟨bs,_,rfl,e⟩:=blkElem_inv hv;rw [h2.look k] at e;have e1:=congrArg Prod.fst e;simp at e1;rw [hr,e1,h2.isSome k]
theorem wp_newBlk {w:World}{o:Oper}{a:Act}{K:Act→World→Prop}{Q:Exit→Act→World→Prop}(hop:o.op=Op.alloc 216)
  (hK:∀ w',RowAt w' w.heap.size 216 zero64→Only [] w w'→K (a.put o.dst (.pointer (some ⟨w.heap.size,0,none⟩))) w'):o.wp Tryz.prog a w K Q:=by
 have:=hK _ (heap_alloc_last w _) ((Only.refl [] w).alloc (.cells (Lib.byteCells zero64).toArray 216));unfold Oper.wp;simp only [execOp,hop]
 have hr:(Instr.alloc 216 true (.tuple #[])).run Tryz.prog w = .ok (.pointer (some ⟨w.heap.size,0,none⟩)) (w.alloc (.cells (Lib.byteCells zero64).toArray 216)):=by
  simp [Instr.alloc,newVar,newRow,Value.cells,Result.andThen,go_sem];rfl
 simp [hr,Result.andThen];exact this
end
end Go.Proofs.YtbdfjbmocifhmaaGreatDoor
