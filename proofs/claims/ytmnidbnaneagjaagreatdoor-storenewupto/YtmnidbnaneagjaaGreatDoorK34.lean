import Derived.Test.YtmnidbnaneagjaaGreatDoorK33
import Derived.RangeFuncNested
import Derived.RangeFuncBound
import Derived.RangeFuncCalls
import Derived.RangeFuncLeaves
import Derived.Shelf.Abstract
import Derived.Shelf.RegionOpen
import Derived.OwnWalkIn
import Derived.TacticsInMore
import Derived.LoopNIn
import Derived.LoopIn
import Derived.Test.YtmnidbnaneagjaaGreatDoorK17
set_option maxRecDepth 100000
set_option maxHeartbeats 8000000
namespace Go.Proofs.YtmnidbnaneagjaaGreatDoor
section
open Go Go.RowKit Go.Deep
theorem write_ok (A:Nat→Addr){w:World}{base t:Nat}{pw:Option Nat}{vs vw:Value}{sec:List Sec}{wt:List Wr}(hE:Err3 w A)(h:DkAt w base t pw vs vw sec wt)(n:Nat)(s:ByteArray)(x0:Sec)(hx0:sec[n]?=some x0)(hs:s.size≤64)(hp:pw≠some 0)(hq:∀ k,pw=some k→k < 9223372036854775808)(hw:wt.length≤100000)(hb0:base≤w.heap.size):
   Calls Tryz.prog 30 #[.pointer (some ⟨t,0,none⟩),.int .i64 (n:Nat),.string s] w fun e w'=>e = .returned .nilIface∧∃ vw',DkAt w' base t (pw.map (· - 1)) vs vw' (sec.set n (padB s)) (wt++[⟨n,x0,padB s⟩])∧Only (dkFoot t vs vw) w w'∧(∀ k,vw'.ownBlock=some k→vw.ownBlock=some k∨w.heap.size≤k):=by
 have hlt:n < sec.length:=(List.getElem?_eq_some_iff.1 hx0).1;have hm:=h.most;have hh:=has_anyD h (n:Int);rw [decide_eq_true (by omega)] at hh;have H:Hid (Calls Tryz.prog 58 #[.pointer (some ⟨t,0,none⟩),.int .i64 (n:Nat)] w fun e w'=>e = .returned (.bool true)∧w'=w):=hh;obtain ⟨g,cap,cur0,rfl,_,hg0,hcap,hcs,_⟩:=h.row
 have H1:Hid (Calls Tryz.prog 59 #[.pointer (some ⟨t,0,none⟩)] w fun e w'=>e = .returned .nilIface∧DkAt w' base t (pw.map (· - 1)) (.slice (some ⟨g,0,none⟩) sec.length cap) vw sec wt∧Only [t] w w'):=(spend_any A hE h hq).mono fun e w' q=>by
   rcases q with q | q
   · exact absurd q.1 hp
   · exact q.2
 have d0:decide ((64:Int) < (s.size:Int))=false:=decide_eq_false (by omega);have ht:=h.lt;have hsl:=fun W g o=>slice_all W g o;have HX:Hid (sec[n]?=some x0):=hx0;clear hE h hh hx0
 go_enter Tryz.func30,Tryz.ntmps30
 go_upto_region 8 with (first
   | (go_at_call 58;refine H.out.mono ?_;rintro e w0 ⟨rfl,h0⟩;have h1:=h0.symm;subst h1;clear h0)
   | (go_at_call 59;refine H1.out.mono ?_;rintro e w1 ⟨rfl,hd,ho⟩
      have HD:Hid (DkAt w1 base t (pw.map (· - 1)) (.slice (some ⟨g,0,none⟩) sec.length cap) vw sec wt):=hd;have HO:Hid (Only [t] w w1):=ho;have c2:=hd.cells.2.2.1;have ht1:=hd.lt;have hrg:Hid (w1.rangeAt g (n*64) (secC x0)):=hd.range rfl HX.out
      clear hd ho)
   | go_in)
 clear H H1
 go_upto_region 9 with (first
   | (refine wpList_load_mid rfl 106 _ rfl g (n*64) rfl (secC x0) _ hrg.out secUnd rfl (by rw [secC_len];exact secSize) ?_)
   | (refine wpList_wrb rfl _ _ rfl n x0 rfl rfl ?_)
   | (refine wpList_newWr rfl rfl ?_;intro w2 r2 o2)
   | (refine wpList_store_row rfl 108 _ _ rfl w1.heap.size (wrC ⟨n,x0,zeroS⟩).toArray rfl rfl 108 _ r2 (by rw [wrSize];simp [wrC_len]) (by simp [wrC_len]) (all_oneCell_toArray (wrC_one _)) ?_
      have r3:=setRow_heap w2 w1.heap.size _ (wrC ⟨n,x0,zeroS⟩).toArray 108 _ r2;have o3:=(o2.mono (L':=[w1.heap.size]) (by simp)).trans (only_rowS w2 w1.heap.size (wrC ⟨n,x0,zeroS⟩).toArray) (fun _ h=>Or.inl h);generalize w2.setRow w1.heap.size (wrC ⟨n,x0,zeroS⟩).toArray=w3 at r3 o3 ⊢;have hcp:=fun ty=>run_copy_str (P:=Tryz.prog) w3 159 9 ty 5 w1.heap.size 65 64 64 s (wrC ⟨n,x0,zeroS⟩).toArray 108 Tryz.underlying159 (by kernel_rfl) r3 hs (by simp [wrC_len];omega);have r4:=setRow_heap w3 w1.heap.size _ (overV (wrC ⟨n,x0,zeroS⟩).toArray.toList 65 (Lib.byteCells s.data.toList)).toArray 108 _ r3;have o4:=o3.trans (only_rowS w3 w1.heap.size (overV (wrC ⟨n,x0,zeroS⟩).toArray.toList 65 (Lib.byteCells s.data.toList)).toArray) (fun _ h=>Or.inl h);generalize w3.setRow w1.heap.size (overV (wrC ⟨n,x0,zeroS⟩).toArray.toList 65 (Lib.byteCells s.data.toList)).toArray=w4 at r4 o4 hcp
      rw [show (wrC ⟨n,x0,zeroS⟩).toArray.toList=wrC ⟨n,x0,zeroS⟩ from rfl,wr_copied n x0 hs] at r4
      clear r2 o2 r3 o3)
   | go_in)
 go_upto_region 10 with (first
   | (refine wpList_copied2 rfl _ _ 159 9 rfl _ _ rfl rfl hcp ?_)
   | go_in)
 have o4':Only [] w1 w4.drew:=(o4.mono (fun i hi=>Or.inr (by simp at hi;omega))).drew;have D4:Hid (DkAt w4.drew base t (pw.map (· - 1)) (.slice (some ⟨g,0,none⟩) sec.length cap) vw sec wt):=HD.out.keep o4';have R4:Hid (w4.drew.heap[w1.heap.size]?=some (.cells (wrC ⟨n,x0,padB s⟩).toArray 108 (0,0))):=r4;have r4d:w4.drew.heap[w1.heap.size]?=some (.cells (wrC ⟨n,x0,padB s⟩).toArray 108 (0,0)):=r4
 have hrg4:w4.drew.rangeAt w1.heap.size 65 (secC (padB s)):=fun j v hv=>by
   rw [cell_of_row _ _ _ _ _ _ r4d];have hj:=(List.getElem?_eq_some_iff.1 hv).1;have e:wrC ⟨n,x0,padB s⟩=(.int .i64 (n:Nat)::secC x0)++secC (padB s):=rfl;rw [e,List.getElem?_toArray,List.getElem?_append_right (by simp [secC_len]),← hv];congr 1;simp [secC_len]
 obtain ⟨g',cap',cur4,e4,_,hg4,hcap4,hcs4,_⟩:=D4.out.row
 cases e4
 have hfit:n*64+(secC (padB s)).length≤cur4.size:=by rw [secC_len,hcs4];omega
 have hth:w4.drew.there g (n*64) 64:=fun j hj=>⟨by rw [cell_of_row _ _ _ _ _ _ hg4];simp;omega,frozen_of_row _ _ _ _ _ hg4⟩;have hsc:=setCells_over (w:=w4.drew) (off:=n*64) hg4 hfit (secC_one _)
 have D5:Hid (DkAt (w4.drew.setCells g (n*64) (secC (padB s))) base t (pw.map (· - 1)) (.slice (some ⟨g,0,none⟩) sec.length cap) vw (sec.set n (padB s)) wt∧Only [g] w4.drew (w4.drew.setCells g (n*64) (secC (padB s)))):=by
   have ho:=only_rowS w4.drew g (overV cur4.toList (n*64) (secC (padB s))).toArray;rw [← hsc] at ho;have hd:=D4.out;refine ⟨⟨(ho.block t hd.lt (by simpa using fun e=>hd.ne1 (k:=g) rfl e.symm)).trans hd.blk,hd.tb,?_,ho.owns hd.wts (fun k hk=>by simpa using fun e=>hd.ne3 (k:=g) rfl hk e.symm),by simpa using hd.ins,by simpa using hd.pos,by simpa using hd.most⟩,ho⟩;rw [hsc];exact own_set secC_len hd.secs hg4 rfl hlt (padB s)
 have c4:=D4.out.cells.2.2.1;have c5:=D5.out.1.cells.2.2.1;have ht4:=D4.out.lt;have hS4:w4.drew.cell? ⟨t,2,none⟩=some (.slice (some ⟨g,0,none⟩) sec.length cap)∧w4.drew.rangeAt w1.heap.size 65 (secC (padB s))∧w4.drew.there g (n*64) 64:=⟨c4,hrg4,hth⟩
 have hS5:(w4.drew.setCells g (n*64) (secC (padB s))).cell? ⟨t,2,none⟩=some (.slice (some ⟨g,0,none⟩) sec.length cap)∧(w4.drew.setCells g (n*64) (secC (padB s))).rangeAt w1.heap.size 65 (secC (padB s))∧(w4.drew.setCells g (n*64) (secC (padB s))).there g (n*64) 64:=by
   have hgb:w1.heap.size≠g:=fun e=>by
     have:=own_blkD HD.out.secs (b:=g) rfl;omega
   exact ⟨c5,World.rangeAt_setCells_apart hrg4 g (n*64) _ (Or.inl hgb),World.there_setCells hth g (n*64) _⟩
 have hu1:=secUnd;have hl1:(secC (padB s)).length=64:=secC_len _
 have hi1:(Tryz.prog.info? 106).map (·.size)=some (secC (padB s)).length:=by rw [hl1];exact secSize
 have hone:=secC_one (padB s)
 have b0:(0:Int)≤(n:Int):=by omega
 have b1:(n:Int) < (sec.length:Int):=by omega
 clear hcp hsl hrg r4 r4d o4 c2 hfit hsc hg4 hcs4 hcap4 hg0 hcs hcap HX
 go_region_held3 (fun W=>W.cell? ⟨t,2,none⟩=some (.slice (some ⟨g,0,none⟩) sec.length cap)∧W.rangeAt w1.heap.size 65 (secC (padB s))∧W.there g (n*64) 64) (first | exact hS4 | exact hS5) (fail)
 have R5:Hid ((w4.drew.setCells g (n*64) (secC (padB s))).heap[w1.heap.size]?=some (.cells (wrC ⟨n,x0,padB s⟩).toArray 108 (0,0))):=by
   have hgb:w1.heap.size≠g:=fun e=>by
     have:=own_blkD HD.out.secs (b:=g) rfl;omega
   exact (D5.out.2.block w1.heap.size (Array.getElem?_eq_some_iff.1 R4.out).1 (by simpa using hgb)).trans R4.out
 have O5:Hid (Only (dkFoot t (.slice (some ⟨g,0,none⟩) sec.length cap) vw) w (w4.drew.setCells g (n*64) (secC (padB s)))) :=
   (((HO.out.mono (fun k hk=>Or.inl (mem_foot.2 (Or.inl (by simpa using hk))))).trans o4' (fun _ hk=>by cases hk)).trans D5.out.2 (fun k hk=>Or.inl (mem_foot.2 (Or.inr (Or.inl (by simp at hk;simp [Value.ownBlock,hk]))))))
 have HZ:Hid (w.heap.size≤w1.heap.size):=HO.out.size;obtain ⟨D5,_⟩:=D5.out;have D5:Hid (DkAt (w4.drew.setCells g (n*64) (secC (padB s))) base t (pw.map (· - 1)) (.slice (some ⟨g,0,none⟩) sec.length cap) vw (sec.set n (padB s)) wt):=D5;generalize w4.drew.setCells g (n*64) (secC (padB s))=w5 at *
 have hr5:w5.drew.rangeAt w1.heap.size 0 (wrC ⟨n,x0,padB s⟩):=fun j v hv=>by rw [Nat.zero_add];exact (cell_of_row _ _ _ _ _ _ R5.out).trans (by simpa using hv)
 have hra:∀ x:Wr,(w5.drew.alloc (.cells (wrC x).toArray 108)).cell? ⟨t,3,none⟩=w5.drew.cell? ⟨t,3,none⟩:=fun x=>World.cell?_alloc_lt _ _ _ D5.out.lt;obtain ⟨x,hx⟩:∃ x:Wr,(⟨n,x0,padB s⟩:Wr)=x:=⟨_,rfl⟩
 have HX1:Hid (x.n=n):=by rw [← hx];exact (rfl:n=n)
 have HXE:Hid ((⟨n,x0,padB s⟩:Wr)=x):=hx;rw [hx] at R5 hr5;clear hx;obtain ⟨ad,capw,hvw⟩:=own_slice D5.out.wts;subst hvw;obtain ⟨m,hmw⟩:∃ m,wt.length=m:=⟨_,rfl⟩;rw [hmw] at D5 O5 hw;have c3:=D5.out.cells.2.2.2.1;have f3:=D5.out.cells.2.2.2.2 3;have ht5:=D5.out.lt;have HM:Hid (wt.length=m):=hmw;have oa:Only [] w5 (w5.drew.alloc (.cells (wrC x).toArray 108)):=((Only.refl [] w5).drew).alloc _;have HNW:Hid (∀ (r1:Nat) (q1:Value),(wrC x)[r1]?=some q1→(w5.drew.alloc (.cells (wrC x).toArray 108)).cell? ((⟨w5.heap.size,0,none⟩:Addr).add r1)=some q1):=World.news_of_block (w:=(w5.drew.alloc (.cells (wrC x).toArray 108))) (heap_alloc_last w5.drew (.cells (wrC x).toArray 108))
 have HRA:Hid ((w5.drew.alloc (.cells (wrC x).toArray 108)).ownsRow base 108 129 (.slice ad m capw) m (rowOf wrC wt)):=by
   have:=(D5.out.keep oa).wts;rw [hmw] at this;exact this
 have HB2:Hid (base≤(w5.drew.alloc (.cells (wrC x).toArray 108)).heap.size):=Nat.le_trans hb0 (Nat.le_trans O5.out.size oa.size);have HSA:Hid ((w5.drew.alloc (.cells (wrC x).toArray 108)).heap.size=w5.heap.size+1):=(by simp:(w5.drew.alloc (.cells (wrC x).toArray 108)).heap.size=w5.heap.size+1)
 have HEND:Hid (∀ w6 g6 c6,(w5.drew.alloc (.cells (wrC x).toArray 108)).grownBy w6 (Value.slice ad m capw).ownBlock→w6.ownsRow base 108 129 (.slice (some ⟨g6,0,none⟩) (m+1) c6) (m+1) (rowOf wrC wt++wrC x)→((Value.slice ad m capw).ownBlock=some g6∨g6=w5.heap.size+1)→w6.cell? ⟨t,3,none⟩=some (.slice ad m capw)∧w6.frozen? ⟨t,3,none⟩=false∧t < w6.heap.size ∧
     ∃ vw',DkAt (w6.setCell ⟨t,3,none⟩ (.slice (some ⟨g6,0,none⟩) (m+1) c6)) base t (pw.map (· - 1)) (.slice (some ⟨g,0,none⟩) sec.length cap) vw' (sec.set n (padB s)) (wt++[x])∧Only (dkFoot t (.slice (some ⟨g,0,none⟩) sec.length cap) (.slice ad m capw)) w (w6.setCell ⟨t,3,none⟩ (.slice (some ⟨g6,0,none⟩) (m+1) c6))∧(∀ k,vw'.ownBlock=some k→(Value.slice ad m capw).ownBlock=some k∨w.heap.size≤k)):=fun w6 g6 c6 hgr hrow hat=>by
   have hd:=D5.out;have hq1:Only (Value.slice ad m capw).ownBlock.toList w5 w6:=(oa.mono (fun _ hk=>by cases hk)).grown hgr (fun k hk=>Or.inl (by rw [hk];simp));have hvt:∀ k∈(Value.slice ad m capw).ownBlock.toList,k≠t:=fun k hk=>hd.ne2 (by simpa using hk);have hvg:∀ k∈(Value.slice ad m capw).ownBlock.toList,k≠g:=fun k hk e=>hd.ne3 (k:=g) rfl (by simpa using hk) e.symm;have hb6:=(hq1.block t hd.lt (fun hm=>hvt t hm rfl)).trans hd.blk;have hos:Only [t] w6 (w6.setCell ⟨t,3,none⟩ (.slice (some ⟨g6,0,none⟩) (m+1) c6)):=(Only.refl [t] w6).setCell (Or.inl (by simp)) _
   have hgt:g6≠t:=by
     rcases hat with e | e
     · exact hvt g6 (by rw [e];simp)
     · have:=hd.lt
       omega
   have hs6:=hq1.owns hd.secs (fun k hk=>by
     cases hk
     intro hm
     exact hvg g hm rfl)
   refine ⟨cell_of_row _ _ 3 _ _ _ hb6,frozen_of_row _ _ _ _ _ hb6,(Array.getElem?_eq_some_iff.1 hb6).1,_,⟨heap_setCell_same w6 t 3 _ _ _ hb6,hd.tb,hos.owns hs6 (fun k hk=>by simpa using hd.ne1 hk),?_,?_,hd.pos,hd.most⟩,?_,?_⟩
   · have hr2:=hos.owns hrow (fun k hk=>by cases hk;simpa using hgt)
     rw [List.length_append,List.length_singleton,HM.out,rowOf_append]
     simpa [rowOf] using hr2
   · intro y hy
     rcases List.mem_append.1 hy with hy | hy
     · exact hd.ins y hy
     · rw [List.mem_singleton.1 hy,HX1.out]
       simpa using hlt
   · exact (O5.out.trans hq1 (fun k hk=>Or.inl (mem_foot.2 (Or.inr (Or.inr (by simpa using hk)))))).trans hos (fun k hk=>Or.inl (mem_foot.2 (Or.inl (by simpa using hk))))
   · intro k hk
     have h9:some g6=some k:=hk;injection h9 with h9;subst h9;rcases hat with e | e
     · exact Or.inl e
     · exact Or.inr (by have:=O5.out.size;rw [e];omega)
 obtain ⟨i0,hi0,hz⟩:=Option.map_eq_some_iff.1 wrInfo;simp only [Prod.mk.injEq] at hz;obtain ⟨hz0,hz1,hz2⟩:=hz;clear hmw oa hS4 hS5 c4 c5 hu1 hl1 hi1 hone hrg4 hth HD HO o4' D4 R4 R5 O5 D5 HX1;have HC3:=hra x;have c3d:w5.drew.cell? ⟨t,3,none⟩=some (.slice ad m capw):=c3;rw [c3d] at HC3;have HC4:(w5.alloc (.cells (wrC x).toArray 108)).cell? ⟨t,3,none⟩=some (.slice ad m capw):=HC3;have hrd:Hid (w5.drew.rangeAt w1.heap.size 0 (wrC x)):=hr5;have hwu:=Tryz.underlying108;clear hra hr5 c3 f3
 go_upto_region 11 with (fail)
 refine wp_region_any (by kernel_rfl) ?_
 change wpAny _ _ _ _ _ _ _ (World.drew _)
 refine wpAny_take (i:=0) (v:=?_) rfl (by kernel_rfl) (by kernel_rfl) (by kernel_rfl) (fun _ _ _ h=>h) (Or.inl ⟨by rfl,?_⟩) ?_
 rotate_left
 · intro w;go_simp;try with_reducible rfl
 refine wpAny_take (i:=1) (v:=?_) rfl (by kernel_rfl) (by kernel_rfl) (by kernel_rfl) (fun _ _ _ h=>h) (Or.inl ⟨by rfl,?_⟩) ?_
 rotate_left
 · intro w;go_simp;try with_reducible rfl
 refine wpAny_take (i:=2) (v:=?_) rfl (by kernel_rfl) (by kernel_rfl) (by kernel_rfl) (fun _ _ _ h=>h) (Or.inl ⟨by rfl,?_⟩) ?_
 rotate_left
 · intro w;go_simp;try with_reducible rfl
 refine wpAny_take (i:=3) (v:=?_) rfl (by kernel_rfl) (by kernel_rfl) (by kernel_rfl) (fun _ _ _ h=>h) (Or.inl ⟨by rfl,?_⟩) ?_
 rotate_left
 · intro w;go_simp;try with_reducible rfl
 refine wpAny_ready (rs:=[4,5]) (by kernel_rfl) (by simp) ?_;refine AllReady.cons rfl (fun K hK=>?_) (AllReady.cons rfl (fun K hK=>?_) AllReady.nil)
 rotate_left
 refine step_load_mid (by rfl) 108 _ (by rfl) w1.heap.size 0 (by rfl) (wrC x) _ hrd.out hwu rfl (by rw [wrC_len];exact wrSize) ?_;refine hK _ _ ?_;clear hK K;refine wpAny_ready (rs:=[4,6]) (by kernel_rfl) (by simp) ?_;refine AllReady.cons rfl (fun K hK=>?_) (AllReady.cons rfl (fun K hK=>?_) AllReady.nil)
 rotate_left
 refine step_one (by rfl) _ (by rfl) x (by rfl) ?_;refine hK _ _ ?_;clear hK K;refine wpAny_ready (rs:=[4]) (by kernel_rfl) (by simp) ?_;refine AllReady.cons rfl (fun K hK=>?_) AllReady.nil
 go_simp
 refine hK _ _ ?_;clear hK K
 rotate_left
 go_simp
 refine hK _ _ ?_;clear hK K;refine wpAny_ready (rs:=[5]) (by kernel_rfl) (by simp) ?_;refine AllReady.cons rfl (fun K hK=>?_) AllReady.nil;refine step_load_mid (by rfl) 108 _ (by rfl) w1.heap.size 0 (by rfl) (wrC x) _ hrd.out hwu rfl (by rw [wrC_len];exact wrSize) ?_;refine hK _ _ ?_;clear hK K;refine wpAny_ready (rs:=[6]) (by kernel_rfl) (by simp) ?_;refine AllReady.cons rfl (fun K hK=>?_) AllReady.nil;refine step_one (by rfl) _ (by rfl) x (by rfl) ?_;refine hK _ _ ?_;clear hK K
 rotate_left
 go_simp
 refine hK _ _ ?_;clear hK K;refine wpAny_ready (rs:=[6]) (by kernel_rfl) (by simp) ?_;refine AllReady.cons rfl (fun K hK=>?_) AllReady.nil;refine step_one (by rfl) _ (by rfl) x (by rfl) ?_;refine hK _ _ ?_;clear hK K
 all_goals
   refine wpAny_ready (rs:=[7]) (by kernel_rfl) (by simp) ?_;refine AllReady.cons rfl (fun K hK=>?_) AllReady.nil;refine step_append_lies _ (by rfl) (.tmp 52) (.tmp 54) 59 (by rfl) base 108 i0 _ 129 136 wrsUnd hi0 hz0 hz1 hz2 (by rfl) (by decide) (.slice ad m capw) m (rowOf wrC wt) (by rfl) HRA.out ⟨w5.heap.size,0,none⟩ 1 1 (wrC x) (by rfl) (by rw [wrC_len]) HNW.out (wrC_one _) (by decide) (by unfold maxLen;omega) (by omega) HB2.out (w5.heap.size+1) HSA.out ?_;intro g6 c6 w6 hown6 hgr6 hat6 hlt6;obtain ⟨e0,e1,e2,hR⟩:=HEND.out w6 g6 c6 hgr6 hown6 hat6;have HR:Hid (∃ vw',DkAt (w6.setCell ⟨t,3,none⟩ (.slice (some ⟨g6,0,none⟩) (m+1) c6)) base t (pw.map (· - 1)) (.slice (some ⟨g,0,none⟩) sec.length cap) vw' (sec.set n (padB s)) (wt++[x])∧Only (dkFoot t (.slice (some ⟨g,0,none⟩) sec.length cap) (.slice ad m capw)) w (w6.setCell ⟨t,3,none⟩ (.slice (some ⟨g6,0,none⟩) (m+1) c6))∧(∀ k,vw'.ownBlock=some k→(Value.slice ad m capw).ownBlock=some k∨w.heap.size≤k)):=hR;clear hown6 hgr6 hat6 hlt6 hR;refine hK _ _ ?_;clear hK K;refine wpAny_ready (rs:=[8]) (by kernel_rfl) (by simp) ?_;refine AllReady.cons rfl (fun K hK=>?_) AllReady.nil
   go_simp
   refine hK _ _ ?_;clear hK K;refine wpAny_ready (rs:=[9]) (by kernel_rfl) (by simp) ?_;refine AllReady.cons rfl (fun K hK=>?_) AllReady.nil
   go_simp
   refine hK _ _ ?_;clear hK K;refine wpAny_ready (rs:=[10]) (by kernel_rfl) (by simp) ?_;refine AllReady.cons rfl (fun K hK=>?_) AllReady.nil
   go_simp
   refine hK _ _ ?_;clear hK K;refine wpAny_done (by kernel_rfl) ?_ _
   go_wp2
   go_ret
   exact ⟨rfl,by rw [HXE.out,HM.out];exact HR.out⟩
end
section
open Go Go.RowKit Go.Deep Go.Shelf
attribute [local go_sem] Oper.semAt_some
theorem wpListIn_run {F:Fence}{n:Nat}{P:Program}{w w':World}{ops:Array Oper}{rest:List Oper}{o:Oper}{a:Act}{Q:Exit→Act→World→Prop}{v:Value}(hg:o.guard=none)(hd:∀ c,o.op ≠ .defer c)(ha:o.about P w a.eval=none)
  (hr:(execOp a.eval o).run P w = .ok (.value v) w') (h:wpListIn F n P ops Q rest (a.put o.dst v) w'):wpListIn F n P ops Q (o::rest) a w:=by
 refine wpListIn_plain hg fun K hK=>?_;unfold Oper.wpIn;refine ⟨fun f hf=>(by rw [ha] at hf;cases hf),?_⟩;rw [Oper.semAt_plain F _ _ hd,hr];exact hK _ _ h
theorem wpListIn_load_mid {F:Fence}{n:Nat}{P:Program}{w:World}{ops:Array Oper}{rest:List Oper}{o:Oper}{a:Act}{Q:Exit→Act→World→Prop}(hg:o.guard=none)(ty:TypeId)(x:Operand)(ho:o.op = .load ty x)(b off:Nat)(hx:a.eval x = .pointer (some ⟨b,off,none⟩))(cs:List Value)(d:TypeDesc)(hc:w.rangeAt b off cs)(hu:P.underlying ty=some d)(hd:d.isRow=true)(hi:(P.info? ty).map (·.size)=some cs.length)
  (h:wpListIn F n P ops Q rest (a.put o.dst (.agg cs.toArray)) w):wpListIn F n P ops Q (o::rest) a w :=
 wpListIn_run hg (fun c e=>by rw [ho] at e;cases e) (by simp [Oper.about,ho]) (by simp only [execOp,ho,hx,Sem.run_bind,run_loadAt_mid w b off ty cs d hc hu hd hi,Result.andThen_ok,Sem.run_pure]) h
abbrev WrIn (N0:Nat):=Nat×{ x:Wr // x.n < N0 }
def encW {N0:Nat}(p:WrIn N0):Array Value:=#[.int .i64 (p.1:Nat),.agg (wrC p.2.1).toArray]
def KpW (bx g:Nat)(W W':World):Prop:=W'.heap[bx]?=W.heap[bx]?∧W'.heap[g]?=W.heap[g]?
theorem back1_in {N0:Nat}(F:Fence)(n:Nat)(h33:F.fn 61)(hro:F.round=none)(hn:1≤n)(l bx g cap:Nat)(xs:List { x:Wr // x.n < N0 })(hm:xs.length≤100001)(J Jx:List (WrIn N0)→World→Prop)
  (hY:∀ pre x W,J pre W→pre.length < xs.length→YieldAt F (n - 1) Tryz.prog l (encW x) W fun e W' =>
   (e = .returned (.bool true)∧J (pre++[x]) W'∧KpW bx g W W')∨(e = .returned (.bool false)∧Jx (pre++[x]) W'))
  (W:World) (hB:W.cell? ⟨bx,0,none⟩=some (.slice (some ⟨g,0,none⟩) xs.length cap)) (hc:∀ j x,xs[j]?=some x→W.rangeAt g (j*129) (wrC x.1)) (h0:J [] W) :
  CallsIn F n Tryz.prog 61 #[.func (.yield l) #[] #[],.pointer (some ⟨bx,0,none⟩)] W fun e W'=>(∃ v,e = .returned v) ∧
   ((∃ ys,ys.map (·.2)=xs.reverse∧J ys W')∨(∃ pre,pre.length≤xs.length∧Jx pre W')):=by
 refine callsIn_of_wp Tryz.func61 rfl h33 ?_ hro;simp only [Tryz.ntmps61,List.size_toArray,List.length_cons,List.length_nil,Nat.reduceAdd,Nat.reduceSub,Array.replicate_succ,Array.replicate_zero,List.push_toArray,List.append_toArray,List.nil_append,List.cons_append]
 gi_wp2
 gi_loopw [3] (fun i wr=>∃ (k:Nat) (ys:List (WrIn N0)),k≤xs.length∧i = .int .i64 ((k:Int) - 1)∧ys.map (·.2)=(xs.drop k).reverse∧J ys wr∧KpW bx g W wr) (fun i _=>(intOf i+1).toNat)
 case atStart =>
  refine ⟨xs.length,[],Nat.le_refl _,?_,by simp,h0,rfl,rfl⟩
  go_num
 case round =>
  obtain ⟨k,ys,hk,rfl,hys,hJ,hkp⟩:=hrel;have hB':wr.cell? ⟨bx,0,none⟩=some (.slice (some ⟨g,0,none⟩) xs.length cap):=(World.cell?_of_block (w:=W) hkp.1).trans hB
  have hyl:ys.length=xs.length - k:=by
   have:=congrArg List.length hys
   simpa using this
  match k,hk,hys,hyl with
  | 0,hk,hys,hyl =>
   have d0:decide ((0:Int)≤((0:Nat):Int) - 1)=false:=by decide
   gi_wp2
   go_end0
   exact ⟨⟨_,rfl⟩,.inl ⟨ys,by simpa using hys,hJ⟩⟩
  | k+1,hk,hys,hyl =>
   obtain ⟨x,hx⟩:∃ x,xs[k]?=some x:=⟨xs[k]'(by omega),List.getElem?_eq_getElem (by omega)⟩;have hrg:wr.rangeAt g (k*129) (wrC x.1):=fun j v hv=>(World.cell?_of_block (w:=W) hkp.2).trans (hc k x hx j v hv)
   have ei:(((k+1:Nat):Int) - 1)=(k:Int):=by omega
   obtain ⟨fn,tmps,assign,body,hy,hR⟩:=hY ys (k,x) wr hJ (by omega);dsimp only [encW] at hy;rw [ei];have d0:decide ((0:Int)≤(k:Int))=true:=decide_eq_true (by omega);have hwu:=Tryz.underlying108
   have b1:(k:Int) < (xs.length:Int):=by omega
   have HS:Hid (ys.map (·.2)=(xs.drop (k+1)).reverse):=hys;have HX:Hid (xs[k]?=some x):=hx;have HRG:Hid (wr.rangeAt g (k*129) (wrC x.1)):=hrg;clear hys hx hrg
   gi_wp2_with (refine wpListIn_load_mid rfl 108 _ rfl g (k*129) rfl (wrC x.1) _ HRG.out hwu rfl (by rw [wrC_len];exact wrSize) ?_)
   refine hR.mono ?_;rintro e W3 (⟨rfl,hJ3,hk3⟩ | ⟨rfl,hJx3⟩)
   · gi_wp2
     go_roundw
     case rel =>
      refine ⟨k,ys++[(k,x)],by omega,by go_num,?_,hJ3,hk3.1.trans hkp.1,hk3.2.trans hkp.2⟩;obtain ⟨hkl,e1⟩:=List.getElem?_eq_some_iff.1 HX.out;rw [List.map_append,HS.out,List.drop_eq_getElem_cons hkl,List.reverse_cons,e1];rfl
     case measure=>simp [intOf]
   · gi_wp2
     refine bodyPost_ret (results_none rfl _ _ _) rfl ?_;exact ⟨⟨_,rfl⟩,.inr ⟨_,by simp;omega,hJx3⟩⟩
theorem back1_nil {N0:Nat}(F:Fence)(n:Nat)(h33:F.fn 61)(hro:F.round=none)(l bx:Nat)(J:List (WrIn N0)→World→Prop)(W:World)(hB:W.cell? ⟨bx,0,none⟩=some (.slice none 0 0))(h0:J [] W):
  CallsIn F n Tryz.prog 61 #[.func (.yield l) #[] #[],.pointer (some ⟨bx,0,none⟩)] W fun e W'=>(∃ v,e = .returned v)∧J [] W':=by
 refine callsIn_of_wp Tryz.func61 rfl h33 ?_ hro;simp only [Tryz.ntmps61,List.size_toArray,List.length_cons,List.length_nil,Nat.reduceAdd,Nat.reduceSub,Array.replicate_succ,Array.replicate_zero,List.push_toArray,List.append_toArray,List.nil_append,List.cons_append]
 gi_wp2
 gi_loopw [3] (fun i wr=>i = .int .i64 (-1)∧J [] wr) (fun _ _=>0)
 case atStart=>exact ⟨rfl,h0⟩
 case round =>
  obtain ⟨rfl,hJs⟩:=hrel
  gi_wp2
  go_end0
  exact ⟨⟨_,rfl⟩,hJs⟩
theorem back_in (F:Fence)(n:Nat)(h:F.fn 33)(hro:F.round=none)(a:Option Addr)(len cap:Nat)(w:World):
  CallsIn F n Tryz.prog 33 #[.slice a len cap] w fun e w'=>e = .returned (.func (.func 61) #[] #[.pointer (some ⟨w.heap.size,0,none⟩)])∧w'=w.alloc (.cells #[.slice a len cap] 59):=by
 refine callsIn_of_wp Tryz.func33 rfl h ?_ hro;simp only [Tryz.ntmps33,List.size_toArray,List.length_cons,List.length_nil,Nat.reduceAdd,Nat.reduceSub,Array.replicate_succ,Array.replicate_zero,List.push_toArray,List.append_toArray,List.nil_append,List.cons_append]
 gi_wp2
 go_ret
 exact ⟨rfl,rfl⟩
def WtIn (W:World)(v:Value)(wt:List Wr):Prop:=(v = .slice none 0 0∧wt=[])∨∃ g cap,v = .slice (some ⟨g,0,none⟩) wt.length cap∧g < W.heap.size∧∀ j x,wt[j]?=some x→W.rangeAt g (j*129) (wrC x)
def blkOf (v:Value):Nat:=(v.ownBlock).getD 0
theorem back_stops {N0:Nat}(F:Fence)(n:Nat)(h33:F.fn 61)(hro:F.round=none)(hn:1≤n)(bx:Nat)(v:Value)(xs:List { x:Wr // x.n < N0 })(hm:xs.length≤100001)(w:World)(hbx:bx < w.heap.size)
   (hB:w.cell? ⟨bx,0,none⟩=some v) (hI:WtIn w v (xs.map (·.1))) :
   SeqStopsK F n Tryz.prog 61 #[.pointer (some ⟨bx,0,none⟩)] (encW (N0:=N0)) (KpW bx (blkOf v)) (fun ys=>ys.map (·.2)=xs.reverse) (fun pre=>pre.length≤xs.length) xs.length w:=fun l J Jx W hW _ _ hY h0=>by
 have hB':=(hW.cell (p:=⟨bx,0,none⟩) hbx).trans hB;rcases hI with ⟨rfl,e⟩ | ⟨g,cap,rfl,hg,hc⟩
 · obtain rfl:xs=[]:=List.map_eq_nil_iff.1 e
   exact (back1_nil F n h33 hro l bx J W hB' h0).mono fun e W' q=>⟨q.1,.inl ⟨[],rfl,q.2⟩⟩
 · rw [List.length_map] at hB'
   refine back1_in F n h33 hro hn l bx g cap xs hm J Jx hY W hB' (fun j x hx i u hu=>?_) h0;rw [World.cell?_of_block (w:=w) (hW.block g hg)];exact hc j x.1 (by rw [List.getElem?_map,hx];rfl) i u hu
end
section
open Go Go.RowKit Go.Deep
section
variable {P:Program}{ops:Array Oper}{md:Region.Mode}{C:World→Prop}{Q':Exit→Act→World→Prop}{k0 k:Nat}
def FullT (k0 k:Nat)(listed:Array Bool):Prop:=∀ i,k0≤i→i < k→listed.getD i false=true
def wpAnyT (P:Program)(md:Region.Mode)(ops:Array Oper)(C:World→Prop)(Q':Exit→Act→World→Prop)(k0 k:Nat):Nat→Array Bool→Act→Prop
 | 0,listed,a=>FullT k0 k listed∧∀ w,C w→wpAny P md ops Q' 0 listed a w
 | fuel+1,listed,a=>(FullT k0 k listed∧∀ w,C w→wpAny P md ops Q' (fuel+1) listed a w) ∨
  (Region.ready md ops listed≠[]∧∀ i∈Region.ready md ops listed,qOp P ops C i (wpAnyT P md ops C Q' k0 k fuel (listed.setIfInBounds i true)) a)
theorem wpAny_of_T:∀ (fuel:Nat) (listed:Array Bool) (a:Act) (w:World),C w→wpAnyT P md ops C Q' k0 k fuel listed a→wpAny P md ops Q' fuel listed a w
 | 0,_,_,w,hw,h=>h.2 w hw
 | fuel+1,_,_,w,hw,h=>by
  rcases h with h | ⟨h1,h2⟩
  · exact h.2 w hw
  · exact ⟨fun h0=>absurd h0 h1,fun i hi=>wpOp_of_qOp hw (fun a' w' hw'=>wpAny_of_T fuel _ a' w' hw') (h2 i hi)⟩
structure InT (md:Region.Mode)(ops:Array Oper)(k0 k:Nat)(listed:Array Bool):Prop where
 dcl:∀ j oj,ops[j]?=some oj→listed.getD j false=true→∀ e∈oj.after,Region.binds md e=true→listed.getD e.on false=true
 ntl:∀ j,k≤j→listed.getD j false=false
 pre:∀ j,j < k0→listed.getD j false=true
 len:listed.size=ops.size
def chkT (md:Region.Mode)(ops:Array Oper)(k0 k:Nat):Bool :=
 (List.range k).all fun i=>decide (i < k0) || ((List.range k).any fun j=>decide (i < j)&&match ops[j]? with | some oj=>oj.after.any (fun e=>Region.binds md e&&e.on==i) | none=>false) ||
  ((List.range ops.size).all fun j=>decide (j < k) || match ops[j]? with | some oj=>oj.after.any (fun e=>Region.binds md e&&(e.on==i || decide (k≤e.on))) | none=>true)
theorem full_of_tail {listed:Array Bool}(h:InT md ops k0 k listed)(hc:chkT md ops k0 k=true){j:Nat}(hj:j∈Region.ready md ops listed)(hk:k≤j):FullT k0 k listed:=by
 obtain ⟨_,oj,hoj,hall⟩:=mem_ready.1 hj;have hjs:j < ops.size:=(Array.getElem?_eq_some_iff.1 hoj).1
 have step:∀ m i,k0≤i→i < k→k≤i+m→listed.getD i false=true:=by
  intro m
  induction m with
  | zero=>intro i _ h1 h2;omega
  | succ m ih =>
   intro i hi0 hik him;have c:=List.all_eq_true.1 hc i (List.mem_range.2 hik);simp only [Bool.or_eq_true,decide_eq_true_eq,List.any_eq_true,List.mem_range,Bool.and_eq_true,List.all_eq_true] at c;rcases c with (c | ⟨q,hq,hiq,c⟩) | c
   · omega
   · cases hoq:ops[q]? with
     | none=>rw [hoq] at c;cases c
     | some oq =>
       rw [hoq] at c;obtain ⟨e,he,hb⟩:=Array.any_eq_true'.1 c;simp only [Bool.and_eq_true,beq_iff_eq] at hb;have:=h.dcl q oq hoq (ih q (by omega) hq (by omega)) e he hb.1;rw [hb.2] at this;exact this
   · rcases c j hjs with c | c
     · omega
     · rw [hoj] at c
       obtain ⟨e,he,hb⟩:=Array.any_eq_true'.1 c;simp only [Bool.and_eq_true,Bool.or_eq_true,beq_iff_eq,decide_eq_true_eq] at hb;have h1:=hall e he hb.1;rcases hb.2 with e1 | e1
       · rw [e1] at h1
         exact h1
       · rw [h.ntl e.on e1] at h1
         cases h1
 exact fun i hi0 hik=>step (k - i) i hi0 hik (by omega)
theorem InT.set {listed:Array Bool}(h:InT md ops k0 k listed){j:Nat}(hj:j∈Region.ready md ops listed)(hk:j < k):InT md ops k0 k (listed.setIfInBounds j true):=by
 obtain ⟨_,oj,hoj,hall⟩:=mem_ready.1 hj;refine ⟨fun q oq hq hl e he hb=>?_,fun q hq=>?_,fun q hq=>getD_set_true (h.pre q hq),by rw [Array.size_setIfInBounds];exact h.len⟩
 · by_cases e1:j=q
   · subst e1
     obtain rfl:oq=oj:=Option.some.inj (hq.symm.trans hoj);exact getD_set_true (hall e he hb)
   · rw [getD_set_ne false e1] at hl
     exact getD_set_true (h.dcl q oq hq hl e he hb)
 · rw [getD_set_ne false (by omega)]
   exact h.ntl q hq
theorem wpAnyT_first {i:Nat}{oi:Oper}{v:Value}(hi:ops[i]?=some oi)(hsel:∀ (j:Nat) (o:Oper) cs b,ops[j]?=some o→o.op ≠ .select cs b)(hk0:k0≤i)(hik:i < k)(hc:chkT md ops k0 k=true):
  ∀ (fuel:Nat) (listed:Array Bool) (a:Act),InT md ops k0 k listed →
    (∀ j oj,ops[j]?=some oj→j≠i→listed.getD j true=false→(∀ e∈oj.after,Region.binds md e=true→e.on≠i)→oi.apart ops oj=true) →
    i∈Region.ready md ops listed→YieldsIn P ops C oi v a →
    wpAnyT P md ops C Q' k0 k fuel (listed.setIfInBounds i true) (a.put oi.dst v)→wpAnyT P md ops C Q' k0 k (fuel+1) listed a:=by
 have hun:∀ {listed:Array Bool},i∈Region.ready md ops listed→listed.getD i false=false:=fun {listed} hr=>by
  have h0:=(mem_ready.1 hr).1;rcases Nat.lt_or_ge i listed.size with h' | h'
  · simp [h'] at h0 ⊢;exact h0
  · simp [Array.getElem?_eq_none h'] at h0
 have low:∀ {listed:Array Bool},InT md ops k0 k listed→i∈Region.ready md ops listed→∀ j∈Region.ready md ops listed,j < k:=fun {listed} hI hr j hj=>by
  rcases Nat.lt_or_ge j k with h | h
  · exact h
  · have:=full_of_tail hI hc hj h i hk0 hik
    rw [hun hr] at this
    cases this
 have alone:∀ {listed:Array Bool},InT md ops k0 k listed→i∈Region.ready md ops listed→FullT k0 k (listed.setIfInBounds i true)→∀ j∈Region.ready md ops listed,j=i:=fun {listed} hI hr hF j hj=>by
  refine Decidable.byContradiction fun hji=>?_;have hjk:=low hI hr j hj;have h0:=(mem_ready.1 hj).1
  have h1:listed.getD j false=true:=by
    rcases Nat.lt_or_ge j k0 with h | h
    · exact hI.pre j h
    · have:=hF j h hjk
      rwa [getD_set_ne false (Ne.symm hji)] at this
  rcases Nat.lt_or_ge j listed.size with h' | h'
  · simp [h'] at h0 h1;rw [h0] at h1;cases h1
  · simp [Array.getElem?_eq_none h'] at h1
 intro fuel
 induction fuel with
 | zero =>
  intro listed a hI _ hr hy H;refine Or.inr ⟨fun h=>(by rw [h] at hr;cases hr),fun j hj=>?_⟩;obtain rfl:=alone hI hr H.1 j hj;exact hy.qOp hi H
 | succ fuel ih =>
  intro listed a hI hfree hr hy H;refine Or.inr ⟨fun h=>(by rw [h] at hr;cases hr),fun j hj=>?_⟩
  by_cases hji:j=i
  · subst hji;exact hy.qOp hi H
  · rcases H with H | ⟨_,H⟩
    · exact absurd (alone hI hr H.1 j hj) hji
    · have h1:=H j (ready_mono hj hji)
      obtain ⟨hjun,oj,hoj,hall⟩:=mem_ready.1 hj
      have hnot:∀ e∈oj.after,Region.binds md e=true→e.on≠i:=fun e he hb heq=>by
       have h1:=hall e he hb;rw [heq,hun hr] at h1
       cases h1
      have hap:=hfree j oj hoj hji hjun hnot;have h2:=qOp_put hoj hap (fun cs b=>hsel i oi cs b hi) (fun cs b=>hsel j oj cs b hoj) hy h1
      have hfree':∀ q oq,ops[q]?=some oq→q≠i→(listed.setIfInBounds j true).getD q true=false →
         (∀ e∈oq.after,Region.binds md e=true→e.on≠i)→oi.apart ops oq=true:=fun q oq hq hqi hun hno=>by
       refine hfree q oq hq hqi ?_ hno
       by_cases hjq:j=q
       · subst hjq;exact hjun
       · rw [getD_set_ne true hjq] at hun;exact hun
      refine qOp_mono (fun a' h3=>ih (listed.setIfInBounds j true) a' (hI.set hj (low hI hr j hj)) hfree' (ready_mono hr (Ne.symm hji)) h3.1 ?_) h2;rw [Array.setIfInBounds_comm _ _ hji];exact h3.2
def markT:Nat→Nat→Array Bool→Array Bool
 | 0,_,listed=>listed
 | n+1,i,listed=>markT n (i+1) (listed.setIfInBounds i true)
def lexT (md:Region.Mode)(ops:Array Oper):Nat→Nat→Array Bool→Bool
 | 0,_,_=>true
 | n+1,i,listed=>(Region.ready md ops listed).contains i&&Region.free md ops listed i&&lexT md ops n (i+1) (listed.setIfInBounds i true)
theorem wpAnyT_lex (hs:Region.noSelect ops=true)(hc:chkT md ops k0 k=true)(rest:Nat):∀ (l:List Oper) (i:Nat) (listed:Array Bool) (a:Act),k0≤i→i+l.length=k→InT md ops k0 k listed→(∀ j,k0≤j→j < i→listed.getD j false=true)→(∀ j,j < l.length→l[j]?=ops[i+j]?) →
  lexT md ops l.length i listed=true→wpQuiet P ops C (fun a'=>∀ w,C w→wpAny P md ops Q' rest (markT l.length i listed) a' w) l a→wpAnyT P md ops C Q' k0 k (l.length+rest) listed a
 | [],i,listed,a,hi,hk,hI,hd,hl,hB,h=>by
  have hF:FullT k0 k listed:=fun j h1 h2=>hd j h1 (by simp at hk;omega);have h':∀ w,C w→wpAny P md ops Q' rest listed a w:=h;show wpAnyT P md ops C Q' k0 k (0+rest) listed a;rw [Nat.zero_add]
  cases rest with
  | zero=>exact ⟨hF,h'⟩
  | succ r=>exact Or.inl ⟨hF,h'⟩
 | o1::l,i,listed,a,hi,hk,hI,hd,hl,hB,h=>by
  have h0:ops[i]?=some o1:=by simpa using (hl 0 (by simp)).symm
  rw [List.length_cons,lexT,Bool.and_eq_true,Bool.and_eq_true] at hB;obtain ⟨⟨hr,hf⟩,hB'⟩:=hB
  have hr':i∈Region.ready md ops listed:=by simpa using hr
  have hik:i < k:=by simp at hk;omega
  have hst:qOp P ops C i (wpQuiet P ops C (fun a'=>∀ w,C w→wpAny P md ops Q' rest (markT l.length (i+1) (listed.setIfInBounds i true)) a' w) l) a:=by unfold qOp;simp only [h0];exact h
  obtain ⟨v,hy,hK⟩:=yieldsIn_of_qOp h0 hst
  have hm:i < listed.size:=by rw [hI.len];exact (Array.getElem?_eq_some_iff.1 h0).1
  have:=wpAnyT_first (Q':=Q') (k0:=k0) (k:=k) h0 (Region.noSelect_spec hs) hi hik hc (l.length+rest) listed a hI (Region.free_spec h0 hf) hr' hy
   (wpAnyT_lex hs hc rest l (i+1) _ _ (by omega) (by simp at hk;omega) (hI.set hr' hik) (fun j h1 h2=>by
    by_cases e:i=j
    · subst e;simp [hm]
    · exact getD_set_true (hd j h1 (by omega))) (fun j hj=>by have:=hl (j+1) (by simp;omega);simpa [Nat.add_assoc,Nat.add_comm 1 j] using this) hB' hK)
  rw [List.length_cons,Nat.add_right_comm];exact this
theorem wpAny_pre {listed:Array Bool}{a:Act}{w:World}(l:List Oper)(rest fuel:Nat)(hfu:fuel=l.length+rest)(hk:k0+l.length=k)(hs:Region.noSelect ops=true)(hc:chkT md ops k0 k=true)(hI:InT md ops k0 k listed)(hl:∀ j,j < l.length→l[j]?=ops[k0+j]?)(hB:lexT md ops l.length k0 listed=true)(hC:C w)
  (h:wpQuiet P ops C (fun a'=>∀ w,C w→wpAny P md ops Q' rest (markT l.length k0 listed) a' w) l a):wpAny P md ops Q' fuel listed a w:=by
 subst hfu;exact wpAny_of_T _ _ _ _ hC (wpAnyT_lex hs hc rest l k0 listed a (Nat.le_refl _) hk hI (fun j h1 h2=>by omega) hl hB h)
def inTB (md:Region.Mode)(ops:Array Oper)(k0 k:Nat)(listed:Array Bool):Bool :=
 (listed.size==ops.size)&&((List.range ops.size).all fun j=>match ops[j]? with | some oj=>!(listed.getD j false) || oj.after.all (fun e=>!(Region.binds md e) || listed.getD e.on false) | none=>true) &&
  ((List.range ops.size).all fun j=>decide (j < k) || !(listed.getD j false))&&((List.range k0).all fun j=>listed.getD j false)
theorem InT.of {listed:Array Bool}(h:inTB md ops k0 k listed=true):InT md ops k0 k listed:=by
 simp only [inTB,Bool.and_eq_true,List.all_eq_true,List.mem_range,beq_iff_eq,Bool.or_eq_true,decide_eq_true_eq,Bool.not_eq_true'] at h;obtain ⟨⟨⟨h1,h2⟩,h3⟩,h4⟩:=h;refine ⟨fun j oj hj hl e he hb=>?_,fun j hj=>?_,fun j hj=>h4 j hj,h1⟩
 · have:=h2 j (Array.getElem?_eq_some_iff.1 hj).1
   rw [hj] at this;simp only [Bool.or_eq_true,Bool.not_eq_true'] at this;rcases this with this | this
   · rw [hl] at this;cases this
   · have:=Array.all_eq_true'.1 this e he
     simp only [Bool.or_eq_true,Bool.not_eq_true'] at this;rcases this with this | this
     · rw [hb] at this;cases this
     · exact this
 · rcases Nat.lt_or_ge j ops.size with hjs | hjs
   · rcases h3 j hjs with h | h
     · omega
     · exact h
   · have:listed.size≤j:=by omega
     simp [Array.getElem?_eq_none this]
theorem wpAny_pre2 {listed:Array Bool}{a:Act}{w0 w:World}(n rest fuel:Nat)(hfu:fuel=n+rest)(hn:k0+n≤ops.size)(hs:Region.noSelect ops=true)(hc:chkT md ops k0 (k0+n)=true)(hI:inTB md ops k0 (k0+n) listed=true)(hB:lexT md ops n k0 listed=true)(hC:Only [] w0 w)
  (h:wpQuiet P ops (fun w'=>∃ p:OnlyBy w0,w'=p.w) (fun a'=>∀ w',(∃ p:OnlyBy w0,w'=p.w)→wpAny P md ops Q' rest (markT n k0 listed) a' w') ((ops.toList.drop k0).take n) a):wpAny P md ops Q' fuel listed a w:=by
 have hlen:((ops.toList.drop k0).take n).length=n:=by simp;omega
 refine wpAny_pre (C:=fun w'=>∃ p:OnlyBy w0,w'=p.w) (k0:=k0) (k:=k0+n) ((ops.toList.drop k0).take n) rest fuel (by rw [hlen];exact hfu) (by rw [hlen]) hs hc (InT.of hI) (fun j hj=>?_) (by rw [hlen];exact hB) ⟨⟨w,hC⟩,rfl⟩ (by rw [hlen];exact h);rw [hlen] at hj;rw [List.getElem?_take_of_lt hj,List.getElem?_drop];simp
end
end
end Go.Proofs.YtmnidbnaneagjaaGreatDoor
