import Derived.Test.YtmnidbnaneagjaaGreatDoorK21
import Derived.BigRegion
set_option maxRecDepth 100000
set_option maxHeartbeats 8000000
namespace Go.Proofs.YtmnidbnaneagjaaGreatDoor
section
open Go Go.RowKit Go.Deep
def nmC (x:Nmb):List Value:=[.int .i64 (x.g:Nat),.int .i64 (x.k:Nat),.int .i64 (x.c:Nat)]
theorem nmC_len (x:Nmb):(nmC x).length=3:=rfl
theorem nmInfo:(Tryz.prog.info? 233).map (fun i=>(i.zero,i.size,i.bytes))=some (some (.agg #[.int .i64 0,.int .i64 0,.int .i64 0]),3,24):=by kernel_rfl
theorem nmInfo':∃ i,Tryz.prog.info? 233=some i∧i.zero=some (.agg #[.int .i64 0,.int .i64 0,.int .i64 0])∧i.size=3∧i.bytes=24:=by
 obtain ⟨i,hi,hz⟩:=Option.map_eq_some_iff.1 nmInfo;simp only [Prod.mk.injEq] at hz;exact ⟨i,hi,hz⟩
def Nrs (w:World)(base:Nat)(v:Value)(l:List Nmb):Prop:=w.ownsRow base 233 3 v l.length (rowOf nmC l)
theorem Nrs.only {w w':World}{base:Nat}{v:Value}{l:List Nmb}{L:List Nat}(h:Nrs w base v l)(ho:Only L w w')(hn:∀ k,v.ownBlock=some k→k∉L):Nrs w' base v l:=ho.owns h hn
theorem Nrs.cells {w:World}{base B n cap j:Nat}{l:List Nmb}{x:Nmb}(h:Nrs w base (.slice (some ⟨B,0,none⟩) n cap) l)(hn:l.length=n)(hx:l[j]?=some x):w.cell? ⟨B,j*3,none⟩=some (.int .i64 (x.g:Nat))∧w.cell? ⟨B,j*3+1,none⟩=some (.int .i64 (x.k:Nat))∧w.cell? ⟨B,j*3+2,none⟩=some (.int .i64 (x.c:Nat)):=by
 subst hn;have hlt:j < l.length:=(List.getElem?_eq_some_iff.1 hx).1
 have key:∀ i,i < 3→w.cell? ⟨B,j*3+i,none⟩=(nmC x)[i]?:=fun i hi=>by
  rw [World.ownsRow.cellAt h _ (by omega)];exact rowOf_get nmC_len l j i x hi hx
 exact ⟨key 0 (by decide),key 1 (by decide),key 2 (by decide)⟩
theorem Nrs.fz {w:World}{base B n cap:Nat}{l:List Nmb}(h:Nrs w base (.slice (some ⟨B,0,none⟩) n cap) l)(hn:l.length=n)(o:Nat):w.frozen? ⟨B,o,none⟩=false:=by
 subst hn;exact World.ownsRow.frozenAt h o
theorem Nrs.blk {w:World}{base B n cap:Nat}{l:List Nmb}(h:Nrs w base (.slice (some ⟨B,0,none⟩) n cap) l):base≤B∧∃ cur,w.heap[B]?=some (.cells cur 233 (0,0)):=by
 rcases h.2 with ⟨h1,_⟩ | ⟨g',cap',cur,h1,hb,hh,_⟩
 · simp at h1
 · simp only [Value.slice.injEq,Option.some.injEq,Addr.mk.injEq,and_true] at h1
   obtain ⟨rfl,_⟩:=h1;exact ⟨hb,cur,hh⟩
theorem Nrs.setG {w:World}{base B n cap j:Nat}{l:List Nmb}{x:Nmb}(h:Nrs w base (.slice (some ⟨B,0,none⟩) n cap) l)(hn:l.length=n)(hx:l[j]?=some x)(g:Nat):Nrs (w.setCell ⟨B,j*3,none⟩ (.int .i64 (g:Nat))) base (.slice (some ⟨B,0,none⟩) n cap) (l.set j { x with g:=g }):=by
 subst hn;have h0:=(World.ownsRow.stored h (j*3+0) (.int .i64 (g:Nat))).1;rw [rowOf_set nmC_len l j 0 x { x with g:=g } _ (by decide) hx rfl] at h0;unfold Nrs;rw [List.length_set];exact h0
theorem Nrs.setK {w:World}{base B n cap j:Nat}{l:List Nmb}{x:Nmb}(h:Nrs w base (.slice (some ⟨B,0,none⟩) n cap) l)(hn:l.length=n)(hx:l[j]?=some x)(k:Nat):Nrs (w.setCell ⟨B,j*3+1,none⟩ (.int .i64 (k:Nat))) base (.slice (some ⟨B,0,none⟩) n cap) (l.set j { x with k:=k }):=by
 subst hn;have h0:=(World.ownsRow.stored h (j*3+1) (.int .i64 (k:Nat))).1;rw [rowOf_set nmC_len l j 1 x { x with k:=k } _ (by decide) hx rfl] at h0;unfold Nrs;rw [List.length_set];exact h0
theorem Nrs.setC {w:World}{base B n cap j:Nat}{l:List Nmb}{x:Nmb}(h:Nrs w base (.slice (some ⟨B,0,none⟩) n cap) l)(hn:l.length=n)(hx:l[j]?=some x)(c:Nat):Nrs (w.setCell ⟨B,j*3+2,none⟩ (.int .i64 (c:Nat))) base (.slice (some ⟨B,0,none⟩) n cap) (l.set j { x with c:=c }):=by
 subst hn;have h0:=(World.ownsRow.stored h (j*3+2) (.int .i64 (c:Nat))).1;rw [rowOf_set nmC_len l j 2 x { x with c:=c } _ (by decide) hx rfl] at h0;unfold Nrs;rw [List.length_set];exact h0
theorem set_at {l:List Nmb}{j:Nat}{x:Nmb}(y:Nmb)(hx:l[j]?=some x):(l.set j y)[j]?=some y:=by
 have:=(List.getElem?_eq_some_iff.1 hx).1;simp [this]
theorem Nrs.kc {w:World}{base B n cap j:Nat}{l:List Nmb}{x:Nmb}(h:Nrs w base (.slice (some ⟨B,0,none⟩) n cap) l)(hn:l.length=n)(hx:l[j]?=some x)(k c:Nat):Nrs ((w.setCell ⟨B,j*3+1,none⟩ (.int .i64 (k:Nat))).setCell ⟨B,j*3+2,none⟩ (.int .i64 (c:Nat))) base (.slice (some ⟨B,0,none⟩) n cap) (l.set j ⟨x.g,k,c⟩):=by
 have h1:=(h.setK hn hx k).setC (by rw [List.length_set];exact hn) (set_at _ hx) c;rw [List.set_set] at h1;exact h1
theorem Nrs.ck {w:World}{base B n cap j:Nat}{l:List Nmb}{x:Nmb}(h:Nrs w base (.slice (some ⟨B,0,none⟩) n cap) l)(hn:l.length=n)(hx:l[j]?=some x)(k c:Nat):Nrs ((w.setCell ⟨B,j*3+2,none⟩ (.int .i64 (c:Nat))).setCell ⟨B,j*3+1,none⟩ (.int .i64 (k:Nat))) base (.slice (some ⟨B,0,none⟩) n cap) (l.set j ⟨x.g,k,c⟩):=by
 have h1:=(h.setC hn hx c).setK (by rw [List.length_set];exact hn) (set_at _ hx) k;rw [List.set_set] at h1;exact h1
theorem zeros_nm (N:Nat):(madeCells (Value.agg #[.int .i64 0,.int .i64 0,.int .i64 0]).cells (N*3)).toList=rowOf nmC (List.replicate N ⟨0,0,0⟩):=by
 have hc:(Value.agg #[.int .i64 0,.int .i64 0,.int .i64 0]).cells=#[.int .i64 0,.int .i64 0,.int .i64 0]:=rfl;rw [hc];apply List.ext_getElem?;intro j
 by_cases hj:j < N*3
 · have h1:(rowOf nmC (List.replicate N (⟨0,0,0⟩:Nmb)))[j]?=some (.int .i64 0):=by
    have:=rowOf_get nmC_len (List.replicate N (⟨0,0,0⟩:Nmb)) (j / 3) (j % 3) ⟨0,0,0⟩ (Nat.mod_lt _ (by decide)) (by rw [List.getElem?_replicate,if_pos (by omega)]);rw [show j / 3*3+j % 3=j by omega] at this;rw [this];rcases (show j % 3=0∨j % 3=1∨j % 3=2 by omega) with e | e | e<;>rw [e]<;>rfl
   rw [h1];rcases (show j % 3=0∨j % 3=1∨j % 3=2 by omega) with e | e | e<;>simp [madeCells,hj,e]
 · rw [List.getElem?_eq_none (by simp [madeCells];omega),List.getElem?_eq_none (by rw [rowOf_len nmC_len,List.length_replicate];omega)]
def numF (g:Nat→Nat)(nd:Nat→Option Nod)(i:Nat):Nmb:=match nd i with | none=>⟨g i,0,0⟩ | some n=>⟨g i,n.K.toNat,n.C.toNat⟩
def numL (N:Nat)(g:Nat→Nat)(nd:Nat→Option Nod)(j:Nat):List Nmb:=(List.range N).map (fun i=>if i < j then numF g nd i else ⟨0,0,0⟩)
theorem numL_len (N:Nat)(g:Nat→Nat)(nd:Nat→Option Nod)(j:Nat):(numL N g nd j).length=N:=by simp [numL]
theorem numL_zero (N:Nat)(g:Nat→Nat)(nd:Nat→Option Nod):numL N g nd 0=List.replicate N ⟨0,0,0⟩:=by
 apply List.ext_getElem?;intro i
 by_cases h:i < N<;>simp [numL,h]
theorem numL_at {N j:Nat}(g:Nat→Nat)(nd:Nat→Option Nod)(h:j < N):(numL N g nd j)[j]?=some ⟨0,0,0⟩:=by simp [numL,h]
theorem numL_step {N j:Nat}(g:Nat→Nat)(nd:Nat→Option Nod)(h:j < N):(numL N g nd j).set j (numF g nd j)=numL N g nd (j+1):=by
 apply List.ext_getElem?;intro i;rw [List.getElem?_set,numL_len]
 by_cases e:j=i
 · subst e
   simp [numL,h]
 · rw [if_neg e]
   by_cases hi:i < N
   · by_cases hij:i < j
     · simp [numL,hi,hij,show i < j+1 by omega]
     · simp [numL,hi,hij,show ¬ i < j+1 by omega]
   · rw [List.getElem?_eq_none (by rw [numL_len];omega),List.getElem?_eq_none (by rw [numL_len];omega)]
def NodOk (n:Nod):Prop:=(n.K=1∨n.K=2)∧0≤n.C∧n.C < 9223372036854775808
theorem numbers_any (w:World)(t:Nat)(p:Row)(most:Nat)(g:Nat→Nat)(nd:Nat→Option Nod)(h:TabAt w t p most g nd)(hN:p.N≤1000)(hok:∀ i n,nd i=some n→NodOk n):
  Calls Tryz.prog 147 #[.pointer (some ⟨t,0,none⟩)] w fun e w'=>∃ B,e = .returned (.slice (some ⟨B,0,none⟩) p.N p.N)∧w.heap.size≤B∧Nrs w' w.heap.size (.slice (some ⟨B,0,none⟩) p.N p.N) (numL p.N g nd p.N)∧Only [] w w':=by
 obtain ⟨i0,hi0,hz0,hz1,hz2⟩:=nmInfo';obtain ⟨w1,hmk,hown,hgr⟩:=run_makeSlice_full (P:=Tryz.prog) (w:=w) w.heap.size 198 233 i0 _ 3 Tryz.underlying198 hi0 hz0 hz1 .i64 .i64 p.N (by omega) (by rw [hz2];omega) (by unfold maxLen;omega) (Nat.le_refl _);rw [zeros_nm,← numL_zero p.N g nd] at hown
 have hR1:Nrs w1 w.heap.size (.slice (some ⟨w.heap.size,0,none⟩) p.N p.N) (numL p.N g nd 0):=by
  unfold Nrs;rw [numL_len];exact hown
 have ho1:Only [] w w1:=(Only.refl [] w).grown hgr (fun k hk=>by cases hk);have HT:Hid (∀ W,Only [] w W→TabAt W t p most g nd):=fun W ho=>h.kept ho (fun _ _=>by simp);have HOK:Hid (∀ i n,nd i=some n→NodOk n):=hok;have ct:=h.tab;have ct1:=(HT.out w1 ho1).tab;obtain ⟨N,hNN⟩:∃ N,p.N=N:=⟨_,rfl⟩;obtain ⟨ad,cap,hv⟩:∃ ad cap,p.v = .slice ad N cap:=⟨_,_,by unfold Row.v;rw [hNN]⟩;have HPV:Hid (p.v = .slice ad N cap):=hv
 have HPL:Hid (∀ W i,Only [] w W→i < N→∃ b,ad=some ⟨b,0,none⟩∧W.cell? ⟨b,i*2,none⟩=some (.int .i64 (g i:Nat))∧W.cell? ⟨b,i*2+1,none⟩=some (.pointer ((nd i).map (fun n=>⟨n.b,0,none⟩)))):=fun W i ho hi=>by
  obtain ⟨b,hb,c1,c2,_,_⟩:=(HT.out W ho).place_at (i:=i) (by rw [hNN];exact hi);refine ⟨b,?_,c1,c2⟩;have hv2:=HPV.out;unfold Row.v at hv2;rw [hb] at hv2;simp only [Option.map_some,Value.slice.injEq] at hv2;exact hv2.1.symm
 have HND:Hid (∀ W i n,Only [] w W→nd i=some n→W.cell? ⟨n.b,0,none⟩=some (.int .i64 n.K)∧W.cell? ⟨n.b,3,none⟩=some (.int .i64 n.C)):=fun W i n ho hn=>⟨((HT.out W ho).node i n hn).c0,((HT.out W ho).node i n hn).c3⟩;rw [hv] at ct ct1;rw [hNN] at hmk hR1 hN ⊢;obtain ⟨B,hB⟩:∃ B,w.heap.size=B:=⟨_,rfl⟩;have HB:Hid (w.heap.size=B):=hB;rw [hB] at hmk hR1 ⊢;have HR1:Hid (Nrs w1 B (.slice (some ⟨B,0,none⟩) N N) (numL N g nd 0)∧Only [] w w1):=⟨hR1,ho1⟩;clear h hok hgr hown hR1 ho1 hi0 hz0 hz1 hz2 hv hNN hB
 go_enter Tryz.func147,Tryz.ntmps147
 go_wp2
 clear hmk ct ct1
 go_loopw [17] (fun q wr=>∃ j:Nat,q = .int .i64 (j:Nat)∧j≤N∧Nrs wr B (.slice (some ⟨B,0,none⟩) N N) (numL N g nd j)∧Only [] w wr) (fun q _=>N - (intOf q).toNat)
 case atStart=>exact ⟨0,rfl,Nat.zero_le _,HR1.out⟩
 case round =>
  obtain ⟨j,rfl,hj,hR,hO⟩:=hrel;have HR:Hid (Nrs wr B (.slice (some ⟨B,0,none⟩) N N) (numL N g nd j)):=hR;have HO:Hid (Only [] w wr):=hO;clear hR hO HR1
  by_cases hlt:j < N
  · obtain ⟨b,rfl,y0,y1⟩:=HPL.out wr j HO.out hlt
    obtain ⟨pa,hpa⟩:∃ pa,(nd j).map (fun n=>(⟨n.b,0,none⟩:Addr))=pa:=⟨_,rfl⟩;have HPA:Hid ((nd j).map (fun n=>(⟨n.b,0,none⟩:Addr))=pa):=hpa;rw [hpa] at y1;clear hpa
    go_upto_region 5 with fail
    have oA:Only [] wr (wr.alloc (.cells #[.int .i64 (g j:Nat),.pointer pa] 180)):=(Only.refl [] wr).alloc _;have HWA:Hid (Only [] w (wr.alloc (.cells #[.int .i64 (g j:Nat),.pointer pa] 180))):=HO.out.trans oA (fun _ hk=>by cases hk);have HBX:Hid ((wr.alloc (.cells #[.int .i64 (g j:Nat),.pointer pa] 180)).heap[wr.heap.size]?=some (.cells #[.int .i64 (g j:Nat),.pointer pa] 180 (0,0))):=heap_alloc_last wr _;have HRA:Hid (Nrs (wr.alloc (.cells #[.int .i64 (g j:Nat),.pointer pa] 180)) B (.slice (some ⟨B,0,none⟩) N N) (numL N g nd j)):=HR.out.only oA (fun _ _=>by simp);clear y0 y1 oA;generalize wr.alloc (.cells #[.int .i64 (g j:Nat),.pointer pa] 180)=wb at HWA HBX HRA ⊢;generalize wr.heap.size=bx at HBX ⊢;have x0:wb.cell? ⟨bx,0,none⟩=some (.int .i64 (g j:Nat)):=cell_of_row _ _ 0 _ _ _ HBX.out;have x1:wb.cell? ⟨bx,1,none⟩=some (.pointer pa):=cell_of_row _ _ 1 _ _ _ HBX.out;obtain ⟨q0,_,_⟩:=HRA.out.cells (numL_len _ _ _ _) (numL_at g nd hlt);have f0:=HRA.out.fz (numL_len _ _ _ _) (j*3);have hBl:=lt_of_cell q0
    have HBne:Hid (bx≠B):=fun e=>by
     obtain ⟨_,cur,hh⟩:=HRA.out.blk;have:=HBX.out;rw [e,hh] at this;simp at this
    have HR5:Hid (Nrs (wb.setCell ⟨B,j*3,none⟩ (.int .i64 (g j:Nat))) B (.slice (some ⟨B,0,none⟩) N N) ((numL N g nd j).set j ⟨g j,0,0⟩)):=HRA.out.setG (numL_len _ _ _ _) (numL_at g nd hlt) (g j);have HW5:Hid (Only [] w (wb.setCell ⟨B,j*3,none⟩ (.int .i64 (g j:Nat)))):=HWA.out.setCell (p:=⟨B,j*3,none⟩) (Or.inr (by rw [HB.out];exact Nat.le_refl _)) _;have HB5:Hid ((wb.setCell ⟨B,j*3,none⟩ (.int .i64 (g j:Nat))).heap[bx]?=some (.cells #[.int .i64 (g j:Nat),.pointer pa] 180 (0,0))):=(Below.heap_setCell wb _ _ bx HBne.out).trans HBX.out
    go_upto_region 6 with fail
    clear x0 x1 q0 f0 hBl;generalize wb.setCell ⟨B,j*3,none⟩ (.int .i64 (g j:Nat))=w5 at HR5 HW5 HB5 ⊢;have x0:w5.cell? ⟨bx,0,none⟩=some (.int .i64 (g j:Nat)):=cell_of_row _ _ 0 _ _ _ HB5.out;have x1:w5.cell? ⟨bx,1,none⟩=some (.pointer pa):=cell_of_row _ _ 1 _ _ _ HB5.out;have hfr:=isFree_any w5 (g j:Nat) pa
    cases hnd:nd j with
    | none =>
     have hpn:pa=none:=by rw [← HPA.out,hnd];rfl
     subst hpn
     have HST:Hid ((numL N g nd j).set j ⟨g j,0,0⟩=numL N g nd (j+1)):=by
      show _=_;rw [← numL_step g nd hlt];unfold numF;rw [hnd]
     clear hnd
     go_wp2_with (go_at_call 64;refine hfr.mono ?_;rintro e w6 ⟨rfl,o6⟩;have HR6:Hid (Nrs w6 B (.slice (some ⟨B,0,none⟩) N N) (numL N g nd (j+1))):=(by rw [← HST.out];exact HR5.out.only o6 (fun _ _=>by simp));have HW6:Hid (Only [] w w6):=HW5.out.trans o6 (fun _ hk=>by cases hk);clear hfr o6)
     go_roundw
     case rel=>exact ⟨j+1,by go_num,by omega,HR6.out,HW6.out⟩
     case measure=>simp [intOf];omega
    | some n =>
     have hpn:pa=some ⟨n.b,0,none⟩:=by rw [← HPA.out,hnd];rfl
     subst hpn;obtain ⟨hK,hC0,hC1⟩:=HOK.out j n hnd;obtain ⟨K,hKe⟩:∃ K:Nat,n.K=(K:Int):=⟨n.K.toNat,by omega⟩;obtain ⟨C,hCe⟩:∃ C:Nat,n.C=(C:Int):=⟨n.C.toNat,by omega⟩
     have HST:Hid (((numL N g nd j).set j ⟨g j,0,0⟩).set j ⟨g j,K,C⟩=numL N g nd (j+1)):=by
      show _=_;rw [List.set_set,← numL_step g nd hlt];unfold numF;rw [hnd];simp only [hKe,hCe,Int.toNat_natCast]
     have HNC:Hid (∀ W,Only [] w W→W.cell? ⟨n.b,0,none⟩=some (.int .i64 (K:Nat))∧W.cell? ⟨n.b,3,none⟩=some (.int .i64 (C:Nat))):=fun W ho=>by
      have:=HND.out W j n ho hnd;rw [hKe,hCe] at this;exact this
     have HNB:Hid (n.b≠B):=fun e=>by
      have:=lt_of_cell (HND.out w j n (Only.refl _ _) hnd).1;have h2:=HB.out;have h3:n.b < w.heap.size:=this;omega
     clear hnd hK hC0 hC1 hKe hCe
     go_upto_region 7 with (go_at_call 64;refine hfr.mono ?_;rintro e w6 ⟨rfl,o6⟩;have HR6:Hid (Nrs w6 B (.slice (some ⟨B,0,none⟩) N N) ((numL N g nd j).set j ⟨g j,0,0⟩)):=HR5.out.only o6 (fun _ _=>by simp);have HW6:Hid (Only [] w w6):=HW5.out.trans o6 (fun _ hk=>by cases hk);have HB6:Hid (w6.heap[bx]?=some (.cells #[.int .i64 (g j:Nat),.pointer (some ⟨n.b,0,none⟩)] 180 (0,0))):=(o6.block bx (Array.getElem?_eq_some_iff.1 HB5.out).1 (by simp)).trans HB5.out;clear hfr o6)
     clear x0 x1;have z1:w6.cell? ⟨bx,1,none⟩=some (.pointer (some ⟨n.b,0,none⟩)):=cell_of_row _ _ 1 _ _ _ HB6.out;obtain ⟨u0,u3⟩:=HNC.out w6 HW6.out;have hat:((numL N g nd j).set j (⟨g j,0,0⟩:Nmb))[j]?=some ⟨g j,0,0⟩:=set_at _ (numL_at g nd hlt)
     have hlen:((numL N g nd j).set j (⟨g j,0,0⟩:Nmb)).length=N:=by rw [List.length_set,numL_len]
     obtain ⟨q0,q1,q2⟩:=HR6.out.cells hlen hat;have f1:=HR6.out.fz hlen (j*3+1);have f2:=HR6.out.fz hlen (j*3+2);have hBl:=lt_of_cell q1;have HE1:Hid (Nrs ((w6.setCell ⟨B,j*3+1,none⟩ (.int .i64 (K:Nat))).setCell ⟨B,j*3+2,none⟩ (.int .i64 (C:Nat))) B (.slice (some ⟨B,0,none⟩) N N) (numL N g nd (j+1))∧Only [] w ((w6.setCell ⟨B,j*3+1,none⟩ (.int .i64 (K:Nat))).setCell ⟨B,j*3+2,none⟩ (.int .i64 (C:Nat)))):=⟨by rw [← HST.out];exact HR6.out.kc hlen hat K C,(HW6.out.setCell (p:=⟨B,j*3+1,none⟩) (Or.inr (by rw [HB.out];exact Nat.le_refl _)) _).setCell (p:=⟨B,j*3+2,none⟩) (Or.inr (by rw [HB.out];exact Nat.le_refl _)) _⟩;have HE2:Hid (Nrs ((w6.setCell ⟨B,j*3+2,none⟩ (.int .i64 (C:Nat))).setCell ⟨B,j*3+1,none⟩ (.int .i64 (K:Nat))) B (.slice (some ⟨B,0,none⟩) N N) (numL N g nd (j+1))∧Only [] w ((w6.setCell ⟨B,j*3+2,none⟩ (.int .i64 (C:Nat))).setCell ⟨B,j*3+1,none⟩ (.int .i64 (K:Nat)))):=⟨by rw [← HST.out];exact HR6.out.ck hlen hat K C,(HW6.out.setCell (p:=⟨B,j*3+2,none⟩) (Or.inr (by rw [HB.out];exact Nat.le_refl _)) _).setCell (p:=⟨B,j*3+1,none⟩) (Or.inr (by rw [HB.out];exact Nat.le_refl _)) _⟩;have hne1:=HBne.out;have hne2:=HNB.out;clear hat hlen
     go_region
     all_goals go_wp2
     all_goals go_roundw
     all_goals first
      | (exact ⟨j+1,by go_num,by omega,HE1.out⟩)
      | (exact ⟨j+1,by go_num,by omega,HE2.out⟩)
      | (exact ⟨j+1,by go_num,by omega,HE1.out.1.only (Only.refl [] _).drew (fun _ _=>by simp),HE1.out.2.drew⟩)
      | (exact ⟨j+1,by go_num,by omega,HE2.out.1.only (Only.refl [] _).drew (fun _ _=>by simp),HE2.out.2.drew⟩)
      | (simp [intOf];omega)
  · obtain rfl:N=j:=by omega
    have hj2:decide ((N:Int) < N)=false:=decide_eq_false (by omega)
    go_wp2
    go_ret
    exact ⟨B,rfl,Nat.le_refl _,HR.out,HO.out⟩
end
end Go.Proofs.YtmnidbnaneagjaaGreatDoor
