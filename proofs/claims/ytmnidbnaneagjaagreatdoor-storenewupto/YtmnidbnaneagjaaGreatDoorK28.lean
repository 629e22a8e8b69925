import Derived.Test.YtmnidbnaneagjaaGreatDoorK27
import Derived.Test.YtmnidbnaneagjaaGreatDoorK26
set_option maxRecDepth 100000
set_option maxHeartbeats 8000000
namespace Go.Proofs.YtmnidbnaneagjaaGreatDoor
section
open Go Go.RowKit Go.Deep
def contB (g:Nat→Nat)(nd:Nat→Option Nod)(ds:Nat→Option DirM)(i:Nat):List UInt8 :=
 if (lastF g nd i).k=2 then (match ds i with | some d=>entsB d.l | none=>[]) else if (lastF g nd i).k=1 then (match nd i with | some n=>heldB n.S n.H | none=>[]) else []
def snapF (N:Nat)(g:Nat→Nat)(nd:Nat→Option Nod)(ds:Nat→Option DirM):List UInt8:=be 8 N++(lastL N g nd N).flatMap givenB++(List.range N).flatMap (contB g nd ds)
def snapT (T:Tr):List UInt8:=snapF T.p.N T.g T.nd T.ds
structure SaveOk (T:Tr):Prop where
 node:∀ i n,T.nd i=some n→NodOk n
 dir:∀ i n,T.nd i=some n→n.K=2→∃ d,T.ds i=some d∧d.l.length≤60∧∀ e∈d.l,EntOk e
theorem givenB_len (x:Nmb):(givenB x).length≤24:=by
 unfold givenB
 split<;>simp [be_length]
theorem entsB_len {es:List Ent}(h1:es.length≤60)(h2:∀ e∈es,EntOk e):(entsB es).length≤61000:=by
 unfold entsB;have:=flat_len (f:=entB) (K:=1000) (es:=es) (fun e he=>entB_len (h2 e he));rw [List.length_append,be_length];omega
theorem heldB_len (S:ByteArray)(H:List Bool):(heldB S H).length≤150000:=by
 unfold heldB;have h0:PcOk 64 (pcs (wrH H)):=pcs_ok (fun k hk=>wrH_lt hk);have h1:=flat_len (f:=pceB S) (K:=2100) (es:=pcs (wrH H)) (fun e he=>pceB_len S (h0 e he).2.2);have h2:=wrH_len H;have h3:=pcs_len (wrH H);rw [List.length_append,List.length_append,be_length,be_length];omega
theorem last_dir {g:Nat→Nat}{nd:Nat→Option Nod}{i:Nat}(hok:∀ i n,nd i=some n→NodOk n)(h:(lastF g nd i).k=2):∃ n,nd i=some n∧n.K=2∧(lastF g nd i).g=g i:=by
 unfold lastF at *
 cases e:nd i with
 | none=>rw [e] at h;cases h
 | some n =>
  rw [e] at h;simp only at h ⊢;have hk:=(hok i n e).1
  split at h
  · cases h
  · rename_i hn
    rw [if_neg hn];refine ⟨n,rfl,?_,rfl⟩;simp only at h;omega
theorem last_file {g:Nat→Nat}{nd:Nat→Option Nod}{i:Nat}(hok:∀ i n,nd i=some n→NodOk n)(h:(lastF g nd i).k=1):∃ n,nd i=some n∧n.K=1∧(lastF g nd i).g=g i:=by
 unfold lastF at *
 cases e:nd i with
 | none=>rw [e] at h;cases h
 | some n =>
  rw [e] at h;simp only at h ⊢;have hk:=(hok i n e).1
  split at h
  · cases h
  · rename_i hn
    rw [if_neg hn];refine ⟨n,rfl,?_,rfl⟩;simp only at h;omega
theorem last_ok {g:Nat→Nat}{nd:Nat→Option Nod}{i:Nat}(hok:∀ i n,nd i=some n→NodOk n)(hg:∀ i,g i≤5000000000000000000):(lastF g nd i).ok:=by
 have:=hg i;unfold lastF Nmb.ok
 cases e:nd i with
 | none=>exact ⟨by show g i < _;omega,by show 0 < _;omega,by show 0 < _;omega⟩
 | some n =>
  have hk:=hok i n e;simp only
  split
  · exact ⟨by show g i+1 < _;omega,by show 0 < _;omega,by show 0 < _;omega⟩
  · obtain ⟨h1,h2,h3⟩:=hk
    exact ⟨by show g i < _;omega,by show n.K.toNat < _;omega,by show n.C.toNat < _;omega⟩
theorem contB_len {T:Tr}(h:SaveOk T)(i:Nat):(contB T.g T.nd T.ds i).length≤150000:=by
 unfold contB
 split
 · rename_i hk
   obtain ⟨n,hn,hK,_⟩:=last_dir h.node hk;obtain ⟨d,hd,h1,h2⟩:=h.dir i n hn hK;rw [hd];exact Nat.le_trans (entsB_len h1 h2) (by decide)
 · split
   · split
     · exact heldB_len _ _
     · simp
   · simp
theorem snapshot_any (A:Nat→Addr)(w:World)(tr:Nat)(T:Tr)(h:TreeAt w tr T)(hE:Errs w A)(hok:SaveOk T):
  Calls Tryz.prog 50 #[.pointer (some ⟨tr,0,none⟩)] w fun e w'=>e = .returned (.string (bs (snapT T)))∧Only [] w w':=by
 have hN:=h.small.N;have HS:Hid (SaveOk T):=hok;have HT:Hid (TreeAt w tr T):=h;have HER:Hid (Errs w A):=hE;obtain ⟨N,hNN⟩:∃ N,T.p.N=N:=⟨_,rfl⟩;have HNN:Hid (T.p.N=N):=hNN;have o1:Only [] w (w.alloc (.cells #[.pointer none,.slice none 0 0] 230)):=(Only.refl [] w).alloc _;have hV1:SvW w (w.alloc (.cells #[.pointer none,.slice none 0 0] 230)) w.heap.size []:=SvW.fresh (Only.refl [] w);have hla:=lasting_any (w.alloc (.cells #[.pointer none,.slice none 0 0] 230)) tr T (h.only o1) hok.node;rw [hNN] at hla hN;obtain ⟨L,hL⟩:∃ L,lastL N T.g T.nd N=L:=⟨_,rfl⟩;have HL:Hid (lastL N T.g T.nd N=L):=hL;rw [hL] at hla
 have HLL:Hid (L.length=N):=by show L.length=N;rw [← hL];exact lastL_len _ _ _ _
 have HAT:Hid (∀ j,j < N→L[j]?=some (lastF T.g T.nd j)):=fun j hj=>by rw [← hL];exact lastL_all T.g T.nd hj
 have HV1:Hid (SvW w (w.alloc (.cells #[.pointer none,.slice none 0 0] 230)) w.heap.size []):=hV1;generalize hw1:w.alloc (.cells #[.pointer none,.slice none 0 0] 230)=w1 at hla HV1;obtain ⟨s,hs⟩:∃ s,w.heap.size=s:=⟨_,rfl⟩;rw [hs] at HV1;have HNUM:Hid (∀ W l k,SvW w W s l→l.length≤90000000000000→k≤1000000→Calls Tryz.prog 98 #[.pointer (some ⟨s,0,none⟩),.int .i64 (k:Nat)] W fun e w'=>e = .returned (.tuple #[])∧SvW w w' s (l++be 8 k)∧OthS s W w'):=fun W l k k1 k2 k3=>number_any w W s l k k1 (by omega) (by omega)
 have HG1:Hid (∀ j,(be 8 N++(L.take j).flatMap givenB).length≤100000000):=fun j=>by
  have h1:=flat_len (f:=givenB) (K:=24) (es:=L.take j) (fun e _=>givenB_len e)
  have h2:(L.take j).length≤1000:=by rw [List.length_take];have:=HLL.out;omega
  rw [List.length_append,be_length];omega
 have HG2:Hid (∀ j,(be 8 N++L.flatMap givenB++((List.range N).take j).flatMap (contB T.g T.nd T.ds)).length≤200000000):=fun j=>by
  have h1:=flat_len (f:=givenB) (K:=24) (es:=L) (fun e _=>givenB_len e);have h2:=HLL.out;have h3:=flat_len (f:=contB T.g T.nd T.ds) (K:=150000) (es:=(List.range N).take j) (fun i _=>contB_len hok i)
  have h4:((List.range N).take j).length≤1000:=by rw [List.length_take,List.length_range];omega
  rw [List.length_append,List.length_append,be_length];omega
 have HFIN:Hid (be 8 N++L.flatMap givenB++((List.range N).take N).flatMap (contB T.g T.nd T.ds)=snapT T):=by
  show _=_;unfold snapT snapF;rw [HNN.out,HL.out]
  have:(List.range N).take N=List.range N:=by rw [List.take_of_length_le (by simp)]
  rw [this]
 have HSM:Hid (∀ i,T.g i≤5000000000000000000):=h.small.g
 have HW1:Hid (Only [] w w1):=by rw [← hw1];exact o1
 clear h hE hok o1 hV1 hNN hL
 go_enter Tryz.func50,Tryz.ntmps50
 go_upto_region 2 with fail
 clear hw1 hs
 go_wp2_with (first
  | (go_at_call 97;refine hla.mono ?_;rintro e w2 ⟨B,rfl,hB,hR,o2⟩;have HV2:Hid (SvW w w2 s []):=HV1.out.other o2;have HR2:Hid (Nrs w2 w1.heap.size (.slice (some ⟨B,0,none⟩) N N) L):=hR;have hn1:=HNUM.out w2 [] N HV2.out (by decide) (by omega);clear hla hR o2 hB)
  | (go_at_call 98;refine hn1.mono ?_;rintro e w3 ⟨rfl,h3,q3⟩;have HV3:Hid (SvW w w3 s (be 8 N)):=h3;have HQ3:Hid (OthS s w2 w3):=q3;clear hn1 h3 q3))
 have HRW:Hid (∀ W,OthS s w2 W→Nrs W w1.heap.size (.slice (some ⟨B,0,none⟩) N N) L):=fun W ho=>row_oth HR2.out HV2.out ho (by decide) (by decide)
 go_loopw [19] (fun q wr=>∃ j:Nat,q = .int .i64 (j:Nat)∧j≤N∧SvW w wr s (be 8 N++(L.take j).flatMap givenB)∧OthS s w2 wr) (fun q _=>N - (intOf q).toNat)
 case atStart=>exact ⟨0,rfl,Nat.zero_le _,by simpa using HV3.out,HQ3.out⟩
 case round =>
  obtain ⟨j,rfl,hj,hV,hQ⟩:=hrel;have HV:Hid (SvW w wr s (be 8 N++(L.take j).flatMap givenB)):=hV;have HQ:Hid (OthS s w2 wr):=hQ;clear hV hQ HV3 HQ3
  by_cases hlt:j < N
  · obtain ⟨x,hx⟩:∃ x,lastF T.g T.nd j=x:=⟨_,rfl⟩
    have hat:=HAT.out j hlt;rw [hx] at hat;have HXA:Hid (L[j]?=some x):=hat
    have HXO:Hid (x.ok):=by show x.ok;rw [← hx];exact last_ok HS.out.node HSM.out
    obtain ⟨y0,y1,y2⟩:=(HRW.out wr HQ.out).cells HLL.out hat;have hBl:=lt_of_cell y0;have hsl:=HV.out.lt;have oA:Only [] wr (wr.alloc (.cells #[.int .i64 (x.g:Nat),.int .i64 (x.k:Nat),.int .i64 (x.c:Nat)] 233)):=(Only.refl [] wr).alloc _;have hgv:=given_any w _ s _ x (HV.out.other oA) (by have:=HG1.out j;omega) HXO.out;have HQA:Hid (OthS s w2 (wr.alloc (.cells #[.int .i64 (x.g:Nat),.int .i64 (x.k:Nat),.int .i64 (x.c:Nat)] 233))):=HQ.out.trans (OthS.of_only oA (fun _ hk=>by cases hk));clear hat oA hx
    go_wp2_with (go_at_call 99;refine hgv.mono ?_;rintro e w4 ⟨rfl,h4,q4⟩;have HV4:Hid (SvW w w4 s (be 8 N++(L.take (j+1)).flatMap givenB)):=(by show SvW w w4 s (be 8 N++(L.take (j+1)).flatMap givenB);rw [take_flat givenB L HXA.out,← List.append_assoc];exact h4);have HQ4:Hid (OthS s w2 w4):=HQA.out.trans q4;clear hgv h4 q4)
    go_roundw
    case rel=>exact ⟨j+1,by go_num,by omega,HV4.out,HQ4.out⟩
    case measure=>simp [intOf];omega
  · obtain rfl:N=j:=by omega
    have hj2:decide ((N:Int) < N)=false:=decide_eq_false (by omega)
    have HVB:Hid (SvW w wr s (be 8 N++L.flatMap givenB)):=by
      have:=HV.out;rw [← HLL.out,List.take_length,HLL.out] at this;exact this
    go_wp2
    clear hj2
    go_loopw [29] (fun q wq=>∃ j:Nat,q = .int .i64 (j:Nat)∧j≤N∧SvW w wq s (be 8 N++L.flatMap givenB++((List.range N).take j).flatMap (contB T.g T.nd T.ds))∧OthS s w2 wq) (fun q _=>N - (intOf q).toNat)
    case atStart=>exact ⟨0,rfl,Nat.zero_le _,by simpa using HVB.out,HQ.out⟩
    case round =>
      obtain ⟨j,rfl,hj,hV,hQ⟩:=hrel;clear HV HQ HVB;have HV:Hid (SvW w wr s (be 8 N++L.flatMap givenB++((List.range N).take j).flatMap (contB T.g T.nd T.ds))):=hV;have HQ:Hid (OthS s w2 wr):=hQ;clear hV hQ
      by_cases hlt:j < N
      · obtain ⟨x,hx⟩:∃ x,lastF T.g T.nd j=x:=⟨_,rfl⟩
        have hat:=HAT.out j hlt;rw [hx] at hat;have HX:Hid (lastF T.g T.nd j=x):=hx;have HRJ:Hid ((List.range N)[j]?=some j):=List.getElem?_range hlt;obtain ⟨y0,y1,y2⟩:=(HRW.out wr HQ.out).cells HLL.out hat;have hBl:=lt_of_cell y0;have oA:Only [] wr (wr.alloc (.cells #[.int .i64 (x.g:Nat),.int .i64 (x.k:Nat),.int .i64 (x.c:Nat)] 233)):=(Only.refl [] wr).alloc _;have HVA:Hid (SvW w (wr.alloc (.cells #[.int .i64 (x.g:Nat),.int .i64 (x.k:Nat),.int .i64 (x.c:Nat)] 233)) s (be 8 N++L.flatMap givenB++((List.range N).take j).flatMap (contB T.g T.nd T.ds))):=HV.out.other oA;have HQA:Hid (OthS s w2 (wr.alloc (.cells #[.int .i64 (x.g:Nat),.int .i64 (x.k:Nat),.int .i64 (x.c:Nat)] 233))):=HQ.out.trans (OthS.of_only oA (fun _ hk=>by cases hk));have HBX:Hid ((wr.alloc (.cells #[.int .i64 (x.g:Nat),.int .i64 (x.k:Nat),.int .i64 (x.c:Nat)] 233)).heap[wr.heap.size]?=some (.cells #[.int .i64 (x.g:Nat),.int .i64 (x.k:Nat),.int .i64 (x.c:Nat)] 233 (0,0))):=heap_alloc_last wr _;clear hat oA hx
        go_upto_region 12 with fail
        clear y0 y1 y2 hBl;generalize wr.alloc (.cells #[.int .i64 (x.g:Nat),.int .i64 (x.k:Nat),.int .i64 (x.c:Nat)] 233)=wb at HVA HQA HBX ⊢;generalize wr.heap.size=bx at HBX ⊢;have x0:wb.cell? ⟨bx,0,none⟩=some (.int .i64 (x.g:Nat)):=cell_of_row _ _ 0 _ _ _ HBX.out;have x1:wb.cell? ⟨bx,1,none⟩=some (.int .i64 (x.k:Nat)):=cell_of_row _ _ 1 _ _ _ HBX.out;have x2:wb.cell? ⟨bx,2,none⟩=some (.int .i64 (x.c:Nat)):=cell_of_row _ _ 2 _ _ _ HBX.out;have hho:=handleOf_any wb j x;have HWB:Hid (Only [] w wb):=HVA.out.only
        by_cases hk2:x.k=2
        · obtain ⟨n,hn,hK,hg⟩:=last_dir (i:=j) HS.out.node (by rw [HX.out];exact hk2)
          rw [HX.out] at hg;obtain ⟨d,hd,hd1,hd2⟩:=HS.out.dir j n hn hK
          have HCB:Hid (contB T.g T.nd T.ds j=entsB d.l):=by show _=_;unfold contB;rw [HX.out,if_pos hk2,hd]
          have HSO:Hid (∀ W,Only [] w W→Calls Tryz.prog 101 #[.pointer (some ⟨tr,0,none⟩),.agg #[.int .i64 (j:Nat),.int .i64 (x.g:Nat)]] W fun e w'=>∃ v,e = .returned v∧Ents w' W.heap.size v d.l∧Only [] W w'):=fun W ho=>by
            rw [hg];exact sorted_row W tr T j d (HT.out.only ho) hd hd1 (fun e he=>by have:=(hd2 e he).1;omega)
          have HEN:Hid (d.l.length≤60∧∀ e∈d.l,EntOk e):=⟨hd1,hd2⟩
          have d2:((x.k:Int)==2)=true:=by rw [hk2];rfl
          clear hk2 hn hK hg hd hd1 hd2
          go_wp2_with (first
            | (go_at_call 102;refine hho.mono ?_;rintro e w5 ⟨rfl,o5⟩;have HV5:Hid (SvW w w5 s (be 8 N++L.flatMap givenB++((List.range N).take j).flatMap (contB T.g T.nd T.ds))):=HVA.out.other o5;have HQ5:Hid (OthS s w2 w5):=HQA.out.trans (OthS.of_only o5 (fun _ hk=>by cases hk));have hso:=HSO.out w5 HV5.out.only;clear hho o5)
            | (go_at_call 101;refine hso.mono ?_;rintro e w6 ⟨v,rfl,hEn,o6⟩;have HV6:Hid (SvW w w6 s (be 8 N++L.flatMap givenB++((List.range N).take j).flatMap (contB T.g T.nd T.ds))):=HV5.out.other o6;have HQ6:Hid (OthS s w2 w6):=HQ5.out.trans (OthS.of_only o6 (fun _ hk=>by cases hk));have hse:=saveEntries w w6 s w5.heap.size _ v d.l HV6.out hEn HEN.out.1 HEN.out.2 (by have:=HG2.out j;omega);clear hso hEn o6)
            | (go_at_call 100;refine hse.mono ?_;rintro e w7 ⟨rfl,h7,q7⟩;have HV7:Hid (SvW w w7 s (be 8 N++L.flatMap givenB++((List.range N).take (j+1)).flatMap (contB T.g T.nd T.ds))):=(by show SvW w w7 s (be 8 N++L.flatMap givenB++((List.range N).take (j+1)).flatMap (contB T.g T.nd T.ds));rw [take_flat (contB T.g T.nd T.ds) (List.range N) HRJ.out,HCB.out,← List.append_assoc];exact h7);have HQ7:Hid (OthS s w2 w7):=HQ6.out.trans q7;clear hse h7 q7))
          go_roundw
          case rel=>exact ⟨j+1,by go_num,by omega,HV7.out,HQ7.out⟩
          case measure=>simp [intOf];omega
        · have d2:((x.k:Int)==2)=false:=beq_eq_false_iff_ne.2 (by omega)
          by_cases hk1:x.k=1
          · obtain ⟨n,hn,hK,hg⟩:=last_file (i:=j) HS.out.node (by rw [HX.out];exact hk1)
            rw [HX.out] at hg
            have HCB:Hid (contB T.g T.nd T.ds j=heldB n.S n.H):=by show _=_;unfold contB;rw [HX.out,if_neg hk2,if_pos hk1,hn]
            have d1:((x.k:Int)==1)=true:=by rw [hk1];rfl
            have HHE:Hid (∀ W l,SvW w W s l→l.length≤90000000000000→Calls Tryz.prog 103 #[.pointer (some ⟨s,0,none⟩),.pointer (some ⟨tr,0,none⟩),.agg #[.int .i64 (j:Nat),.int .i64 (x.g:Nat)]] W fun e w'=>e = .returned (.tuple #[])∧SvW w w' s (l++heldB n.S n.H)∧OthS s W w'):=fun W l hv hl=>by
             rw [hg];exact saveHeld A w W s tr j T n l hv HT.out HER.out hn hK (by omega)
            clear hk2 hk1 hn hK hg
            go_wp2_with (first
             | (go_at_call 102;refine hho.mono ?_;rintro e w5 ⟨rfl,o5⟩;have HQ5:Hid (OthS s w2 w5):=HQA.out.trans (OthS.of_only o5 (fun _ hk=>by cases hk));have hhe:=HHE.out w5 _ (HVA.out.other o5) (by have:=HG2.out j;omega);clear hho o5)
             | (go_at_call 103;refine hhe.mono ?_;rintro e w7 ⟨rfl,h7,q7⟩;have HV7:Hid (SvW w w7 s (be 8 N++L.flatMap givenB++((List.range N).take (j+1)).flatMap (contB T.g T.nd T.ds))):=(by show SvW w w7 s (be 8 N++L.flatMap givenB++((List.range N).take (j+1)).flatMap (contB T.g T.nd T.ds));rw [take_flat (contB T.g T.nd T.ds) (List.range N) HRJ.out,HCB.out,← List.append_assoc];exact h7);have HQ7:Hid (OthS s w2 w7):=HQ5.out.trans q7;clear hhe h7 q7))
            go_roundw
            case rel=>exact ⟨j+1,by go_num,by omega,HV7.out,HQ7.out⟩
            case measure=>simp [intOf];omega
          · have d1:((x.k:Int)==1)=false:=beq_eq_false_iff_ne.2 (by omega)
            have HV7:Hid (SvW w wb s (be 8 N++L.flatMap givenB++((List.range N).take (j+1)).flatMap (contB T.g T.nd T.ds))):=by
             show SvW w wb s (be 8 N++L.flatMap givenB++((List.range N).take (j+1)).flatMap (contB T.g T.nd T.ds))
             have e0:contB T.g T.nd T.ds j=[]:=by unfold contB;rw [HX.out,if_neg hk2,if_neg hk1]
             rw [take_flat (contB T.g T.nd T.ds) (List.range N) HRJ.out,e0,List.append_nil];exact HVA.out
            clear hk1 hk2 hho
            go_wp2
            go_roundw
            case rel=>exact ⟨j+1,by go_num,by omega,HV7.out,HQA.out⟩
            case measure=>simp [intOf];omega
      · obtain rfl:N=j:=by omega
        have hj2:decide ((N:Int) < N)=false:=decide_eq_false (by omega)
        have hsg:=string_any w wr s _ HV.out (by
          intro e;have:=congrArg List.length e;rw [List.length_append,List.length_append,be_length] at this
          simp at this)
        rw [HFIN.out] at hsg;have hsl:=HV.out.lt;generalize hsT:snapT T=sT at hsg;have HST:Hid (snapT T=sT):=hsT;clear hsT
        go_wp2_with (go_at_call 71;refine hsg.mono ?_;rintro e w9 ⟨rfl,o9⟩;have HO9:Hid (Only [] w w9):=o9;clear hsg o9)
        go_ret
        exact ⟨by rw [HST.out];rfl,HO9.out⟩
theorem cL_at {l:List Nmb}{i:Nat}{x:Nmb}(h:cL l i=some x):l[i]?=some x∧x.k≠0:=by
 unfold cL at h
 cases e:l[i]? with
 | none=>rw [e] at h;cases h
 | some y =>
  rw [e] at h;simp only at h
  split at h
  · cases h
  · obtain rfl:=Option.some.inj h
    exact ⟨rfl,by assumption⟩
theorem cL_of {l:List Nmb}{i:Nat}{x:Nmb}(h:l[i]?=some x)(hk:x.k≠0):cL l i=some x:=by
 unfold cL;rw [h];exact if_neg hk
def tabN (l:List Nmb)(i:Nat)(x:Nmb):Nod:=if x.k=2∧i < l.length then { resNod 0 x with Z:=0,L:=2 } else resNod 0 x
theorem tabN_is (l:List Nmb)(i:Nat)(x:Nmb):(tabN l i x).K=(x.k:Int)∧(tabN l i x).C=(x.c:Int)∧(tabN l i x).UN=0∧(tabN l i x).UG=0∧(tabN l i x).Z=0∧0≤(tabN l i x).L∧(tabN l i x).L≤2:=by
 unfold tabN
 split
 · exact ⟨rfl,rfl,rfl,rfl,rfl,(by decide:(0:Int)≤2),(by decide:(2:Int)≤2)⟩
 · exact ⟨rfl,rfl,rfl,rfl,rfl,(by decide:(0:Int)≤0),(by decide:(0:Int)≤2)⟩
theorem tabC_nd (l:List Nmb)(i:Nat):(tabC l l.length).nd i=(cL l i).map (tabN l i):=rfl
theorem tabC_ds {l:List Nmb}{i:Nat}{k:List Ent}(h:(tabC l l.length).ds i=some k):k=[]∧∃ x,cL l i=some x∧x.k=2:=by
 have h':(cL l i).bind (fun x=>if x.k=2∧i < l.length then some [] else none)=some k:=h
 cases e:cL l i with
 | none=>rw [e] at h';cases h'
 | some x =>
  rw [e] at h';simp only [Option.bind_some] at h'
  split at h'
  · rename_i hc
    exact ⟨(Option.some.inj h').symm,x,rfl,hc.1⟩
  · cases h'
theorem tabC_ds' {l:List Nmb}{i:Nat}(h:kindL l i=2):(tabC l l.length).ds i=some []:=by
 unfold kindL at h
 cases e:l[i]? with
 | none=>rw [e] at h;cases h
 | some x =>
  rw [e] at h;simp only at h;have hi:i < l.length:=(List.getElem?_eq_some_iff.1 e).1;show (cL l i).bind (fun x=>if x.k=2∧i < l.length then some [] else none)=some [];rw [cL_of e (by omega)];simp only [Option.bind_some];rw [if_pos ⟨h,hi⟩]
theorem tabC_fit (l:List Nmb):Fit l (tabC l l.length):=by
 refine ⟨rfl,rfl,fun i=>?_⟩;rw [tabC_nd,Option.map_map];congr 1;funext x;exact (tabN_is l i x).1
theorem tabC_ok {l:List Nmb}(hh:pHead l=true)(hl:∀ x∈l,x.k≤2∧x.g≤4611686018427387903∧x.c≤4611686018427387903):LcOk (tabC l l.length) 0:=by
 have hnd:∀ i n,(tabC l l.length).nd i=some n→∃ x,cL l i=some x∧l[i]?=some x∧x.k≠0∧x∈l∧n=tabN l i x:=fun i n hn=>by
   rw [tabC_nd] at hn;obtain ⟨x,hx,rfl⟩:=Option.map_eq_some_iff.1 hn;exact ⟨x,hx,(cL_at hx).1,(cL_at hx).2,List.mem_of_getElem? (cL_at hx).1,rfl⟩
 obtain ⟨x0,hx0,hk0,hg0⟩:∃ x0,l[0]?=some x0∧x0.k=2∧x0.g=0:=by
   unfold pHead at hh
   cases e:l[0]? with
   | none=>rw [e] at hh;cases hh
   | some x =>
    rw [e] at hh;simp only [Bool.and_eq_true,decide_eq_true_eq] at hh;exact ⟨x,rfl,hh.1,hh.2⟩
 refine ⟨fun i n hn=>?_,fun i n hn hK=>?_,fun i k hk=>?_,fun i k hk e he=>?_,fun i k hk=>?_,fun i n hn=>?_,fun i n hn=>?_,fun i n hn hK=>?_⟩
 · obtain ⟨x,h1,h2,h3,h4,rfl⟩:=hnd i n hn
   rw [(tabN_is l i x).1];have:=(hl x h4).1;exact ⟨by omega,(List.getElem?_eq_some_iff.1 h2).1⟩
 · obtain ⟨x,h1,h2,h3,h4,rfl⟩:=hnd i n hn
   rw [(tabN_is l i x).1] at hK;exact ⟨[],tabC_ds' (by unfold kindL;rw [h2];simp only;omega)⟩
 · obtain ⟨_,x,hx,hk2⟩:=tabC_ds hk
   exact ⟨tabN l i x,by rw [tabC_nd,hx];rfl,by rw [(tabN_is l i x).1,hk2];rfl⟩
 · obtain ⟨rfl,_⟩:=tabC_ds hk
   cases he
 · obtain ⟨rfl,_⟩:=tabC_ds hk
   exact Nat.zero_le _
 · obtain ⟨x,h1,h2,h3,h4,rfl⟩:=hnd i n hn
   obtain ⟨_,_,_,_,z,z1,z2⟩:=tabN_is l i x;exact ⟨by omega,z1,by omega⟩
 · obtain ⟨x,h1,h2,h3,h4,rfl⟩:=hnd i n hn
   rw [(tabN_is l i x).2.1];have:=(hl x h4).2.2;exact ⟨by omega,by omega⟩
 · obtain ⟨x,h1,h2,h3,h4,rfl⟩:=hnd i n hn
   obtain ⟨_,_,u1,u2,_⟩:=tabN_is l i x;refine ⟨0,tabN l 0 x0,u1,?_,by rw [tabC_nd,cL_of hx0 (by omega)];rfl,by rw [(tabN_is l 0 x0).1,hk0];rfl⟩;rw [u2];show (0:Int)=((gL l 0:Nat):Int);unfold gL;rw [hx0];simp only;rw [hg0];rfl
theorem saveOk_of {T:Tr}{q:Nat}(h:LcOk (absT T) q)(hN:T.p.N≤1000):SaveOk T:=by
 refine ⟨fun i n hn=>?_,fun i n hn hK=>?_⟩
 · have h1:=(h.kind i _ (absT_nd hn)).1
   have h2:=h.C i _ (absT_nd hn);have e1:(bareN n).K=n.K:=rfl;have e2:(bareN n).C=n.C:=rfl;rw [e1] at h1;rw [e2] at h2;exact ⟨h1,h2.1,by omega⟩
 · obtain ⟨l,hl⟩:=h.dir i _ (absT_nd hn) hK
   obtain ⟨d,hd,rfl⟩:=of_ds hl;refine ⟨d,hd,h.len i _ hl,fun e he=>?_⟩;obtain ⟨⟨m,hm⟩,_,h3⟩:=h.live i _ hl e he;have h4:e.i < T.p.N:=(h.kind _ _ hm).2;exact ⟨by omega,by omega⟩
theorem bare_nd {T T':Tr}(h:absT T=absT T')(i:Nat):(T.nd i).map bareN=(T'.nd i).map bareN:=congrFun (congrArg Lc.nd h) i
theorem snap_abs {T T':Tr}(h:absT T=absT T'):snapT T=snapT T':=by
 have hN:T.p.N=T'.p.N:=congrArg Lc.N h;have hg:T.g=T'.g:=congrArg Lc.g h;have hds:∀ i,(T.ds i).map (·.l)=(T'.ds i).map (·.l):=fun i=>congrFun (congrArg Lc.ds h) i
 have hlf:∀ i,lastF T.g T.nd i=lastF T'.g T'.nd i:=fun i=>by
  have h1:=bare_nd h i;unfold lastF;rw [hg]
  cases e:T.nd i<;>cases e':T'.nd i<;>rw [e,e'] at h1<;>simp only [Option.map_none,Option.map_some,Option.some.injEq,reduceCtorEq] at h1 ⊢
  rename_i n n';have k1:(bareN n).K=(bareN n').K:=congrArg Nod.K h1;have k2:(bareN n).L=(bareN n').L:=congrArg Nod.L h1;have k3:(bareN n).C=(bareN n').C:=congrArg Nod.C h1;have j1:n.K=n'.K:=k1;have j2:n.L=n'.L:=k2;have j3:n.C=n'.C:=k3;rw [j1,j2,j3]
 have hcb:∀ i,contB T.g T.nd T.ds i=contB T'.g T'.nd T'.ds i:=fun i=>by
  have h1:=bare_nd h i;have h2:=hds i;unfold contB;rw [hlf i]
  split
  · cases e:T.ds i<;>cases e':T'.ds i<;>rw [e,e'] at h2<;>simp only [Option.map_none,Option.map_some,Option.some.injEq,reduceCtorEq] at h2 ⊢
    rw [h2]
  · split
    · cases e:T.nd i<;>cases e':T'.nd i<;>rw [e,e'] at h1<;>simp only [Option.map_none,Option.map_some,Option.some.injEq,reduceCtorEq] at h1 ⊢
      rename_i n n';have k1:(bareN n).S=(bareN n').S:=congrArg Nod.S h1;have k2:(bareN n).H=(bareN n').H:=congrArg Nod.H h1;have j1:n.S=n'.S:=k1;have j2:n.H=n'.H:=k2;rw [j1,j2]
    · rfl
 unfold snapT snapF lastL;rw [hN,funext hcb];congr 2;congr 1;apply List.map_congr_left;intro i hi;have hi':=List.mem_range.1 hi;rw [if_pos hi',if_pos hi'];exact hlf i
end
end Go.Proofs.YtmnidbnaneagjaaGreatDoor
