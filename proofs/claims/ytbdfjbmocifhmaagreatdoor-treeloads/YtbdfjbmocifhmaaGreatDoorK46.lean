import Derived.Test.YtbdfjbmocifhmaaGreatDoorK30
import Derived.Test.YtbdfjbmocifhmaaGreatDoorK45
set_option maxRecDepth 100000
set_option maxHeartbeats 8000000
namespace Go.Proofs.YtbdfjbmocifhmaaGreatDoor
section
open Go Go.RowKit Go.Deep
def pceB (S:ByteArray)(p:Nat×Nat):List UInt8:=be 8 p.1++(itemS (readB S ((p.1*64:Nat):Int) ((p.2*64:Nat):Int)).1).data.toList
def heldB (S:ByteArray)(H:List Bool):List UInt8:=be 8 S.size++be 8 (pcs (wrH H)).length++(pcs (wrH H)).flatMap (pceB S)
theorem readB_most (S:ByteArray)(a n:Nat):(readB S (a:Int) (n:Int)).1.size≤n:=by
 unfold readB;rw [if_neg (by omega)]
 split
 · exact Nat.zero_le _
 · split
   · simp only [ByteArray.size_extract];omega
   · simp only [ByteArray.size_extract];omega
theorem pceB_len (S:ByteArray){p:Nat×Nat}(h:p.2≤32):(pceB S p).length≤2100:=by
 unfold pceB;have h1:=item_len (readB S ((p.1*64:Nat):Int) ((p.2*64:Nat):Int)).1;have h2:=readB_most S (p.1*64) (p.2*64);rw [List.length_append,be_length];omega
theorem wrH_len (H:List Bool):(wrH H).length≤64:=Nat.le_trans (List.length_filter_le _ _) (by simp)
theorem saveHeld (A:Nat→Addr)(w0 w:World)(s tr i:Nat)(T:Tr)(n:Nod)(l:List UInt8)(h:SvW w0 w s l)(hT:TreeAt w0 tr T)(hE:Errs w0 A)(hn:T.nd i=some n)(hK:n.K=1)(hl:l.length≤99000000000000):
  Calls Tryz.prog 45 #[.pointer (some ⟨s,0,none⟩),.pointer (some ⟨tr,0,none⟩),.agg #[.int .i64 (i:Nat),.int .i64 (T.g i:Nat)]] w fun e w'=>e = .returned (.tuple #[])∧SvW w0 w' s (l++heldB n.S n.H)∧OthS s w w':=by
 have H:Hid (SvW w0 w s l):=h;have HT:Hid (∀ W,Only [] w0 W→TreeAt W tr T):=fun W ho=>hT.only ho;have HD:Hid (∀ W,Only [] w0 W→Calls Tryz.prog 89 #[.pointer (some ⟨T.t,0,none⟩),.agg #[.int .i64 (i:Nat),.int .i64 (T.g i:Nat)]] W fun e w'=>e = .returned (.tuple #[.pointer (some ⟨n.b,6,none⟩),.nilIface])∧Only [] W w'):=fun W ho=>tdata_ok W T.t T.p T.most i T.g T.nd n (hT.only ho).tab hn hK;have HDO:Hid (∀ W,Only [] w0 W→DataO W n.b 6 n.S n.H n.m):=fun W ho=>((hT.only ho).tab.node i n hn).d
 have HER:Hid (∀ W,Only [] w0 W→W.cell? ⟨2,0,none⟩=some (.iface 300 (.pointer (some (A 1))))):=fun W ho=>by
  have c1:w0.cell? ⟨2,0,none⟩=some (.iface 300 (.pointer (some (A 1)))):=hE.cell 1 (by decide);exact (ho.cell (lt_of_cell c1) (by simp)).trans c1
 obtain ⟨ks,hks⟩:∃ ks,wrH n.H=ks:=⟨_,rfl⟩;obtain ⟨mk,hm⟩:∃ mk,ks.length=mk:=⟨_,rfl⟩
 have hmk:mk≤64:=by rw [← hm,← hks];exact wrH_len n.H
 have hkl:∀ k∈ks,k < 64:=fun k hk=>wrH_lt (H:=n.H) (by rw [hks];exact hk);obtain ⟨ps,hps⟩:∃ ps,pcs ks=ps:=⟨_,rfl⟩;obtain ⟨m,hpm⟩:∃ m,ps.length=m:=⟨_,rfl⟩;have HKM:Hid (ps.length=m):=hpm
 have HM:Hid (m≤64):=by show m≤64;rw [← hpm,← hps];have:=pcs_len ks;omega
 have HPO:Hid (PcOk 64 ps):=by show PcOk 64 ps;rw [← hps];exact pcs_ok hkl
 have HWR:Hid (∀ W,Only [] w0 W→Calls Tryz.prog 107 #[.pointer (some ⟨n.b,6,none⟩)] W fun e w'=>∃ v,e = .returned v∧w'.ownsRow W.heap.size 3 1 v mk (ks.map (fun k:Nat=>Value.int .i64 (k:Nat)))∧Only [] W w'):=fun W ho=>by
  have:=written_any W n.b 6 n.S n.H n.m (HDO.out W ho);rw [hks,hm] at this;exact this
 have HSZ:Hid (∀ W,Only [] w0 W→Calls Tryz.prog 105 #[.pointer (some ⟨n.b,6,none⟩)] W fun e w'=>e = .returned (.int .i64 (n.S.size:Nat))∧W=w'):=fun W ho=>dsizeO W n.b 6 n.S n.H n.m (HDO.out W ho)
 have HPC:Hid (∀ W base v,W.ownsRow base 3 1 v mk (ks.map (fun k:Nat=>Value.int .i64 (k:Nat)))→Calls Tryz.prog 106 #[v] W fun e w'=>∃ v',e = .returned v'∧Pcs w' W.heap.size v' ps∧Only [] W w'):=fun W base v hr=>by
  have:=pieces_any W base mk v ks hr hm hmk hkl;rw [hps] at this;exact this
 have HRD:Hid (∀ W (p:Nat×Nat),Only [] w0 W→p.1 < 64→p.2≤32→Calls Tryz.prog 108 #[.pointer (some ⟨n.b,6,none⟩),.int .i64 ((p.1:Int)*64),.int .i64 ((p.2:Int)*64)] W fun e w'=>e = .returned (.tuple #[.string (readB n.S ((p.1*64:Nat):Int) ((p.2*64:Nat):Int)).1,.bool (readB n.S ((p.1*64:Nat):Int) ((p.2*64:Nat):Int)).2.1,.nilIface])∧Only [] W w'):=fun W p ho h1 h2=>by
  have:=dread_anyO W n.b 6 n.S n.H n.m ((p.1*64:Nat):Int) ((p.2*64:Nat):Int) _ (HDO.out W ho) (HER.out W ho) (by omega) (by omega);rw [if_neg (by omega)] at this
  have e:((p.1*64:Nat):Int)=(p.1:Int)*64:=by omega
  have e2:((p.2*64:Nat):Int)=(p.2:Int)*64:=by omega
  rw [e,e2] at this ⊢;exact this
 have hS4:n.S.size≤4096:=by
  obtain ⟨f,hs,_⟩:=(HDO.out w0 (Only.refl _ _)).holds;exact hs.le
 have HFIN:Hid (l++be 8 n.S.size++be 8 m++(ps.take m).flatMap (pceB n.S)=l++heldB n.S n.H):=by
  show _=_;unfold heldB;rw [hks,hps,← HKM.out,List.take_length,← List.append_assoc,← List.append_assoc]
 have HNUM:Hid (∀ W l' k,SvW w0 W s l'→l'.length≤100000000000000→k≤1000000→Calls Tryz.prog 40 #[.pointer (some ⟨s,0,none⟩),.int .i64 (k:Nat)] W fun e w'=>e = .returned (.tuple #[])∧SvW w0 w' s (l'++be 8 k)∧OthS s W w'):=fun W l' k k1 k2 k3=>number_any w0 W s l' k k1 (by omega) (by omega);have HBYT:Hid (∀ W l' (p:Nat×Nat),p.2≤32→SvW w0 W s l'→l'.length≤100000000000000→Calls Tryz.prog 102 #[.pointer (some ⟨s,0,none⟩),.string (readB n.S ((p.1*64:Nat):Int) ((p.2*64:Nat):Int)).1] W fun e w'=>e = .returned (.tuple #[])∧SvW w0 w' s (l'++(itemS (readB n.S ((p.1*64:Nat):Int) ((p.2*64:Nat):Int)).1).data.toList)∧OthS s W w'):=fun W l' p hp k1 k2=>bytes_any w0 W s l' _ k1 (by omega) (by have:=readB_most n.S (p.1*64) (p.2*64);omega)
 have HLT:Hid (∀ j,(l++be 8 n.S.size++be 8 m++(ps.take j).flatMap (pceB n.S)).length≤99100000000000):=fun j=>by
  have h1:=flat_len (f:=pceB n.S) (K:=2100) (es:=ps.take j) (fun e he=>pceB_len n.S (HPO.out e (List.mem_of_mem_take he)).2.2)
  have h2:(ps.take j).length≤64:=by rw [List.length_take];have:=HM.out;rw [← HKM.out] at this;omega
  rw [List.length_append,List.length_append,List.length_append,be_length,be_length];omega
 have HL:Hid (l.length≤99000000000000):=hl;have hml:=HM.out;have hslt:=h.lt;have HW0:Hid (Only [] w0 w):=h.only;have HST:Hid (∀ W,Only [] w0 W→W.cell? ⟨tr,0,none⟩=some (.pointer (some ⟨T.t,0,none⟩))):=fun W ho=>(hT.only ho).c0;have htr:tr < w.heap.size:=lt_of_cell (HST.out w HW0.out);have oB:Only [] w (w.alloc (.cells #[.int .i64 (i:Nat),.int .i64 (T.g i:Nat)] 34)):=(Only.refl [] w).alloc _;have HWB:Hid (Only [] w0 (w.alloc (.cells #[.int .i64 (i:Nat),.int .i64 (T.g i:Nat)] 34)).drew):=(HW0.out.trans oB (fun _ hk=>by cases hk)).drew;have HS0:Hid ((w.alloc (.cells #[.int .i64 (i:Nat),.int .i64 (T.g i:Nat)] 34)).drew.cell? ⟨tr,0,none⟩=some (.pointer (some ⟨T.t,0,none⟩))∧(w.alloc (.cells #[.int .i64 (i:Nat),.int .i64 (T.g i:Nat)] 34)).drew.cell? ⟨w.heap.size,0,none⟩=some (.int .i64 (i:Nat))∧(w.alloc (.cells #[.int .i64 (i:Nat),.int .i64 (T.g i:Nat)] 34)).drew.cell? ⟨w.heap.size,1,none⟩=some (.int .i64 (T.g i:Nat))):=⟨HST.out _ HWB.out,cell_of_row _ _ 0 _ _ _ (heap_alloc_last w _),cell_of_row _ _ 1 _ _ _ (heap_alloc_last w _)⟩;have HVB:Hid (SvW w0 (w.alloc (.cells #[.int .i64 (i:Nat),.int .i64 (T.g i:Nat)] 34)).drew s l):=h.other oB.drew;have HQB:Hid (OthS s w (w.alloc (.cells #[.int .i64 (i:Nat),.int .i64 (T.g i:Nat)] 34)).drew):=OthS.of_only oB.drew (fun _ hk=>by cases hk);have hdt:=HD.out _ HWB.out;have HAFT:Hid (∀ w1,Only [] (w.alloc (.cells #[.int .i64 (i:Nat),.int .i64 (T.g i:Nat)] 34)).drew w1→SvW w0 w1 s l∧OthS s w w1∧w1.cell? ⟨tr,0,none⟩=some (.pointer (some ⟨T.t,0,none⟩))∧w1.cell? ⟨w.heap.size,0,none⟩=some (.int .i64 (i:Nat))∧w1.cell? ⟨w.heap.size,1,none⟩=some (.int .i64 (T.g i:Nat))):=fun w1 o1=>⟨HVB.out.other o1,HQB.out.trans (OthS.of_only o1 (fun _ hk=>by cases hk)),HST.out w1 (HVB.out.other o1).only,(o1.cell (p:=⟨w.heap.size,0,none⟩) (lt_of_cell HS0.out.2.1) (by simp)).trans HS0.out.2.1,(o1.cell (p:=⟨w.heap.size,1,none⟩) (lt_of_cell HS0.out.2.2) (by simp)).trans HS0.out.2.2⟩;clear h hT hE hn hl hks hm hmk hkl hps hpm oB
 go_enter Tryz.func45,Tryz.ntmps45
 go_upto_region 1 with fail
 go_region_held3 (fun W=>W.cell? ⟨tr,0,none⟩=some (.pointer (some ⟨T.t,0,none⟩))∧W.cell? ⟨w.heap.size,0,none⟩=some (.int .i64 (i:Nat))∧W.cell? ⟨w.heap.size,1,none⟩=some (.int .i64 (T.g i:Nat))) (with_reducible first | exact HS0.out | exact HS1.out)
  ((go_at_call 89;refine hdt.mono ?_;rintro e w1 ⟨rfl,o1⟩;have HV1:Hid (SvW w0 w1 s l):=(HAFT.out w1 o1).1;have HQ1:Hid (OthS s w w1):=(HAFT.out w1 o1).2.1;have HS1:Hid (w1.cell? ⟨tr,0,none⟩=some (.pointer (some ⟨T.t,0,none⟩))∧w1.cell? ⟨w.heap.size,0,none⟩=some (.int .i64 (i:Nat))∧w1.cell? ⟨w.heap.size,1,none⟩=some (.int .i64 (T.g i:Nat))):=(HAFT.out w1 o1).2.2;clear o1))
 clear hdt;have hsz:=HSZ.out w1 HV1.out.only
 go_wp2_with (first
  | (go_at_call 105;refine hsz.mono ?_;rintro e w2 ⟨rfl,rfl⟩;have hn1:=HNUM.out w1 l n.S.size HV1.out (by have:=HL.out;omega) (by omega);clear hsz)
  | (go_at_call 40;refine hn1.mono ?_;rintro e w3 ⟨rfl,h3,q3⟩;have HV3:Hid (SvW w0 w3 s (l++be 8 n.S.size)):=h3;have HQ3:Hid (OthS s w w3):=HQ1.out.trans q3;have hwr:=HWR.out w3 h3.only;clear hn1 h3 q3)
  | (go_at_call 107;refine hwr.mono ?_;rintro e w4 ⟨v4,rfl,hrow,o4⟩;have HV4:Hid (SvW w0 w4 s (l++be 8 n.S.size)):=HV3.out.other o4;have HQ4:Hid (OthS s w w4):=HQ3.out.trans (OthS.of_only o4 (fun _ hk=>by cases hk));have hpc:=HPC.out w4 _ v4 hrow;clear hwr hrow o4)
  | (go_at_call 106;refine hpc.mono ?_;rintro e w5 ⟨v,rfl,hrow,o5⟩;have HR5:Hid (Pcs w5 w4.heap.size v ps):=hrow;have HV5:Hid (SvW w0 w5 s (l++be 8 n.S.size)):=HV4.out.other o5;have HQ5:Hid (OthS s w w5):=HQ4.out.trans (OthS.of_only o5 (fun _ hk=>by cases hk));obtain ⟨ad,cap,hv⟩:∃ ad cap,v = .slice ad m cap:=(by obtain ⟨ad,cap,e,_⟩:=hrow.form;exact ⟨ad,cap,by rw [e,HKM.out]⟩);subst hv;have hn2:=HNUM.out w5 _ m HV5.out (by have:=HL.out;rw [List.length_append,be_length];omega) (by omega);clear hpc hrow o5)
  | (go_at_call 40;refine hn2.mono ?_;rintro e w6 ⟨rfl,h6,q6⟩;have HV6:Hid (SvW w0 w6 s (l++be 8 n.S.size++be 8 m)):=h6;have HQ6:Hid (OthS s w w6):=HQ5.out.trans q6;have HR6:Hid (Pcs w6 w4.heap.size (.slice ad m cap) ps):=row_oth HR5.out HV5.out q6 (by decide) (by decide);clear hn2 h6 q6))
 have HCELL:Hid (∀ W j p,OthS s w6 W→ps[j]?=some p→∃ g,ad=some ⟨g,0,none⟩∧g < W.heap.size∧W.cell? ⟨g,j*2,none⟩=some (.int .i64 (p.1:Nat))∧W.cell? ⟨g,j*2+1,none⟩=some (.int .i64 (p.2:Nat))):=fun W j p ho hp=>by
  have hr:Pcs W w4.heap.size (.slice ad m cap) ps:=row_oth HR6.out HV6.out ho (by decide) (by decide);obtain ⟨ad',cap',e,hsome⟩:=hr.form;rw [HKM.out] at e;simp only [Value.slice.injEq,true_and] at e;obtain ⟨rfl,rfl⟩:=e;obtain ⟨g,rfl⟩:=hsome (fun e=>by rw [e] at hp;cases hp);obtain ⟨c0,c1,_,_,hl⟩:=hr.cells HKM.out hp;exact ⟨g,rfl,hl,c0,c1⟩
 clear HAFT HV1 HQ1 HV3 HQ3 HV4 HQ4 HV5 HQ5 HR5 HS0 HS1 HVB HQB HWB
 go_loopw [38] (fun q wr=>∃ j:Nat,q = .int .i64 (j:Nat)∧j≤m∧SvW w0 wr s (l++be 8 n.S.size++be 8 m++(ps.take j).flatMap (pceB n.S))∧OthS s w6 wr) (fun q _=>m - (intOf q).toNat)
 case atStart=>exact ⟨0,rfl,Nat.zero_le _,by simpa using HV6.out,OthS.refl _ _⟩
 case round =>
  obtain ⟨j,rfl,hj,hV,hQ⟩:=hrel;have HV:Hid (SvW w0 wr s (l++be 8 n.S.size++be 8 m++(ps.take j).flatMap (pceB n.S))):=hV;have HQ:Hid (OthS s w6 wr):=hQ;clear hV hQ
  by_cases hlt:j < m
  · obtain ⟨p,hp⟩:∃ p,ps[j]?=some p:=⟨ps[j]'(by have:=HKM.out;omega),List.getElem?_eq_getElem _⟩
    have HKJ:Hid (ps[j]?=some p):=hp;obtain ⟨g,rfl,hgl,y0,y1⟩:=HCELL.out wr j p HQ.out hp;have hpo:=HPO.out p (List.mem_of_getElem? hp);obtain ⟨p1,p2⟩:=p;simp only at y0 y1 hpo;have hp1:=hpo.1;have hp2:=hpo.2.2;have o1:Only [] wr (wr.alloc (.cells #[.int .i64 (p1:Nat),.int .i64 (p2:Nat)] 177)):=(Only.refl [] wr).alloc _
    have HB:Hid (∀ W,OthS s (wr.alloc (.cells #[.int .i64 (p1:Nat),.int .i64 (p2:Nat)] 177)) W→W.cell? ⟨wr.heap.size,0,none⟩=some (.int .i64 (p1:Nat))∧W.cell? ⟨wr.heap.size,1,none⟩=some (.int .i64 (p2:Nat))∧wr.heap.size < W.heap.size):=fun W ho=>by
      have hs:=HV.out.lt;have hb:=ho.block wr.heap.size _ _ _ (heap_alloc_last wr (.cells #[.int .i64 (p1:Nat),.int .i64 (p2:Nat)] 177)) (by decide) (fun e=>by omega);exact ⟨cell_of_row _ _ 0 _ _ _ hb,cell_of_row _ _ 1 _ _ _ hb,(Array.getElem?_eq_some_iff.1 hb).1⟩
    have HV1:Hid (SvW w0 (wr.alloc (.cells #[.int .i64 (p1:Nat),.int .i64 (p2:Nat)] 177)) s (l++be 8 n.S.size++be 8 m++(ps.take j).flatMap (pceB n.S))):=HV.out.other o1;have HQ1:Hid (OthS s w6 (wr.alloc (.cells #[.int .i64 (p1:Nat),.int .i64 (p2:Nat)] 177))):=HQ.out.trans (OthS.of_only o1 (fun _ hk=>by cases hk));have hrd:=HRD.out (wr.alloc (.cells #[.int .i64 (p1:Nat),.int .i64 (p2:Nat)] 177)) (p1,p2) HV1.out.only hp1 hp2;simp only at hrd;obtain ⟨en,hen⟩:∃ en,(readB n.S ((p1*64:Nat):Int) ((p2*64:Nat):Int)).2.1=en:=⟨_,rfl⟩;rw [hen] at hrd;obtain ⟨tx,htx⟩:∃ tx,(readB n.S ((p1*64:Nat):Int) ((p2*64:Nat):Int)).1=tx:=⟨_,rfl⟩;rw [htx] at hrd
    have HBT:Hid (∀ W l',SvW w0 W s l'→l'.length≤100000000000000→Calls Tryz.prog 102 #[.pointer (some ⟨s,0,none⟩),.string tx] W fun e w'=>e = .returned (.tuple #[])∧SvW w0 w' s (l'++(itemS tx).data.toList)∧OthS s W w'):=fun W l' k1 k2=>by
      have:=HBYT.out W l' (p1,p2) hp2 k1 k2;simp only [htx] at this;exact this
    have HTX:Hid ((readB n.S ((p1*64:Nat):Int) ((p2*64:Nat):Int)).1=tx):=htx;obtain ⟨b0,b1,b2⟩:=HB.out _ (OthS.refl s _);clear hp hen htx o1 HV HQ hpo
    go_wp2_with (first
      | (go_at_call 108;refine hrd.mono ?_;rintro e w7 ⟨rfl,o7⟩;have HV7:Hid (SvW w0 w7 s (l++be 8 n.S.size++be 8 m++(ps.take j).flatMap (pceB n.S))):=HV1.out.other o7;have HQ7:Hid (OthS s (wr.alloc (.cells #[.int .i64 (p1:Nat),.int .i64 (p2:Nat)] 177)) w7):=OthS.of_only o7 (fun _ hk=>by cases hk);obtain ⟨b0,b1,b2⟩:=HB.out w7 HQ7.out;have hn3:=HNUM.out w7 _ p1 HV7.out (by have:=HLT.out j;omega) (by omega);clear hrd o7)
      | (go_at_call 40;refine hn3.mono ?_;rintro e w8 ⟨rfl,h8,q8⟩;have hb8:=HBT.out w8 _ h8 (by have:=HLT.out j;rw [List.length_append,be_length];omega);have HQ8:Hid (OthS s (wr.alloc (.cells #[.int .i64 (p1:Nat),.int .i64 (p2:Nat)] 177)) w8):=HQ7.out.trans q8;clear hn3 h8 q8)
      | (go_at_call 102;refine hb8.mono ?_;rintro e w9 ⟨rfl,h9,q9⟩;have HV9:Hid (SvW w0 w9 s (l++be 8 n.S.size++be 8 m++(ps.take (j+1)).flatMap (pceB n.S))):=(by show SvW w0 w9 s (l++be 8 n.S.size++be 8 m++(ps.take (j+1)).flatMap (pceB n.S));rw [take_flat (pceB n.S) ps HKJ.out];unfold pceB;simp only;rw [HTX.out,← List.append_assoc,← List.append_assoc];exact h9);have HQ9:Hid (OthS s w6 w9):=HQ1.out.trans (HQ8.out.trans q9);clear hb8 h9 q9))
    go_roundw
    case rel=>exact ⟨j+1,by go_num,by omega,HV9.out,HQ9.out⟩
    case measure=>simp [intOf];omega
  · obtain rfl:m=j:=by omega
    have hj2:decide ((m:Int) < m)=false:=decide_eq_false (by omega)
    go_wp2
    go_end0
    refine ⟨rfl,?_,HQ6.out.trans HQ.out⟩;rw [← HFIN.out];exact HV.out
end
end Go.Proofs.YtbdfjbmocifhmaaGreatDoor
