import Derived.Test.YtofbkeecbdahnaaGreatDoorK43
set_option maxRecDepth 100000
set_option maxHeartbeats 8000000
namespace Go.Proofs.YtofbkeecbdahnaaGreatDoor
section
open Go Go.RowKit Go.Deep Go.Maps Go.Sort Go.Shelf
def wrH (H:List Bool):List Nat:=(List.range 64).filter (fun k=>isF H k)
theorem wrH_lt {H:List Bool}{k:Nat}(h:k∈wrH H):k < 64:=List.mem_range.1 (List.mem_filter.1 h).1
theorem keys_perm {D:DataW Unit}{f:Nat→Option (List UInt8)}(h:Holds D f)(hT:Tidy D)(hK:∀ es,D = .map es→∀ p∈es,WideAt.IsKeyLit p.1):(intKeys D).Perm (((List.range 64).filter (fun k=>(f k).isSome)).map (fun k:Nat=>(k:Int))):=by
 obtain ⟨es,rfl,hp⟩:=hT
 have n1:(es.map Prod.fst).Nodup:=by
  unfold List.Nodup;rw [List.pairwise_map];exact hp
 have n2:(((List.range 64).filter (fun k=>(f k).isSome)).map key).Nodup:=by
  unfold List.Nodup;rw [List.pairwise_map];exact (List.Pairwise.filter _ (List.nodup_range (n:=64))).imp (fun hne e=>hne (key_inj e))
 have hm:(es.map Prod.fst).Perm (((List.range 64).filter (fun k=>(f k).isSome)).map key):=by
  rw [List.perm_ext_iff_of_nodup n1 n2];intro kl
  constructor
  · intro hk
    obtain ⟨p,hp1,rfl⟩:=List.mem_map.1 hk;have hh:has (.map es) p.1=true:=List.any_eq_true.2 ⟨p,hp1,WideAt.sameKey_self (hK es rfl p hp1)⟩;obtain ⟨k,hk64,ek⟩:=h.keys _ hh;refine List.mem_map.2 ⟨k,List.mem_filter.2 ⟨List.mem_range.2 hk64,?_⟩,ek.symm⟩;rw [h.isSome k,← ek];exact hh
  · intro hk
    obtain ⟨k,hk1,rfl⟩:=List.mem_map.1 hk;have hs:=(List.mem_filter.1 hk1).2;rw [h.isSome k] at hs;obtain ⟨p,hp1,hp2⟩:=List.any_eq_true.1 hs;exact List.mem_map.2 ⟨p,hp1,WideAt.sameKey_eq hp2⟩
 have e1:intKeys (.map es:DataW Unit)=(es.map Prod.fst).map (fun l=>match l with | .int _ n=>n | _=>0):=by
  show es.map _=_;rw [List.map_map];apply List.map_congr_left;rintro ⟨l,d⟩ _
  cases l<;>rfl
 rw [e1];have:=hm.map (fun l=>match l with | .int _ n=>n | _=>(0:Int));rw [List.map_map (f:=key)] at this;exact this
theorem sort_is {ss:List Int}{ks:List Nat}(hp:ss.Perm (ks.map (fun k:Nat=>(k:Int))))(hr:ks.Pairwise (· < ·)):ss.mergeSort (fun x y=>decide (x≤y))=ks.map (fun k:Nat=>(k:Int)):=by
 have hpm:(ss.mergeSort (fun x y=>decide (x≤y))).Perm ss:=List.mergeSort_perm _ _;refine List.Perm.eq_of_pairwise (le:=fun x y:Int=>decide (x≤y)=true) (fun a b _ _ h1 h2=>Int.le_antisymm (of_decide_eq_true h1) (of_decide_eq_true h2)) (List.pairwise_mergeSort (fun x y z h1 h2=>by simp only [decide_eq_true_eq] at *;omega) (fun x y=>by simp only [Bool.or_eq_true,decide_eq_true_eq];omega) ss) ?_ (hpm.trans hp);rw [List.pairwise_map];exact hr.imp (fun h=>decide_eq_true (by omega))
theorem ikeys_any (mb:Option Nat)(W:World):Calls Tryz.prog 139 #[.map mb] W fun e w'=>e = .returned (.func (.func 165) #[] #[.pointer (some ⟨W.heap.size,0,none⟩)])∧w'=W.alloc (.cells #[.map mb] 197) :=
 callsIn_wide.1 (AnyZI.keys_in Tryz.keysI Fence.wide 5 trivial rfl mb W)
theorem tsortsI (m:Nat):AnyZI.SortsIn Tryz.prog Tryz.sortedI_ren Fence.wide m :=
 ⟨fun blk off cap ss W hH hblk hsz=>callsIn_wide.2 (AnyM.slices_Sort_int Tryz.sortIL blk off cap ss W hH hblk hsz),fun p cap W=>callsIn_wide.2 (AnyM.slices_Sort_int_none Tryz.sortIL p cap W)⟩
theorem isorted_any (m:Option Nat)(f:Nat→Option (List UInt8))(w:World)(hm:MapAt w m f):
  Calls Tryz.prog 138 #[.func (.func 165) #[] #[.pointer (some ⟨w.heap.size,0,none⟩)]] (w.alloc (.cells #[.map m] 197)) fun e w'=>∃ v,e = .returned v ∧
   w'.ownsRow w.heap.size 3 1 v ((List.range 64).filter (fun k=>(f k).isSome)).length (((List.range 64).filter (fun k=>(f k).isSome)).map (fun k:Nat=>Value.int .i64 (k:Nat)))∧Only [] w w':=by
 have fin:∀ (N:Nat) (S:List Int→Prop),(∀ ss,S ss→ss.Perm (((List.range 64).filter (fun k=>(f k).isSome)).map (fun k:Nat=>(k:Int))))→N≤64 →
   SeqGives Fence.wide 2 Tryz.prog 165 #[.pointer (some ⟨w.heap.size,0,none⟩)] encZ S N (w.alloc (.cells #[.map m] 197)) →
   Calls Tryz.prog 138 #[.func (.func 165) #[] #[.pointer (some ⟨w.heap.size,0,none⟩)]] (w.alloc (.cells #[.map m] 197)) fun e w'=>∃ v,e = .returned v ∧
   w'.ownsRow w.heap.size 3 1 v ((List.range 64).filter (fun k=>(f k).isSome)).length (((List.range 64).filter (fun k=>(f k).isSome)).map (fun k:Nat=>Value.int .i64 (k:Nat)))∧Only [] w w':=fun N S hS hN hseq=>by
  have hc:=AnyZI.sorted_in Tryz.sortedI Fence.wide 5 trivial trivial trivial trivial rfl (by omega) (tsortsI _) (enters_of Tryz.func164 (by kernel_rfl) rfl) 165 #[.pointer (some ⟨w.heap.size,0,none⟩)] trivial (enters_of Tryz.func165 (by kernel_rfl) rfl) S N (Nat.le_trans hN (by decide)) (by omega) _ hseq;refine (callsIn_wide.1 hc).mono fun e w' hh=>?_;obtain ⟨v,ss,he,hp,hrow,_,hb⟩:=hh;have hp2:=hS ss hp;rw [sort_is hp2 (List.Pairwise.filter _ List.pairwise_lt_range),hp2.length_eq,List.length_map,List.map_map] at hrow;exact ⟨v,he,ownsRow_base_a hrow (by simp),((Only.refl [] w).alloc _).trans (Only.of_below hb []) (fun _ hk=>by cases hk)⟩
 cases m with
 | none =>
  refine fin 0 (fun ss=>ss=[]) (fun ss hs=>?_) (by omega) (AnyZI.keys_gives_nil (ρ:=Tryz.keysI_ren) { Tryz.keysI with } Fence.wide _ trivial rfl w.heap.size _ (by simp) (by simp))
  rw [hs,show f=_ from hm]
  simp
 | some b =>
  obtain ⟨D,hown,hf⟩:=hm;have hbl:=hown.lt
  have hpk:=keys_perm hf (hown.tidy lawInt) (fun es e p hp=>by
   obtain ⟨es',e',_,hk⟩:=hown.entries lawInt;rw [e] at e'
   cases e'
   exact hk p hp)
  have hsz:=(own_tight hown hf).2
  refine fin (Maps.size D) (fun ss=>ss.Perm (intKeys D)) (fun ss hs=>hs.trans hpk) ?_ (AnyZI.keys_gives (ρ:=Tryz.keysI_ren) { Tryz.keysI with } Fence.wide _ trivial rfl (by omega) w.heap.size b 64 D _ (by simp) (by simp) (by
   obtain ⟨es,clock,hb,Ft,hs,hD⟩:=hown
   exact ⟨es,clock,(Below.heap_alloc _ _ b hbl).trans hb,Ft,hs,hD⟩))
  rw [hsz];exact Nat.le_trans (List.length_filter_le _ _) (by simp)
theorem written_any (w:World)(g o:Nat)(S:ByteArray)(H:List Bool)(m:Option Nat)(hD:DataO w g o S H m):
  Calls Tryz.prog 107 #[.pointer (some ⟨g,o,none⟩)] w fun e w'=>∃ v,e = .returned v∧w'.ownsRow w.heap.size 3 1 v (wrH H).length ((wrH H).map (fun k:Nat=>Value.int .i64 (k:Nat)))∧Only [] w w':=by
 obtain ⟨f,hs,hm⟩:=hD.holds;have hc:=hD.map;have e:(List.range 64).filter (fun k=>(f k).isSome)=wrH H:=List.filter_congr fun k hk=>hs.holes k (List.mem_range.1 hk);have hso:=isorted_any m f w hm;rw [e] at hso;have hke:=ikeys_any m w;clear hD hs hm e
 go_enter Tryz.func107,Tryz.ntmps107
 go_wp2_with (first
  | (go_at_call 139;refine hke.mono ?_;rintro e w1 ⟨rfl,rfl⟩)
  | (go_at_call 138;refine hso.mono ?_;rintro e w2 ⟨v,rfl,h2,o2⟩;have HR:Hid (w2.ownsRow w.heap.size 3 1 v (wrH H).length ((wrH H).map (fun k:Nat=>Value.int .i64 (k:Nat)))∧Only [] w w2):=⟨h2,o2⟩;clear h2 o2))
 go_ret
 exact ⟨v,rfl,HR.out⟩
end
section
open Go Go.RowKit Go.Deep
def blkB (S:ByteArray)(k:Nat):List UInt8:=be 8 k++(itemS (readB S ((k*64:Nat):Int) 64).1).data.toList
def heldB (S:ByteArray)(H:List Bool):List UInt8:=be 8 S.size++be 8 (H.filter (!·)).length++(wrH H).flatMap (blkB S)
theorem readB_le (S:ByteArray)(k:Nat):(readB S ((k*64:Nat):Int) 64).1.size≤64:=by
 unfold readB;rw [if_neg (by omega)]
 split
 · exact Nat.zero_le _
 · split
   · simp only [ByteArray.size_extract];omega
   · simp only [ByteArray.size_extract];omega
theorem blkB_len (S:ByteArray)(k:Nat):(blkB S k).length≤100:=by
 unfold blkB;have h1:=item_len (readB S ((k*64:Nat):Int) 64).1;have h2:=readB_le S k;rw [List.length_append,be_length];omega
theorem wrH_len (H:List Bool):(wrH H).length≤64:=Nat.le_trans (List.length_filter_le _ _) (by simp)
theorem saveHeld (A:Nat→Addr)(w0 w:World)(s tr i:Nat)(T:Tr)(n:Nod)(l:List UInt8)(h:SvW w0 w s l)(hT:TreeAt w0 tr T)(hE:Errs w0 A)(hn:T.nd i=some n)(hK:n.K=1)(hl:l.length≤99000000000000):
  Calls Tryz.prog 45 #[.pointer (some ⟨s,0,none⟩),.pointer (some ⟨tr,0,none⟩),.agg #[.int .i64 (i:Nat),.int .i64 (T.g i:Nat)]] w fun e w'=>e = .returned (.tuple #[])∧SvW w0 w' s (l++heldB n.S n.H)∧OthS s w w':=by
 have H:Hid (SvW w0 w s l):=h;have HT:Hid (∀ W,Only [] w0 W→TreeAt W tr T):=fun W ho=>hT.only ho;have HD:Hid (∀ W,Only [] w0 W→Calls Tryz.prog 89 #[.pointer (some ⟨T.t,0,none⟩),.agg #[.int .i64 (i:Nat),.int .i64 (T.g i:Nat)]] W fun e w'=>e = .returned (.tuple #[.pointer (some ⟨n.b,6,none⟩),.nilIface])∧Only [] W w'):=fun W ho=>tdata_ok W T.t T.p T.most i T.g T.nd n (hT.only ho).tab hn hK;have HDO:Hid (∀ W,Only [] w0 W→DataO W n.b 6 n.S n.H n.m):=fun W ho=>((hT.only ho).tab.node i n hn).d
 have HER:Hid (∀ W,Only [] w0 W→W.cell? ⟨2,0,none⟩=some (.iface 296 (.pointer (some (A 1))))):=fun W ho=>by
  have c1:w0.cell? ⟨2,0,none⟩=some (.iface 296 (.pointer (some (A 1)))):=hE.cell 1 (by decide);exact (ho.cell (lt_of_cell c1) (by simp)).trans c1
 obtain ⟨ks,hks⟩:∃ ks,wrH n.H=ks:=⟨_,rfl⟩;obtain ⟨m,hm⟩:∃ m,ks.length=m:=⟨_,rfl⟩;have HKM:Hid (ks.length=m):=hm
 have HM:Hid (m≤64):=by show m≤64;rw [← hm,← hks];exact wrH_len n.H
 have HKL:Hid (∀ j k,ks[j]?=some k→k < 64):=fun j k hk=>wrH_lt (H:=n.H) (by rw [hks];exact List.mem_of_getElem? hk)
 have HWR:Hid (∀ W,Only [] w0 W→Calls Tryz.prog 107 #[.pointer (some ⟨n.b,6,none⟩)] W fun e w'=>∃ v,e = .returned v∧w'.ownsRow W.heap.size 3 1 v m (ks.map (fun k:Nat=>Value.int .i64 (k:Nat)))∧Only [] W w'):=fun W ho=>by
  have:=written_any W n.b 6 n.S n.H n.m (HDO.out W ho);rw [hks,hm] at this;exact this
 have HSZ:Hid (∀ W,Only [] w0 W→Calls Tryz.prog 105 #[.pointer (some ⟨n.b,6,none⟩)] W fun e w'=>e = .returned (.int .i64 (n.S.size:Nat))∧W=w'):=fun W ho=>dsizeO W n.b 6 n.S n.H n.m (HDO.out W ho);have HBL:Hid (∀ W,Only [] w0 W→Calls Tryz.prog 106 #[.pointer (some ⟨n.b,6,none⟩)] W fun e w'=>e = .returned (.int .i64 ((n.H.filter (!·)).length:Nat))∧W=w'):=fun W ho=>dblocksO W n.b 6 n.S n.H n.m (HDO.out W ho)
 have HRD:Hid (∀ W (k:Nat),Only [] w0 W→k < 64→Calls Tryz.prog 108 #[.pointer (some ⟨n.b,6,none⟩),.int .i64 ((k:Int)*64),.int .i64 64] W fun e w'=>e = .returned (.tuple #[.string (readB n.S ((k*64:Nat):Int) 64).1,.bool (readB n.S ((k*64:Nat):Int) 64).2.1,.nilIface])∧Only [] W w'):=fun W k ho hk=>by
  have:=dread_anyO W n.b 6 n.S n.H n.m ((k*64:Nat):Int) 64 _ (HDO.out W ho) (HER.out W ho) (by omega) (by omega);rw [if_neg (by omega)] at this
  have e:((k*64:Nat):Int)=(k:Int)*64:=by omega
  rw [e] at this ⊢;exact this
 have hS4:n.S.size≤4096:=by
  obtain ⟨f,hs,_⟩:=(HDO.out w0 (Only.refl _ _)).holds;exact hs.le
 have hH4:(n.H.filter (!·)).length≤64:=by
  obtain ⟨f,hs,_⟩:=(HDO.out w0 (Only.refl _ _)).holds;exact Nat.le_trans (List.length_filter_le _ _) hs.lenH
 obtain ⟨hb,hhb⟩:∃ hb,(n.H.filter (!·)).length=hb:=⟨_,rfl⟩;rw [hhb] at HBL hH4
 have HFIN:Hid (l++be 8 n.S.size++be 8 hb++(ks.take m).flatMap (blkB n.S)=l++heldB n.S n.H):=by
  show _=_;unfold heldB;rw [hks,hhb,← HKM.out,List.take_length,← List.append_assoc,← List.append_assoc]
 have HNUM:Hid (∀ W l' k,SvW w0 W s l'→l'.length≤100000000000000→k≤1000000→Calls Tryz.prog 40 #[.pointer (some ⟨s,0,none⟩),.int .i64 (k:Nat)] W fun e w'=>e = .returned (.tuple #[])∧SvW w0 w' s (l'++be 8 k)∧OthS s W w'):=fun W l' k k1 k2 k3=>number_any w0 W s l' k k1 (by omega) (by omega);have HBYT:Hid (∀ W l' k,SvW w0 W s l'→l'.length≤100000000000000→Calls Tryz.prog 102 #[.pointer (some ⟨s,0,none⟩),.string (readB n.S ((k*64:Nat):Int) 64).1] W fun e w'=>e = .returned (.tuple #[])∧SvW w0 w' s (l'++(itemS (readB n.S ((k*64:Nat):Int) 64).1).data.toList)∧OthS s W w'):=fun W l' k k1 k2=>bytes_any w0 W s l' _ k1 (by omega) (by have:=readB_le n.S k;omega)
 have HLT:Hid (∀ j,(l++be 8 n.S.size++be 8 hb++(ks.take j).flatMap (blkB n.S)).length≤99100000000000):=fun j=>by
  have h1:=flat_len (f:=blkB n.S) (K:=100) (es:=ks.take j) (fun e _=>blkB_len n.S e)
  have h2:(ks.take j).length≤64:=by rw [List.length_take];have:=HM.out;rw [← HKM.out] at this;omega
  rw [List.length_append,List.length_append,List.length_append,be_length,be_length];omega
 have HL:Hid (l.length≤99000000000000):=hl;have hml:=HM.out;have hslt:=h.lt;have HW0:Hid (Only [] w0 w):=h.only;have HST:Hid (∀ W,Only [] w0 W→W.cell? ⟨tr,0,none⟩=some (.pointer (some ⟨T.t,0,none⟩))):=fun W ho=>(hT.only ho).c0;have htr:tr < w.heap.size:=lt_of_cell (HST.out w HW0.out);have oB:Only [] w (w.alloc (.cells #[.int .i64 (i:Nat),.int .i64 (T.g i:Nat)] 34)):=(Only.refl [] w).alloc _;have HWB:Hid (Only [] w0 (w.alloc (.cells #[.int .i64 (i:Nat),.int .i64 (T.g i:Nat)] 34)).drew):=(HW0.out.trans oB (fun _ hk=>by cases hk)).drew;have HS0:Hid ((w.alloc (.cells #[.int .i64 (i:Nat),.int .i64 (T.g i:Nat)] 34)).drew.cell? ⟨tr,0,none⟩=some (.pointer (some ⟨T.t,0,none⟩))∧(w.alloc (.cells #[.int .i64 (i:Nat),.int .i64 (T.g i:Nat)] 34)).drew.cell? ⟨w.heap.size,0,none⟩=some (.int .i64 (i:Nat))∧(w.alloc (.cells #[.int .i64 (i:Nat),.int .i64 (T.g i:Nat)] 34)).drew.cell? ⟨w.heap.size,1,none⟩=some (.int .i64 (T.g i:Nat))):=⟨HST.out _ HWB.out,cell_of_row _ _ 0 _ _ _ (heap_alloc_last w _),cell_of_row _ _ 1 _ _ _ (heap_alloc_last w _)⟩;have HVB:Hid (SvW w0 (w.alloc (.cells #[.int .i64 (i:Nat),.int .i64 (T.g i:Nat)] 34)).drew s l):=h.other oB.drew;have HQB:Hid (OthS s w (w.alloc (.cells #[.int .i64 (i:Nat),.int .i64 (T.g i:Nat)] 34)).drew):=OthS.of_only oB.drew (fun _ hk=>by cases hk);have hdt:=HD.out _ HWB.out;have HAFT:Hid (∀ w1,Only [] (w.alloc (.cells #[.int .i64 (i:Nat),.int .i64 (T.g i:Nat)] 34)).drew w1→SvW w0 w1 s l∧OthS s w w1∧w1.cell? ⟨tr,0,none⟩=some (.pointer (some ⟨T.t,0,none⟩))∧w1.cell? ⟨w.heap.size,0,none⟩=some (.int .i64 (i:Nat))∧w1.cell? ⟨w.heap.size,1,none⟩=some (.int .i64 (T.g i:Nat))):=fun w1 o1=>⟨HVB.out.other o1,HQB.out.trans (OthS.of_only o1 (fun _ hk=>by cases hk)),HST.out w1 (HVB.out.other o1).only,(o1.cell (p:=⟨w.heap.size,0,none⟩) (lt_of_cell HS0.out.2.1) (by simp)).trans HS0.out.2.1,(o1.cell (p:=⟨w.heap.size,1,none⟩) (lt_of_cell HS0.out.2.2) (by simp)).trans HS0.out.2.2⟩;clear h hT hE hn hl hks hm hhb oB
 go_enter Tryz.func45,Tryz.ntmps45
 go_upto_region 1 with fail
 go_region_held3 (fun W=>W.cell? ⟨tr,0,none⟩=some (.pointer (some ⟨T.t,0,none⟩))∧W.cell? ⟨w.heap.size,0,none⟩=some (.int .i64 (i:Nat))∧W.cell? ⟨w.heap.size,1,none⟩=some (.int .i64 (T.g i:Nat))) (with_reducible first | exact HS0.out | exact HS1.out)
  ((go_at_call 89;refine hdt.mono ?_;rintro e w1 ⟨rfl,o1⟩;have HV1:Hid (SvW w0 w1 s l):=(HAFT.out w1 o1).1;have HQ1:Hid (OthS s w w1):=(HAFT.out w1 o1).2.1;have HS1:Hid (w1.cell? ⟨tr,0,none⟩=some (.pointer (some ⟨T.t,0,none⟩))∧w1.cell? ⟨w.heap.size,0,none⟩=some (.int .i64 (i:Nat))∧w1.cell? ⟨w.heap.size,1,none⟩=some (.int .i64 (T.g i:Nat))):=(HAFT.out w1 o1).2.2;clear o1))
 clear hdt;have hsz:=HSZ.out w1 HV1.out.only
 go_wp2_with (first
  | (go_at_call 105;refine hsz.mono ?_;rintro e w2 ⟨rfl,rfl⟩;have hn1:=HNUM.out w1 l n.S.size HV1.out (by have:=HL.out;omega) (by omega);clear hsz)
  | (go_at_call 40;refine hn1.mono ?_;rintro e w3 ⟨rfl,h3,q3⟩;have HV3:Hid (SvW w0 w3 s (l++be 8 n.S.size)):=h3;have HQ3:Hid (OthS s w w3):=HQ1.out.trans q3;have hbl:=HBL.out w3 h3.only;clear hn1 h3 q3)
  | (go_at_call 106;refine hbl.mono ?_;rintro e w4 ⟨rfl,rfl⟩;have hn2:=HNUM.out w3 _ hb HV3.out (by have:=HL.out;rw [List.length_append,be_length];omega) (by omega);clear hbl)
  | (go_at_call 40;refine hn2.mono ?_;rintro e w5 ⟨rfl,h5,q5⟩;have HV5:Hid (SvW w0 w5 s (l++be 8 n.S.size++be 8 hb)):=h5;have HQ5:Hid (OthS s w w5):=HQ3.out.trans q5;have hwr:=HWR.out w5 h5.only;clear hn2 h5 q5)
  | (go_at_call 107;refine hwr.mono ?_;rintro e w6 ⟨v,rfl,hrow,o6⟩;have HR6:Hid (w6.ownsRow w5.heap.size 3 1 v m (ks.map (fun k:Nat=>Value.int .i64 (k:Nat)))):=hrow;have HV6:Hid (SvW w0 w6 s (l++be 8 n.S.size++be 8 hb)):=HV5.out.other o6;have HQ6:Hid (OthS s w w6):=HQ5.out.trans (OthS.of_only o6 (fun _ hk=>by cases hk));obtain ⟨ad,cap,hv⟩:∃ ad cap,v = .slice ad m cap:=(by rcases hrow.2 with ⟨e,e2⟩ | ⟨g,cap,cur,e,_⟩;exact ⟨none,0,by rw [e,e2]⟩;exact ⟨_,cap,e⟩);subst hv;clear hwr hrow o6))
 have HCELL:Hid (∀ W j k,OthS s w6 W→ks[j]?=some k→∃ g,ad=some ⟨g,0,none⟩∧W.cell? ⟨g,j,none⟩=some (.int .i64 (k:Nat))):=fun W j k ho hk=>by
  have hr:=row_oth HR6.out HV6.out ho (by decide) (by decide);rw [← HKM.out] at hr;obtain ⟨ad',cap',e,hc⟩:=row_cells1 (f:=fun k:Nat=>Value.int .i64 (k:Nat)) (ss:=ks) hr;obtain ⟨g,hg,_,_,hcell⟩:=hc j k hk
  cases e
  exact ⟨g,hg,hcell⟩
 clear HAFT HV1 HQ1 HV3 HQ3 HV5 HQ5 HS0 HS1 HVB HQB HWB
 go_loopw [35] (fun q wr=>∃ j:Nat,q = .int .i64 (j:Nat)∧j≤m∧SvW w0 wr s (l++be 8 n.S.size++be 8 hb++(ks.take j).flatMap (blkB n.S))∧OthS s w6 wr) (fun q _=>m - (intOf q).toNat)
 case atStart=>exact ⟨0,rfl,Nat.zero_le _,by simpa using HV6.out,OthS.refl _ _⟩
 case round =>
  obtain ⟨j,rfl,hj,hV,hQ⟩:=hrel;have HV:Hid (SvW w0 wr s (l++be 8 n.S.size++be 8 hb++(ks.take j).flatMap (blkB n.S))):=hV;have HQ:Hid (OthS s w6 wr):=hQ;clear hV hQ
  by_cases hlt:j < m
  · obtain ⟨k,hk⟩:∃ k,ks[j]?=some k:=⟨ks[j]'(by have:=HKM.out;omega),List.getElem?_eq_getElem _⟩
    have HKJ:Hid (ks[j]?=some k):=hk;obtain ⟨g,rfl,y0⟩:=HCELL.out wr j k HQ.out hk;have hk64:=HKL.out j k hk;have hrd:=HRD.out wr k HV.out.only hk64;obtain ⟨en,hen⟩:∃ en,(readB n.S ((k*64:Nat):Int) 64).2.1=en:=⟨_,rfl⟩;rw [hen] at hrd;clear hk hen
    go_wp2_with (first
      | (go_at_call 108;refine hrd.mono ?_;rintro e w7 ⟨rfl,o7⟩;have HV7:Hid (SvW w0 w7 s (l++be 8 n.S.size++be 8 hb++(ks.take j).flatMap (blkB n.S))):=HV.out.other o7;have HQ7:Hid (OthS s w6 w7):=HQ.out.trans (OthS.of_only o7 (fun _ hk=>by cases hk));have hn3:=HNUM.out w7 _ k HV7.out (by have:=HLT.out j;omega) (by omega);clear hrd o7)
      | (go_at_call 40;refine hn3.mono ?_;rintro e w8 ⟨rfl,h8,q8⟩;have hb8:=HBYT.out w8 _ k h8 (by have:=HLT.out j;rw [List.length_append,be_length];omega);have HQ8:Hid (OthS s w6 w8):=HQ7.out.trans q8;clear hn3 h8 q8)
      | (go_at_call 102;refine hb8.mono ?_;rintro e w9 ⟨rfl,h9,q9⟩;have HV9:Hid (SvW w0 w9 s (l++be 8 n.S.size++be 8 hb++(ks.take (j+1)).flatMap (blkB n.S))):=(by show SvW w0 w9 s (l++be 8 n.S.size++be 8 hb++(ks.take (j+1)).flatMap (blkB n.S));rw [take_flat (blkB n.S) ks HKJ.out];unfold blkB;rw [← List.append_assoc,← List.append_assoc];exact h9);have HQ9:Hid (OthS s w6 w9):=HQ8.out.trans q9;clear hb8 h9 q9))
    go_roundw
    case rel=>exact ⟨j+1,by go_num,by omega,HV9.out,HQ9.out⟩
    case measure=>simp [intOf];omega
  · obtain rfl:m=j:=by omega
    have hj2:decide ((m:Int) < m)=false:=decide_eq_false (by omega)
    go_wp2
    go_end0
    refine ⟨rfl,?_,HQ6.out.trans HQ.out⟩;rw [← HFIN.out];exact HV.out
end
end Go.Proofs.YtofbkeecbdahnaaGreatDoor
