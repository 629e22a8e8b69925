import Derived.Test.YtbdfjbmocifhmaaGreatDoorK23
import Derived.Test.YtbdfjbmocifhmaaGreatDoorK2
set_option maxRecDepth 100000
set_option maxHeartbeats 8000000
namespace Go.Proofs.YtbdfjbmocifhmaaGreatDoor
section
open Go Go.RowKit Go.Deep Go.Maps
theorem HBox.fill {w:World}{B i c:Nat}(h:HBox w B i c)(j d:Nat):HBox ((w.setCell ⟨B,0,none⟩ (.int .i64 (j:Nat))).setCell ⟨B,1,none⟩ (.int .i64 (d:Nat))) B j d:=by
 have h1:=heap_setCell_same w B 0 _ _ (.int .i64 (j:Nat)) h;have h2:=heap_setCell_same _ B 1 _ _ (.int .i64 (d:Nat)) h1;unfold HBox;rw [h2];rfl
theorem HBox.other {w:World}{B i c b o:Nat}{v:Value}(h:HBox w B i c)(hb:B≠b):HBox (w.setCell ⟨b,o,none⟩ v) B i c :=
 h.kept ((Only.refl [b] w).setCell (p:=⟨b,o,none⟩) (Or.inl (List.mem_singleton.2 rfl)) v) (by simpa using hb)
theorem HBox.frozen {w:World}{B i c:Nat}(h:HBox w B i c)(o:Nat):w.frozen? ⟨B,o,none⟩=false:=frozen_of_row _ _ _ _ _ h
theorem any_no {ch:Nat→Nat}{i n:Nat}(h:∀ q,q < n→ch q≠i):((List.range n).any fun j=>ch j==i)=false:=by
 rw [List.any_eq_false];intro x hx;have:=h x (List.mem_range.1 hx)
 simpa using this
theorem any_yes {ch:Nat→Nat}{i n j:Nat}(hj:j < n)(h:ch j=i):((List.range n).any fun j=>ch j==i)=true:=by
 rw [List.any_eq_true];exact ⟨j,List.mem_range.2 hj,by simpa using h⟩
theorem isIn_any (w:World)(tr:Nat)(T:Tr)(ch:Nat→Nat)(i:Nat)(h:TreeAt w tr T)(hch:∀ j,∃ n,T.nd (ch j)=some n∧n.K=2∧n.UN=(ch (j+1):Nat)∧n.UG=(T.g (ch (j+1)):Nat)):
  Calls Tryz.prog 85 #[.pointer (some ⟨tr,0,none⟩),.agg #[.int .i64 (ch 0:Nat),.int .i64 (T.g (ch 0):Nat)],.agg #[.int .i64 (i:Nat),.int .i64 (T.g i:Nat)]] w fun e w'=>e = .returned (.bool ((List.range (countTo T.nd T.p.N)).any fun j=>ch j==i))∧Only [] w w':=by
 have hA:Only [] w ((w.alloc (.cells #[.int .i64 (ch 0:Nat),.int .i64 (T.g (ch 0):Nat)] 34)).alloc (.cells #[.int .i64 (i:Nat),.int .i64 (T.g i:Nat)] 34)):=((Only.refl [] w).alloc _).alloc _;have hcn:=nodes_any _ tr T (h.only hA);have hle:=Nat.le_trans (countTo_le T.nd T.p.N) h.small.N
 have HB:Hid (∀ W,Only [] ((w.alloc (.cells #[.int .i64 (ch 0:Nat),.int .i64 (T.g (ch 0):Nat)] 34)).alloc (.cells #[.int .i64 (i:Nat),.int .i64 (T.g i:Nat)] 34)) W→HBox W w.heap.size (ch 0) (T.g (ch 0))∧HBox W (w.heap.size+1) i (T.g i)):=fun W ho=>by
  have h1:=heap_alloc_last w (.cells #[.int .i64 (ch 0:Nat),.int .i64 (T.g (ch 0):Nat)] 34);have h2:=heap_alloc_last (w.alloc (.cells #[.int .i64 (ch 0:Nat),.int .i64 (T.g (ch 0):Nat)] 34)) (.cells #[.int .i64 (i:Nat),.int .i64 (T.g i:Nat)] 34);rw [World.size_alloc] at h2
  exact ⟨HBox.kept (show HBox _ w.heap.size (ch 0) (T.g (ch 0)) from h1) (only_nilT ((Only.refl [] _).alloc _) ho) (by simp),HBox.kept (show HBox _ (w.heap.size+1) i (T.g i) from h2) ho (by simp)⟩
 have HA:Hid (Only [] w ((w.alloc (.cells #[.int .i64 (ch 0:Nat),.int .i64 (T.g (ch 0):Nat)] 34)).alloc (.cells #[.int .i64 (i:Nat),.int .i64 (T.g i:Nat)] 34))):=hA
 have HTO:Hid (∀ j,∃ K z l c,∀ W,Only [] w W→Calls Tryz.prog 98 #[.pointer (some ⟨tr,0,none⟩),.agg #[.int .i64 (ch j:Nat),.int .i64 (T.g (ch j):Nat)]] W fun e w'=>e = .returned (.agg #[.int .i64 K,.int .i64 z,.int .i64 l,.int .i64 c,.int .i64 (ch (j+1):Nat),.int .i64 (T.g (ch (j+1)):Nat)])∧Only [] W w'):=fun j=>by
  obtain ⟨n,hn,hK,hU,hG⟩:=hch j;refine ⟨n.K,n.Z,n.L,n.C,fun W ho=>?_⟩;have:=told_ok W tr T (ch j) n n.Z (h.only ho) hn (Or.inr ⟨hK,rfl⟩);unfold attrV at this;rw [hU,hG] at this;exact this
 clear h hch hA;generalize countTo T.nd T.p.N=cn at hcn hle ⊢
 go_enter Tryz.func85,Tryz.ntmps85
 go_wp2_with (first
  | (go_at_call 17;go_must (refine hcn.mono ?_);rintro e w1 ⟨rfl,ho1⟩;have HO1:Hid (Only [] w w1∧_):=⟨only_nilT HA.out ho1,HB.out w1 ho1⟩;clear ho1 hcn))
 go_loopw [9] (fun k wr=>∃ j:Nat,k = .int .i64 j∧j≤cn∧(∀ q,q < j→ch q≠i)∧HBox wr w.heap.size (ch j) (T.g (ch j))∧HBox wr (w.heap.size+1) i (T.g i)∧Only [] w wr) (fun k _=>cn - (intOf k).toNat)
 case atStart=>exact ⟨0,rfl,Nat.zero_le _,(fun q hq=>by omega),HO1.out.2.1,HO1.out.2.2,HO1.out.1⟩
 case round =>
  obtain ⟨j,rfl,hj,hall,hb0,hb1,hor⟩:=hrel;have HAL:Hid (∀ q,q < j→ch q≠i):=hall;have HB0:Hid (HBox wr w.heap.size (ch j) (T.g (ch j))):=hb0;have HB1:Hid (HBox wr (w.heap.size+1) i (T.g i)):=hb1;have HOR:Hid (Only [] w wr):=hor;obtain ⟨x0,x1⟩:=hb0.cells;obtain ⟨y0,y1⟩:=hb1.cells;clear hall hb0 hb1 hor
  by_cases hlt:j < cn
  · by_cases he:ch j=i
    · have HY:Hid _:=any_yes (ch:=ch) hlt he
      rw [he] at x0 x1
      go_wp2
      go_ret
      exact ⟨by rw [HY.out];rfl,HOR.out⟩
    · have hne:((ch j:Nat):Int)≠(i:Nat):=fun e=>he (Int.ofNat_inj.1 e)
      have HNE:Hid (ch j≠i):=he;obtain ⟨K,z,l,c,hto⟩:=HTO.out j;have hto1:=hto wr HOR.out;clear hto;have hfu:∀ W:World,(Instr.field 111 (.agg #[.int .i64 K,.int .i64 z,.int .i64 l,.int .i64 c,.int .i64 (ch (j+1):Nat),.int .i64 (T.g (ch (j+1)):Nat)]) 4).run Tryz.prog W = .ok (.agg #[.int .i64 (ch (j+1):Nat),.int .i64 (T.g (ch (j+1)):Nat)]) W:=fun W=>fieldUp W _ _ _ _ _ _
      go_wp2_with (first
       | (go_at_call 98;go_must (refine hto1.mono ?_);rintro e w2 ⟨rfl,ho2⟩;have hb2:HBox w2 w.heap.size (ch j) (T.g (ch j)):=HB0.out.kept ho2 (by simp);have HB2:Hid (HBox w2 w.heap.size (ch j) (T.g (ch j))∧HBox w2 (w.heap.size+1) i (T.g i)∧Only [] w w2):=⟨hb2,HB1.out.kept ho2 (by simp),only_nilT HOR.out ho2⟩;have f0:=hb2.frozen;have hlt2:=hb2.lt;obtain ⟨z0,z1⟩:=hb2.cells;clear hto1 ho2 hb2 x0 x1 y0 y1))
      go_roundw
      case rel=>exact ⟨j+1,by go_num,by omega,(fun q hq=>by
           rcases Nat.lt_or_ge q j with h1 | h1
           · exact HAL.out q h1
           · obtain rfl:q=j:=by omega
             exact HNE.out),HB2.out.1.fill _ _,(HB2.out.2.1.other (by omega)).other (by omega),(HB2.out.2.2.setCell (Or.inr (Nat.le_refl _)) _).setCell (Or.inr (Nat.le_refl _)) _⟩
      case measure=>simp [intOf];omega
  · obtain rfl:cn=j:=by omega
    have HY:Hid _:=any_no (ch:=ch) HAL.out
    go_wp2
    go_ret
    exact ⟨by rw [HY.out];rfl,HOR.out⟩
theorem made_zero (k:Nat):madeCells #[.int .u8 0] k=(Lib.byteCells (List.replicate k 0)).toArray:=by
 simp only [madeCells,Lib.byteCells,List.map_replicate];apply Array.ext
 · simp
 · intro i h1 h2
   simp [Nat.mod_one]
theorem RowAt.text {w:World}{g cap:Nat}{l:List UInt8}(h:RowAt w g 5 l):(convert 87 9 (.slice (some ⟨g,0,none⟩) l.length cap)).run Tryz.prog w = .ok (.string (bs l)) w :=
 run_convert_bytes_back (P:=Tryz.prog) w 87 9 5 ⟨g,0,none⟩ cap l Tryz.underlying87 Tryz.underlying5 Tryz.underlying9 (fun x hx=>by
  rw [addr_head,cell_of_row _ _ _ _ _ _ h]
  simp [Lib.byteCells,hx])
def Got (S:ByteArray)(a d:Nat)(l:List UInt8):Prop:=∀ j,j < d→l.getD j 0=byteS S (a+j)
theorem Got.step {S:ByteArray}{H:List Bool}{f:Nat→Option (List UInt8)}{a d N k:Nat}{l:List UInt8}(hs:Same f S H)(h:Got S a d l)(hl:l.length=N)(hN:a+N≤S.size)(hd:d < N)(hb:((f ((a+d) / 64)).getD zero64).length=64)(hk:min (64 - (a+d) % 64) (N - d)=k):
   Got S a (d+k) (over l d ((((f ((a+d) / 64)).getD zero64).drop ((a+d) % 64)).take k))∧(over l d ((((f ((a+d) / 64)).getD zero64).drop ((a+d) % 64)).take k)).length=N:=by
 have hle:=hs.le
 have hlen:((((f ((a+d) / 64)).getD zero64).drop ((a+d) % 64)).take k).length=k:=by rw [List.length_take,List.length_drop,hb];omega
 refine ⟨fun j hj=>?_,by rw [over_len (by rw [hlen,hl];omega),hl]⟩;rw [over_get (by rw [hlen,hl];omega),hlen]
 by_cases c:d≤j∧j < d+k
 · rw [if_pos c,← hs.bytes (a+j) (by omega)]
   unfold byteF;rw [show (a+j) / 64=(a+d) / 64 by omega,show (a+j) % 64=(a+d) % 64+(j - d) by omega];simp only [List.getD_eq_getElem?_getD,List.getElem?_take,List.getElem?_drop];rw [if_pos (by omega)]
 · rw [if_neg c]
   exact h j (by omega)
theorem readInO (w:World)(g o:Nat)(m:Option Nat)(f:Nat→Option (List UInt8))(q go p n cap:Nat)(l:List UInt8)(hc:w.cell? ⟨g,o+1,none⟩=some (.map m))(hm:MapAt w m f)(hr:RowAt w go 5 l)(hfit:p+n≤l.length)(hq:q < 4096):
  Calls Tryz.prog 141 #[.pointer (some ⟨g,o,none⟩),.int .i64 q,.slice (some ⟨go,p,none⟩) n cap] w fun e w'=>e = .returned (.int .i64 (min (64 - q % 64) n:Nat)) ∧
   RowAt w' go 5 (over l p ((((f (q / 64)).getD zero64).drop (q % 64)).take (min (64 - q % 64) n)))∧Only [go] w w':=by
 have hM:Hid (MapAt w m f):=hm;have hR:Hid (RowAt w go 5 l):=hr;have hglt:go < w.heap.size:=lt_of_heap hr;have hL:Hid (((f (q / 64)).getD zero64).length=64):=hm.getLen (q / 64);generalize hBk:(f (q / 64)).getD zero64=Bk at hL ⊢;have hsl:=fun W=>slice_blk W w.heap.size (q % 64) (by omega) ((q:Int) % 64) (by omega);clear hm hr
 go_enter Tryz.func141,Tryz.ntmps141
 go_wp2_with (first
  | (at_lookup;refine wpList_look rfl _ _ rfl m f hM.out (q / 64) (by omega) _ rfl rfl (by omega) ?_;rw [hBk])
  | (refine wpList_newBlk rfl rfl ?_;intro w1 r1 o1)
  | (refine wpList_storeBlk rfl _ _ rfl w.heap.size zero64 Bk r1 zero64_len hL.out rfl rfl ?_;intro w2 r2 o2
     have o02:Only [w.heap.size] w w2:=(o1.mono (L':=[w.heap.size]) (by simp)).trans o2 (by simp);have hcp:=fun ty=>run_copy_block (P:=Tryz.prog) w2 87 87 ty 5 go p n cap w.heap.size (q % 64) (64 - q % 64) (64 - q % 64) l Bk 5 216 Tryz.underlying87 infoU8 (hR.out.only o02 (by simp;omega)) r2 hfit (by rw [hL.out];omega);generalize hw3:w2.setRow go _=w3 at hcp
     have r3:Hid (RowAt w3 go 5 (over l p ((Bk.drop (q % 64)).take (min (64 - q % 64) n)))):=by subst hw3;exact ((hR.out.only o02 (by simp;omega)).set _:RowAt _ _ _ _)
     have o3:Hid (Only [go] w w3):=by
      have:Only [go] w w3:=by subst hw3;exact (o02.mono (L':=[go]) (by simp)).trans (only_row w2 _ _) (by simp)
      exact this
     clear hw3 o02)
  | go_in)
 go_ret
 exact ⟨rfl,r3.out,o3.out⟩
theorem dread_boundO (w:World)(g o:Nat)(a n:Int)(E:Value)(hE:w.cell? ⟨2,0,none⟩=some E)(h:a < 0∨n < 0):
   Calls Tryz.prog 108 #[.pointer (some ⟨g,o,none⟩),.int .i64 a,.int .i64 n] w fun e w'=>e = .returned (.tuple #[.string ⟨#[]⟩,.bool false,E])∧Only [] w w':=by
 by_cases h1:a < 0
 · have hd:decide (a < 0)=true:=decide_eq_true h1
   go_enter Tryz.func108,Tryz.ntmps108
   go_wp2
   go_region
   go_wp2
   exact bodyPost_ret (v := .tuple #[.string ⟨#[]⟩,.bool false,E]) (by simp [results,Tryz.results108,go_sem]) rfl ⟨rfl,(Only.refl _ _).drew⟩
 · have hd:decide (a < 0)=false:=decide_eq_false h1
   have hd2:decide (n < 0)=true:=decide_eq_true (by omega)
   go_enter Tryz.func108,Tryz.ntmps108
   go_wp2
   go_region
   go_wp2
   exact bodyPost_ret (v := .tuple #[.string ⟨#[]⟩,.bool false,E]) (by simp [results,Tryz.results108,go_sem]) rfl ⟨rfl,(Only.refl _ _).drew⟩
theorem dread_pastO (w:World)(g o:Nat)(S:ByteArray)(a n:Nat)(hc:w.cell? ⟨g,o,none⟩=some (.int .i64 (S.size:Nat)))(h:S.size≤a):
  Calls Tryz.prog 108 #[.pointer (some ⟨g,o,none⟩),.int .i64 a,.int .i64 n] w fun e w'=>e = .returned (.tuple #[.string ⟨#[]⟩,.bool true,.nilIface])∧w=w':=by
 go_enter Tryz.func108,Tryz.ntmps108
 go_wp2
 exact bodyPost_ret (v := .tuple #[.string ⟨#[]⟩,.bool true,.nilIface]) (by simp [results,Tryz.results108,go_sem]) rfl ⟨rfl,rfl⟩
theorem readInZO (w:World)(g o:Nat)(m:Option Nat)(f:Nat→Option (List UInt8))(q go p n cap:Nat)(l:List UInt8)(hc:w.cell? ⟨g,o+1,none⟩=some (.map m))(hm:MapAt w m f)(hr:RowAt w go 5 l)(hfit:p+n≤l.length)(hq:q < 4096)(z:Int)(hz:z=(q:Int))(k:Nat)(hk:min (64 - q % 64) n=k):
  Calls Tryz.prog 141 #[.pointer (some ⟨g,o,none⟩),.int .i64 z,.slice (some ⟨go,p,none⟩) n cap] w fun e w'=>e = .returned (.int .i64 (k:Int)) ∧
   RowAt w' go 5 (over l p ((((f (q / 64)).getD zero64).drop (q % 64)).take k))∧Only [go] w w':=by
 subst hz hk;exact readInO w g o m f q go p n cap l hc hm hr hfit hq
theorem dread_walkO (w:World)(g o:Nat)(S:ByteArray)(H:List Bool)(m:Option Nat)(a n N:Nat)(hD:DataO w g o S H m)(ha:a < S.size)(hn:n < 9223372036854775808)(hN:min n (S.size - a)=N):
  Calls Tryz.prog 108 #[.pointer (some ⟨g,o,none⟩),.int .i64 a,.int .i64 n] w fun e w'=>e = .returned (.tuple #[.string (S.extract a (a+N)),.bool (decide (a+N=S.size)),.nilIface])∧Only [] w w':=by
 obtain ⟨f,hsame,hmap⟩:=hD.holds;have hS:=hsame.le;have hc:=hD.size;have hmk:=run_make_row' (P:=Tryz.prog) 87 5 (.int .u8 0) 1 Tryz.underlying87 Tryz.info5 rfl .i64 .i64 N (by omega) (by omega);have hlt:g < w.heap.size:=lt_of_cell hc;have HD:Hid (DataO w g o S H m):=hD;have HM:Hid (MapAt w m f):=hmap;have HS:Hid (Same f S H):=hsame;clear hD hmap hsame
 go_enter Tryz.func108,Tryz.ntmps108
 go_upto_region 5 with fail
 go_cut [9] (fun v wx=>v = .slice (some ⟨w.heap.size,0,none⟩) N N∧RowAt wx w.heap.size 5 (List.replicate N 0)∧Only [] w wx)
 case first =>
  have hr0:Hid (RowAt (w.alloc (.cells (madeCells #[.int .u8 0] N) 5)) w.heap.size 5 (List.replicate N 0)):=by
    have:RowAt (w.alloc (.cells (madeCells #[.int .u8 0] N) 5)) w.heap.size 5 (List.replicate N 0):=by rw [made_zero];exact heap_alloc_last w _
    exact this
  by_cases hle:n≤S.size - a
  · obtain rfl:N=n:=by omega
    go_wp2
    all_goals (go_meet;exact ⟨rfl,hr0.out,(Only.refl _ _).alloc _⟩)
  · have e1:(S.size:Int) - (a:Int)=(N:Int):=by omega
    go_wp2
    all_goals (go_meet;exact ⟨rfl,hr0.out,(Only.refl _ _).alloc _⟩)
 case rest =>
  obtain ⟨rfl,hr,ho⟩:=hcut;clear hc hmk
  have hBw:Hid (∀ wx,Only [] w wx→wx.cell? ⟨g,o,none⟩=some (.int .i64 (S.size:Nat))∧wx.cell? ⟨g,o+1,none⟩=some (.map m)∧MapAt wx m f):=fun wx h=>by
    have:=HD.out.kept h (fun _ _=>by simp);exact ⟨this.size,this.map,HM.out.only h (fun _ _=>by simp)⟩
  obtain ⟨B,hB⟩:∃ B,w.heap.size=B:=⟨_,rfl⟩;rw [hB] at hr ⊢;have HB:Hid (w.heap.size=B):=hB;clear hB hlt HD HM
  go_wp2
  go_loopw [10] (fun i wr=>∃ (d:Nat) (l:List UInt8),d≤N∧i = .int .i64 d∧l.length=N∧Got S a d l∧RowAt wr B 5 l∧Only [] w wr) (fun i _=>N - (intOf i).toNat)
  case atStart=>exact ⟨0,_,Nat.zero_le _,rfl,by simp,fun j hj=>by omega,hr,ho⟩
  case round =>
    obtain ⟨d,l,hdle,rfl,hll,hG,hr',ho'⟩:=hrel;obtain ⟨c0,c1,hM⟩:=hBw.out wr ho';clear hr ho
    by_cases hlt:d < N
    · obtain ⟨k,hk⟩:∃ k,min (64 - (a+d) % 64) (N - d)=k:=⟨_,rfl⟩
      have hcall:=readInZO wr g o m f (a+d) B d (N - d) (N - d) l c1 hM hr' (by omega) (by omega) ((a:Int)+(d:Int)) (by omega) k hk;have HG:Hid (Got S a (d+k) (over l d ((((f ((a+d) / 64)).getD zero64).drop ((a+d) % 64)).take k))∧(over l d ((((f ((a+d) / 64)).getD zero64).drop ((a+d) % 64)).take k)).length=N):=Got.step HS.out hG hll (by omega) hlt (hM.getLen _) hk;have HO:Hid (Only [] w wr):=ho'
      have hk1:1≤k:=by omega
      have hk2:d+k≤N:=by omega
      clear hG hr' ho' hM hk hll c0 c1
      go_wp2_with (go_at_call 141;go_must (refine hcall.mono ?_);rintro e w2 ⟨rfl,hr2,ho2⟩)
      go_roundw
      case rel=>exact ⟨d+k,_,hk2,by go_num,HG.out.2,HG.out.1,hr2,HO.out.trans ho2 (fun i hi=>by rw [List.mem_singleton] at hi;subst hi;exact Or.inr (Nat.le_of_eq HB.out))⟩
      case measure=>simp [intOf];omega
    · obtain rfl:d=N:=by omega
      have hcv:=RowAt.text (cap:=d) (show RowAt wr.drew B 5 l from hr')
      rw [hll,read_text (S:=S) (a:=a) (l:=l) (by omega) (fun j hj=>hG j (by omega)),hll] at hcv;have HO:Hid (Only [] w wr):=ho';clear hG hr' ho' hM hll c1
      go_wp2
      go_region
      all_goals go_wp2
      have hbe:((a:Int)+(d:Int)==(S.size:Int))=decide (a+d=S.size):=by
       by_cases hh:a+d=S.size
       · rw [decide_eq_true hh,beq_iff_eq];omega
       · rw [decide_eq_false hh,beq_eq_false_iff_ne];omega
      exact bodyPost_ret (v := .tuple #[.string (S.extract a (a+d)),.bool (decide (a+d=S.size)),.nilIface]) (by simp [results,Tryz.results108,go_sem,hbe]) rfl ⟨rfl,HO.out.drew⟩
theorem dread_anyO (w:World)(g o:Nat)(S:ByteArray)(H:List Bool)(m:Option Nat)(a n:Int)(E:Value)(hD:DataO w g o S H m)(hE:w.cell? ⟨2,0,none⟩=some E)(ha:a < 9223372036854775808)(hn:n < 9223372036854775808):
   Calls Tryz.prog 108 #[.pointer (some ⟨g,o,none⟩),.int .i64 a,.int .i64 n] w fun e w'=>e = .returned (.tuple #[.string (readB S a n).1,.bool (readB S a n).2.1,if a < 0∨n < 0 then E else .nilIface])∧Only [] w w':=by
 unfold readB
 by_cases h:a < 0∨n < 0
 · rw [if_pos h,if_pos h]
   exact dread_boundO w g o a n E hE h
 · rw [if_neg h,if_neg h]
   obtain ⟨a,rfl⟩:∃ k:Nat,a=(k:Int):=⟨a.toNat,by omega⟩;obtain ⟨n,rfl⟩:∃ k:Nat,n=(k:Int):=⟨n.toNat,by omega⟩
   by_cases h3:S.size≤a
   · rw [if_pos (by omega)]
     exact (dread_pastO w g o S a n hD.size h3).mono fun e w' ⟨he,hw⟩=>⟨he,hw ▸ Only.refl _ _⟩
   · rw [if_neg (by omega)]
     by_cases h4:(S.size:Int) - (a:Int)≤(n:Int)
     · rw [if_pos h4]
       refine (dread_walkO w g o S H m a n (S.size - a) hD (by omega) (by omega) (by omega)).mono fun e w' ⟨he,hw⟩=>⟨?_,hw⟩;rw [he,decide_eq_true (by omega)];simp only [Int.toNat_natCast];rw [show a+(S.size - a)=S.size by omega]
     · rw [if_neg h4]
       refine (dread_walkO w g o S H m a n n hD (by omega) (by omega) (by omega)).mono fun e w' ⟨he,hw⟩=>⟨?_,hw⟩;rw [he,decide_eq_false (by omega)];simp only [Int.toNat_natCast,show ((a:Int)+(n:Int)).toNat=a+n by omega]
end
end Go.Proofs.YtbdfjbmocifhmaaGreatDoor
