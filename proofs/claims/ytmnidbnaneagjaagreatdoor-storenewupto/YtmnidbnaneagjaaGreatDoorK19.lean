import Derived.Test.YtmnidbnaneagjaaGreatDoorK7
import Derived.Test.YtmnidbnaneagjaaGreatDoorK11
import Derived.Laws.IdiomRangeMap
import Derived.Deep.LoopGhost
set_option maxRecDepth 100000
set_option maxHeartbeats 8000000
namespace Go.Proofs.YtmnidbnaneagjaaGreatDoor
section
open Go Go.RowKit Go.Deep Go.Maps
theorem made_zero (k:Nat):madeCells #[.int .u8 0] k=(Lib.byteCells (List.replicate k 0)).toArray:=by
 simp only [madeCells,Lib.byteCells,List.map_replicate];apply Array.ext
 · simp
 · intro i h1 h2
   simp [Nat.mod_one]
theorem RowAt.text {w:World}{g cap:Nat}{l:List UInt8}(h:RowAt w g 5 l):(convert 159 9 (.slice (some ⟨g,0,none⟩) l.length cap)).run Tryz.prog w = .ok (.string (bs l)) w :=
 run_convert_bytes_back (P:=Tryz.prog) w 159 9 5 ⟨g,0,none⟩ cap l Tryz.underlying159 Tryz.underlying5 Tryz.underlying9 (fun x hx=>by
  rw [addr_head,cell_of_row _ _ _ _ _ _ h]
  simp [Lib.byteCells,hx])
def Got (S:ByteArray)(a d:Nat)(l:List UInt8):Prop:=∀ j,j < d→l.getD j 0=byteS S (a+j)
theorem Got.step {S:ByteArray}{H:List Bool}{f:Nat→Option (List UInt8)}{a d N k:Nat}{l:List UInt8}(hs:Same f S H)(h:Got S a d l)(hl:l.length=N)(hN:a+N≤S.size)(hd:d < N)(hb:((f ((a+d) / 64)).getD zero64).length=64)(hk:min (64 - (a+d) % 64) (N - d)=k):
   Got S a (d+k) (over l d ((((f ((a+d) / 64)).getD zero64).drop ((a+d) % 64)).take k))∧(over l d ((((f ((a+d) / 64)).getD zero64).drop ((a+d) % 64)).take k)).length=N:=by
 have hle:=hs.le
 have hlen:((((f ((a+d) / 64)).getD zero64).drop ((a+d) % 64)).take k).length=k:=by rw [List.length_take,List.length_drop,hb];omega
 refine ⟨fun j hj=>?_,by rw [over_len (by rw [hlen,hl];omega),hl]⟩;rw [over_get (by rw [hlen,hl];omega),hlen]
 by_cases c:d≤j∧j < d+k
 · rw [if_pos c,← hs.bytes (a+j) (by omega)]
   unfold byteF;rw [show (a+j) / 64=(a+d) / 64 by omega,show (a+j) % 64=(a+d) % 64+(j - d) by omega];simp only [List.getD_eq_getElem?_getD,List.getElem?_take,List.getElem?_drop];rw [if_pos (by omega)]
 · rw [if_neg c]
   exact h j (by omega)
theorem readInO (w:World)(g o:Nat)(m:Option Nat)(f:Nat→Option (List UInt8))(q go p n cap:Nat)(l:List UInt8)(hc:w.cell? ⟨g,o+1,none⟩=some (.map m))(hm:MapAt w m f)(hr:RowAt w go 5 l)(hfit:p+n≤l.length)(hq:q < 4096):
  Calls Tryz.prog 248 #[.pointer (some ⟨g,o,none⟩),.int .i64 q,.slice (some ⟨go,p,none⟩) n cap] w fun e w'=>e = .returned (.int .i64 (min (64 - q % 64) n:Nat)) ∧
   RowAt w' go 5 (over l p ((((f (q / 64)).getD zero64).drop (q % 64)).take (min (64 - q % 64) n)))∧Only [go] w w':=by
 have hM:Hid (MapAt w m f):=hm;have hR:Hid (RowAt w go 5 l):=hr;have hglt:go < w.heap.size:=lt_of_heap hr;have hL:Hid (((f (q / 64)).getD zero64).length=64):=hm.getLen (q / 64);generalize hBk:(f (q / 64)).getD zero64=Bk at hL ⊢;have hsl:=fun W=>slice_blk W w.heap.size (q % 64) (by omega) ((q:Int) % 64) (by omega);clear hm hr
 go_enter Tryz.func248,Tryz.ntmps248
 go_wp2_with (first
  | (at_lookup;refine wpList_look rfl _ _ rfl m f hM.out (q / 64) (by omega) _ rfl rfl (by omega) ?_;rw [hBk])
  | (refine wpList_newBlk rfl rfl ?_;intro w1 r1 o1)
  | (refine wpList_storeBlk rfl _ _ rfl w.heap.size zero64 Bk r1 zero64_len hL.out rfl rfl ?_;intro w2 r2 o2
     have o02:Only [w.heap.size] w w2:=(o1.mono (L':=[w.heap.size]) (by simp)).trans o2 (by simp);have hcp:=fun ty=>run_copy_block (P:=Tryz.prog) w2 159 159 ty 5 go p n cap w.heap.size (q % 64) (64 - q % 64) (64 - q % 64) l Bk 5 384 Tryz.underlying159 infoU8 (hR.out.only o02 (by simp;omega)) r2 hfit (by rw [hL.out];omega);generalize hw3:w2.setRow go _=w3 at hcp
     have r3:Hid (RowAt w3 go 5 (over l p ((Bk.drop (q % 64)).take (min (64 - q % 64) n)))):=by subst hw3;exact ((hR.out.only o02 (by simp;omega)).set _:RowAt _ _ _ _)
     have o3:Hid (Only [go] w w3):=by
      have:Only [go] w w3:=by subst hw3;exact (o02.mono (L':=[go]) (by simp)).trans (only_row w2 _ _) (by simp)
      exact this
     clear hw3 o02)
  | go_in)
 go_ret
 exact ⟨rfl,r3.out,o3.out⟩
theorem dread_boundO (w:World)(g o:Nat)(a n:Int)(E:Value)(hE:w.cell? ⟨0,0,none⟩=some E)(h:a < 0∨n < 0):
   Calls Tryz.prog 158 #[.pointer (some ⟨g,o,none⟩),.int .i64 a,.int .i64 n] w fun e w'=>e = .returned (.tuple #[.string ⟨#[]⟩,.bool false,E])∧Only [] w w':=by
 by_cases h1:a < 0
 · have hd:decide (a < 0)=true:=decide_eq_true h1
   go_enter Tryz.func158,Tryz.ntmps158
   go_wp2
   go_region
   go_wp2
   exact bodyPost_ret (v := .tuple #[.string ⟨#[]⟩,.bool false,E]) (by simp [results,Tryz.results158,go_sem]) rfl ⟨rfl,(Only.refl _ _).drew⟩
 · have hd:decide (a < 0)=false:=decide_eq_false h1
   have hd2:decide (n < 0)=true:=decide_eq_true (by omega)
   go_enter Tryz.func158,Tryz.ntmps158
   go_wp2
   go_region
   go_wp2
   exact bodyPost_ret (v := .tuple #[.string ⟨#[]⟩,.bool false,E]) (by simp [results,Tryz.results158,go_sem]) rfl ⟨rfl,(Only.refl _ _).drew⟩
theorem dread_pastO (w:World)(g o:Nat)(S:ByteArray)(a n:Nat)(hc:w.cell? ⟨g,o,none⟩=some (.int .i64 (S.size:Nat)))(h:S.size≤a):
  Calls Tryz.prog 158 #[.pointer (some ⟨g,o,none⟩),.int .i64 a,.int .i64 n] w fun e w'=>e = .returned (.tuple #[.string ⟨#[]⟩,.bool true,.nilIface])∧w=w':=by
 go_enter Tryz.func158,Tryz.ntmps158
 go_wp2
 exact bodyPost_ret (v := .tuple #[.string ⟨#[]⟩,.bool true,.nilIface]) (by simp [results,Tryz.results158,go_sem]) rfl ⟨rfl,rfl⟩
theorem readInZO (w:World)(g o:Nat)(m:Option Nat)(f:Nat→Option (List UInt8))(q go p n cap:Nat)(l:List UInt8)(hc:w.cell? ⟨g,o+1,none⟩=some (.map m))(hm:MapAt w m f)(hr:RowAt w go 5 l)(hfit:p+n≤l.length)(hq:q < 4096)(z:Int)(hz:z=(q:Int))(k:Nat)(hk:min (64 - q % 64) n=k):
  Calls Tryz.prog 248 #[.pointer (some ⟨g,o,none⟩),.int .i64 z,.slice (some ⟨go,p,none⟩) n cap] w fun e w'=>e = .returned (.int .i64 (k:Int)) ∧
   RowAt w' go 5 (over l p ((((f (q / 64)).getD zero64).drop (q % 64)).take k))∧Only [go] w w':=by
 subst hz hk;exact readInO w g o m f q go p n cap l hc hm hr hfit hq
theorem dread_walkO (w:World)(g o:Nat)(S:ByteArray)(H:List Bool)(m:Option Nat)(a n N:Nat)(hD:DataO w g o S H m)(ha:a < S.size)(hn:n < 9223372036854775808)(hN:min n (S.size - a)=N):
  Calls Tryz.prog 158 #[.pointer (some ⟨g,o,none⟩),.int .i64 a,.int .i64 n] w fun e w'=>e = .returned (.tuple #[.string (S.extract a (a+N)),.bool (decide (a+N=S.size)),.nilIface])∧Only [] w w':=by
 obtain ⟨f,hsame,hmap⟩:=hD.holds;have hS:=hsame.le;have hc:=hD.size;have hmk:=run_make_row' (P:=Tryz.prog) 159 5 (.int .u8 0) 1 Tryz.underlying159 Tryz.info5 rfl .i64 .i64 N (by omega) (by omega);have hlt:g < w.heap.size:=lt_of_cell hc;have HD:Hid (DataO w g o S H m):=hD;have HM:Hid (MapAt w m f):=hmap;have HS:Hid (Same f S H):=hsame;clear hD hmap hsame
 go_enter Tryz.func158,Tryz.ntmps158
 go_upto_region 5 with fail
 go_cut [9] (fun v wx=>v = .slice (some ⟨w.heap.size,0,none⟩) N N∧RowAt wx w.heap.size 5 (List.replicate N 0)∧Only [] w wx)
 case first =>
  have hr0:Hid (RowAt (w.alloc (.cells (madeCells #[.int .u8 0] N) 5)) w.heap.size 5 (List.replicate N 0)):=by
    have:RowAt (w.alloc (.cells (madeCells #[.int .u8 0] N) 5)) w.heap.size 5 (List.replicate N 0):=by rw [made_zero];exact heap_alloc_last w _
    exact this
  by_cases hle:n≤S.size - a
  · obtain rfl:N=n:=by omega
    go_wp2
    all_goals (go_meet;exact ⟨rfl,hr0.out,(Only.refl _ _).alloc _⟩)
  · have e1:(S.size:Int) - (a:Int)=(N:Int):=by omega
    go_wp2
    all_goals (go_meet;exact ⟨rfl,hr0.out,(Only.refl _ _).alloc _⟩)
 case rest =>
  obtain ⟨rfl,hr,ho⟩:=hcut;clear hc hmk
  have hBw:Hid (∀ wx,Only [] w wx→wx.cell? ⟨g,o,none⟩=some (.int .i64 (S.size:Nat))∧wx.cell? ⟨g,o+1,none⟩=some (.map m)∧MapAt wx m f):=fun wx h=>by
    have:=HD.out.kept h (fun _ _=>by simp);exact ⟨this.size,this.map,HM.out.only h (fun _ _=>by simp)⟩
  obtain ⟨B,hB⟩:∃ B,w.heap.size=B:=⟨_,rfl⟩;rw [hB] at hr ⊢;have HB:Hid (w.heap.size=B):=hB;clear hB hlt HD HM
  go_wp2
  go_loopw [10] (fun i wr=>∃ (d:Nat) (l:List UInt8),d≤N∧i = .int .i64 d∧l.length=N∧Got S a d l∧RowAt wr B 5 l∧Only [] w wr) (fun i _=>N - (intOf i).toNat)
  case atStart=>exact ⟨0,_,Nat.zero_le _,rfl,by simp,fun j hj=>by omega,hr,ho⟩
  case round =>
    obtain ⟨d,l,hdle,rfl,hll,hG,hr',ho'⟩:=hrel;obtain ⟨c0,c1,hM⟩:=hBw.out wr ho';clear hr ho
    by_cases hlt:d < N
    · obtain ⟨k,hk⟩:∃ k,min (64 - (a+d) % 64) (N - d)=k:=⟨_,rfl⟩
      have hcall:=readInZO wr g o m f (a+d) B d (N - d) (N - d) l c1 hM hr' (by omega) (by omega) ((a:Int)+(d:Int)) (by omega) k hk;have HG:Hid (Got S a (d+k) (over l d ((((f ((a+d) / 64)).getD zero64).drop ((a+d) % 64)).take k))∧(over l d ((((f ((a+d) / 64)).getD zero64).drop ((a+d) % 64)).take k)).length=N):=Got.step HS.out hG hll (by omega) hlt (hM.getLen _) hk;have HO:Hid (Only [] w wr):=ho'
      have hk1:1≤k:=by omega
      have hk2:d+k≤N:=by omega
      clear hG hr' ho' hM hk hll c0 c1
      go_wp2_with (go_at_call 248;go_must (refine hcall.mono ?_);rintro e w2 ⟨rfl,hr2,ho2⟩)
      go_roundw
      case rel=>exact ⟨d+k,_,hk2,by go_num,HG.out.2,HG.out.1,hr2,HO.out.trans ho2 (fun i hi=>by rw [List.mem_singleton] at hi;subst hi;exact Or.inr (Nat.le_of_eq HB.out))⟩
      case measure=>simp [intOf];omega
    · obtain rfl:d=N:=by omega
      have hcv:=RowAt.text (cap:=d) (show RowAt wr.drew B 5 l from hr')
      rw [hll,read_text (S:=S) (a:=a) (l:=l) (by omega) (fun j hj=>hG j (by omega)),hll] at hcv;have HO:Hid (Only [] w wr):=ho';clear hG hr' ho' hM hll c1
      go_wp2
      go_region
      all_goals go_wp2
      have hbe:((a:Int)+(d:Int)==(S.size:Int))=decide (a+d=S.size):=by
       by_cases hh:a+d=S.size
       · rw [decide_eq_true hh,beq_iff_eq];omega
       · rw [decide_eq_false hh,beq_eq_false_iff_ne];omega
      exact bodyPost_ret (v := .tuple #[.string (S.extract a (a+d)),.bool (decide (a+d=S.size)),.nilIface]) (by simp [results,Tryz.results158,go_sem,hbe]) rfl ⟨rfl,HO.out.drew⟩
theorem dread_anyO (w:World)(g o:Nat)(S:ByteArray)(H:List Bool)(m:Option Nat)(a n:Int)(E:Value)(hD:DataO w g o S H m)(hE:w.cell? ⟨0,0,none⟩=some E)(ha:a < 9223372036854775808)(hn:n < 9223372036854775808):
   Calls Tryz.prog 158 #[.pointer (some ⟨g,o,none⟩),.int .i64 a,.int .i64 n] w fun e w'=>e = .returned (.tuple #[.string (readB S a n).1,.bool (readB S a n).2.1,if a < 0∨n < 0 then E else .nilIface])∧Only [] w w':=by
 unfold readB
 by_cases h:a < 0∨n < 0
 · rw [if_pos h,if_pos h]
   exact dread_boundO w g o a n E hE h
 · rw [if_neg h,if_neg h]
   obtain ⟨a,rfl⟩:∃ k:Nat,a=(k:Int):=⟨a.toNat,by omega⟩;obtain ⟨n,rfl⟩:∃ k:Nat,n=(k:Int):=⟨n.toNat,by omega⟩
   by_cases h3:S.size≤a
   · rw [if_pos (by omega)]
     exact (dread_pastO w g o S a n hD.size h3).mono fun e w' ⟨he,hw⟩=>⟨he,hw ▸ Only.refl _ _⟩
   · rw [if_neg (by omega)]
     by_cases h4:(S.size:Int) - (a:Int)≤(n:Int)
     · rw [if_pos h4]
       refine (dread_walkO w g o S H m a n (S.size - a) hD (by omega) (by omega) (by omega)).mono fun e w' ⟨he,hw⟩=>⟨?_,hw⟩;rw [he,decide_eq_true (by omega)];simp only [Int.toNat_natCast];rw [show a+(S.size - a)=S.size by omega]
     · rw [if_neg h4]
       refine (dread_walkO w g o S H m a n n hD (by omega) (by omega) (by omega)).mono fun e w' ⟨he,hw⟩=>⟨?_,hw⟩;rw [he,decide_eq_false (by omega)];simp only [Int.toNat_natCast,show ((a:Int)+(n:Int)).toNat=a+n by omega]
theorem Only.toGrown {w w':World}(h:Only [] w w'):w.grownBy w' none:=⟨h.os,h.tape,h.output,h.size,fun i hi _=>h.block i hi (by simp)⟩
theorem Only.ofGrown {w w':World}{b:Nat}(h:w.grownBy w' (some b)):Only [b] w w':=⟨h.os,h.tape,h.output,h.size,fun i hi hn=>h.block i hi (fun e=>hn (by cases e;simp))⟩
theorem closure_cut (W:World)(k:Nat)(l:List UInt8)(bx n:Nat)(hx:W.cell? ⟨bx,0,none⟩=some (.int .i64 n))(hk:k < 64):
  Calls Tryz.prog 376 #[.int .i64 k,blkV l,.pointer (some ⟨bx,0,none⟩)] W fun e w'=>e = .returned (.bool (decide (n≤k*64)))∧Only [] W w':=by
 have hlt:bx < W.heap.size:=lt_of_cell hx;have hb:decide ((n:Int)≤(k:Int)*64)=decide (n≤k*64):=decide_eq_decide.2 (by omega);unfold blkV;generalize (Lib.byteCells l).toArray=cs
 go_enter Tryz.func376,Tryz.ntmps376
 go_wp2
 go_ret
 exact ⟨rfl,(Only.refl _ _).alloc _⟩
theorem delCut (w:World)(b bx n:Nat)(D:DataW Unit)(f:Nat→Option (List UInt8))(hown:w.ownsMap Tryz.prog 3 blkElem b 64 D)(hf:Holds D f)(hx:w.cell? ⟨bx,0,none⟩=some (.int .i64 n)):
  Calls Tryz.prog 375 #[.map (some b),.func (.func 376) #[] #[.pointer (some ⟨bx,0,none⟩)]] w fun e w' =>
   e = .returned (.tuple #[])∧w'.ownsMap Tryz.prog 3 blkElem b 64 (Lib.deleteFuncD (behind n) D)∧w.grownBy w' (some b):=by
 have hxb:b≠bx:=own_ne hown hx;have hxl:bx < w.heap.size:=lt_of_cell hx;obtain ⟨es0,rfl,hap,hkeys⟩:=hown.entries lawInt;have HF:Hid (Holds (.map es0) f):=hf;have HX:Hid (w.cell? ⟨bx,0,none⟩=some (.int .i64 n)):=hx;clear hf hx
 go_enter Tryz.func375,Tryz.ntmps375
 go_wp2_with (first
  | (at_range;refine wpList_range_own _ rfl _ 371 rfl 3 384 lawInt undMap blkElem b 64 _ rfl hown ?_;intro w0 hrg0 hg0 hs0)
  | go_in)
 go_frame
 go_loopw [8] (fun _ wr=>∃ (left:Lit→Bool) (cnt:Nat),wr.ranges Tryz.prog 3 blkElem b w.heap.size 64 (Fk (behind n) es0 left) left cnt∧w.grownBy wr (some b)∧∀ kl,left kl=true→has (.map es0) kl=true)
  (fun _ wr=>wr.rangeLeft b w.heap.size)
 case atStart=>exact ⟨_,_,by rw [Fk_start hkeys];exact hrg0,hg0.but _,fun _ h=>h⟩
 case round =>
  obtain ⟨left,cnt,hrg,hgw,hleft⟩:=hrel
  go_wp2_with (first
   |  (at_next;refine wpList_next_ranges _ rfl _ rfl 3 lawInt blkElem id id (fun key _ _=>⟨key,rfl⟩) (fun v _ _=>⟨v,rfl⟩) b w.heap.size 64 _ _ _ rfl hrg ?_ ?_)
   | go_in)
  ·
   intro _ hl0
   go_wp2
   go_end0
   exact ⟨rfl,by rw [← Fk_end hl0];exact hrg.owns,hgw⟩
  ·
   intro x c kl yd yp w1 cnt1 hkey hlx hv hat hrg1 hlt hg1 hs1 hen;obtain ⟨k,hk64,rfl⟩:=HF.out.keys kl (hleft kl hlx);obtain ⟨z,rfl,hz,_⟩:=keyOf_int_inv Tryz.underlying3 hkey;obtain rfl:z=(k:Int):=(Lit.int.inj hz).2.symm;obtain ⟨l,hl64,rfl,hy⟩:=blkElem_inv hv;have hgw1:=hgw.andThen hg1 (fun j hj=>by cases hj;exact Or.inl (Nat.le_refl _));have hp0:behind n (key k) yd=decide (n≤k*64):=behind_key n k;have hle1:w.heap.size≤w1.heap.size:=hgw1.size;have HG1:Hid (w.grownBy w1 (some b)):=hgw1;have HR1:Hid (w1.ranges Tryz.prog 3 blkElem b w.heap.size 64 (Fk (behind n) es0 left) (fun z=>left z&&!z.sameKey (key k)) cnt1):=hrg1;have HR:Hid (wr.ranges Tryz.prog 3 blkElem b w.heap.size 64 (Fk (behind n) es0 left) left cnt):=hrg;clear hgw1 hrg hg1 hrg0 hg0 hs0 hs1 hv hkey hgw hrg1
   cases hp:decide (n≤k*64)
   ·
      rw [hp] at hp0
      go_wp2_with (first
        | (refine wpList_newBlk rfl rfl ?_;intro w2 r2 o2)
        | (refine wpList_storeBlk rfl _ _ rfl w1.heap.size zero64 l r2 zero64_len hl64 rfl rfl ?_;intro w3 r3 o3
           have o13:Only [] w1 w3:=o2.trans o3 (fun i hi=>by rw [List.mem_singleton] at hi;subst hi;exact Or.inr (Nat.le_refl _))
           have hx3:w3.cell? ⟨bx,0,none⟩=some (.int .i64 n):=by
            rw [o13.cell (p:=⟨bx,0,none⟩) (Nat.lt_of_lt_of_le hxl hle1) (by simp)];exact HG1.out.cell HX.out (by simpa using Ne.symm hxb)
           have hc:=closure_cut w3 k l bx n hx3 hk64
           rw [hp] at hc)
        | (refine wpList_load_row rfl _ _ rfl w1.heap.size rfl _ _ _ _ r3 undBlk rfl (by rw [sizeBlk];simp [cells_len,hl64]) ?_)
        | (go_at_call 376;refine hc.mono ?_;rintro e w4 ⟨rfl,o4⟩)
        | go_in)
      have hg2:=(o13.trans o4 (fun i hi=>by cases hi)).toGrown;have hrg2:=HR1.out.kept hg2 (by simp) (by simp);exact ⟨⟨_,cnt1,by rw [← Fk_stays hap (key_key k) hlx hp0 hat];exact hrg2,HG1.out.andThen hg2 (fun j hj=>by cases hj),fun kl h=>hleft kl (by simp at h;exact h.1)⟩,by rw [hrg2.left_eq,HR.out.left_eq];exact hlt⟩
   ·
      rw [hp] at hp0
      go_wp2_with (first
        | (refine wpList_newBlk rfl rfl ?_;intro w2 r2 o2)
        | (refine wpList_storeBlk rfl _ _ rfl w1.heap.size zero64 l r2 zero64_len hl64 rfl rfl ?_;intro w3 r3 o3
           have o13:Only [] w1 w3:=o2.trans o3 (fun i hi=>by rw [List.mem_singleton] at hi;subst hi;exact Or.inr (Nat.le_refl _))
           have hx3:w3.cell? ⟨bx,0,none⟩=some (.int .i64 n):=by
            rw [o13.cell (p:=⟨bx,0,none⟩) (Nat.lt_of_lt_of_le hxl hle1) (by simp)];exact HG1.out.cell HX.out (by simpa using Ne.symm hxb)
           have hc:=closure_cut w3 k l bx n hx3 hk64
           rw [hp] at hc)
        | (refine wpList_load_row rfl _ _ rfl w1.heap.size rfl _ _ _ _ r3 undBlk rfl (by rw [sizeBlk];simp [cells_len,hl64]) ?_)
        | (go_at_call 376;refine hc.mono ?_;rintro e w4 ⟨rfl,o4⟩;have hrg2:=HR1.out.kept (o13.trans o4 (fun i hi=>by cases hi)).toGrown (by simp) (by simp))
        | (at_delete;refine wpList_delete_ranges _ rfl _ _ 371 3 rfl 384 lawInt undMap blkElem b w.heap.size 64 _ _ _ rfl hrg2 _ _ rfl (keyInt k (by omega)) ?_;intro w5 cnt5 hrg5 hle5 hturn5;go_frame)
        | go_in)
      have hg2:=(o13.trans o4 (fun i hi=>by cases hi)).toGrown;rw [strike_twice] at hrg5;exact ⟨⟨_,cnt5,by rw [← Fk_struck hap (key_key k) hlx hp0 hat];exact hrg5,(HG1.out.andThen hg2 (fun j hj=>by cases hj)).andThen hturn5.grown (fun j hj=>by cases hj;exact Or.inr rfl),fun kl h=>hleft kl (by simp at h;exact h.1)⟩,by rw [hrg5.left_eq,HR.out.left_eq];omega⟩
theorem delCut_nil (w:World)(fv:Value):Calls Tryz.prog 375 #[.map none,fv] w fun e w'=>e = .returned (.tuple #[])∧w'=w.alloc (.mapIter none 0 #[] 0):=by
 have hrg:=run_range_nilMap (P:=Tryz.prog) w 371 _ _ undMap;have hnx:∀ ty,(Instr.next (.pointer (some ⟨w.heap.size,0,none⟩)) false ty).run Tryz.prog (w.alloc (.mapIter none 0 #[] 0))=_:=fun ty=>run_next_nilMap _ ty 0 0 #[]
 go_enter Tryz.func375,Tryz.ntmps375
 go_wp2
 refine wp_loop_rounds 1 ?_;rw [rounds_succ]
 go_wp2
 go_end0
 exact ⟨rfl,rfl⟩
theorem look_ok_run (w:World)(m:Option Nat)(f:Nat→Option (List UInt8))(hm:MapAt w m f)(k:Nat)(hk:k < 9223372036854775808):(Instr.lookup 371 (.map m) (.int .i64 k) true).run Tryz.prog w = .ok (.tuple #[blkV ((f k).getD zero64),.bool (f k).isSome]) w:=by
 cases m with
 | none =>
  rw [show f=_ from hm]
  exact look_nil true lawInt undMap (zeroBlk w) (keyInt k hk)
 | some b =>
  obtain ⟨D,h1,h2⟩:=hm;obtain ⟨v,ps,hr,hv⟩:=h1.look_ok lawInt undMap (zeroBlk w) (blkElem_mk zero64_len) (keyInt k hk);obtain ⟨bs,_,rfl,e⟩:=blkElem_inv hv;rw [h2.look k] at e;have e1:=congrArg Prod.fst e;simp at e1;rw [hr,e1,h2.isSome k]
theorem wp_newBlk {w:World}{o:Oper}{a:Act}{K:Act→World→Prop}{Q:Exit→Act→World→Prop}(hop:o.op=Op.alloc 384)
  (hK:∀ w',RowAt w' w.heap.size 384 zero64→Only [] w w'→K (a.put o.dst (.pointer (some ⟨w.heap.size,0,none⟩))) w'):o.wp Tryz.prog a w K Q:=by
 have:=hK _ (heap_alloc_last w _) ((Only.refl [] w).alloc (.cells (Lib.byteCells zero64).toArray 384));unfold Oper.wp;simp only [execOp,hop]
 have hr:(Instr.alloc 384 true (.tuple #[])).run Tryz.prog w = .ok (.pointer (some ⟨w.heap.size,0,none⟩)) (w.alloc (.cells (Lib.byteCells zero64).toArray 384)):=by
  simp [Instr.alloc,newVar,newRow,Value.cells,Result.andThen,go_sem];rfl
 simp [hr,Result.andThen];exact this
theorem dcutO (w:World)(g o n:Nat)(m:Option Nat)(f:Nat→Option (List UInt8))(hc:w.cell? ⟨g,o+1,none⟩=some (.map m))(hm:MapAt w m f)(hn:n≤4096):
  Calls Tryz.prog 314 #[.pointer (some ⟨g,o,none⟩),.int .i64 n] w fun e w'=>e = .returned (.tuple #[])∧MapAt w' m (endF f n)∧Only m.toList w w':=by
 have hlt:g < w.heap.size:=lt_of_cell hc
 have hbox:(w.alloc (.cells #[.int .i64 n] 3)).cell? ⟨w.heap.size,0,none⟩=some (.int .i64 n):=by rw [World.cell?_alloc_at _ _ _ _ (by simp)];rfl
 have HM:Hid (MapAt w m f):=hm;have HB:Hid ((w.alloc (.cells #[.int .i64 n] 3)).cell? ⟨w.heap.size,0,none⟩=some (.int .i64 n)):=hbox;clear hm hbox
 go_enter Tryz.func314,Tryz.ntmps314
 go_upto_region 1 with fail
 go_cut [] (fun wx=>wx.cell? ⟨g,o+1,none⟩=some (.map m)∧wx.cell? ⟨w.heap.size,0,none⟩=some (.int .i64 n)∧MapAt wx m (cutF f n)∧Only m.toList w wx)
 case first =>
  have hc1:(w.alloc (.cells #[.int .i64 n] 3)).cell? ⟨g,o+1,none⟩=some (.map m):=by rw [World.cell?_alloc_lt _ _ _ hlt];exact hc
  cases m with
  | none =>
    have hdel:=fun v=>delCut_nil (w.alloc (.cells #[.int .i64 n] 3)) v;have HC1:Hid ((w.alloc (.cells #[.int .i64 n] 3)).cell? ⟨g,o+1,none⟩=some (.map none)):=hc1
    go_wp2_with (go_at_call 375;go_must (refine (hdel _).mono ?_);rintro e w2 ⟨rfl,rfl⟩)
    go_meet
    have o1:Only [] (w.alloc (.cells #[.int .i64 n] 3)) ((w.alloc (.cells #[.int .i64 n] 3)).alloc (.mapIter none 0 #[] 0)):=(Only.refl _ _).alloc _;refine ⟨(o1.cell (p:=⟨g,o+1,none⟩) (lt_of_cell HC1.out) (by simp)).trans HC1.out,(o1.cell (p:=⟨w.heap.size,0,none⟩) (lt_of_cell HB.out) (by simp)).trans HB.out,?_,((Only.refl _ w).alloc _).alloc _⟩;show cutF f n=_
    rw [show f=_ from HM.out]
    funext k;unfold cutF
    split<;>rfl
  | some b =>
    obtain ⟨D,hown,hf⟩:=HM.out;have hne:b≠g:=own_ne hown hc;have hblt:=hown.lt;have HC1:Hid ((w.alloc (.cells #[.int .i64 n] 3)).cell? ⟨g,o+1,none⟩=some (.map (some b))):=hc1;have hdel:=delCut (w.alloc (.cells #[.int .i64 n] 3)) b w.heap.size n D f (hown.alloc _) hf HB.out;have HF:Hid (Holds (Lib.deleteFuncD (behind n) D) (cutF f n)):=hf.cut hown.isMap n;clear hown hf
    go_wp2_with (go_at_call 375;go_must (refine hdel.mono ?_);rintro e w2 ⟨rfl,own2,grow2⟩)
    go_meet
    have o1:=Only.ofGrown grow2
    exact ⟨(o1.cell (p:=⟨g,o+1,none⟩) (lt_of_cell HC1.out) (by simpa using Ne.symm hne)).trans HC1.out,(o1.cell (p:=⟨w.heap.size,0,none⟩) (lt_of_cell HB.out) (by simp;omega)).trans HB.out,⟨_,own2,HF.out⟩,
     (((Only.refl [b] w).alloc _).trans o1 (by simp))⟩
 case rest =>
  obtain ⟨c1,cB,hM2,ho2⟩:=hcut;have hS0:wc.drew.cell? ⟨g,o+1,none⟩=some (.map m)∧wc.drew.cell? ⟨w.heap.size,0,none⟩=some (.int .i64 n)∧MapAt wc.drew m (cutF f n):=⟨c1,cB,hM2.kept fun _ _=>rfl⟩
  have e64:((n / 64:Nat):Int)=(n:Int) / 64:=by omega
  have hwr:IntKind.i64.wrap ((n:Int) / 64)=(n:Int) / 64:=wrap_small (by omega) (by omega);have HO2:Hid (Only m.toList w wc):=ho2;have HL:Hid (((cutF f n (n / 64)).getD zero64).length=64):=hM2.getLen _;have hCl:wc.heap.size > w.heap.size:=lt_of_cell cB;clear hM2 ho2 HM HB hc
  go_wp2
  refine wp_region_held_drew (S:=fun W=>W.cell? ⟨g,o+1,none⟩=some (.map m)∧W.cell? ⟨w.heap.size,0,none⟩=some (.int .i64 n)∧MapAt W m (cutF f n)) (by kernel_rfl) hS0 (fun hS=>?_);refine wpAnyH_take (i:=0) (v:=?_) rfl (by kernel_rfl) (by kernel_rfl) (by kernel_rfl) (fun _ _ _ h=>h) (Or.inl ⟨by rfl,fun W hW=>?_⟩) hS ?_
  rotate_left
  · obtain ⟨x1,x2,x3⟩:=hW
    have x4:=look_ok_run W m _ x3 (n / 64) (by omega);rw [e64] at x4;clear x3
    go_simp
    try with_reducible rfl
  simp only [Act.put,List.getElem_toArray,List.getElem_cons_zero,List.setIfInBounds_toArray,List.set_cons_zero,List.set_cons_succ];refine wpAnyH_take (i:=1) (v:=?_) rfl (by kernel_rfl) (by kernel_rfl) (by kernel_rfl) (fun _ _ _ h=>h) (Or.inl ⟨by rfl,fun W hW=>?_⟩) hS ?_
  rotate_left
  · obtain ⟨x1,x2,x3⟩:=hW
    have x4:=look_ok_run W m _ x3 (n / 64) (by omega);rw [e64] at x4;clear x3
    go_simp
    try with_reducible rfl
  simp only [Act.put,List.getElem_toArray,List.getElem_cons_zero,List.getElem_cons_succ,List.setIfInBounds_toArray,List.set_cons_zero,List.set_cons_succ];refine wpAnyH_take (i:=2) (v:=?_) rfl (by kernel_rfl) (by kernel_rfl) (by kernel_rfl) (fun _ _ _ h=>h) (Or.inl ⟨by rfl,fun W hW=>?_⟩) hS ?_
  rotate_left
  · obtain ⟨x1,x2,x3⟩:=hW
    have x4:=look_ok_run W m _ x3 (n / 64) (by omega);rw [e64] at x4;clear x3
    go_simp
    try with_reducible rfl
  simp only [Act.put,List.getElem_toArray,List.getElem_cons_zero,List.getElem_cons_succ,List.setIfInBounds_toArray,List.set_cons_zero,List.set_cons_succ];refine wpAnyH_take (i:=3) (v:=?_) rfl (by kernel_rfl) (by kernel_rfl) (by kernel_rfl) (fun _ _ _ h=>h) (Or.inl ⟨by rfl,fun W hW=>?_⟩) hS ?_
  rotate_left
  · obtain ⟨x1,x2,x3⟩:=hW
    have x4:=look_ok_run W m _ x3 (n / 64) (by omega);rw [e64] at x4;clear x3
    go_simp
    try with_reducible rfl
  simp only [Act.put,List.getElem_toArray,List.getElem_cons_zero,List.getElem_cons_succ,List.setIfInBounds_toArray,List.set_cons_zero,List.set_cons_succ];refine wpAnyH_take (i:=4) (v:=?_) rfl (by kernel_rfl) (by kernel_rfl) (by kernel_rfl) (fun _ _ _ h=>h) (Or.inl ⟨by rfl,fun W hW=>?_⟩) hS ?_
  rotate_left
  · obtain ⟨x1,x2,x3⟩:=hW
    have x4:=look_ok_run W m _ x3 (n / 64) (by omega);rw [e64] at x4;clear x3
    go_simp
    try with_reducible rfl
  simp only [Act.put,List.getElem_toArray,List.getElem_cons_zero,List.getElem_cons_succ,List.setIfInBounds_toArray,List.set_cons_zero,List.set_cons_succ];refine wpAnyH_take (i:=5) (v:=?_) rfl (by kernel_rfl) (by kernel_rfl) (by kernel_rfl) (fun _ _ _ h=>h) (Or.inl ⟨by rfl,fun W hW=>?_⟩) hS ?_
  rotate_left
  · obtain ⟨x1,x2,x3⟩:=hW
    have x4:=look_ok_run W m _ x3 (n / 64) (by omega);rw [e64] at x4;clear x3
    go_simp
    try with_reducible rfl
  simp only [Act.put,List.getElem_toArray,List.getElem_cons_zero,List.getElem_cons_succ,List.setIfInBounds_toArray,List.set_cons_zero,List.set_cons_succ];refine wpAnyH_take (i:=6) (v:=?_) rfl (by kernel_rfl) (by kernel_rfl) (by kernel_rfl) (fun _ _ _ h=>h) (Or.inl ⟨by rfl,fun W hW=>?_⟩) hS ?_
  rotate_left
  · obtain ⟨x1,x2,x3⟩:=hW
    have x4:=look_ok_run W m _ x3 (n / 64) (by omega);rw [e64] at x4;clear x3
    go_simp
    try with_reducible rfl
  simp only [Act.put,List.getElem_toArray,List.getElem_cons_zero,List.getElem_cons_succ,List.setIfInBounds_toArray,List.set_cons_zero,List.set_cons_succ];refine wpAnyH_take (i:=7) (v:=?_) rfl (by kernel_rfl) (by kernel_rfl) (by kernel_rfl) (fun _ _ _ h=>h) (Or.inl ⟨by rfl,fun W hW=>?_⟩) hS ?_
  rotate_left
  · obtain ⟨x1,x2,x3⟩:=hW
    have x4:=look_ok_run W m _ x3 (n / 64) (by omega);rw [e64] at x4;clear x3
    go_simp
    try with_reducible rfl
  simp only [Act.put,List.getElem_toArray,List.getElem_cons_zero,List.getElem_cons_succ,List.setIfInBounds_toArray,List.set_cons_zero,List.set_cons_succ];refine wpAnyH_take (i:=8) (v:=?_) rfl (by kernel_rfl) (by kernel_rfl) (by kernel_rfl) (fun _ _ _ h=>h) (Or.inl ⟨by rfl,fun W hW=>?_⟩) hS ?_
  rotate_left
  · obtain ⟨x1,x2,x3⟩:=hW
    have x4:=look_ok_run W m _ x3 (n / 64) (by omega);rw [e64] at x4;clear x3
    go_simp
    try with_reducible rfl
  simp only [Act.put,List.getElem_toArray,List.getElem_cons_zero,List.getElem_cons_succ,List.setIfInBounds_toArray,List.set_cons_zero,List.set_cons_succ];refine wpAnyH_take (i:=9) (v:=?_) rfl (by kernel_rfl) (by kernel_rfl) (by kernel_rfl) (fun _ _ _ h=>h) (Or.inl ⟨by rfl,fun W hW=>?_⟩) hS ?_
  rotate_left
  · obtain ⟨x1,x2,x3⟩:=hW
    have x4:=look_ok_run W m _ x3 (n / 64) (by omega);rw [e64] at x4;clear x3
    go_simp
    try with_reducible rfl
  simp only [Act.put,List.getElem_toArray,List.getElem_cons_zero,List.getElem_cons_succ,List.setIfInBounds_toArray,List.set_cons_zero,List.set_cons_succ];refine wpAnyH_ready (rs:=[10]) (by kernel_rfl) (by simp) (AllReadyH.cons rfl (fun K10 hK10=>?_) AllReadyH.nil);rw [if_pos (by rfl)];refine wp_newBlk (by rfl) (fun wa ra oa=>?_);have hSa:wa.cell? ⟨g,o+1,none⟩=some (.map m)∧wa.cell? ⟨w.heap.size,0,none⟩=some (.int .i64 n)∧MapAt wa m (cutF f n):=⟨(oa.cell (p:=⟨g,o+1,none⟩) (lt_of_cell hS0.1) (by simp)).trans hS0.1,(oa.cell (p:=⟨w.heap.size,0,none⟩) (lt_of_cell hS0.2.1) (by simp)).trans hS0.2.1,hS0.2.2.only oa (fun _ _=>by simp)⟩;refine hK10.out _ _ hSa (fun hS'=>?_);clear hK10 K10 hS;simp only [Act.put,List.getElem_toArray,List.getElem_cons_zero,List.getElem_cons_succ,List.setIfInBounds_toArray,List.set_cons_zero,List.set_cons_succ];refine wpAnyH_ready (rs:=[11]) (by kernel_rfl) (by simp) (AllReadyH.cons rfl (fun K11 hK11=>?_) AllReadyH.nil);rw [if_pos (by rfl)];generalize hBk:(cutF f n (n / 64)).getD zero64=Bk at HL;refine wp_store_row _ _ _ (by rfl) wc.drew.heap.size (Lib.byteCells Bk).toArray (by rfl) (by rw [← hBk];rfl) _ _ ra (by rw [sizeBlk];simp [cells_len,HL.out]) (by simp [cells_len,HL.out,zero64_len]) (blk_one _) ?_;have rb:=ra.set Bk;have ob:=only_row wa wc.drew.heap.size (Lib.byteCells Bk).toArray;generalize wa.setRow wc.drew.heap.size (Lib.byteCells Bk).toArray=wb at rb ob ⊢;have hlw:∀ k,k < wc.heap.size→k < wa.heap.size:=fun k hk=>Nat.lt_of_lt_of_le hk oa.size;have hcs:wc.drew.heap.size=wc.heap.size:=rfl;have hgl:g < wc.heap.size:=Nat.lt_trans hlt hCl
  have hSb:wb.cell? ⟨g,o+1,none⟩=some (.map m)∧wb.cell? ⟨w.heap.size,0,none⟩=some (.int .i64 n)∧MapAt wb m (cutF f n) :=
    ⟨(ob.cell (p:=⟨g,o+1,none⟩) (hlw _ hgl) (by simp;omega)).trans hSa.1,(ob.cell (p:=⟨w.heap.size,0,none⟩) (hlw _ hCl) (by simp;omega)).trans hSa.2.1,
     hSa.2.2.only ob (fun k hk=>by subst hk;have:=hS0.2.2.lt;simp;omega)⟩
  refine hK11.out _ _ hSb (fun hS=>?_);clear hK11 K11 hS';simp only [Act.put,List.getElem_toArray,List.getElem_cons_zero,List.getElem_cons_succ]
  have HO:Hid (Only m.toList w wb):=by
    have h1:Only m.toList w wc.drew:=HO2.out.drew;have:Only m.toList w wb:=(h1.trans oa (fun i hi=>by cases hi)).trans ob (fun i hi=>by rw [List.mem_singleton] at hi;subst hi;exact Or.inr (Nat.le_of_lt hCl));exact this
  refine wpAnyH_take (i:=12) (v:=?_) rfl (by kernel_rfl) (by kernel_rfl) (by kernel_rfl) (fun _ _ _ h=>h) (Or.inl ⟨by rfl,fun W hW=>?_⟩) hS ?_
  rotate_left
  · obtain ⟨x1,x2,x3⟩:=hW
    have x4:=look_ok_run W m _ x3 (n / 64) (by omega);rw [e64] at x4;clear x3
    go_simp
    try with_reducible rfl
  simp only [Act.put,List.getElem_toArray,List.getElem_cons_zero,List.getElem_cons_succ,List.setIfInBounds_toArray,List.set_cons_zero,List.set_cons_succ];refine wpAnyH_done (by kernel_rfl) ?_ _;obtain ⟨d1,dB,dM⟩:=hSb;have HM:Hid (MapAt wb m (cutF f n)):=dM;have HR:Hid (RowAt wb wc.drew.heap.size 384 Bk):=rb;have hsz:wc.drew.heap.size < wb.heap.size:=lt_of_heap rb;generalize hB2:wc.drew.heap.size=B2 at HR hsz ⊢
  have HB2:Hid (w.heap.size < B2):=by rw [← hB2];exact hCl
  clear hS0 hS hSa ra oa rb ob dM hcs hlw hgl c1 cB hCl HO2 hB2
  cases hok:cutF f n (n / 64) with
  | none =>
    simp only [Option.isSome_none]
    have HE:Hid (endF f n=cutF f n):=by
     have:endF f n=cutF f n:=by unfold endF;rw [hok]
     exact this
    go_wp2
    go_end0
    exact ⟨rfl,by rw [HE.out];exact HM.out,HO.out⟩
  | some b0 =>
    simp only [Option.isSome_some]
    have eb:b0=Bk:=by rw [← hBk,hok];rfl
    subst eb
    cases m with
    | none=>exact absurd hok (by rw [show cutF f n=_ from HM.out];simp)
    | some b =>
     obtain ⟨D,hown,hf⟩:=HM.out;have hblt:=hown.lt;have hbg:b≠g:=own_ne hown d1;have hbw:b≠w.heap.size:=own_ne hown dB
     have hb2:b≠B2:=fun e=>by
       obtain ⟨es,clock,h1,_⟩:=hown;have h2:=HR.out;rw [e] at h1;unfold RowAt at h2;rw [h1] at h2
       cases h2
     have HE:Hid (endF f n=upd (cutF f n) (n / 64) (over b0 (n % 64) (List.replicate (64 - n % 64) 0))):=by
       have:endF f n=upd (cutF f n) (n / 64) (over b0 (n % 64) (List.replicate (64 - n % 64) 0)):=by unfold endF;rw [hok]
       exact this
     have hsl:=fun W=>slice_blk W B2 (n % 64) (by omega) ((n:Int) % 64) (by omega);have hcl:=fun ty=>run_clear_row (P:=Tryz.prog) wb 159 ty 5 B2 (n % 64) (64 - n % 64) (64 - n % 64) b0 384 Tryz.underlying159 Tryz.zeroValue5 HR.out (by omega) (by rw [HL.out];omega)
     have hLn:(over b0 (n % 64) (List.replicate (64 - n % 64) 0)).length=64:=by rw [over_len (by rw [List.length_replicate,HL.out];omega),HL.out]
     have rd:=HR.out.set (over b0 (n % 64) (List.replicate (64 - n % 64) 0));have od:=only_row wb B2 (Lib.byteCells (over b0 (n % 64) (List.replicate (64 - n % 64) 0))).toArray;generalize wb.setRow B2 (Lib.byteCells (over b0 (n % 64) (List.replicate (64 - n % 64) 0))).toArray=wd at hcl rd od;have hwl:w.heap.size < wb.heap.size:=lt_of_cell dB;have c1:wd.cell? ⟨g,o+1,none⟩=some (.map (some b)):=(od.cell (p:=⟨g,o+1,none⟩) (lt_of_cell d1) (by have:=HB2.out;simp;omega)).trans d1;have cB:wd.cell? ⟨w.heap.size,0,none⟩=some (.int .i64 n):=(od.cell (p:=⟨w.heap.size,0,none⟩) (lt_of_cell dB) (by have:=HB2.out;simp;omega)).trans dB
     have own3:wd.drew.ownsMap Tryz.prog 3 blkElem b 64 D:=by
       obtain ⟨es,clock,h1,r⟩:=hown;exact ⟨es,clock,(od.block b hblt (by simpa using hb2)).trans h1,r⟩
     obtain ⟨w4,hmu,own4,turn4⟩:=own3.store lawInt undMap (by unfold maxLen;omega) (keyInt (n / 64) (by omega)) (blkElem_mk hLn);rw [e64] at hmu
     have hn64:n / 64 < 64:=by
       have hh:=hf.lt hok;exact hh
     have HF:Hid (MapAt w4 (some b) (endF f n)):=by
       have hp:=hf.put hown.isMap hn64 hLn
       have:MapAt w4 (some b) (endF f n):=by rw [HE.out];exact ⟨_,(own_tight own4 hp).1,hp⟩
       exact this
     have hg4:=turn4.grown
     have HO4:Hid (Only [b] w w4):=by
       have h1:Only [b] w wd.drew:=(HO.out.trans od (fun i hi=>by rw [List.mem_singleton] at hi;subst hi;exact Or.inr (Nat.le_of_lt HB2.out))).drew;have:Only [b] w w4:=h1.grown hg4 (by simp);exact this
     have hS4:w4.cell? ⟨g,o+1,none⟩=some (.map (some b))∧w4.cell? ⟨w.heap.size,0,none⟩=some (.int .i64 n)∧w4.rangeAt B2 0 (Lib.byteCells (over b0 (n % 64) (List.replicate (64 - n % 64) 0))) :=
       ⟨(World.cell?_of_block (w:=wd.drew) (hg4.block g (lt_of_cell c1) (by simpa using Ne.symm hbg))).trans c1,
        (World.cell?_of_block (w:=wd.drew) (hg4.block w.heap.size (lt_of_cell cB) (by simpa using Ne.symm hbw))).trans cB,
        fun jj v hv=>(World.cell?_of_block (w:=wd.drew) (hg4.block B2 (lt_of_heap rd) (by simpa using Ne.symm hb2))).trans (rd.range jj v hv)⟩
     have hS3:wd.drew.cell? ⟨g,o+1,none⟩=some (.map (some b))∧wd.drew.cell? ⟨w.heap.size,0,none⟩=some (.int .i64 n)∧wd.drew.rangeAt B2 0 (Lib.byteCells (over b0 (n % 64) (List.replicate (64 - n % 64) 0))):=⟨c1,cB,fun jj v hv=>rd.range jj v hv⟩
     have hi1:(Tryz.prog.info? 384).map (·.size)=some (Lib.byteCells (over b0 (n % 64) (List.replicate (64 - n % 64) 0))).length:=by rw [sizeBlk,cells_len,hLn]
     have hu1:=undBlk;unfold blkV at hmu;clear own3 own4 turn4 hg4 hown hf hLn rd od hok hBk HE HM HR HL e64 d1;generalize over b0 (n % 64) (List.replicate (64 - n % 64) 0)=Ln at hmu hS3 hS4 hi1
     go_wp2
     clear hcl hsl dB
     go_region_held3 (fun W=>W.cell? ⟨g,o+1,none⟩=some (.map (some b))∧W.cell? ⟨w.heap.size,0,none⟩=some (.int .i64 n)∧W.rangeAt B2 0 (Lib.byteCells Ln)) (first | exact hS3 | exact hS4) (fail)
     all_goals (go_wp2;go_end0;exact ⟨rfl,HF.out,HO4.out⟩)
theorem DataO.sized {w:World}{g o:Nat}{S S':ByteArray}{H H':List Bool}{m:Option Nat}{f:Nat→Option (List UInt8)}(h:DataO w g o S H m)(hs:Same f S' H')(hm:MapAt w m f)(z:Int)(hz:z=(S'.size:Nat)):DataO (w.setCell ⟨g,o,none⟩ (.int .i64 z)) g o S' H' m:=by
 subst hz;refine ⟨World.cell?_setCell_same _ _ _ h.size,?_,fun k=>?_,h.ty.set _ _,f,hs,?_⟩
 · rw [World.cell?_setCell_other _ _ _ _ (by simp)];exact h.map
 · rw [World.frozen?_setCell];exact h.fz k
 · cases m with
   | none=>exact hm
   | some b =>
    obtain ⟨D,h1,h2⟩:=hm;exact ⟨D,h1.setCell (own_ne h1 h.map) _,h2⟩
theorem dresizeO (w:World)(g o:Nat)(S:ByteArray)(H:List Bool)(m:Option Nat)(n:Nat)(hD:DataO w g o S H m)(hn:n≤4096):
   Calls Tryz.prog 231 #[.pointer (some ⟨g,o,none⟩),.int .i64 n] w fun e w'=>e = .returned .nilIface∧DataO w' g o (resizeS S n) (resizeH S H n) m∧Only (footD g m) w w'∧∀ k,k≠o→k≠o+1→w'.cell? ⟨g,k,none⟩=w.cell? ⟨g,k,none⟩:=by
 obtain ⟨f,hs,hm⟩:=hD.holds;have hc:=hD.size;have hf0:=hD.fz o;have hS:=hs.le;have HD:Hid (DataO w g o S H m):=hD;have HS:Hid (Same f S H):=hs;have HM:Hid (MapAt w m f):=hm;unfold resizeS resizeH
 by_cases h:S.size≤n
 · rw [if_pos h,if_pos h]
   have hw:Hid ((S++zer (n - S.size)).size=n):=by
     have:(S++zer (n - S.size)).size=n:=by rw [ByteArray.size_append,zer_size];omega
     exact this
   clear hD hs hm
   go_enter Tryz.func231,Tryz.ntmps231
   go_wp2
   go_ret
   exact ⟨rfl,HD.out.sized (HS.out.grow hn h) HM.out _ (by rw [hw.out]),(Only.refl _ _).setCell (Or.inl (by simp [footD])) _,fun k h1 h2=>World.cell?_setCell_other _ _ _ _ (by simp)⟩
 · rw [if_neg h,if_neg h]
   have hcut:=dcutO w g o n m f hD.map hm hn
   have HZ:Hid ((S.extract 0 n).size=n):=by
     have:(S.extract 0 n).size=n:=by rw [ByteArray.size_extract];omega
     exact this
   have HS2:Hid (Same (endF f n) (S.extract 0 n) (shrinkTo H n H.length)):=hs.cut (by omega) (fun k b e=>(hm.len k b e).1);have hlt:g < w.heap.size:=lt_of_cell hc
   have hgm:g∉m.toList:=by
     cases m with
     | none=>simp
     | some b =>
      obtain ⟨D,h1,_⟩:=hm
      simpa using Ne.symm (own_ne h1 hc)
   clear hD hs hm
   go_enter Tryz.func231,Tryz.ntmps231
   go_wp2_with (go_at_call 314;go_must (refine hcut.mono ?_);rintro e w2 ⟨rfl,hM2,ho2⟩;have c2:w2.cell? ⟨g,o,none⟩=some (.int .i64 (S.size:Nat)):=(ho2.cell (p:=⟨g,o,none⟩) hlt hgm).trans hc;have f2:w2.frozen? ⟨g,o,none⟩=false:=(ho2.frozen (p:=⟨g,o,none⟩) hlt hgm).trans hf0)
   go_ret
   refine ⟨rfl,⟨World.cell?_setCell_same _ _ _ c2 |>.trans (by rw [HZ.out]),?_,fun k=>?_,(HD.out.ty.only ho2 hgm).set _ _,endF f n,HS2.out,?_⟩,(ho2.mono (L':=footD g m) (fun i hi=>Or.inl (List.mem_cons_of_mem _ hi))).setCell (Or.inl (by simp [footD])) _,fun k h1 h2=>(World.cell?_setCell_other _ _ _ _ (by simp)).trans (ho2.cell (p:=⟨g,k,none⟩) hlt hgm)⟩
   · rw [World.cell?_setCell_other _ _ _ _ (by simp)];exact (ho2.cell (p:=⟨g,o+1,none⟩) hlt hgm).trans HD.out.map
   · rw [World.frozen?_setCell];exact (ho2.frozen (p:=⟨g,k,none⟩) hlt hgm).trans (HD.out.fz k)
   · cases m with
     | none=>exact hM2
     | some b =>
      obtain ⟨D,h1,h2⟩:=hM2;exact ⟨D,h1.setCell (own_ne h1 c2) _,h2⟩
end
end Go.Proofs.YtmnidbnaneagjaaGreatDoor
