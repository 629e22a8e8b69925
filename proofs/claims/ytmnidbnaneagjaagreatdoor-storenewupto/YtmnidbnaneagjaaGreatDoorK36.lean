import Derived.Test.YtmnidbnaneagjaaGreatDoorK35
set_option maxRecDepth 100000
set_option maxHeartbeats 8000000
namespace Go.Proofs.YtmnidbnaneagjaaGreatDoor
section
open Go Go.RowKit Go.Deep
def TxIn (w:World)(ad:Option Addr)(L:List (List UInt8)):Prop:=∀ j s,L[j]?=some s→∃ b o,ad=some ⟨b,o,none⟩∧b < w.heap.size∧w.cell? ⟨b,o+j,none⟩=some (txv s)
theorem TxIn.only {w w':World}{ad:Option Addr}{L:List (List UInt8)}(h:TxIn w ad L)(ho:Only [] w w'):TxIn w' ad L:=fun j s hs=>by
 obtain ⟨b,o,e,hb,hc⟩:=h j s hs;exact ⟨b,o,e,Nat.lt_of_lt_of_le hb ho.size,(ho.cell (p:=⟨b,o+j,none⟩) hb (by simp)).trans hc⟩
theorem wgt_take (L:List (List UInt8))(j:Nat):wgt (L.take j)≤wgt L:=by
 conv=>rhs;rw [← List.take_append_drop j L]
 simp only [wgt,List.map_append,List.sum_append];omega
theorem take_snoc {α:Type}{L:List α}{j:Nat}{s:α}(h:L[j]?=some s):L.take (j+1)=L.take j++[s]:=by
 rw [List.take_add_one,h];rfl
theorem sectorsOf_ok (w:World)(s:ByteArray)(hs:s.size < 4611686018427387904):Calls Tryz.prog 167 #[.string s] w fun e w'=>e = .returned (.int .i64 (secsN s.size:Nat))∧w'=w:=by
 unfold secsN
 go_enter Tryz.func167,Tryz.ntmps167
 go_wp2
 go_ret
 have e1:(((s.size:Int)+64 - 1) / 64)=(((s.size+63) / 64:Nat):Int):=by omega
 rw [← e1];exact ⟨rfl,rfl⟩
theorem block_ok (w:World)(ad:Option Addr)(cap:Nat)(L:List (List UInt8))(h:TxIn w ad L)(hL:L.length≤2000000)(hW:wgt L < 1099511627776):
  Calls Tryz.prog 166 #[.slice ad L.length cap] w fun e w'=>e = .returned (.string (bs (blkT L)))∧Only [] w w':=by
 have H:Hid (TxIn w ad L):=h;obtain ⟨len,hlen⟩:∃ len,L.length=len:=⟨_,rfl⟩;have HL:Hid (L.length=len):=hlen;rw [hlen] at hL ⊢;have HF:Hid (BuW w (w.alloc (.cells #[.pointer none,.slice none 0 0] 186)) w.heap.size []):=BuW.fresh (Only.refl [] w);clear h hlen
 go_enter Tryz.func166,Tryz.ntmps166
 go_upto_region 2 with (fail)
 generalize w.alloc (.cells #[.pointer none,.slice none 0 0] 186)=W0 at HF ⊢;obtain ⟨b,hb⟩:∃ b,w.heap.size=b:=⟨_,rfl⟩;rw [hb] at HF ⊢;clear hb;have HWD:Hid (∀ W l (n:Nat),BuW w W b l→Calls Tryz.prog 145 #[.int .i64 (n:Nat)] W fun e w'=>e = .returned (.string (bs (wd n)))∧BuW w w' b l):=fun W l n hB=>(word_ok W n).mono fun e w' q=>⟨q.1,hB.other q.2⟩;have HWS:Hid (∀ W l t,BuW w W b l→l.length+t.size≤140737488355328→Calls Tryz.prog 69 #[.pointer (some ⟨b,0,none⟩),.string t] W fun e w'=>e = .returned (.tuple #[.int .i64 t.size,.nilIface])∧BuW w w' b (l++t.data.toList)):=fun W l t hB hl=>(bwrite_any w W b l t hB hl).mono fun e w' q=>⟨q.1,q.2.1⟩
 have hwd:∀ n,(bs (wd n)).size=4:=fun n=>by rw [bs_size,wd_len]
 have HWZ:Hid (∀ n,(bs (wd n)).size=4):=hwd;clear hwd
 go_upto_region 4 with (first
  | (go_at_call 145;refine (HWD.out _ _ _ HF.out).mono ?_;rintro e w1 ⟨rfl,h1⟩;have HF1:Hid (BuW w w1 b []):=h1;clear h1)
  | (go_at_call 69;refine (HWS.out _ _ _ HF1.out (by rw [HWZ.out];decide)).mono ?_;rintro e w2 ⟨rfl,h2⟩;have HF2:Hid (BuW w w2 b (wd len)):=(by rw [bs_data] at h2;exact h2);clear h2))
 go_loopw [12] (fun i wr=>∃ j:Nat,i = .int .i64 (j:Nat)∧j≤len∧BuW w wr b (wd len++((L.take j).map recT).flatten)) (fun i _=>len - (intOf i).toNat)
 case atStart=>exact ⟨0,rfl,Nat.zero_le _,by simpa using HF2.out⟩
 case round =>
  clear HF HF1 HF2;obtain ⟨j,rfl,hj,hB⟩:=hrel;have HB:Hid (BuW w wr b (wd len++((L.take j).map recT).flatten)):=hB
  by_cases hlt:j < len
  · have hl:decide ((j:Int) < (len:Int))=true:=decide_eq_true (by omega)
    obtain ⟨s,hs⟩:∃ s,L[j]?=some s:=⟨L[j]'(by have:=HL.out;omega),List.getElem?_eq_getElem _⟩;obtain ⟨g,o,rfl,hg,hc⟩:=(H.out.only hB.only) j s hs;unfold txv at hc
    have b1:(j:Int) < (len:Int):=by omega
    have hnx:((L.take (j+1)).map recT).flatten=((L.take j).map recT).flatten++(wd s.length++s):=by rw [take_snoc hs];simp [recT]
    have hlen2:(wd len++((L.take j).map recT).flatten).length+(4+s.length)≤140737488355328:=by
      have h1:=flat_lenG (L.take (j+1));have h2:=wgt_take L (j+1);rw [hnx] at h1;simp only [List.length_append,wd_len] at h1 ⊢;omega
    have HNX:Hid (((L.take (j+1)).map recT).flatten=((L.take j).map recT).flatten++(wd s.length++s)):=hnx;have hsz:(bs s).size=s.length:=bs_size s;have HSD:Hid ((bs s).data.toList=s):=bs_data s;have HL2:Hid ((wd len++((L.take j).map recT).flatten).length+(4+s.length)≤140737488355328):=hlen2
    have HL3:Hid ((wd len++((L.take j).map recT).flatten++wd s.length).length+(bs s).size≤140737488355328):=by
      show _≤_;rw [List.length_append,wd_len,hsz];omega
    generalize bs s=x at hc hsz HSD HL3;clear hB hs hnx hlen2
    go_wp2_with (first
      | (go_at_call 145;refine (HWD.out _ _ s.length HB.out).mono ?_;rintro e w3 ⟨rfl,h1⟩;have HF3:Hid (BuW w w3 b (wd len++((L.take j).map recT).flatten)):=h1;clear h1)
      | (go_at_call 69;refine (HWS.out w4 _ x HF4.out HL3.out).mono ?_;rintro e w5 ⟨rfl,h2⟩;have HF5:Hid (BuW w w5 b (wd len++((L.take j).map recT).flatten++wd s.length++x.data.toList)):=h2;clear h2)
      | (go_at_call 69;refine (HWS.out w3 _ (bs (wd s.length)) HF3.out (by rw [HWZ.out];have:=HL2.out;omega)).mono ?_;rintro e w4 ⟨rfl,h2⟩;have HF4:Hid (BuW w w4 b (wd len++((L.take j).map recT).flatten++wd s.length)):=(by rw [bs_data] at h2;exact h2);clear h2))
    go_roundw
    case rel =>
      refine ⟨j+1,by go_num,by omega,?_⟩;have:=HF5.out;rw [HSD.out] at this;rw [HNX.out]
      simpa using this
    case measure=>simp [intOf];omega
  · have hl:decide ((j:Int) < (len:Int))=false:=decide_eq_false (by omega)
    obtain rfl:len=j:=by omega
    have hB2:BuW w wr b (blkT L):=by
      rw [List.take_of_length_le (by have:=HL.out;omega)] at hB;unfold blkT;rw [HL.out];exact hB
    have HST:Hid (Calls Tryz.prog 71 #[.pointer (some ⟨b,0,none⟩)] wr fun e w'=>e = .returned (.string (bs (blkT L)))∧Only [] w w'):=bstring_any w wr b (blkT L) hB2 (by simp [blkT,wd]);clear hB hB2
    go_wp2_with (go_at_call 71;refine HST.out.mono ?_;rintro e w6 ⟨rfl,h6⟩;have HO:Hid (Only [] w w6):=h6;clear h6)
    go_ret
    exact ⟨rfl,HO.out⟩
structure Hd where
 calls:Nat
 half:Nat
 used:Nat
abbrev hdV (h:Hd):Value := .agg #[.int .u32 (h.calls:Nat),.int .i64 (h.half:Nat),.int .i64 (h.used:Nat)]
structure Hd.Ok (h:Hd):Prop where
 calls:h.calls < 4294967296
 half:h.half < 4294967296
 used:h.used < 4294967296
def Hd.fits (h:Hd)(N:Nat):Bool:=decide (8≤N∧h.half≤1∧h.used≤(N - 2) / 2)
def Hd.first (h:Hd)(N:Nat):Nat:=2+h.half*((N - 2) / 2)
def Hd.behind (h o:Hd):Bool:=decide (0 < (h.calls+4294967296 - o.calls) % 4294967296∧(h.calls+4294967296 - o.calls) % 4294967296 < 2147483648)
def Hd.emptied (h:Hd):Hd:=⟨(h.calls+1) % 4294967296,1 - h.half,0⟩
def Hd.zero:Hd:=⟨0,0,0⟩
section
variable {w:World}{base t:Nat}{pw:Option Nat}{vs vw:Value}{sec:List Sec}{wt:List Wr}
theorem slot_ok (w:World)(h:Hd)(hk:h.Ok):Calls Tryz.prog 96 #[hdV h] w fun e w'=>e = .returned (.int .i64 (h.calls % 2:Nat))∧Only [] w w':=by
 have h1:=hk.calls
 go_enter Tryz.func96,Tryz.ntmps96
 go_wp2
 go_ret
 exact ⟨rfl,(Only.refl _ _).alloc _⟩
theorem half_ok (h:DkAt w base t pw vs vw sec wt)(h2:2≤sec.length):Calls Tryz.prog 126 #[.pointer (some ⟨t,0,none⟩)] w fun e w'=>e = .returned (.int .i64 ((sec.length - 2) / 2:Nat))∧w'=w:=by
 have H:Hid (Calls Tryz.prog 92 #[.pointer (some ⟨t,0,none⟩)] w fun e w'=>e = .returned (.int .i64 (sec.length:Nat))∧w'=w):=sectors_ok h;have hm:=h.most;generalize sec.length=N at H hm h2 ⊢;clear h
 go_enter Tryz.func126,Tryz.ntmps126
 go_wp2_with (go_at_call 92;refine H.out.mono ?_;rintro e w1 ⟨rfl,h0⟩;have h1:=h0.symm;subst h1;clear h0)
 go_ret
 have e1:(((N - 2) / 2:Nat):Int)=((N:Int) - 2) / 2:=by omega
 rw [e1];exact ⟨rfl,rfl⟩
theorem settle_ok (h:DkAt w base t pw vs vw sec []):Calls Tryz.prog 39 #[.pointer (some ⟨t,0,none⟩)] w fun e w'=>e = .returned .nilIface∧w'=w:=by
 have H:Hid (Calls Tryz.prog 72 #[.pointer (some ⟨t,0,none⟩)] w fun e w'=>e = .returned (.int .i64 (0:Nat))∧w'=w):=waiting_ok h;clear h
 go_enter Tryz.func39,Tryz.ntmps39
 go_wp2_with (go_at_call 72;refine H.out.mono ?_;rintro e w1 ⟨rfl,h0⟩;have h1:=h0.symm;subst h1;clear h0)
 go_ret
 exact ⟨rfl,rfl⟩
theorem isBehind_ok (w:World)(h o:Hd)(hk:h.Ok)(ho:o.Ok):Calls Tryz.prog 66 #[hdV h,hdV o] w fun e w'=>e = .returned (.bool (h.behind o))∧Only [] w w':=by
 have h1:=hk.calls;have h2:=ho.calls;unfold Hd.behind
 go_enter Tryz.func66,Tryz.ntmps66
 go_wp2
 go_ret
 refine ⟨?_,((Only.refl _ _).alloc _).alloc _⟩
 have e1:decide (0 < wrap32 (((h.calls:Int) - (o.calls:Int)) % 4294967296))=decide (0 < (h.calls+4294967296 - o.calls) % 4294967296∧(h.calls+4294967296 - o.calls) % 4294967296 < 2147483648):=by
  apply decide_eq_decide.2;unfold wrap32;omega
 rw [← e1];rfl
theorem emptied_ok (w:World)(h:Hd)(hk:h.Ok)(h0:h.half≤1):Calls Tryz.prog 93 #[hdV h] w fun e w'=>e = .returned (hdV h.emptied)∧Only [] w w':=by
 have h1:=hk.calls
 have e1:((1 - h.half:Nat):Int)=1 - (h.half:Int):=by omega
 go_enter Tryz.func93,Tryz.ntmps93
 go_wp2
 exact bodyPost_ret (v:=hdV h.emptied) (by simp [results,Tryz.results93,go_sem,Hd.emptied,e1]) rfl ⟨rfl,((Only.refl _ _).alloc _).alloc _⟩
theorem hfirst_ok (hd:DkAt w base t pw vs vw sec wt)(h:Hd)(h0:h.half≤1)(hN:2≤sec.length):Calls Tryz.prog 68 #[hdV h,.pointer (some ⟨t,0,none⟩)] w fun e w'=>e = .returned (.int .i64 (h.first sec.length:Nat))∧Only [] w w':=by
 have HS:Hid (∀ W,Only [] w W→Calls Tryz.prog 126 #[.pointer (some ⟨t,0,none⟩)] W fun e w'=>e = .returned (.int .i64 ((sec.length - 2) / 2:Nat))∧w'=W):=fun W ho=>half_ok (hd.keep ho) hN;have hm:=hd.most;unfold Hd.first
 have hM:(sec.length - 2) / 2≤sec.length:=by omega
 generalize (sec.length - 2) / 2=M at HS hM ⊢;generalize sec.length=N at hm hN hM;clear hd
 go_enter Tryz.func68,Tryz.ntmps68
 go_upto_region 1 with (fail)
 go_quiet ((go_at_call 126;refine Calls.quiet_of_same (HS.out _ (drewsD ((Only.refl [] _).alloc _) _))))
 go_wp2
 go_ret
 have e1:wrap64 (2+wrap64 ((h.half:Int)*(M:Int)))=((2+h.half*M:Nat):Int):=by
  have:h.half=0∨h.half=1:=by omega
  rcases this with e | e
  · rw [e]
    unfold wrap64;simp
  · rw [e]
    unfold wrap64;omega
 rw [← e1];exact ⟨rfl,drewsD ((Only.refl _ _).alloc _) _⟩
theorem fits_ok (hd:DkAt w base t pw vs vw sec wt)(h:Hd)(hk:h.Ok):Calls Tryz.prog 125 #[hdV h,.pointer (some ⟨t,0,none⟩)] w fun e w'=>e = .returned (.bool (h.fits sec.length))∧Only [] w w':=by
 have HS:Hid (∀ W,Only [] w W→Calls Tryz.prog 92 #[.pointer (some ⟨t,0,none⟩)] W fun e w'=>e = .returned (.int .i64 (sec.length:Nat))∧w'=W):=fun W ho=>sectors_ok (hd.keep ho);have HT:Hid (8≤sec.length→∀ W,Only [] w W→Calls Tryz.prog 126 #[.pointer (some ⟨t,0,none⟩)] W fun e w'=>e = .returned (.int .i64 ((sec.length - 2) / 2:Nat))∧w'=W):=fun h8 W ho=>half_ok (hd.keep ho) (by omega);have hm:=hd.most;have h1:=hk.half;have h2:=hk.used;unfold Hd.fits;generalize sec.length=N at HS HT hm ⊢;clear hd;obtain ⟨M,hM⟩:∃ M,(N - 2) / 2=M:=⟨_,rfl⟩;rw [hM] at HT ⊢;clear hM hk
 by_cases c1:8≤N
 · have HT1:Hid (∀ W,Only [] w W→Calls Tryz.prog 126 #[.pointer (some ⟨t,0,none⟩)] W fun e w'=>e = .returned (.int .i64 (M:Nat))∧w'=W):=HT.out c1
   clear HT;have d1:decide ((8:Int)≤(N:Int))=true:=decide_eq_true (by omega)
   by_cases c2:h.half≤1
   · have d2:decide ((h.half:Int)≤1)=true:=decide_eq_true (by omega)
     go_enter Tryz.func125,Tryz.ntmps125
     go_upto_region 1 with (fail)
     go_quiet (first
      | (go_at_call 92;refine Calls.quiet_of_same (HS.out _ (drewsD ((Only.refl [] _).alloc _) _)))
      | (go_at_call 126;refine Calls.quiet_of_same (HT1.out _ (drewsD ((Only.refl [] _).alloc _) _))))
     go_wp2
     go_ret
     exact ⟨by simp [c1,c2],drewsD ((Only.refl _ _).alloc _) _⟩
   · have d2:decide ((h.half:Int)≤1)=false:=decide_eq_false (by omega)
     go_enter Tryz.func125,Tryz.ntmps125
     go_upto_region 1 with (fail)
     go_quiet (first
      | (go_at_call 92;refine Calls.quiet_of_same (HS.out _ (drewsD ((Only.refl [] _).alloc _) _)))
      | (go_at_call 126;refine Calls.quiet_of_same (HT1.out _ (drewsD ((Only.refl [] _).alloc _) _))))
     go_wp2
     go_ret
     exact ⟨by simp [c2],drewsD ((Only.refl _ _).alloc _) _⟩
 · have d1:decide ((8:Int)≤(N:Int))=false:=decide_eq_false (by omega)
   go_enter Tryz.func125,Tryz.ntmps125
   go_upto_region 1 with (fail)
   go_quiet (first
     | (go_at_call 92;refine Calls.quiet_of_same (HS.out _ (drewsD ((Only.refl [] _).alloc _) _))))
   go_wp2
   go_ret
   exact ⟨by simp [c1],drewsD ((Only.refl _ _).alloc _) _⟩
end
def markL:List UInt8:=[112,105,103,101,111,110,104,111,108,101,115,32,108,111,103,10]
abbrev markV:Value := .string ⟨#[112,105,103,101,111,110,104,111,108,101,115,32,108,111,103,10]⟩
def hdRead (s:Sec):Hd:=⟨unwd ((s.1.drop 16).take 4),unwd ((s.1.drop 20).take 4),unwd ((s.1.drop 24).take 4)⟩
def isMark (s:Sec):Bool:=s.1.take 16==markL
def hdOf (N slot:Nat)(s:Sec):Option Hd:=if isMark s&&(((hdRead s).calls % 2==slot)&&(hdRead s).fits N) then some (hdRead s) else none
def headAt (sec:List Sec)(n:Nat):Option Hd:=(sec[n]?).bind (hdOf sec.length n)
def newestL (sec:List Sec):Option Hd:=match headAt sec 0,headAt sec 1 with
 | e,none=>e
 | none,some o=>some o
 | some e,some o=>if o.behind e then some o else some e
theorem hdRead_ok (s:Sec):(hdRead s).Ok:=⟨unwd_lt4 (by simp;omega),unwd_lt4 (by simp;omega),unwd_lt4 (by simp;omega)⟩
theorem hdOf_read {N slot:Nat}{s:Sec}{h:Hd}(e:hdOf N slot s=some h):h=hdRead s∧h.calls % 2=slot∧h.fits N=true∧isMark s=true:=by
 unfold hdOf at e
 split at e
 · rename_i c
   simp only [Bool.and_eq_true,beq_iff_eq] at c
   cases e
   exact ⟨rfl,c.2.1,c.2.2,c.1⟩
 · cases e
theorem headAt_read {sec:List Sec}{n:Nat}{h:Hd}(e:headAt sec n=some h):h.Ok∧h.calls % 2=n∧h.fits sec.length=true∧∃ s,sec[n]?=some s∧h=hdRead s:=by
 unfold headAt at e
 cases hs:sec[n]? with
 | none=>simp [hs] at e
 | some s =>
  simp only [hs,Option.bind_some] at e;obtain ⟨h1,h2,h3,_⟩:=hdOf_read e;exact ⟨by rw [h1];exact hdRead_ok s,h2,h3,s,rfl,h1⟩
theorem Hd.fits_iff {h:Hd}{N:Nat}(e:h.fits N=true):8≤N∧h.half≤1∧h.used≤(N - 2) / 2:=by simpa [Hd.fits] using e
theorem newest_read {sec:List Sec}{h:Hd}(e:newestL sec=some h):h.Ok∧h.fits sec.length=true∧headAt sec (h.calls % 2)=some h:=by
 unfold newestL at e
 split at e
 · have:=headAt_read e
   exact ⟨this.1,this.2.2.1,by rw [this.2.1];exact e⟩
 · rename_i o _ ho
   cases e
   have:=headAt_read ho;exact ⟨this.1,this.2.2.1,by rw [this.2.1];exact ho⟩
 · rename_i e0 o he ho
   split at e
   · cases e
     have:=headAt_read ho;exact ⟨this.1,this.2.2.1,by rw [this.2.1];exact ho⟩
   · cases e
     have:=headAt_read he;exact ⟨this.1,this.2.2.1,by rw [this.2.1];exact he⟩
theorem mark_eq (s:Sec):(((bs s.1).extract 0 16).toList==[112,105,103,101,111,110,104,111,108,101,115,32,108,111,103,10])=isMark s:=by
 rw [bs_take,Lib.toList_data,bs_data];rfl
theorem lprefix_ok (w:World)(s:Sec):Calls Tryz.prog 222 #[.string (bs s.1),markV] w fun e w'=>e = .returned (.bool (isMark s))∧w'=w:=by
 have h1:(bs s.1).size=64:=by rw [bs_size,s.2]
 have h2:=mark_eq s;generalize bs s.1=x at h1 h2 ⊢
 go_enter Tryz.func222,Tryz.ntmps222
 go_wp2
 go_ret
 exact ⟨rfl,rfl⟩
theorem prefix_ok (w:World)(s:Sec):Calls Tryz.prog 123 #[.string (bs s.1),markV] w fun e w'=>e = .returned (.bool (isMark s))∧w'=w:=by
 have H:=lprefix_ok w s
 go_enter Tryz.func123,Tryz.ntmps123
 go_wp2_with (go_at_call 222;refine H.mono ?_;rintro e w1 ⟨rfl,h0⟩;have h1:=h0.symm;subst h1;clear h0)
 go_ret
 exact ⟨rfl,rfl⟩
structure HrS (w W:World)(res hb r:Nat)(st:Rst)(c0 c1 c2:Value):Prop where
 rs:W.heap[res]?=some (.cells #[.int .u32 0,.int .i64 0,.int .i64 0] 131 (0,0))
 hd:W.heap[hb]?=some (.cells #[c0,c1,c2] 131 (0,0))
 rd:RdAt W r st
 only:Only [] w W
 ge:w.heap.size≤res∧w.heap.size≤hb∧w.heap.size≤r
 ne:res≠hb∧res≠r∧hb≠r
section
variable {w W W':World}{res hb r:Nat}{st st':Rst}{c0 c1 c2:Value}
theorem HrS.read (h:HrS w W res hb r st c0 c1 c2)(ho:Only [r] W W')(hr:RdAt W' r st'):HrS w W' res hb r st' c0 c1 c2 :=
 ⟨(ho.block _ (Array.getElem?_eq_some_iff.1 h.rs).1 (by simpa using h.ne.2.1)).trans h.rs,(ho.block _ (Array.getElem?_eq_some_iff.1 h.hd).1 (by simpa using h.ne.2.2)).trans h.hd,hr,h.only.trans ho (fun i hi=>Or.inr (by rw [List.mem_singleton.1 hi];exact h.ge.2.2)),h.ge,h.ne⟩
theorem HrS.store (h:HrS w W res hb r st c0 c1 c2)(k:Nat)(v d0 d1 d2:Value)(e:#[d0,d1,d2]=(#[c0,c1,c2]:Array Value).setIfInBounds k v):HrS w (W.setCell ⟨hb,k,none⟩ v) res hb r st d0 d1 d2:=by
 have ho:Only [hb] W (W.setCell ⟨hb,k,none⟩ v):=(Only.refl [hb] W).setCell (Or.inl (by simp)) _;refine ⟨(ho.block _ (Array.getElem?_eq_some_iff.1 h.rs).1 (by simpa using h.ne.1)).trans h.rs,?_,h.rd.only ho (by simpa using fun e=>h.ne.2.2 e.symm),h.only.trans ho (fun i hi=>Or.inr (by rw [List.mem_singleton.1 hi];exact h.ge.2.1)),h.ge,h.ne⟩;rw [heap_setCell_same W hb k _ _ _ h.hd,e]
theorem HrS.cells (h:HrS w W res hb r st c0 c1 c2):W.cell? ⟨hb,0,none⟩=some c0∧W.cell? ⟨hb,1,none⟩=some c1∧W.cell? ⟨hb,2,none⟩=some c2∧hb < W.heap.size∧(∀ o,W.frozen? ⟨hb,o,none⟩=false) :=
 ⟨cell_of_row _ _ 0 _ _ _ h.hd,cell_of_row _ _ 1 _ _ _ h.hd,cell_of_row _ _ 2 _ _ _ h.hd,(Array.getElem?_eq_some_iff.1 h.hd).1,fun _=>frozen_of_row _ _ _ _ _ h.hd⟩
theorem HrS.rcells (h:HrS w W res hb r st c0 c1 c2):W.cell? ⟨res,0,none⟩=some (.int .u32 0)∧W.cell? ⟨res,1,none⟩=some (.int .i64 0)∧W.cell? ⟨res,2,none⟩=some (.int .i64 0)∧res < W.heap.size∧(∀ o,W.frozen? ⟨res,o,none⟩=false) :=
 ⟨cell_of_row _ _ 0 _ _ _ h.rs,cell_of_row _ _ 1 _ _ _ h.rs,cell_of_row _ _ 2 _ _ _ h.rs,(Array.getElem?_eq_some_iff.1 h.rs).1,fun _=>frozen_of_row _ _ _ _ _ h.rs⟩
end
theorem res_kept {w w1:World}{c0 c1 c2:Value}{ty:TypeId}(h:Only [] (w.alloc (.cells #[c0,c1,c2] ty)) w1):
  w1.cell? ⟨w.heap.size,0,none⟩=some c0∧w1.cell? ⟨w.heap.size,1,none⟩=some c1∧w1.cell? ⟨w.heap.size,2,none⟩=some c2∧(∀ o,w1.frozen? ⟨w.heap.size,o,none⟩=false)∧w.heap.size < w1.heap.size∧Hid (Only [] w w1):=by
 have k0:w1.heap[w.heap.size]?=some (.cells #[c0,c1,c2] ty (0,0)):=(h.block _ (by simp) (by simp)).trans (heap_alloc_last w _);exact ⟨cell_of_row _ _ 0 _ _ _ k0,cell_of_row _ _ 1 _ _ _ k0,cell_of_row _ _ 2 _ _ _ k0,fun _=>frozen_of_row _ _ _ _ _ k0,(Array.getElem?_eq_some_iff.1 k0).1,((Only.refl [] w).alloc _).trans h (fun _ h=>by cases h)⟩
theorem rW_four {l:List UInt8}(h:4≤l.length):rW (some l)=(unwd (l.take 4),some (l.drop 4)):=by
 have:¬ l.length < 4:=by omega
 simp [rW,rB,this]
theorem hr_word {w W:World}{res hb r:Nat}{l:List UInt8}{c0 c1 c2:Value}{a:Nat}(h:HrS w W res hb r (some l) c0 c1 c2)(h4:4≤l.length)(hl:l.length≤64)(ha:unwd (l.take 4)=a){l':List UInt8}(hl':l.drop 4=l'):
  Calls Tryz.prog 124 #[.pointer (some ⟨r,0,none⟩)] W fun e w'=>e = .returned (.int .i64 (a:Nat))∧HrS w w' res hb r (some l') c0 c1 c2:=by
 subst hl';have:=rword_ok h.rd (by simp only [leftR,Option.getD_some];omega);rw [rW_four h4] at this;refine this.mono fun e w' q=>?_;exact ⟨by rw [q.1,ha],h.read q.2.2 q.2.1⟩
section
variable (A:Nat→Addr){w:World}{base t:Nat}{pw:Option Nat}{vs vw:Value}{sec:List Sec}{wt:List Wr}
theorem readHead_none (hE:Err3 w A)(hd:DkAt w base t pw vs vw sec wt)(n:Nat)(hn:sec[n]?=none):
  Calls Tryz.prog 65 #[.pointer (some ⟨t,0,none⟩),.int .i64 (n:Nat)] w fun e w'=>e = .returned (.tuple #[hdV Hd.zero,.bool false])∧Only [] w w':=by
 have ho:∀ o,Only [] w (w.alloc o):=fun o=>(Only.refl [] w).alloc o;have HR:Hid (∀ o,Calls Tryz.prog 67 #[.pointer (some ⟨t,0,none⟩),.int .i64 (n:Nat)] (w.alloc o) fun e w'=>e = .returned (.tuple #[.string ⟨#[]⟩,.iface 535 (.pointer (some (A 1)))])∧Only [] (w.alloc o) w'):=fun o=>read_bad A (hE.below ((ho o).to_below (Nat.le_refl _) (fun _ h=>by cases h)) (Nat.le_refl _)) (hd.keep (ho o)) n (by have:=List.getElem?_eq_none_iff.1 hn;omega);clear hd hE
 go_enter Tryz.func65,Tryz.ntmps65
 go_wp2_with (go_at_call 67;refine (HR.out _).mono ?_;rintro e w1 ⟨rfl,h1⟩;obtain ⟨k1,k2,k3,k5,k6,HO⟩:=res_kept h1;clear h1)
 refine bodyPost_ret (v := .tuple #[hdV Hd.zero,.bool false]) (by simp [results,Tryz.results65,go_sem,k1,k2,k3,Hd.zero]) rfl ⟨rfl,?_⟩;exact ((HO.out.setCell (Or.inr (Nat.le_refl _)) _).setCell (Or.inr (Nat.le_refl _)) _).setCell (Or.inr (Nat.le_refl _)) _
theorem readHead_some (hd:DkAt w base t pw vs vw sec wt)(n:Nat)(s:Sec)(hn:sec[n]?=some s):
   Calls Tryz.prog 65 #[.pointer (some ⟨t,0,none⟩),.int .i64 (n:Nat)] w fun e w'=>e = .returned (.tuple #[hdV ((hdOf sec.length n s).getD Hd.zero),.bool (hdOf sec.length n s).isSome])∧Only [] w w':=by
 have HR:Hid (∀ o,Calls Tryz.prog 67 #[.pointer (some ⟨t,0,none⟩),.int .i64 (n:Nat)] (w.alloc o) fun e w'=>e = .returned (.tuple #[.string (bs s.1),.nilIface])∧w'=w.alloc o):=fun o=>read_ok (hd.keep ((Only.refl [] w).alloc o)) n s hn;have HP:Hid (∀ W,Calls Tryz.prog 123 #[.string (bs s.1),markV] W fun e w'=>e = .returned (.bool (isMark s))∧w'=W):=fun W=>prefix_ok W s;have HD:Hid (∀ W,Only [] w W→DkAt W base t pw vs vw sec wt):=fun W ho=>hd.keep ho
 have hsz:(bs s.1).size=64:=by rw [bs_size,s.2]
 obtain ⟨x,hx⟩:∃ x,bs s.1=x:=⟨_,rfl⟩;rw [hx] at HR HP hsz;have HX:Hid (bs s.1=x):=hx;clear hd hn hx
 by_cases hm:isMark s=true
 · rw [hm] at HP
   have e0:hdOf sec.length n s=if ((hdRead s).calls % 2==n)&&(hdRead s).fits sec.length then some (hdRead s) else none:=by simp [hdOf,hm]
   rw [e0];clear e0;have ha0:(hdRead s)=⟨unwd ((s.1.drop 16).take 4),unwd ((s.1.drop 20).take 4),unwd ((s.1.drop 24).take 4)⟩:=rfl;have hok:=hdRead_ok s;obtain ⟨a,ha⟩:∃ a,unwd ((s.1.drop 16).take 4)=a:=⟨_,rfl⟩;obtain ⟨b,hb'⟩:∃ b,unwd ((s.1.drop 20).take 4)=b:=⟨_,rfl⟩;obtain ⟨c,hc⟩:∃ c,unwd ((s.1.drop 24).take 4)=c:=⟨_,rfl⟩
   have la:a < 4294967296:=by rw [← ha];exact unwd_lt4 (by simp;omega)
   rw [ha,hb',hc] at ha0;rw [ha0] at hok ⊢;clear ha0;obtain ⟨o,ho⟩:∃ o,(if (((⟨a,b,c⟩:Hd).calls % 2==n)&&(⟨a,b,c⟩:Hd).fits sec.length)=true then some (⟨a,b,c⟩:Hd) else none)=o:=⟨_,rfl⟩;rw [ho];have HOO:Hid ((if (((⟨a,b,c⟩:Hd).calls % 2==n)&&(⟨a,b,c⟩:Hd).fits sec.length)=true then some (⟨a,b,c⟩:Hd) else none)=o):=ho;clear ho
   go_enter Tryz.func65,Tryz.ntmps65
   go_upto_region 6 with (first
     | (go_at_call 67;refine (HR.out _).mono ?_;rintro e w1 ⟨rfl,h0⟩;have h1:=h0.symm;subst h1;clear h0)
     | (go_at_call 123;refine (HP.out _).mono ?_;rintro e w1 ⟨rfl,h0⟩;have h1:=h0.symm;subst h1;clear h0))
   have HS0:Hid (HrS w (((w.alloc (.cells #[.int .u32 0,.int .i64 0,.int .i64 0] 131)).alloc (.cells #[.string (x.extract 16 64),.bool false] 256)).alloc (.cells #[.int .u32 0,.int .i64 0,.int .i64 0] 131)) w.heap.size (w.heap.size+1+1) (w.heap.size+1) (some (s.1.drop 16)) (.int .u32 0) (.int .i64 0) (.int .i64 0)):=by
     have ex:x.extract 16 64=bs (s.1.drop 16):=by rw [← HX.out];exact bs_drop _ _ _ s.2.symm
     have o1:=(Only.refl [] (w.alloc (.cells #[.int .u32 0,.int .i64 0,.int .i64 0] 131))).alloc (.cells #[.string (x.extract 16 64),.bool false] 256);have o2:=o1.alloc (.cells #[.int .u32 0,.int .i64 0,.int .i64 0] 131);refine ⟨(o2.block w.heap.size (by simp) (by simp)).trans (heap_alloc_last w _),?_,⟨?_⟩,(((Only.refl [] w).alloc _).alloc _).alloc _,⟨Nat.le_refl _,by omega,by omega⟩,by omega,by omega,by omega⟩
     · have:=heap_alloc_last ((w.alloc (.cells #[.int .u32 0,.int .i64 0,.int .i64 0] 131)).alloc (.cells #[.string (x.extract 16 64),.bool false] 256)) (.cells #[.int .u32 0,.int .i64 0,.int .i64 0] 131)
       rwa [World.size_alloc,World.size_alloc] at this
     · have:=heap_alloc_last (w.alloc (.cells #[.int .u32 0,.int .i64 0,.int .i64 0] 131)) (.cells #[.string (x.extract 16 64),.bool false] 256)
       rw [World.size_alloc] at this;rw [((Only.refl [] ((w.alloc (.cells #[.int .u32 0,.int .i64 0,.int .i64 0] 131)).alloc (.cells #[.string (x.extract 16 64),.bool false] 256))).alloc _).block _ (by simp) (by simp),this,ex];rfl
   generalize ((w.alloc (.cells #[.int .u32 0,.int .i64 0,.int .i64 0] 131)).alloc (.cells #[.string (x.extract 16 64),.bool false] 256)).alloc (.cells #[.int .u32 0,.int .i64 0,.int .i64 0] 131)=W0 at HS0 ⊢;obtain ⟨hb,ehb⟩:∃ hb,w.heap.size+1+1=hb:=⟨_,rfl⟩;rw [ehb] at HS0 ⊢;obtain ⟨r,er⟩:∃ r,w.heap.size+1=r:=⟨_,rfl⟩;rw [er] at HS0 ⊢;obtain ⟨res,eres⟩:∃ res,w.heap.size=res:=⟨_,rfl⟩;rw [eres] at HS0 ⊢;clear ehb er eres HR HP;have HW0:Hid (Calls Tryz.prog 124 #[.pointer (some ⟨r,0,none⟩)] W0 fun e w'=>e = .returned (.int .i64 (a:Nat))∧HrS w w' res hb r (some (s.1.drop 20)) (.int .u32 0) (.int .i64 0) (.int .i64 0)):=hr_word HS0.out (by simp [s.2]) (by simp [s.2]) ha (by simp)
   go_upto_region 7 with (go_at_call 124;refine HW0.out.mono ?_;rintro e w1 ⟨rfl,h1⟩;obtain ⟨k0,k1,k2,k4,k5⟩:=h1.cells;have HT:Hid (HrS w w1 res hb r (some (s.1.drop 20)) (.int .u32 0) (.int .i64 0) (.int .i64 0)):=h1;clear h1)
   clear k0 k1 k2 k4 k5;have HS1:Hid (HrS w (w1.setCell ⟨hb,0,none⟩ (.int .u32 (a:Nat))) res hb r (some (s.1.drop 20)) (.int .u32 (a:Nat)) (.int .i64 0) (.int .i64 0)):=HT.out.store 0 _ _ _ _ rfl;generalize w1.setCell ⟨hb,0,none⟩ (.int .u32 (a:Nat))=W1 at HS1 ⊢;clear HT HW0 HS0;have HW1:Hid (Calls Tryz.prog 124 #[.pointer (some ⟨r,0,none⟩)] W1 fun e w'=>e = .returned (.int .i64 (b:Nat))∧HrS w w' res hb r (some (s.1.drop 24)) (.int .u32 (a:Nat)) (.int .i64 0) (.int .i64 0)):=hr_word HS1.out (by simp [s.2]) (by simp [s.2]) hb' (by simp)
   go_upto_region 8 with (go_at_call 124;refine HW1.out.mono ?_;rintro e w1 ⟨rfl,h1⟩;obtain ⟨k0,k1,k2,k4,k5⟩:=h1.cells;have HT:Hid (HrS w w1 res hb r (some (s.1.drop 24)) (.int .u32 (a:Nat)) (.int .i64 0) (.int .i64 0)):=h1;clear h1)
   clear k0 k1 k2 k4 k5;have HS2:Hid (HrS w (w1.setCell ⟨hb,1,none⟩ (.int .i64 (b:Nat))) res hb r (some (s.1.drop 24)) (.int .u32 (a:Nat)) (.int .i64 (b:Nat)) (.int .i64 0)):=HT.out.store 1 _ _ _ _ rfl;generalize w1.setCell ⟨hb,1,none⟩ (.int .i64 (b:Nat))=W2 at HS2 ⊢;clear HT HW1 HS1;have HW2:Hid (Calls Tryz.prog 124 #[.pointer (some ⟨r,0,none⟩)] W2 fun e w'=>e = .returned (.int .i64 (c:Nat))∧HrS w w' res hb r (some (s.1.drop 28)) (.int .u32 (a:Nat)) (.int .i64 (b:Nat)) (.int .i64 0)):=hr_word HS2.out (by simp [s.2]) (by simp [s.2]) hc (by simp)
   go_upto_region 9 with (go_at_call 124;refine HW2.out.mono ?_;rintro e w1 ⟨rfl,h1⟩;obtain ⟨k0,k1,k2,k4,k5⟩:=h1.cells;have HT:Hid (HrS w w1 res hb r (some (s.1.drop 28)) (.int .u32 (a:Nat)) (.int .i64 (b:Nat)) (.int .i64 0)):=h1;clear h1)
   clear k0 k1 k2 k4 k5;have HS3:Hid (HrS w (w1.setCell ⟨hb,2,none⟩ (.int .i64 (c:Nat))) res hb r (some (s.1.drop 28)) (.int .u32 (a:Nat)) (.int .i64 (b:Nat)) (.int .i64 (c:Nat))):=HT.out.store 2 _ _ _ _ rfl;generalize w1.setCell ⟨hb,2,none⟩ (.int .i64 (c:Nat))=W3 at HS3 ⊢;clear HT HW2 HS2;have HL:Hid (Calls Tryz.prog 96 #[hdV ⟨a,b,c⟩] W3 fun e w'=>e = .returned (.int .i64 (a % 2:Nat))∧Only [] W3 w'):=slot_ok W3 ⟨a,b,c⟩ hok;have HF:Hid (∀ W,Only [] W3 W→Calls Tryz.prog 125 #[hdV ⟨a,b,c⟩,.pointer (some ⟨t,0,none⟩)] W fun e w'=>e = .returned (.bool ((⟨a,b,c⟩:Hd).fits sec.length))∧Only [] W w'):=fun W ho=>fits_ok ((HD.out W3 HS3.out.only).keep ho) ⟨a,b,c⟩ hok;have HK:Hid (∀ W,Only [] W3 W→HrS w W res hb r (some (s.1.drop 28)) (.int .u32 (a:Nat)) (.int .i64 (b:Nat)) (.int .i64 (c:Nat))):=fun W ho=>HS3.out.read (ho.mono (fun _ h=>by cases h)) (HS3.out.rd.only ho (by simp));obtain ⟨q0,q1,q2,q4,q5⟩:=HS3.out.cells;generalize hfit:(⟨a,b,c⟩:Hd).fits sec.length=fit at HF;clear HS3 HD hok
   by_cases hsl:a % 2=n
   · have e1:((a % 2:Nat):Int)=(n:Int):=by rw [hsl]
     rw [hsl] at HL
     cases fit with
     | true =>
       go_wp2_with (first
         | (go_at_call 96;refine HL.out.mono ?_;rintro e w1 ⟨rfl,h1⟩;have HO1:Hid (Only [] W3 w1):=h1;obtain ⟨q0,q1,q2,q4,q5⟩:=(HK.out w1 h1).cells;clear h1)
         | (go_at_call 125;refine (HF.out _ HO1.out).mono ?_;rintro e w2 ⟨rfl,h2⟩;have HO2:Hid (Only [] W3 w2):=HO1.out.trans h2 (fun _ h=>by cases h);obtain ⟨q0,q1,q2,q4,q5⟩:=(HK.out w2 HO2.out).cells;obtain ⟨p0,p1,p2,p4,p5⟩:=(HK.out w2 HO2.out).rcells;clear h2))
       have hge:=(HK.out w2 HO2.out).ge.1
       refine bodyPost_ret (v := .tuple #[hdV ⟨a,b,c⟩,.bool true]) (by simp [results,Tryz.results65,go_sem,p0,p1,p2]) rfl ⟨by rw [show o=some ⟨a,b,c⟩ from by rw [← HOO.out];simp [hsl,hfit]];rfl,?_⟩
       exact ((((HK.out w2 HO2.out).only).setCell (Or.inr hge) _).setCell (Or.inr hge) _).setCell (Or.inr hge) _
     | false =>
       go_wp2_with (first
         | (go_at_call 96;refine HL.out.mono ?_;rintro e w1 ⟨rfl,h1⟩;have HO1:Hid (Only [] W3 w1):=h1;obtain ⟨q0,q1,q2,q4,q5⟩:=(HK.out w1 h1).cells;clear h1)
         | (go_at_call 125;refine (HF.out _ HO1.out).mono ?_;rintro e w2 ⟨rfl,h2⟩;have HO2:Hid (Only [] W3 w2):=HO1.out.trans h2 (fun _ h=>by cases h);obtain ⟨q0,q1,q2,q4,q5⟩:=(HK.out w2 HO2.out).cells;obtain ⟨p0,p1,p2,p4,p5⟩:=(HK.out w2 HO2.out).rcells;clear h2))
       have hge:=(HK.out w2 HO2.out).ge.1
       refine bodyPost_ret (v := .tuple #[hdV Hd.zero,.bool false]) (by simp [results,Tryz.results65,go_sem,p0,p1,p2,Hd.zero]) rfl ⟨by rw [show o=none from by rw [← HOO.out];simp [hsl,hfit]];rfl,?_⟩
       exact ((((HK.out w2 HO2.out).only).setCell (Or.inr hge) _).setCell (Or.inr hge) _).setCell (Or.inr hge) _
   · have e2:((a % 2:Nat):Int)≠(n:Int):=by omega
     obtain ⟨a2,ha2⟩:∃ a2,a % 2=a2:=⟨_,rfl⟩;rw [ha2] at HL e2;have HA2:Hid (a % 2≠n):=hsl;clear ha2 hsl
     have d2:((a2:Int) != (n:Int))=true:=by simpa using e2
     go_wp2_with (go_at_call 96;refine HL.out.mono ?_;rintro e w2 ⟨rfl,h1⟩;have HO2:Hid (Only [] W3 w2):=h1;obtain ⟨q0,q1,q2,q4,q5⟩:=(HK.out w2 h1).cells;obtain ⟨p0,p1,p2,p4,p5⟩:=(HK.out w2 HO2.out).rcells;clear h1)
     have hge:=(HK.out w2 HO2.out).ge.1
     refine bodyPost_ret (v := .tuple #[hdV Hd.zero,.bool false]) (by simp [results,Tryz.results65,go_sem,p0,p1,p2,Hd.zero]) rfl ⟨by rw [show o=none from by rw [← HOO.out];simp [HA2.out]];rfl,?_⟩
     exact ((((HK.out w2 HO2.out).only).setCell (Or.inr hge) _).setCell (Or.inr hge) _).setCell (Or.inr hge) _
 · have hm:isMark s=false:=by simpa using hm
   rw [hm] at HP
   have e0:hdOf sec.length n s=none:=by simp [hdOf,hm]
   rw [e0];clear e0
   go_enter Tryz.func65,Tryz.ntmps65
   go_wp2_with (first
     | (go_at_call 67;refine (HR.out _).mono ?_;rintro e w1 ⟨rfl,h0⟩;have h1:=h0.symm;subst h1;clear h0)
     | (go_at_call 123;refine (HP.out _).mono ?_;rintro e w1 ⟨rfl,h0⟩;have h1:=h0.symm;subst h1;clear h0))
   exact bodyPost_ret (v := .tuple #[hdV Hd.zero,.bool false]) (by simp [results,Tryz.results65,go_sem,Hd.zero]) rfl ⟨rfl,(Only.refl _ _).alloc _⟩
end
section
variable (A:Nat→Addr){w:World}{base t:Nat}{pw:Option Nat}{vs vw:Value}{sec:List Sec}{wt:List Wr}
theorem Err3.only {W w:World}{A:Nat→Addr}(h:Err3 W A)(ho:Only [] W w):Err3 w A:=h.below (ho.to_below (Nat.le_refl _) (fun _ h=>by cases h)) (Nat.le_refl _)
theorem readHead_any (hE:Err3 w A)(hd:DkAt w base t pw vs vw sec wt)(n:Nat):
  Calls Tryz.prog 65 #[.pointer (some ⟨t,0,none⟩),.int .i64 (n:Nat)] w fun e w'=>e = .returned (.tuple #[hdV ((headAt sec n).getD Hd.zero),.bool (headAt sec n).isSome])∧Only [] w w':=by
 unfold headAt
 cases hs:sec[n]? with
 | none=>exact readHead_none A hE hd n hs
 | some s=>exact readHead_some hd n s hs
theorem kept3 {W W':World}{b:Nat}{c0 c1 c2:Value}{ty:TypeId}(hb:W.heap[b]?=some (.cells #[c0,c1,c2] ty (0,0)))(ho:Only [] W W'):
 W'.heap[b]?=some (.cells #[c0,c1,c2] ty (0,0)):=(ho.block b (Array.getElem?_eq_some_iff.1 hb).1 (by simp)).trans hb
theorem cells3 {W:World}{b:Nat}{c0 c1 c2:Value}{ty:TypeId}(hb:W.heap[b]?=some (.cells #[c0,c1,c2] ty (0,0))):
  W.cell? ⟨b,0,none⟩=some c0∧W.cell? ⟨b,1,none⟩=some c1∧W.cell? ⟨b,2,none⟩=some c2∧b < W.heap.size∧(∀ o,W.frozen? ⟨b,o,none⟩=false) :=
 ⟨cell_of_row _ _ 0 _ _ _ hb,cell_of_row _ _ 1 _ _ _ hb,cell_of_row _ _ 2 _ _ _ hb,(Array.getElem?_eq_some_iff.1 hb).1,fun _=>frozen_of_row _ _ _ _ _ hb⟩
theorem set3 {w W:World}{b:Nat}(ho:Only [] w W)(hb:w.heap.size≤b)(v0 v1 v2:Value):Only [] w (((W.setCell ⟨b,0,none⟩ v0).setCell ⟨b,1,none⟩ v1).setCell ⟨b,2,none⟩ v2) :=
 ((ho.setCell (Or.inr hb) _).setCell (Or.inr hb) _).setCell (Or.inr hb) _
abbrev hdO (h:Hd):Obj := .cells #[.int .u32 (h.calls:Nat),.int .i64 (h.half:Nat),.int .i64 (h.used:Nat)] 131
structure Newer (h0 h1 hx:Hd)(b0 b1 bx:Bool):Prop where
 no:b1=false→hx=h0∧bx=b0
 one:b1=true→b0=false→hx=h1∧bx=true
 new:b1=true→b0=true→h1.behind h0=true→hx=h1∧bx=true
 old:b1=true→b0=true→h1.behind h0=false→hx=h0∧bx=b0
theorem newer_is (sec:List Sec):Newer ((headAt sec 0).getD Hd.zero) ((headAt sec 1).getD Hd.zero) ((newestL sec).getD Hd.zero) (headAt sec 0).isSome (headAt sec 1).isSome (newestL sec).isSome:=by
 unfold newestL
 cases headAt sec 0<;>cases headAt sec 1
 · exact ⟨fun _=>⟨rfl,rfl⟩,fun h=>(by cases h),fun h=>(by cases h),fun h=>(by cases h)⟩
 · exact ⟨fun h=>(by cases h),fun _ _=>⟨rfl,rfl⟩,fun _ h=>(by cases h),fun _ h=>(by cases h)⟩
 · exact ⟨fun _=>⟨rfl,rfl⟩,fun h=>(by cases h),fun h=>(by cases h),fun h=>(by cases h)⟩
 · rename_i e o
   refine ⟨fun h=>(by cases h),fun _ h=>(by cases h),fun _ _ h=>?_,fun _ _ h=>?_⟩
   · simp only [Option.getD_some] at h
     simp [h]
   · simp only [Option.getD_some] at h
     simp [h]
theorem newest_walk (w:World)(t:Nat)(h0 h1 hx:Hd)(b0 b1 bx:Bool)(k0:h0.Ok)(k1:h1.Ok)(hn:Newer h0 h1 hx b0 b1 bx)
  (H0:∀ W,Only [] w W→Calls Tryz.prog 65 #[.pointer (some ⟨t,0,none⟩),.int .i64 (0:Nat)] W fun e w'=>e = .returned (.tuple #[hdV h0,.bool b0])∧Only [] W w')
  (H1:∀ W,Only [] w W→Calls Tryz.prog 65 #[.pointer (some ⟨t,0,none⟩),.int .i64 (1:Nat)] W fun e w'=>e = .returned (.tuple #[hdV h1,.bool b1])∧Only [] W w') :
  Calls Tryz.prog 37 #[.pointer (some ⟨t,0,none⟩)] w fun e w'=>e = .returned (.tuple #[hdV hx,.bool bx])∧Only [] w w':=by
 have HN:Hid (Newer h0 h1 hx b0 b1 bx):=hn;have G0:Hid (∀ o,Calls Tryz.prog 65 #[.pointer (some ⟨t,0,none⟩),.int .i64 (0:Nat)] (w.alloc o) fun e w'=>e = .returned (.tuple #[hdV h0,.bool b0])∧Only [] (w.alloc o) w'):=fun o=>H0 _ ((Only.refl [] w).alloc o);have G1:Hid (∀ W,Only [] w W→Calls Tryz.prog 65 #[.pointer (some ⟨t,0,none⟩),.int .i64 (1:Nat)] W fun e w'=>e = .returned (.tuple #[hdV h1,.bool b1])∧Only [] W w'):=H1;have GB:Hid (∀ W,Calls Tryz.prog 66 #[hdV h1,hdV h0] W fun e w'=>e = .returned (.bool (h1.behind h0))∧Only [] W w'):=fun W=>isBehind_ok W h1 h0 k1 k0;clear H0 H1 hn k0 k1
 go_enter Tryz.func37,Tryz.ntmps37
 go_upto_region 2 with (go_at_call 65;refine (G0.out _).mono ?_;rintro e w1 ⟨rfl,h1⟩;have HO1:Hid (Only [] (w.alloc (.cells #[.int .u32 0,.int .i64 0,.int .i64 0] 131)) w1):=h1;clear h1)
 have o1:Only [] w w1:=((Only.refl [] w).alloc _).trans HO1.out (fun _ h=>by cases h);have r1:=kept3 (heap_alloc_last w _) HO1.out;have o2:Only [] w (w1.alloc (hdO h0)):=o1.alloc _;have r2:=kept3 r1 ((Only.refl [] w1).alloc (hdO h0));have e2:=heap_alloc_last w1 (hdO h0);generalize he:w1.heap.size=be at e2 ⊢
 have hbe:w.heap.size≤be:=by rw [← he];exact o1.size
 generalize w1.alloc (hdO h0)=W1 at o2 r2 e2 ⊢;generalize hr:w.heap.size=res at r2 hbe ⊢;have HO2:Hid (Only [] w W1):=o2;have HR2:Hid (W1.heap[res]?=some (.cells #[.int .u32 0,.int .i64 0,.int .i64 0] 131 (0,0))):=r2;have HE2:Hid (W1.heap[be]?=some (.cells #[.int .u32 (h0.calls:Nat),.int .i64 (h0.half:Nat),.int .i64 (h0.used:Nat)] 131 (0,0))):=e2;have HZ:Hid (w.heap.size≤res):=Nat.le_of_eq hr;clear o1 r1 o2 r2 e2 HO1 he hr hbe G0
 go_upto_region 3 with (go_at_call 65;refine (G1.out _ HO2.out).mono ?_;rintro e w2 ⟨rfl,h1⟩;have HO3:Hid (Only [] W1 w2):=h1;clear h1)
 have o3:Only [] w (w2.alloc (hdO h1)):=(HO2.out.trans HO3.out (fun _ h=>by cases h)).alloc _;have r3:=kept3 HR2.out (HO3.out.alloc (hdO h1));have e3:=kept3 HE2.out (HO3.out.alloc (hdO h1));have d3:=heap_alloc_last w2 (hdO h1);generalize w2.heap.size=bo at d3 ⊢;generalize w2.alloc (hdO h1)=W2 at o3 r3 e3 d3 ⊢;have HF:Hid (∀ W,Only [] W2 W→W.heap[res]?=some (.cells #[.int .u32 0,.int .i64 0,.int .i64 0] 131 (0,0))∧W.heap[be]?=some (.cells #[.int .u32 (h0.calls:Nat),.int .i64 (h0.half:Nat),.int .i64 (h0.used:Nat)] 131 (0,0))∧W.heap[bo]?=some (.cells #[.int .u32 (h1.calls:Nat),.int .i64 (h1.half:Nat),.int .i64 (h1.used:Nat)] 131 (0,0))∧Only [] w W):=fun W ho=>⟨kept3 r3 ho,kept3 e3 ho,kept3 d3 ho,o3.trans ho (fun _ h=>by cases h)⟩;clear o3 r3 e3 d3 HO2 HR2 HE2 HO3 G1;obtain ⟨r3,e3,d3,o3⟩:=HF.out W2 (Only.refl _ _);obtain ⟨p0,p1,p2,p4,p5⟩:=cells3 r3;obtain ⟨q0,q1,q2,q4,q5⟩:=cells3 e3;obtain ⟨s0,s1,s2,s4,s5⟩:=cells3 d3;have HO3:Hid (Only [] w W2):=o3;clear r3 e3 d3 o3
 cases b1 with
 | false =>
  clear GB HF
  go_wp2
  rw [(HN.out.no rfl).1,(HN.out.no rfl).2];exact bodyPost_ret (v := .tuple #[hdV h0,.bool b0]) (by simp [results,Tryz.results37,go_sem,p0,p1,p2]) rfl ⟨rfl,set3 HO3.out HZ.out _ _ _⟩
 | true =>
  cases b0 with
  | false =>
   clear GB HF
   go_wp2
   rw [(HN.out.one rfl rfl).1,(HN.out.one rfl rfl).2];exact bodyPost_ret (v := .tuple #[hdV h1,.bool true]) (by simp [results,Tryz.results37,go_sem,p0,p1,p2]) rfl ⟨rfl,set3 HO3.out HZ.out _ _ _⟩
  | true =>
   generalize hbb:h1.behind h0=bb at GB
   cases bb with
   | true =>
    go_wp2_with (go_at_call 66;refine (GB.out _).mono ?_;rintro e w3 ⟨rfl,h3⟩;obtain ⟨r3,e3,d3,o3⟩:=HF.out w3 h3;obtain ⟨p0,p1,p2,p4,p5⟩:=cells3 r3;obtain ⟨q0,q1,q2,q4,q5⟩:=cells3 e3;obtain ⟨s0,s1,s2,s4,s5⟩:=cells3 d3;have HO4:Hid (Only [] w w3):=o3;clear r3 e3 d3 o3 h3)
    rw [(HN.out.new rfl rfl hbb).1,(HN.out.new rfl rfl hbb).2];exact bodyPost_ret (v := .tuple #[hdV h1,.bool true]) (by simp [results,Tryz.results37,go_sem,p0,p1,p2]) rfl ⟨rfl,set3 HO4.out HZ.out _ _ _⟩
   | false =>
    go_wp2_with (go_at_call 66;refine (GB.out _).mono ?_;rintro e w3 ⟨rfl,h3⟩;obtain ⟨r3,e3,d3,o3⟩:=HF.out w3 h3;obtain ⟨p0,p1,p2,p4,p5⟩:=cells3 r3;obtain ⟨q0,q1,q2,q4,q5⟩:=cells3 e3;obtain ⟨s0,s1,s2,s4,s5⟩:=cells3 d3;have HO4:Hid (Only [] w w3):=o3;clear r3 e3 d3 o3 h3)
    rw [(HN.out.old rfl rfl hbb).1,(HN.out.old rfl rfl hbb).2];exact bodyPost_ret (v := .tuple #[hdV h0,.bool true]) (by simp [results,Tryz.results37,go_sem,p0,p1,p2]) rfl ⟨rfl,set3 HO4.out HZ.out _ _ _⟩
theorem headAt_ok (sec:List Sec)(n:Nat):((headAt sec n).getD Hd.zero).Ok:=by
 cases h:headAt sec n with
 | none=>exact ⟨by decide,by decide,by decide⟩
 | some x=>exact (headAt_read h).1
theorem newest_ok (hE:Err3 w A)(hd:DkAt w base t pw vs vw sec wt):
  Calls Tryz.prog 37 #[.pointer (some ⟨t,0,none⟩)] w fun e w'=>e = .returned (.tuple #[hdV ((newestL sec).getD Hd.zero),.bool (newestL sec).isSome])∧Only [] w w' :=
 newest_walk w t _ _ _ _ _ _ (headAt_ok sec 0) (headAt_ok sec 1) (newer_is sec) (fun _ ho=>readHead_any A (hE.only ho) (hd.keep ho) 0) (fun _ ho=>readHead_any A (hE.only ho) (hd.keep ho) 1)
end
end
end Go.Proofs.YtmnidbnaneagjaaGreatDoor
