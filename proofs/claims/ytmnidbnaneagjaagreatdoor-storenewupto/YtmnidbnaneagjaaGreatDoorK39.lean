import Derived.Test.YtmnidbnaneagjaaGreatDoorK38
import Derived.Test.YtmnidbnaneagjaaGreatDoorK30
set_option maxRecDepth 100000
set_option maxHeartbeats 8000000
namespace Go.Proofs.YtmnidbnaneagjaaGreatDoor
section
open Go Go.RowKit Go.Deep
def openL (sec:List Sec):Option (List (List UInt8)):=(newestL sec).bind fun h=>recsOf h sec
theorem LogOk.opens {sec:List Sec}{R:List (List UInt8)}{n:Nat}(h:LogOk sec R n):openL sec=some R:=by
 obtain ⟨h,h1,h2⟩:=h.recs;unfold openL;rw [h1,Option.bind_some,h2]
def OpenR (g:Dv)(w w':World)(s:DSt)(e:Ending):Prop:=Only [] w w'∧((openL s.sec=none∧e = .returned (.tuple #[.pointer none,.slice none 0 0,.iface 535 (.pointer (some (g.A 0)))]))∨∃ R l v,openL s.sec=some R∧e = .returned (.tuple #[.pointer (some ⟨l,0,none⟩),v,.nilIface])∧LogAt w' g l false∧w'.ownsRow w.heap.size 9 1 v R.length (R.map txv)∧w.heap.size≤l)
section
variable {g:Dv}{w w':World}{s:DSt}{l:Nat}
theorem open_none (hd:Ds g w s)(hn:newestL s.sec=none):
  Calls Tryz.prog 18 #[.pointer (some ⟨g.t,0,none⟩)] w fun e w'=>e = .returned (.tuple #[.pointer none,.slice none 0 0,.iface 535 (.pointer (some (g.A 0)))])∧Only [] w w':=by
 have H:Hid (Calls Tryz.prog 37 #[.pointer (some ⟨g.t,0,none⟩)] w fun e w'=>e = .returned (.tuple #[hdV Hd.zero,.bool false])∧Only [] w w'):=by
  have:=hd.newest;rw [hn] at this;exact this
 have HC:Hid (∀ W,Only [] w W→W.cell? ⟨1,0,none⟩=some (.iface 535 (.pointer (some (g.A 0))))):=fun W ho=>(hd.keep ho).err 0 (by simp);clear hd hn
 go_enter Tryz.func18,Tryz.ntmps18
 go_upto_region 2 with (go_at_call 37;refine H.out.mono ?_;rintro e w1 ⟨rfl,h1⟩;have HO:Hid (Only [] w (w1.alloc (hdO Hd.zero))):=h1.alloc _;clear h1)
 have ce:=HC.out _ HO.out;have hlt:=lt_of_cell ce;generalize w1.alloc (hdO Hd.zero)=W1 at ce hlt HO ⊢;generalize w1.heap.size=hb
 go_upto_region 3 with (fail)
 go_quiet (fail)
 go_wp2
 go_ret3
 exact ⟨rfl,drewsD HO.out nq⟩
theorem open_bad (hd:Ds g w s)(h:Hd)(hn:newestL s.sec=some h)(hr:recsOf h s.sec=none):
  Calls Tryz.prog 18 #[.pointer (some ⟨g.t,0,none⟩)] w fun e w'=>e = .returned (.tuple #[.pointer none,.slice none 0 0,.iface 535 (.pointer (some (g.A 0)))])∧Only [] w w':=by
 have H:Hid (Calls Tryz.prog 37 #[.pointer (some ⟨g.t,0,none⟩)] w fun e w'=>e = .returned (.tuple #[hdV h,.bool true])∧Only [] w w'):=by
  have:=hd.newest;rw [hn] at this;exact this
 have HR:Hid (∀ W,Only [] w W→Calls Tryz.prog 38 #[hdV h,.pointer (some ⟨g.t,0,none⟩)] W fun e w'=>e = .returned (.tuple #[.slice none 0 0,.bool false])∧Only [] w w'):=fun W ho=>by
  obtain ⟨vw,hk⟩:=(hd.keep ho).dk;refine (records_ok hk h (newest_read hn).2.1).mono fun e w' q=>?_;obtain ⟨q1,q2⟩:=q;rcases q2 with ⟨_,q2⟩ | ⟨R,v,q2,_⟩
  · exact ⟨q2,ho.trans q1 (fun _ h=>by cases h)⟩
  · exact absurd (hr.symm.trans q2) (by simp)
 have HC:Hid (∀ W,Only [] w W→W.cell? ⟨1,0,none⟩=some (.iface 535 (.pointer (some (g.A 0))))):=fun W ho=>(hd.keep ho).err 0 (by simp);clear hd hn hr
 go_enter Tryz.func18,Tryz.ntmps18
 go_upto_region 2 with (go_at_call 37;refine H.out.mono ?_;rintro e w1 ⟨rfl,h1⟩;have HO:Hid (Only [] w (w1.alloc (hdO h))):=h1.alloc _;clear h1)
 obtain ⟨q0,q1,q2,q4,q5⟩:=cells3 (heap_alloc_last w1 (hdO h));generalize w1.heap.size=hb at q0 q1 q2 q4 q5 ⊢;generalize w1.alloc (hdO h)=W1 at HO q0 q1 q2 q4 q5 ⊢
 go_upto_region 6 with (go_at_call 38;refine (HR.out _ HO.out).mono ?_;rintro e w2 ⟨rfl,h1⟩;have HO2:Hid (Only [] w w2):=h1;clear h1)
 have ce:=HC.out _ HO2.out;have hlt:=lt_of_cell ce
 go_quiet (fail)
 go_wp2
 go_ret3
 exact ⟨rfl,drewsD HO2.out nq⟩
theorem open_good (hd:Ds g w s)(hw:s.wt=[])(h:Hd)(hn:newestL s.sec=some h)(R:List (List UInt8))(hr:recsOf h s.sec=some R):
  Calls Tryz.prog 18 #[.pointer (some ⟨g.t,0,none⟩)] w fun e w'=>∃ l v,e = .returned (.tuple #[.pointer (some ⟨l,0,none⟩),v,.nilIface])∧LogAt w' g l false∧w'.ownsRow w.heap.size 9 1 v R.length (R.map txv)∧w.heap.size≤l∧Only [] w w':=by
 have H:Hid (Calls Tryz.prog 37 #[.pointer (some ⟨g.t,0,none⟩)] w fun e w'=>e = .returned (.tuple #[hdV h,.bool true])∧Only [] w w'):=by
  have:=hd.newest;rw [hn] at this;exact this
 have HR:Hid (∀ W,Only [] w W→Calls Tryz.prog 38 #[hdV h,.pointer (some ⟨g.t,0,none⟩)] W fun e w'=>∃ v,e = .returned (.tuple #[v,.bool true])∧Only [] w w'∧w'.ownsRow w.heap.size 9 1 v R.length (R.map txv)):=fun W ho=>by
  obtain ⟨vw,hk⟩:=(hd.keep ho).dk;refine (records_ok hk h (newest_read hn).2.1).mono fun e w' q=>?_;obtain ⟨q1,q2⟩:=q;rcases q2 with ⟨q2,_⟩ | ⟨R',v,q2,q3,q4⟩
  · exact absurd (hr.symm.trans q2) (by simp)
  · obtain rfl:R=R':=Option.some.inj (hr.symm.trans q2)
    exact ⟨v,q3,ho.trans q1 (fun _ h=>by cases h),own_base q4 ho.size⟩
 have HS:Hid (∀ W,Only [] w W→Calls Tryz.prog 39 #[.pointer (some ⟨g.t,0,none⟩)] W fun e w'=>e = .returned .nilIface∧w'=W):=fun W ho=>(hd.keep ho).settle hw;have HZ:Hid (g.W0.heap.size≤w.heap.size):=hd.bel.size;clear hd hn hr hw
 go_enter Tryz.func18,Tryz.ntmps18
 go_upto_region 2 with (go_at_call 37;refine H.out.mono ?_;rintro e w1 ⟨rfl,h1⟩;have HO:Hid (Only [] w (w1.alloc (hdO h))):=h1.alloc _;clear h1)
 obtain ⟨q0,q1,q2,q4,q5⟩:=cells3 (heap_alloc_last w1 (hdO h));generalize w1.heap.size=hb at q0 q1 q2 q4 q5 ⊢;generalize w1.alloc (hdO h)=W1 at HO q0 q1 q2 q4 q5 ⊢
 go_wp2_with (first
  | (go_at_call 38;refine (HR.out _ HO.out).mono ?_;rintro e w2 ⟨v,rfl,h1,h2⟩;have HO2:Hid (Only [] w w2∧w2.ownsRow w.heap.size 9 1 v R.length (R.map txv)):=⟨h1,h2⟩;clear h1 h2)
  | (go_at_call 39;refine (HS.out _ HO2.out.1).mono ?_;rintro e w3 ⟨rfl,h0⟩;have h1:=h0.symm;subst h1;clear h0))
 go_ret3
 have ho:Only [] w2 (w2.alloc (.cells #[.pointer (some ⟨g.t,0,none⟩),.bool false] 138)):=(Only.refl [] w2).alloc _;exact ⟨w2.heap.size,v,rfl,⟨heap_alloc_last w2 _,Nat.le_trans HZ.out HO2.out.1.size⟩,ho.owns HO2.out.2 (fun _ _=>by simp),HO2.out.1.size,HO2.out.1.trans ho (fun _ h=>by cases h)⟩
theorem open_any (hd:Ds g w s)(hw:s.wt=[]):Calls Tryz.prog 18 #[.pointer (some ⟨g.t,0,none⟩)] w fun e w'=>OpenR g w w' s e:=by
 cases hn:newestL s.sec with
 | none=>exact (open_none hd hn).mono fun e w' q=>⟨q.2,Or.inl ⟨by unfold openL;rw [hn];rfl,q.1⟩⟩
 | some h =>
  cases hr:recsOf h s.sec with
  | none=>exact (open_bad hd h hn hr).mono fun e w' q=>⟨q.2,Or.inl ⟨by unfold openL;rw [hn,Option.bind_some,hr],q.1⟩⟩
  | some R =>
   exact (open_good hd hw h hn R hr).mono fun e w' q=>by
    obtain ⟨l,v,a,b,c,d,e⟩:=q;exact ⟨e,Or.inr ⟨R,l,v,by unfold openL;rw [hn,Option.bind_some,hr],a,b,c,d⟩⟩
theorem zeroS_byte (x:ByteArray)(hx:bs zeroS.1=x)(j:Nat)(h:j < x.size):x[j].toNat=0:=by
 subst hx
 have:(bs zeroS.1)[j]=0:=by
  have h1:(bs zeroS.1)[j]=(List.replicate 64 (0:UInt8))[j]'(by rw [bs_size,zeroS.2] at h;simpa using h):=rfl;rw [h1,List.getElem_replicate]
 rw [this];rfl
theorem blank_ok (hd:Ds g w s)(n:Nat)(hn:s.sec[n]?=some zeroS):Calls Tryz.prog 146 #[.pointer (some ⟨g.t,0,none⟩),.int .i64 (n:Nat)] w fun e w'=>e = .returned (.bool true)∧w'=w:=by
 obtain ⟨vw,hk⟩:=hd.dk;have H:Hid (Calls Tryz.prog 67 #[.pointer (some ⟨g.t,0,none⟩),.int .i64 (n:Nat)] w fun e w'=>e = .returned (.tuple #[.string (bs zeroS.1),.nilIface])∧w'=w):=read_ok hk n zeroS hn;have hz:=fun x hx=>zeroS_byte x hx
 have hsz:(bs zeroS.1).size=64:=by rw [bs_size,zeroS.2]
 obtain ⟨x,hx⟩:∃ x,bs zeroS.1=x:=⟨_,rfl⟩;have HZ:Hid (∀ j (h:j < x.size),x[j].toNat=0):=hz x hx;rw [hx] at H hsz;clear hx hz hk hd hn
 go_enter Tryz.func146,Tryz.ntmps146
 go_wp2_with (go_at_call 67;refine H.out.mono ?_;rintro e w1 ⟨rfl,h0⟩;have h1:=h0.symm;subst h1;clear h0)
 go_loopw [16] (fun i wr=>∃ j:Nat,i = .int .i64 (j:Nat)∧j≤64∧wr=w) (fun i _=>64 - (intOf i).toNat)
 case atStart=>exact ⟨0,rfl,Nat.zero_le _,rfl⟩
 case round =>
  obtain ⟨j,rfl,hj,hw⟩:=hrel;subst hw
  by_cases hlt:j < 64
  · have hl:decide ((j:Int) < 64)=true:=decide_eq_true (by omega)
    have hb:=HZ.out j (by omega)
    go_wp2
    exact ⟨⟨j+1,by go_num,by omega,trivial⟩,by simp only [intOf];omega⟩
  · have hl:decide ((j:Int) < 64)=false:=decide_eq_false (by omega)
    go_wp2
    go_ret
    exact ⟨rfl,rfl⟩
theorem wipe_ok (hd:Ds g w s)(hw:s.wt=[])(n:Nat)(hz:∀ i,i < s.sec.length→i≠n→s.sec[i]?=some zeroS):Calls Tryz.prog 95 #[.pointer (some ⟨g.t,0,none⟩),.int .i64 (n:Nat)] w fun e w'=>e = .returned .nilIface∧w'=w:=by
 have HS:Hid (Calls Tryz.prog 92 #[.pointer (some ⟨g.t,0,none⟩)] w fun e w'=>e = .returned (.int .i64 (s.sec.length:Nat))∧w'=w):=hd.sectors;have HT:Hid (Calls Tryz.prog 39 #[.pointer (some ⟨g.t,0,none⟩)] w fun e w'=>e = .returned .nilIface∧w'=w):=hd.settle hw;have HB:Hid (∀ i,i < s.sec.length→i≠n→Calls Tryz.prog 146 #[.pointer (some ⟨g.t,0,none⟩),.int .i64 (i:Nat)] w fun e w'=>e = .returned (.bool true)∧w'=w):=fun i h1 h2=>blank_ok hd i (hz i h1 h2);have hm:=hd.most.2;generalize s.sec.length=N at HS HB hm;clear hd hw hz
 go_enter Tryz.func95,Tryz.ntmps95
 go_wp2_with (go_at_call 92;refine HS.out.mono ?_;rintro e w1 ⟨rfl,h0⟩;have h1:=h0.symm;subst h1;clear h0)
 go_loopw [9] (fun i wr=>∃ j:Nat,i = .int .i64 (j:Nat)∧j≤N∧wr=w) (fun i _=>N - (intOf i).toNat)
 case atStart=>exact ⟨0,rfl,Nat.zero_le _,rfl⟩
 case round =>
  obtain ⟨j,rfl,hj,hw⟩:=hrel;subst hw
  by_cases hlt:j < N
  · have hl:decide ((j:Int) < (N:Int))=true:=decide_eq_true (by omega)
    by_cases hjn:j=n
    · have hb:((j:Int)==(n:Int))=true:=by rw [hjn];simp
      clear hjn
      go_wp2
      go_roundw
      case rel=>exact ⟨j+1,by go_num,by omega,trivial⟩
      case measure=>simp [intOf];omega
    · have hb:((j:Int)==(n:Int))=false:=by simp;omega
      have HB1:Hid (Calls Tryz.prog 146 #[.pointer (some ⟨g.t,0,none⟩),.int .i64 (j:Nat)] wr fun e w'=>e = .returned (.bool true)∧w'=wr):=HB.out j hlt hjn;clear hjn
      go_wp2_with (go_at_call 146;refine HB1.out.mono ?_;rintro e w1 ⟨rfl,h0⟩;have h1:=h0.symm;subst h1;clear h0)
      go_roundw
      case rel=>exact ⟨j+1,by go_num,by omega,trivial⟩
      case measure=>simp [intOf];omega
  · have hl:decide ((j:Int) < (N:Int))=false:=decide_eq_false (by omega)
    go_wp2_with (go_at_call 39;refine HT.out.mono ?_;rintro e w1 ⟨rfl,h0⟩;have h1:=h0.symm;subst h1;clear h0)
    go_ret
    exact ⟨rfl,rfl⟩
theorem format_full (hd:Ds g w s)(hN:s.sec.length < 8):Calls Tryz.prog 49 #[.pointer (some ⟨g.t,0,none⟩)] w fun e w'=>e = .returned (.tuple #[.pointer none,.iface 535 (.pointer (some (g.A 8)))])∧Only [] w w':=by
 have HS:Hid (Calls Tryz.prog 92 #[.pointer (some ⟨g.t,0,none⟩)] w fun e w'=>e = .returned (.int .i64 (s.sec.length:Nat))∧w'=w):=hd.sectors;have ce:w.cell? ⟨9,0,none⟩=some (.iface 535 (.pointer (some (g.A 8)))):=hd.err 8 (by simp);have d0:decide ((s.sec.length:Int) < 8)=true:=decide_eq_true (by omega);have hlt:=lt_of_cell ce;generalize s.sec.length=N at HS d0 hN;clear hd
 go_enter Tryz.func49,Tryz.ntmps49
 go_upto_region 2 with (go_at_call 92;refine HS.out.mono ?_;rintro e w1 ⟨rfl,h0⟩;have h1:=h0.symm;subst h1;clear h0)
 go_quiet (fail)
 go_wp2
 go_ret2
 exact ⟨rfl,drewsD (Only.refl [] _) nq⟩
theorem set3_heap {W:World}{b:Nat}{c0 c1 c2:Value}{ty:TypeId}(hb:W.heap[b]?=some (.cells #[c0,c1,c2] ty (0,0)))(v0 v1 v2:Value):(((W.setCell ⟨b,0,none⟩ v0).setCell ⟨b,1,none⟩ v1).setCell ⟨b,2,none⟩ v2).heap[b]?=some (.cells #[v0,v1,v2] ty (0,0)):=by
 rw [heap_setCell_same _ b 2 _ _ _ (heap_setCell_same _ b 1 _ _ _ (heap_setCell_same W b 0 _ _ _ hb))];rfl
def newHead:Hd:=Hd.zero.emptied
def newSec (N:Nat):List Sec:=(List.replicate N zeroS).set 1 (padB (bs (hdT newHead)))
theorem format_new (hd:Ds g w s){N:Nat}(hs:s.sec=List.replicate N zeroS)(hN:8≤N)(hw:s.wt=[])(hp:s.pw=none):Calls Tryz.prog 49 #[.pointer (some ⟨g.t,0,none⟩)] w fun e w'=>∃ l,e = .returned (.tuple #[.pointer (some ⟨l,0,none⟩),.nilIface])∧Ds g w' ⟨none,newSec N,[]⟩∧LogAt w' g l false∧OthL w w'∧w.heap.size≤l:=by
 have hl:s.sec.length=N:=by rw [hs];simp
 have HS:Hid (Calls Tryz.prog 92 #[.pointer (some ⟨g.t,0,none⟩)] w fun e w'=>e = .returned (.int .i64 (N:Nat))∧w'=w):=by rw [← hl];exact hd.sectors
 have HNW:Hid (Calls Tryz.prog 37 #[.pointer (some ⟨g.t,0,none⟩)] w fun e w'=>e = .returned (.tuple #[hdV Hd.zero,.bool false])∧Only [] w w'):=by
  have:=hd.newest;rw [hs,newest_zero] at this;exact this
 have d0:decide ((N:Int) < 8)=false:=decide_eq_false (by omega);have HEM:Hid (∀ W,Calls Tryz.prog 93 #[hdV Hd.zero] W fun e w'=>e = .returned (hdV newHead)∧Only [] W w'):=fun W=>emptied_ok W Hd.zero ⟨by decide,by decide,by decide⟩ (by decide);have hok:newHead.Ok:=⟨by decide,by decide,by decide⟩
 have HSV:Hid (∀ W,Ds g W s→Calls Tryz.prog 94 #[hdV newHead,.pointer (some ⟨g.t,0,none⟩)] W fun e w'=>e = .returned .nilIface∧Ds g w' ⟨none,newSec N,[]⟩∧Oth W w'):=fun W hW=>(save_any hW newHead hok (by omega) (by rw [hw];exact Nat.zero_le _)).mono fun e w' q=>by
  obtain ⟨c,s',he,hP,h1,h2⟩:=q;rcases hP with ⟨_,p1,_⟩ | ⟨_,p1,_⟩ | ⟨rfl,p1,p2,p3⟩
  · exact absurd hp p1
  · exact absurd hp p1
  · have e1:s'=⟨none,newSec N,[]⟩:=by
      obtain ⟨a,b,c⟩:=s';have p4:=p3 hp;simp only at p1 p2 p4;rw [hs] at p1;subst p1 p2 p4;rfl
    rw [← e1];exact ⟨he,h1,h2⟩
 have HSL:Hid (∀ W,Calls Tryz.prog 96 #[hdV newHead] W fun e w'=>e = .returned (.int .i64 (1:Nat))∧Only [] W w'):=fun W=>slot_ok W newHead hok
 have HWP:Hid (∀ W,Ds g W ⟨none,newSec N,[]⟩→Calls Tryz.prog 95 #[.pointer (some ⟨g.t,0,none⟩),.int .i64 (1:Nat)] W fun e w'=>e = .returned .nilIface∧w'=W):=fun W hW=>wipe_ok hW rfl 1 (fun i h1 h2=>by
  have h3:i < N:=by simpa [newSec] using h1
  show (newSec N)[i]?=_;unfold newSec
  rw [List.getElem?_set_ne (by omega),List.getElem?_replicate,if_pos h3])
 have HD:Hid (Ds g w s):=hd;have HZ:Hid (g.W0.heap.size≤w.heap.size):=hd.bel.size;generalize newHead=nh at HEM HSV HSL;clear hd hl hs hw hp hok
 go_enter Tryz.func49,Tryz.ntmps49
 go_upto_region 4 with (first
  | (go_at_call 92;refine HS.out.mono ?_;rintro e w1 ⟨rfl,h0⟩;have h1:=h0.symm;subst h1;clear h0)
  | (go_at_call 37;refine HNW.out.mono ?_;rintro e w1 ⟨rfl,h1⟩;have HO:Hid (Only [] w (w1.alloc (hdO Hd.zero))):=h1.alloc _;have HGE:Hid (w.heap.size≤w1.heap.size):=h1.size;clear h1))
 have b1:=heap_alloc_last w1 (hdO Hd.zero);generalize w1.heap.size=hb at b1 HGE ⊢;generalize w1.alloc (hdO Hd.zero)=W1 at HO b1 ⊢;obtain ⟨q0,q1,q2,q4,q5⟩:=cells3 b1;have HB1:Hid (W1.heap[hb]?=some (.cells #[.int .u32 (Hd.zero.calls:Nat),.int .i64 (Hd.zero.half:Nat),.int .i64 (Hd.zero.used:Nat)] 131 (0,0))):=b1;clear b1
 go_upto_region 5 with (go_at_call 93;refine (HEM.out _).mono ?_;rintro e w2 ⟨rfl,h1⟩;obtain ⟨q0,q1,q2,q4,q5⟩:=cells3 (kept3 HB1.out h1);have HO2:Hid (Only [] W1 w2):=h1;clear h1)
 have o2:Only [] w w2:=HO.out.trans HO2.out (fun _ h=>by cases h);have o3:=set3 o2 HGE.out (.int .u32 (nh.calls:Nat)) (.int .i64 (nh.half:Nat)) (.int .i64 (nh.used:Nat));have b3:=set3_heap (kept3 HB1.out HO2.out) (.int .u32 (nh.calls:Nat)) (.int .i64 (nh.half:Nat)) (.int .i64 (nh.used:Nat));clear o2 q0 q1 q2 q4 q5 HO HO2 HB1;generalize ((w2.setCell ⟨hb,0,none⟩ (.int .u32 (nh.calls:Nat))).setCell ⟨hb,1,none⟩ (.int .i64 (nh.half:Nat))).setCell ⟨hb,2,none⟩ (.int .i64 (nh.used:Nat))=W3 at o3 b3 ⊢;have HO3:Hid (Only [] w W3):=o3;have HD3:Hid (Ds g W3 s):=HD.out.keep o3;have HB3:Hid (W3.heap[hb]?=some (.cells #[.int .u32 (nh.calls:Nat),.int .i64 (nh.half:Nat),.int .i64 (nh.used:Nat)] 131 (0,0))):=b3;obtain ⟨q0,q1,q2,q4,q5⟩:=cells3 b3;clear o3 b3
 go_wp2_with (first
  | (go_at_call 94;refine (HSV.out _ HD3.out).mono ?_;rintro e w4 ⟨rfl,h1,h2⟩;obtain ⟨q0,q1,q2,q4,q5⟩:=cells3 (Oth.kept3 HB3.out h2);have HD4:Hid (Ds g w4 ⟨none,newSec N,[]⟩∧Oth w w4):=⟨h1,(Oth.of_only HO3.out).trans h2⟩;clear h1 h2)
  | (go_at_call 96;refine (HSL.out _).mono ?_;rintro e w5 ⟨rfl,h1⟩;have HD5:Hid (Ds g w5 ⟨none,newSec N,[]⟩∧Oth w w5):=⟨HD4.out.1.keep h1,HD4.out.2.trans (Oth.of_only h1)⟩;clear h1)
  | (go_at_call 95;refine (HWP.out _ HD5.out.1).mono ?_;rintro e w6 ⟨rfl,h0⟩;have h1:=h0.symm;subst h1;clear h0))
 go_ret2
 have ho:Only [] w5 (w5.alloc (.cells #[.pointer (some ⟨g.t,0,none⟩),.bool false] 138)):=(Only.refl [] w5).alloc _;exact ⟨w5.heap.size,rfl,HD5.out.1.keep ho,⟨heap_alloc_last w5 _,HD5.out.1.bel.size⟩,(HD5.out.2.trans (Oth.of_only ho)).toL,HD5.out.2.size⟩
theorem newSec_log {N:Nat}(h1:8≤N)(h2:N≤4000):LogOk (newSec N) [] 0:=new_log h1 h2
end
end
section
open Go Go.RowKit Go.Deep Go.Maps
abbrev stC (s:Value)(left:Int)(kn lg:Value)(t c:ByteArray)(f:Value):Array Value:=#[s,.int .i64 left,kn,lg,.string t,.string c,f]
theorem begin_any (w:World)(st:Nat)(s kn lg f:Value)(ad:Option Addr)(n cap:Nat)(left:Int)(t c:ByteArray)(h:w.heap[st]?=some (.cells (stC s left kn lg t c f) 74 (0,0))):
  Calls Tryz.prog 23 #[.pointer (some ⟨st,1,none⟩),.slice ad n cap] w fun e w'=>e = .returned (.tuple #[])∧w'=(w.setCell ⟨st,1,none⟩ (.int .i64 60)).setCell ⟨st,2,none⟩ (.slice ad n cap):=by
 have c1:=cell_of_row _ _ 1 _ _ _ h;have c2:=cell_of_row _ _ 2 _ _ _ h;have f1:=frozen_of_row w st 1 _ _ h;have f2:=frozen_of_row w st 2 _ _ h;have hl:=lt_of_cell c1;clear h
 go_enter Tryz.func23,Tryz.ntmps23
 go_wp2
 go_end0
 exact ⟨rfl,rfl⟩
def ShortR (R:List (List UInt8))(M:Nat):Prop:=∀ r∈R,r.length≤M
def SOpenR (A:Nat→Addr)(w w':World)(sec:List Sec)(most:Nat)(e:Ending):Prop :=
 ((∃ st sv tr T c q t u,e = .returned (.tuple #[.pointer (some ⟨st,0,none⟩),.nilIface])∧(openL sec=some [t,u]∨(t=[]∧u=[]))∧w'.cell? ⟨st,0,none⟩=some (.pointer (some ⟨sv,0,none⟩))∧w'.cell? ⟨sv,0,none⟩=some (.pointer (some ⟨tr,0,none⟩))∧pLoad most (bs t)=some c∧bs (snapT T)=bs t∧LoadT w w' tr T c most q) ∨
   (e = .returned (.tuple #[.pointer none,eS A 0])∧(openL sec=none∨∃ R,openL sec=some R∧∀ t u,R=[t,u]→u=[]→∀ T:Tr,pLoad most (bs t)=some (absT T)→bs (snapT T)≠bs t)))∧Only [] w w'
theorem sload_form {A:Nat→Addr}{s:ByteArray}{most:Nat}{w w':World}{e:Ending}(h:(∃ sv tr T c q,e = .returned (.tuple #[.pointer (some ⟨sv,0,none⟩),.nilIface])∧w'.cell? ⟨sv,0,none⟩=some (.pointer (some ⟨tr,0,none⟩))∧w.heap.size≤sv∧pLoad most s=some c∧bs (snapT T)=s∧LoadT w w' tr T c most q)∨((∀ T:Tr,pLoad most s=some (absT T)→bs (snapT T)≠s)∧e = .returned (.tuple #[.pointer none,eS A 0]))):∃ v u,e = .returned (.tuple #[v,u]):=by
 rcases h with ⟨_,_,_,_,_,h,_⟩ | ⟨_,h⟩
 · exact ⟨_,_,h⟩
 · exact ⟨_,_,h⟩
theorem loadT_kept {w0 w w' w'':World}{tr most q:Nat}{T:Tr}{c:Lc}{L:List Nat}(h:LoadT w w' tr T c most q)(ho:Only L w' w'')(hL:∀ k,w.heap.size≤k→k∉L)(h0:Only [] w0 w):LoadT w0 w'' tr T c most q :=
 ⟨h.at_.kept ho (fun k hk=>hL k (h.fresh k hk)),h.abs,h.ok,h.small,h.mst,h.few,h.pn,fun k hk=>Nat.le_trans h0.size (h.fresh k hk)⟩
section
variable {g:Dv}{w:World}{s:DSt}
theorem sopen_any (A:Nat→Addr)(m:Int)(most:Nat)(hd:Ds g w s)(hA:g.A=A)(hw:s.wt=[])(hE:Errs w A)(hm:w.cell? ⟨16,0,none⟩=some (.int .i64 m))(h1:1≤most)(h2:most≤300)(hsz:∀ R,openL s.sec=some R→ShortR R 15000):
   Calls Tryz.prog 7 #[.pointer (some ⟨g.t,0,none⟩),.int .i64 (most:Nat)] w fun e w'=>SOpenR A w w' s.sec most e:=by
 have hop:=open_any hd hw;have HE:Hid (∀ W,Only [] w W→Errs W A):=fun W ho=>hE.below (ho.to_below (Nat.le_refl _) (fun _ h=>by cases h)) (Nat.le_refl _);have HM:Hid (∀ W,Only [] w W→W.cell? ⟨16,0,none⟩=some (.int .i64 m)):=fun W ho=>(ho.cell (lt_of_cell hm) (by simp)).trans hm;have HSZ:Hid (∀ R,openL s.sec=some R→ShortR R 15000):=hsz;have HGA:Hid (g.A=A):=hA;clear hd hw hE hm hsz hA
 go_enter Tryz.func7,Tryz.ntmps7
 go_wp2_with fail
 refine hop.mono ?_;rintro e w1 ⟨ho1,⟨hn,rfl⟩ | ⟨R,l,v,hR,rfl,hlog,hrow,hll⟩⟩
 · have HN:Hid (openL s.sec=none∧Only [] w w1):=⟨hn,ho1⟩
   clear hop ho1 hn
   go_wp2
   go_ret2
   exact ⟨Or.inr ⟨by rw [HGA.out];rfl,Or.inl HN.out.1⟩,HN.out.2⟩
 · have HR:Hid (openL s.sec=some R∧Only [] w w1):=⟨hR,ho1⟩
   have hsh:=HSZ.out R hR
   obtain ⟨ad,cap,hv,him⟩:∃ ad cap,v = .slice ad R.length cap∧∃ t u,(R=[t,u]∨(R.length≠2∧t=[]∧u=[]))∧t.length≤15000∧u.length≤15000∧Calls Tryz.prog 19 #[v] w1 fun e w'=>e = .returned (.agg #[.string (bs t),.string (bs u)])∧Only [] w1 w':=by
     obtain ⟨ad,cap,hv,hc⟩:=row_cells1 (f:=txv) (ss:=R) hrow;refine ⟨ad,cap,hv,?_⟩
     by_cases h2:R.length=2
     · obtain ⟨t,u,rfl⟩:∃ t u,R=[t,u]:=by
         match R,h2 with
         | [t,u],_=>exact ⟨t,u,rfl⟩
       obtain ⟨gg,rfl,_,_,k0⟩:=hc 0 t rfl;obtain ⟨gg2,e2,_,_,k1⟩:=hc 1 u rfl;simp only [Option.some.injEq,Addr.mk.injEq,and_true] at e2;subst e2;subst hv;exact ⟨t,u,Or.inl rfl,hsh t (by simp),hsh u (by simp),imageOf_two w1 gg cap (bs t) (bs u) k0 k1⟩
     · subst hv
       exact ⟨[],[],Or.inr ⟨h2,rfl,rfl⟩,Nat.zero_le _,Nat.zero_le _,imageOf_not w1 ad R.length cap h2⟩
   obtain ⟨t,u,htu,htl,hul,him⟩:=him;have HTU:Hid (R=[t,u]∨(R.length≠2∧t=[]∧u=[])):=htu
   have hts:(bs t).size≤15000:=by rw [bs_size];exact htl
   have hus:(bs u).size≤1000000:=by rw [bs_size];omega
   have HB:Hid (bs t=bs t∧bs u=bs u):=⟨rfl,rfl⟩;obtain ⟨tx,htx⟩:∃ tx,bs t=tx:=⟨_,rfl⟩;obtain ⟨ux,hux⟩:∃ ux,bs u=ux:=⟨_,rfl⟩;have HTX:Hid (bs t=tx∧bs u=ux):=⟨htx,hux⟩;rw [htx,hux] at him;rw [htx] at hts;rw [hux] at hus;clear hop ho1 hR hsh htu htl hul hlog hrow hll htx hux HB HSZ;subst hv
   go_upto_region 5 with (go_at_call 19;refine him.mono ?_;rintro e w2 ⟨rfl,ho2⟩;have HO2:Hid (Only [] w w2):=HR.out.2.trans ho2 (fun _ h=>by cases h);clear him ho2)
   have hb3:=heap_alloc_last w2 (.cells (stC (.pointer none) 0 (.slice none 0 0) (.pointer (some ⟨l,0,none⟩)) tx ux .nilIface) 74);have HO3:Hid (Only [] w (w2.alloc (.cells (stC (.pointer none) 0 (.slice none 0 0) (.pointer (some ⟨l,0,none⟩)) tx ux .nilIface) 74))):=HO2.out.alloc _;have HST:Hid (w.heap.size≤w2.heap.size):=HO2.out.size;clear HO2;generalize w2.alloc (.cells (stC (.pointer none) 0 (.slice none 0 0) (.pointer (some ⟨l,0,none⟩)) tx ux .nilIface) 74)=w3 at hb3 HO3 ⊢;generalize w2.heap.size=st at hb3 HST ⊢;have HB3:Hid (w3.heap[st]?=some (.cells (stC (.pointer none) 0 (.slice none 0 0) (.pointer (some ⟨l,0,none⟩)) tx ux .nilIface) 74 (0,0))):=hb3;have HS0:Hid (w3.cell? ⟨st,4,none⟩=some (.string tx)):=cell_of_row _ _ 4 _ _ _ hb3;have HS1:Hid (w3.drew.cell? ⟨st,4,none⟩=some (.string tx)):=cell_of_row w3.drew st 4 _ _ _ hb3;have hl3:st < w3.heap.size:=(Array.getElem?_eq_some_iff.1 hb3).1;have hld:=sload_any A w3.drew tx most (.func 21) #[.pointer (some ⟨st,1,none⟩)] #[] (HE.out _ HO3.out.drew) hts h1 h2
   have hmf:∀ (fn:Fn) (first cap:Array Value) (w:World),(Instr.makeFunc fn first cap).run Tryz.prog w = .ok (.func fn first cap) w:=fun _ _ _ _=>rfl
   clear hb3 h1 h2 hts
   go_region_held3 (fun W=>W.cell? ⟨st,4,none⟩=some (.string tx)) (with_reducible first | exact HS0.out | exact HS1.out | exact HS2.out)
     ((go_at_call 20;refine hld.mono ?_;rintro e w4 ⟨he,ho4⟩;obtain ⟨v4,u4,rfl⟩:=sload_form he;have H4:Hid (SLoadR A tx most w3.drew w4 (.returned (.tuple #[v4,u4]))):=⟨he,ho4⟩;have HS2:Hid (w4.cell? ⟨st,4,none⟩=some (.string tx)):=(ho4.cell (p:=⟨st,4,none⟩) (by simpa using hl3) (by simp)).trans HS1.out;clear he ho4))
   clear hld HS0 HS1 HS2;obtain ⟨hq,ho4⟩:=H4.out;have o34:Only [] w3 w4:=((Only.refl [] w3).drew).trans ho4 (fun _ h=>by cases h);have HO4:Hid (Only [] w w4):=HO3.out.trans o34 (fun _ h=>by cases h);have HB4:Hid (w4.heap[st]?=some (.cells (stC (.pointer none) 0 (.slice none 0 0) (.pointer (some ⟨l,0,none⟩)) tx ux .nilIface) 74 (0,0))):=(o34.block st hl3 (by simp)).trans HB3.out;clear H4 ho4 o34;rcases hq with ⟨sv,tr,T,c,q,he,hc0,hge,hp,hsn,hT⟩ | ⟨hno,he⟩
   · simp only [Ending.returned.injEq,Value.tuple.injEq] at he
     obtain ⟨rfl,rfl⟩:v4 = .pointer (some ⟨sv,0,none⟩)∧u4 = .nilIface:=by simpa using he
     have HQ:Hid (w4.cell? ⟨sv,0,none⟩=some (.pointer (some ⟨tr,0,none⟩))∧w3.drew.heap.size≤sv∧pLoad most tx=some c∧bs (snapT T)=tx∧LoadT w3.drew w4 tr T c most q):=⟨hc0,hge,hp,hsn,hT⟩;have k5:w4.cell? ⟨st,5,none⟩=some (.string ux):=cell_of_row _ _ 5 _ _ _ HB4.out;have hrn:=readNames_any A w4 ux m (HE.out _ HO4.out) hus (HM.out _ HO4.out);have hl4:=lt_of_cell k5;clear he hc0 hge hp hsn hT hus
     go_upto_region 8 with fail
     go_wp2_with fail
     refine hrn.mono ?_;rintro e w5 ⟨v5,u5,rfl,⟨ad5,n5,cap5,hv5⟩,hu,ho5⟩;have HO5:Hid (Only [] w w5):=HO4.out.trans ho5 (fun _ h=>by cases h);have hb5:=(ho5.block st hl4 (by simp)).trans HB4.out;have HQ5:Hid (w5.cell? ⟨sv,0,none⟩=some (.pointer (some ⟨tr,0,none⟩))∧LoadT w3.drew w5 tr T c most q):=⟨(ho5.cell (lt_of_cell HQ.out.1) (by simp)).trans HQ.out.1,HQ.out.2.2.2.2.only ho5⟩;have HB5:Hid (w5.heap[st]?=some (.cells (stC (.pointer none) 0 (.slice none 0 0) (.pointer (some ⟨l,0,none⟩)) tx ux .nilIface) 74 (0,0))):=hb5;clear hrn ho5 hb5 k5 HB4;rcases hu with rfl | ⟨hv6,rfl,hne⟩
     · subst hv5
       have k0:w5.cell? ⟨st,0,none⟩=some (.pointer none):=cell_of_row _ _ 0 _ _ _ HB5.out;have f0:=frozen_of_row w5 st 0 _ _ HB5.out;have hl5:=lt_of_cell k0;have hb6:=heap_setCell_same w5 st 0 _ _ (.pointer (some ⟨sv,0,none⟩)) HB5.out;have hbg:=begin_any (w5.setCell ⟨st,0,none⟩ (.pointer (some ⟨sv,0,none⟩))) st (.pointer (some ⟨sv,0,none⟩)) (.slice none 0 0) (.pointer (some ⟨l,0,none⟩)) .nilIface ad5 n5 cap5 0 tx ux hb6;have HB6:Hid ((w5.setCell ⟨st,0,none⟩ (.pointer (some ⟨sv,0,none⟩))).heap[st]?=some (.cells (stC (.pointer (some ⟨sv,0,none⟩)) 0 (.slice none 0 0) (.pointer (some ⟨l,0,none⟩)) tx ux .nilIface) 74 (0,0))):=hb6;clear hb6
       go_wp2_with (go_at_call 23;refine hbg.mono ?_;rintro e w7 ⟨rfl,h0⟩;have H7:Hid (w7=((w5.setCell ⟨st,0,none⟩ (.pointer (some ⟨sv,0,none⟩))).setCell ⟨st,1,none⟩ (.int .i64 60)).setCell ⟨st,2,none⟩ (.slice ad5 n5 cap5)):=h0;clear hbg h0)
       go_ret2
       have h7:=H7.out
       have o57:Only [st] w5 w7:=by
         rw [h7];exact (((Only.refl [st] w5).setCell (Or.inl (by simp)) _).setCell (Or.inl (by simp)) _).setCell (Or.inl (by simp)) _
       have hsv:sv∉[st]:=by
         have:=HQ.out.2.1;simp;intro e;have:st < w3.drew.heap.size:=hl3;omega
       refine ⟨Or.inl ⟨st,sv,tr,T,c,q,t,u,rfl,?_,?_,?_,?_,?_,?_⟩,HO5.out.trans o57 (fun k hk=>Or.inr (by rw [List.mem_singleton.1 hk];exact HST.out))⟩
       · rcases HTU.out with e | ⟨_,e1,e2⟩
         · exact Or.inl (by rw [HR.out.1,e])
         · exact Or.inr ⟨e1,e2⟩
       · rw [h7,World.cell?_setCell_other _ _ _ _ (by simp),World.cell?_setCell_other _ _ _ _ (by simp)]
         exact World.cell?_setCell_same _ _ _ k0
       · exact (o57.cell (p:=⟨sv,0,none⟩) (lt_of_cell HQ5.out.1) hsv).trans HQ5.out.1
       · rw [HTX.out.1]
         exact HQ.out.2.2.1
       · rw [HTX.out.1]
         exact HQ.out.2.2.2.1
       · exact loadT_kept HQ5.out.2 o57 (fun k hk=>by
           rw [List.mem_singleton];have:st < w3.drew.heap.size:=hl3
           omega) HO3.out.drew
     · subst hv6
       clear hv5;have HNE:Hid ((ux.toList==([]:List UInt8))=false):=hne;clear hne
       go_wp2
       go_ret2
       refine ⟨Or.inr ⟨rfl,Or.inr ⟨R,HR.out.1,fun t' u' e eu T' _ _=>?_⟩⟩,HO5.out⟩;rcases HTU.out with e2 | ⟨e2,_,_⟩
       · rw [e2] at e
         simp only [List.cons.injEq,and_true] at e;have h9:=HNE.out;rw [← HTX.out.2,e.2,eu] at h9;exact absurd h9 (by rw [Lib.toList_data];decide)
       · rw [e] at e2
         simp at e2
   · simp only [Ending.returned.injEq,Value.tuple.injEq] at he
     obtain ⟨rfl,rfl⟩:v4 = .pointer none∧u4=eS A 0:=by simpa using he
     have HNO:Hid (∀ T:Tr,pLoad most tx=some (absT T)→bs (snapT T)≠tx):=hno;clear he hno
     go_wp2
     go_ret2
     refine ⟨Or.inr ⟨rfl,Or.inr ⟨R,HR.out.1,fun t' u' e eu T' h1 h2=>?_⟩⟩,HO4.out⟩;rcases HTU.out with e2 | ⟨e2,_,_⟩
     · rw [e2] at e
       simp only [List.cons.injEq,and_true] at e;obtain ⟨rfl,rfl⟩:=e;rw [HTX.out.1] at h1 h2;exact HNO.out T' h1 h2
     · rw [e] at e2
       simp at e2
end
end
end Go.Proofs.YtmnidbnaneagjaaGreatDoor
