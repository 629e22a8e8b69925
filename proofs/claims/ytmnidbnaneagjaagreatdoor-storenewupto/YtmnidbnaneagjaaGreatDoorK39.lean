import Derived.Test.YtmnidbnaneagjaaGreatDoorK38
import Derived.Test.YtmnidbnaneagjaaGreatDoorK31
set_option maxRecDepth 100000
set_option maxHeartbeats 8000000
namespace Go.Proofs.YtmnidbnaneagjaaGreatDoor
section
open Go Go.RowKit Go.Deep
def LogOk (sec:List Sec)(R:List (List UInt8))(n:Nat):Prop:=∃ (h:Hd) (Ls:List (List (List UInt8))),newestL sec=some h∧textOf h sec=(Ls.map fun L=>fillT (blkT L)).flatten∧R=Ls.flatten∧(∀ L∈Ls,BkOk L)∧h.used*64≤64+64*n+wgt R
theorem LogOk.recs {sec:List Sec}{R:List (List UInt8)}{n:Nat}(h:LogOk sec R n):∃ h,newestL sec=some h∧recsOf h sec=some R:=by
 obtain ⟨h,Ls,h1,h2,rfl,h4,_⟩:=h;refine ⟨h,h1,?_⟩;unfold recsOf rAll;rw [h2,rBlks_read h4 [] _ (Nat.le_refl _)];simp
theorem padB_take (l:List UInt8)(h:l.length≤64)(k:Nat)(hk:k≤l.length):(padB (bs l)).1.take k=l.take k:=by
 simp only [padB,bs];rw [List.take_take,Nat.min_eq_left (by omega),List.take_append_of_le_length (by simpa using hk)]
theorem padB_part (l:List UInt8)(h:l.length≤64)(j k:Nat)(hk:j+k≤l.length):((padB (bs l)).1.drop j).take k=(l.drop j).take k:=by
 have e:∀ m:List UInt8,(m.drop j).take k=(m.take (j+k)).drop j:=fun m=>by rw [List.drop_take];congr 1;omega
 rw [e,e,padB_take l h (j+k) hk]
theorem hdRead_hdT {h:Hd}(hk:h.Ok):hdRead (padB (bs (hdT h)))=h∧isMark (padB (bs (hdT h)))=true:=by
 have hl:=hdT_len h;have p:=fun j k (hk:j+k≤28)=>padB_part (hdT h) (by omega) j k (by omega)
 have e1:((hdT h).drop 16).take 4=wd h.calls:=by simp [hdT,markL,wd]
 have e2:((hdT h).drop 20).take 4=wd h.half:=by simp [hdT,markL,wd]
 have e3:((hdT h).drop 24).take 4=wd h.used:=by simp [hdT,markL,wd]
 refine ⟨?_,?_⟩
 · unfold hdRead
   rw [p 16 4 (by decide),p 20 4 (by decide),p 24 4 (by decide),e1,e2,e3,unwd_wd hk.calls,unwd_wd hk.half,unwd_wd hk.used]
 · unfold isMark
   rw [padB_take (hdT h) (by omega) 16 (by omega)];simp [hdT,markL]
theorem headAt_set {sec:List Sec}{h:Hd}(hk:h.Ok)(hf:h.fits sec.length=true)(hN:2≤sec.length):headAt (sec.set (h.calls % 2) (padB (bs (hdT h)))) (h.calls % 2)=some h:=by
 obtain ⟨r1,r2⟩:=hdRead_hdT hk;unfold headAt;rw [List.getElem?_set_self (by omega),List.length_set,Option.bind_some];unfold hdOf;rw [r1,r2,hf];simp
theorem headAt_same {sec sec':List Sec}{i:Nat}(h:sec'[i]?=sec[i]?)(hl:sec'.length=sec.length):headAt sec' i=headAt sec i:=by
 unfold headAt;rw [h,hl]
theorem newest_pick {sec:List Sec}{h h':Hd}(h1:headAt sec (h.calls % 2)=some h)(h2:headAt sec (h'.calls % 2)=some h')(hc:h'.calls=(h.calls+1) % 4294967296)(hb:h.calls < 4294967296):newestL sec=some h':=by
 have hp:h.calls % 2=0∧h'.calls % 2=1∨h.calls % 2=1∧h'.calls % 2=0:=by omega
 unfold newestL;rcases hp with ⟨e1,e2⟩ | ⟨e1,e2⟩
 · rw [e1] at h1
   rw [e2] at h2
   have hbh:h'.behind h=true:=by unfold Hd.behind;apply decide_eq_true;omega
   simp [h1,h2,hbh]
 · rw [e1] at h1
   rw [e2] at h2
   have hbh:h.behind h'=false:=by unfold Hd.behind;apply decide_eq_false;omega
   simp [h1,h2,hbh]
theorem newest_near {sec s:List Sec}{a k:Nat}(hn:Near sec a k s)(ha:2≤a):newestL s=newestL sec:=by
 unfold newestL;rw [headAt_same (hn.2 0 (by omega)) hn.1,headAt_same (hn.2 1 (by omega)) hn.1]
theorem text_near {sec s:List Sec}{a k:Nat}{h:Hd}(hn:Near sec a k s)(hd:h.first sec.length+h.used≤a∨a+k≤h.first sec.length):textOf h s=textOf h sec:=by
 unfold textOf;rw [hn.1];congr 1;apply List.ext_getElem?;intro i;simp only [List.getElem?_take,List.getElem?_drop]
 split
 · exact hn.2 _ (by omega)
 · rfl
theorem LogOk.near {sec s:List Sec}{R:List (List UInt8)}{n a k:Nat}{h:Hd}(hl:LogOk sec R n)(hh:newestL sec=some h)(hn:Near sec a k s)(ha:2≤a)(hd:h.first sec.length+h.used≤a∨a+k≤h.first sec.length):LogOk s R n:=by
 obtain ⟨h',Ls,h1,h2,h3,h4,h5⟩:=hl;obtain rfl:h=h':=Option.some.inj (hh.symm.trans h1);exact ⟨h,Ls,(newest_near hn ha).trans h1,(text_near hn hd).trans h2,h3,h4,h5⟩
theorem text_put {sec:List Sec}{h:Hd}{T:List UInt8}(hN:2≤h.first sec.length)(hfit:h.first sec.length+h.used+secsN T.length≤sec.length):textOf (hdN h T) (secB sec h T)=textOf h sec++fillT T:=by
 have hlen:(secB sec h T).length=sec.length:=by unfold secB secA;rw [List.length_set,putAt_len]
 have hF:(hdN h T).first (secB sec h T).length=h.first sec.length:=by rw [hlen];rfl
 unfold textOf;rw [hF,← pieces_fill,← concatS_app];congr 1;show ((secB sec h T).drop _).take (h.used+secsN T.length)=_;apply List.ext_getElem?;intro i
 have hl2:((sec.drop (h.first sec.length)).take h.used).length=h.used:=by simp;omega
 have hs:∀ j,(secB sec h T)[h.first sec.length+j]?=(secA sec h T)[h.first sec.length+j]?:=fun j=>by
   unfold secB;rw [List.getElem?_set_ne (by omega)]
 rw [List.getElem?_append,hl2,List.getElem?_take,List.getElem?_drop,hs];unfold secA
 by_cases hi:i < h.used
 · rw [if_pos hi,if_pos (by omega),putAt_other _ _ _ _ (by omega),List.getElem?_take,if_pos hi,List.getElem?_drop]
 · rw [if_neg hi]
   by_cases hi2:i < h.used+secsN T.length
   · rw [if_pos hi2]
     have:=putAt_in sec (h.first sec.length+h.used) (piecesS T (secsN T.length)) (i - h.used) (by rw [piecesS_len];omega) (by rw [piecesS_len];omega);rw [← this];congr 1;omega
   · rw [if_neg hi2]
     symm
     rw [List.getElem?_eq_none_iff,piecesS_len];omega
theorem wgt_len (L:List (List UInt8)):16*L.length≤wgt L∧∀ s∈L,s.length≤wgt L:=by
 induction L with
 | nil=>exact ⟨Nat.zero_le _,fun s hs=>by cases hs⟩
 | cons s L ih =>
  have e:wgt (s::L)=16+s.length+wgt L:=by simp [wgt]
  refine ⟨by rw [e,List.length_cons];omega,fun x hx=>?_⟩;rcases List.mem_cons.1 hx with rfl | hx
  · omega
  · have:=ih.2 x hx
    omega
theorem next_log {sec:List Sec}{h h1:Hd}{L:List (List UInt8)}{Ls:List (List (List UInt8))}{n:Nat}(hm:sec.length≤4000)(hh:newestL sec=some h)(hc:h1.calls=(h.calls+1) % 4294967296)(hh1:h1.half≤1)(hu:h1.used+secsN (blkT L).length≤(sec.length - 2) / 2)
   (hx:textOf h1 sec=(Ls.map fun L=>fillT (blkT L)).flatten) (hb:∀ L∈Ls,BkOk L) (htk:(h1.used+secsN (blkT L).length)*64≤64+64*n+wgt (Ls.flatten++L)):LogOk (secB sec h1 (blkT L)) (Ls.flatten++L) n:=by
 obtain ⟨k1,k2,k3⟩:=newest_read hh;obtain ⟨f1,f2,f3⟩:=Hd.fits_iff k2;have hroom:h1.first sec.length+h1.used+secsN (blkT L).length≤sec.length:=half_room hh1 f1 hu
 have hlenA:(secA sec h1 (blkT L)).length=sec.length:=by unfold secA;rw [putAt_len]
 have hF2:2≤h1.first sec.length:=by unfold Hd.first;omega
 have hfit:(hdN h1 (blkT L)).fits sec.length=true:=by
   unfold Hd.fits hdN;exact decide_eq_true ⟨f1,hh1,hu⟩
 have hok:(hdN h1 (blkT L)).Ok:=⟨by show h1.calls < _;omega,by show h1.half < _;omega,by show h1.used+secsN (blkT L).length < _;omega⟩
 have hA:∀ i,i < 2→(secA sec h1 (blkT L))[i]?=sec[i]?:=fun i hi=>by unfold secA;exact putAt_other _ _ _ _ (by omega)
 have hnew:newestL (secB sec h1 (blkT L))=some (hdN h1 (blkT L)):=by
   refine newest_pick (h:=h) ?_ ?_ hc k1.calls
   · unfold secB
     rw [headAt_same (sec:=sec) ?_ (by rw [List.length_set,hlenA]),k3];rw [List.getElem?_set_ne (by omega),hA _ (by omega)]
   · have:=headAt_set (sec:=secA sec h1 (blkT L)) hok (by rw [hlenA];exact hfit) (by omega)
     exact this
 refine ⟨hdN h1 (blkT L),Ls++[L],hnew,?_,by simp,fun M hM=>?_,htk⟩
 · rw [text_put hF2 hroom,hx]
   simp
 · rcases List.mem_append.1 hM with hM | hM
   · exact hb M hM
   · obtain rfl:=List.mem_singleton.1 hM
     have h7:=wgt_len M;have h8:=blkT_len M
     have h9:(blkT M).length≤128000:=by unfold secsN at hu;omega
     exact ⟨by omega,fun s hs=>by have:=h7.2 s hs;omega⟩
theorem clear_log {sec:List Sec}{R L:List (List UInt8)}{n:Nat}{h:Hd}(hm:sec.length≤4000)(hl:LogOk sec R n)(hh:newestL sec=some h)(ht:secsN (blkT L).length≤(sec.length - 2) / 2):
   LogOk (secB sec h.emptied (blkT L)) L 0∧∀ s,Near sec (h.emptied.first sec.length+h.emptied.used) (secsN (blkT L).length) s→LogOk s R n:=by
 obtain ⟨k1,k2,k3⟩:=newest_read hh;obtain ⟨f1,f2,f3⟩:=Hd.fits_iff k2;have hsf:=secs_fit L;have h0:h.emptied.used=0:=rfl;refine ⟨?_,fun s hn=>hl.near hh hn ?_ ?_⟩
 · have:=next_log (h1:=h.emptied) (L:=L) (Ls:=[]) (n:=0) hm hh rfl (by show 1 - h.half≤1;omega) (by rw [h0];omega) (by unfold textOf;rw [h0];rfl) (fun L hL=>by cases hL) (by rw [h0];simpa using hsf)
   simpa using this
 · show 2≤2+(1 - h.half)*((sec.length - 2) / 2)+0
   omega
 · show 2+h.half*((sec.length - 2) / 2)+h.used≤2+(1 - h.half)*((sec.length - 2) / 2)+0∨2+(1 - h.half)*((sec.length - 2) / 2)+0+secsN (blkT L).length≤2+h.half*((sec.length - 2) / 2)
   have h6:h.half=0∨h.half=1:=by omega
   rcases h6 with h6 | h6<;>rw [h6]<;>omega
def roomS (sec:List Sec)(c:Bool)(L:List (List UInt8)):Prop:=(if c then 0 else ((newestL sec).getD Hd.zero).used)+secsN (blkT L).length≤(sec.length - 2) / 2
theorem new_log {N:Nat}(h1:8≤N)(h2:N≤4000):LogOk ((List.replicate N zeroS).set (Hd.zero.emptied.calls % 2) (padB (bs (hdT Hd.zero.emptied)))) [] 0:=by
 have e1:Hd.zero.emptied=⟨1,1,0⟩:=rfl;have hok:Hd.zero.emptied.Ok:=⟨by decide,by decide,by decide⟩
 have hlen:(List.replicate N zeroS).length=N:=by simp
 have hfit:Hd.zero.emptied.fits (List.replicate N zeroS).length=true:=by
   rw [hlen,e1];unfold Hd.fits;apply decide_eq_true;exact ⟨h1,by decide,Nat.zero_le _⟩
 have hs:=headAt_set (sec:=List.replicate N zeroS) hok hfit (by omega)
 have hz:headAt ((List.replicate N zeroS).set (Hd.zero.emptied.calls % 2) (padB (bs (hdT Hd.zero.emptied)))) 0=none:=by
   have e2:Hd.zero.emptied.calls % 2=1:=rfl;rw [e2];unfold headAt;rw [List.getElem?_set_ne (by decide),List.getElem?_replicate,if_pos (by omega),Option.bind_some];unfold hdOf
   have:isMark zeroS=false:=by decide
   rw [this];rfl
 refine ⟨Hd.zero.emptied,[],?_,?_,rfl,(fun L hL=>by cases hL),by decide⟩
 · have e2:Hd.zero.emptied.calls % 2=1:=rfl
   unfold newestL;rw [hz];rw [e2] at hs ⊢;rw [hs]
 · unfold textOf
   rfl
theorem newest_zero (N:Nat):newestL (List.replicate N zeroS)=none:=by
 have:∀ i,headAt (List.replicate N zeroS) i=none:=fun i=>by
  unfold headAt;rw [List.getElem?_replicate]
  split
  · unfold hdOf
    have:isMark zeroS=false:=by decide
    rw [Option.bind_some,this];rfl
  · rfl
 unfold newestL;rw [this 0,this 1]
def crashS (keep:Nat→Bool)(s:DSt):List Sec:=redo keep s.wt (undo s.sec s.wt) s.wt.length
def ActP (s:DSt)(R R':List (List UInt8))(n n':Nat)(r:Prop)(c:Nat)(dark':Bool)(s':DSt):Prop :=
 (c=9∧dark'=false∧s'=s∧¬ r) ∨
 (c=0∧dark'=false∧s'.wt=[]∧LogOk s'.sec R' n'∧s'.sec.length=s.sec.length∧(s.pw=none→s'.pw=none)∧r) ∨
 (c=15∧dark'=true∧s.pw≠none∧s'.wt.length≤5000∧s'.sec.length=s.sec.length∧∀ keep,LogOk (crashS keep s') R n∨LogOk (crashS keep s') R' n')
def ActR (g:Dv)(w w':World)(l:Nat)(s:DSt)(R R':List (List UInt8))(n n':Nat)(r:Prop)(e:Ending):Prop :=
 ∃ c dark' s',e = .returned (errN g.A c)∧ActP s R R' n n' r c dark' s'∧Ds g w' s'∧LogAt w' g l dark'∧OthL w w'
theorem secB_len (sec:List Sec)(h:Hd)(T:List UInt8):(secB sec h T).length=sec.length:=by unfold secB secA;rw [List.length_set,putAt_len]
theorem crash_len {s':DSt}{N:Nat}(keep:Nat→Bool)(h:(crashS keep s').length=N):s'.sec.length=N:=by rw [← h,crashS,redo_len,undo_len]
section
variable {g:Dv}{w w':World}{s:DSt}{l:Nat}
theorem act_of_write {h1:Hd}{L R R':List (List UInt8)}{n n':Nat}{r:Prop}{w0:World}{e:Ending}(ho:Only [] w w0)(hr:WrR g w0 w' s l h1 L e)(hrr:r↔h1.used+secsN (blkT L).length≤(s.sec.length - 2) / 2)
   (hn:h1.used+secsN (blkT L).length≤(s.sec.length - 2) / 2→LogOk (secB s.sec h1 (blkT L)) R' n'∧∀ q,Near s.sec (h1.first s.sec.length+h1.used) (secsN (blkT L).length) q→LogOk q R n):∃ v,e = .returned v∧ActR g w w' l s R R' n n' r (.returned v):=by
 rcases hr with ⟨a,rfl,b,c,d⟩ | ⟨a,c,s',rfl,hP,h2,h3,h4⟩
 · exact ⟨_,rfl,9,false,s,rfl,Or.inl ⟨rfl,rfl,rfl,fun e=>by have:=hrr.1 e;omega⟩,b,c,(OthL.of_only ho).trans d⟩
 · obtain ⟨q1,q2⟩:=hn a
   refine ⟨_,rfl,c,_,s',rfl,?_,h2,h3,(OthL.of_only ho).trans h4⟩;rcases hP with ⟨rfl,p1,p2,p3⟩ | ⟨rfl,p1,p2,p3⟩
   · refine Or.inr (Or.inr ⟨rfl,rfl,p1,p2,?_,fun keep=>?_⟩)
     · rcases p3 (fun _=>false) with p3 | p3
       · exact crash_len (fun _=>false) p3.1
       · exact crash_len (fun _=>false) ((congrArg List.length p3).trans (secB_len _ _ _))
     · rcases p3 keep with p3 | p3
       · exact Or.inl (q2 _ p3)
       · refine Or.inr ?_
         show LogOk (redo keep s'.wt (undo s'.sec s'.wt) s'.wt.length) R' n';rw [p3];exact q1
   · exact Or.inr (Or.inl ⟨rfl,rfl,p2,by rw [p1];exact q1,by rw [p1,secB_len],p3,hrr.2 a⟩)
theorem lclear_lit (hd:Ds g w s)(hl:LogAt w g l false)(hw:s.wt=[]){R:List (List UInt8)}{n:Nat}(hlog:LogOk s.sec R n)(ad:Option Addr)(cap:Nat)(L:List (List UInt8))(hT:TxIn w ad L)(hL:L.length≤2000000)(hW:wgt L < 4000000000):
  Calls Tryz.prog 53 #[.pointer (some ⟨l,0,none⟩),.slice ad L.length cap] w fun e w'=>ActR g w w' l s R (L) n (0) (roomS s.sec true L) e:=by
 have hlog0:=hlog;have hmost:=hd.most.2;obtain ⟨h,Ls,e1,e2,e3,e4,e5⟩:=hlog;obtain ⟨k1,k2,k3⟩:=newest_read e1;obtain ⟨f1,f2,f3⟩:=Hd.fits_iff k2
 have hrs:∀ c,roomS s.sec c L↔(if c then 0 else h.used)+secsN (blkT L).length≤(s.sec.length - 2) / 2:=fun c=>by unfold roomS;rw [e1,Option.getD_some]
 have H:Hid (Calls Tryz.prog 110 #[.pointer (some ⟨l,0,none⟩)] w fun e w'=>e = .returned (.tuple #[hdV h,.nilIface])∧Only [] w w'):=lhead_lit hd hl h e1;have HC:Hid (∀ W,Only [] w W→Calls Tryz.prog 93 #[hdV h] W fun e w'=>e = .returned (hdV h.emptied)∧Only [] w w'):=fun W ho=>(emptied_ok W h k1 f2).mono fun e w' q=>⟨q.1,ho.trans q.2 (fun _ h=>by cases h)⟩;have HW:Hid (∀ W,Only [] w W→Calls Tryz.prog 111 #[.pointer (some ⟨l,0,none⟩),hdV h.emptied,.slice ad L.length cap] W fun e w'=>∃ v,e = .returned v∧ActR g w w' l s R (L) n (0) (roomS s.sec true L) (.returned v)):=fun W ho=>(lwrite_any (hd.keep ho) (hl.keep (Oth.of_only ho)) h.emptied ⟨Nat.mod_lt _ (by decide),by show 1 - h.half < 4294967296;omega,by show 0 < 4294967296;omega⟩ (by show 1 - h.half≤1;omega) f1 hw ad cap L (hT.only ho) hL (by omega)).mono fun e w' q=>act_of_write ho q (hrs true) (fun ht=>clear_log hmost hlog0 e1 (by have e0:h.emptied.used=0:=rfl;omega));clear hd hl hw hlog0 hT k1 k2 k3 e1 e2 e3 e4 e5 hrs
 go_enter Tryz.func53,Tryz.ntmps53
 go_upto_region 4 with (go_at_call 110;refine H.out.mono ?_;rintro e w1 ⟨rfl,h1⟩;have HO:Hid (Only [] w (w1.alloc (hdO h))):=h1.alloc _;clear h1)
 obtain ⟨q0,q1,q2,q4,q5⟩:=cells3 (heap_alloc_last w1 (hdO h));generalize w1.heap.size=hb at q0 q1 q2 q4 q5 ⊢;generalize w1.alloc (hdO h)=W1 at q0 q1 q2 q4 q5 HO ⊢
 go_wp2_with (first
  | (go_at_call 93;refine (HC.out _ HO.out).mono ?_;rintro e w2 ⟨rfl,h1⟩;have HO2:Hid (Only [] w w2):=h1;clear h1)
  | (go_at_call 111;refine (HW.out _ HO2.out).mono ?_;rintro e w3 ⟨v,rfl,h1⟩;have HR:Hid (ActR g w w3 l s R (L) n (0) (roomS s.sec true L) (.returned v)):=h1;clear h1))
 go_ret
 exact HR.out
end
def openL (sec:List Sec):Option (List (List UInt8)):=(newestL sec).bind fun h=>recsOf h sec
theorem LogOk.opens {sec:List Sec}{R:List (List UInt8)}{n:Nat}(h:LogOk sec R n):openL sec=some R:=by
 obtain ⟨h,h1,h2⟩:=h.recs;unfold openL;rw [h1,Option.bind_some,h2]
def OpenR (g:Dv)(w w':World)(s:DSt)(e:Ending):Prop:=Only [] w w'∧((openL s.sec=none∧e = .returned (.tuple #[.pointer none,.slice none 0 0,.iface 535 (.pointer (some (g.A 0)))]))∨∃ R l v,openL s.sec=some R∧e = .returned (.tuple #[.pointer (some ⟨l,0,none⟩),v,.nilIface])∧LogAt w' g l false∧w'.ownsRow w.heap.size 9 1 v R.length (R.map txv)∧w.heap.size≤l)
section
variable {g:Dv}{w w':World}{s:DSt}{l:Nat}
theorem open_none (hd:Ds g w s)(hn:newestL s.sec=none):
  Calls Tryz.prog 18 #[.pointer (some ⟨g.t,0,none⟩)] w fun e w'=>e = .returned (.tuple #[.pointer none,.slice none 0 0,.iface 535 (.pointer (some (g.A 0)))])∧Only [] w w':=by
 have H:Hid (Calls Tryz.prog 37 #[.pointer (some ⟨g.t,0,none⟩)] w fun e w'=>e = .returned (.tuple #[hdV Hd.zero,.bool false])∧Only [] w w'):=by
  have:=hd.newest;rw [hn] at this;exact this
 have HC:Hid (∀ W,Only [] w W→W.cell? ⟨1,0,none⟩=some (.iface 535 (.pointer (some (g.A 0))))):=fun W ho=>(hd.keep ho).err 0 (by simp);clear hd hn
 go_enter Tryz.func18,Tryz.ntmps18
 go_upto_region 2 with (go_at_call 37;refine H.out.mono ?_;rintro e w1 ⟨rfl,h1⟩;have HO:Hid (Only [] w (w1.alloc (hdO Hd.zero))):=h1.alloc _;clear h1)
 have ce:=HC.out _ HO.out;have hlt:=lt_of_cell ce;generalize w1.alloc (hdO Hd.zero)=W1 at ce hlt HO ⊢;generalize w1.heap.size=hb
 go_upto_region 3 with (fail)
 go_quiet (fail)
 go_wp2
 go_ret3
 exact ⟨rfl,drewsD HO.out nq⟩
theorem open_bad (hd:Ds g w s)(h:Hd)(hn:newestL s.sec=some h)(hr:recsOf h s.sec=none):
  Calls Tryz.prog 18 #[.pointer (some ⟨g.t,0,none⟩)] w fun e w'=>e = .returned (.tuple #[.pointer none,.slice none 0 0,.iface 535 (.pointer (some (g.A 0)))])∧Only [] w w':=by
 have H:Hid (Calls Tryz.prog 37 #[.pointer (some ⟨g.t,0,none⟩)] w fun e w'=>e = .returned (.tuple #[hdV h,.bool true])∧Only [] w w'):=by
  have:=hd.newest;rw [hn] at this;exact this
 have HR:Hid (∀ W,Only [] w W→Calls Tryz.prog 38 #[hdV h,.pointer (some ⟨g.t,0,none⟩)] W fun e w'=>e = .returned (.tuple #[.slice none 0 0,.bool false])∧Only [] w w'):=fun W ho=>by
  obtain ⟨vw,hk⟩:=(hd.keep ho).dk;refine (records_ok hk h (newest_read hn).2.1).mono fun e w' q=>?_;obtain ⟨q1,q2⟩:=q;rcases q2 with ⟨_,q2⟩ | ⟨R,v,q2,_⟩
  · exact ⟨q2,ho.trans q1 (fun _ h=>by cases h)⟩
  · exact absurd (hr.symm.trans q2) (by simp)
 have HC:Hid (∀ W,Only [] w W→W.cell? ⟨1,0,none⟩=some (.iface 535 (.pointer (some (g.A 0))))):=fun W ho=>(hd.keep ho).err 0 (by simp);clear hd hn hr
 go_enter Tryz.func18,Tryz.ntmps18
 go_upto_region 2 with (go_at_call 37;refine H.out.mono ?_;rintro e w1 ⟨rfl,h1⟩;have HO:Hid (Only [] w (w1.alloc (hdO h))):=h1.alloc _;clear h1)
 obtain ⟨q0,q1,q2,q4,q5⟩:=cells3 (heap_alloc_last w1 (hdO h));generalize w1.heap.size=hb at q0 q1 q2 q4 q5 ⊢;generalize w1.alloc (hdO h)=W1 at HO q0 q1 q2 q4 q5 ⊢
 go_upto_region 6 with (go_at_call 38;refine (HR.out _ HO.out).mono ?_;rintro e w2 ⟨rfl,h1⟩;have HO2:Hid (Only [] w w2):=h1;clear h1)
 have ce:=HC.out _ HO2.out;have hlt:=lt_of_cell ce
 go_quiet (fail)
 go_wp2
 go_ret3
 exact ⟨rfl,drewsD HO2.out nq⟩
theorem open_good (hd:Ds g w s)(hw:s.wt=[])(h:Hd)(hn:newestL s.sec=some h)(R:List (List UInt8))(hr:recsOf h s.sec=some R):
  Calls Tryz.prog 18 #[.pointer (some ⟨g.t,0,none⟩)] w fun e w'=>∃ l v,e = .returned (.tuple #[.pointer (some ⟨l,0,none⟩),v,.nilIface])∧LogAt w' g l false∧w'.ownsRow w.heap.size 9 1 v R.length (R.map txv)∧w.heap.size≤l∧Only [] w w':=by
 have H:Hid (Calls Tryz.prog 37 #[.pointer (some ⟨g.t,0,none⟩)] w fun e w'=>e = .returned (.tuple #[hdV h,.bool true])∧Only [] w w'):=by
  have:=hd.newest;rw [hn] at this;exact this
 have HR:Hid (∀ W,Only [] w W→Calls Tryz.prog 38 #[hdV h,.pointer (some ⟨g.t,0,none⟩)] W fun e w'=>∃ v,e = .returned (.tuple #[v,.bool true])∧Only [] w w'∧w'.ownsRow w.heap.size 9 1 v R.length (R.map txv)):=fun W ho=>by
  obtain ⟨vw,hk⟩:=(hd.keep ho).dk;refine (records_ok hk h (newest_read hn).2.1).mono fun e w' q=>?_;obtain ⟨q1,q2⟩:=q;rcases q2 with ⟨q2,_⟩ | ⟨R',v,q2,q3,q4⟩
  · exact absurd (hr.symm.trans q2) (by simp)
  · obtain rfl:R=R':=Option.some.inj (hr.symm.trans q2)
    exact ⟨v,q3,ho.trans q1 (fun _ h=>by cases h),own_base q4 ho.size⟩
 have HS:Hid (∀ W,Only [] w W→Calls Tryz.prog 39 #[.pointer (some ⟨g.t,0,none⟩)] W fun e w'=>e = .returned .nilIface∧w'=W):=fun W ho=>(hd.keep ho).settle hw;have HZ:Hid (g.W0.heap.size≤w.heap.size):=hd.bel.size;clear hd hn hr hw
 go_enter Tryz.func18,Tryz.ntmps18
 go_upto_region 2 with (go_at_call 37;refine H.out.mono ?_;rintro e w1 ⟨rfl,h1⟩;have HO:Hid (Only [] w (w1.alloc (hdO h))):=h1.alloc _;clear h1)
 obtain ⟨q0,q1,q2,q4,q5⟩:=cells3 (heap_alloc_last w1 (hdO h));generalize w1.heap.size=hb at q0 q1 q2 q4 q5 ⊢;generalize w1.alloc (hdO h)=W1 at HO q0 q1 q2 q4 q5 ⊢
 go_wp2_with (first
  | (go_at_call 38;refine (HR.out _ HO.out).mono ?_;rintro e w2 ⟨v,rfl,h1,h2⟩;have HO2:Hid (Only [] w w2∧w2.ownsRow w.heap.size 9 1 v R.length (R.map txv)):=⟨h1,h2⟩;clear h1 h2)
  | (go_at_call 39;refine (HS.out _ HO2.out.1).mono ?_;rintro e w3 ⟨rfl,h0⟩;have h1:=h0.symm;subst h1;clear h0))
 go_ret3
 have ho:Only [] w2 (w2.alloc (.cells #[.pointer (some ⟨g.t,0,none⟩),.bool false] 138)):=(Only.refl [] w2).alloc _;exact ⟨w2.heap.size,v,rfl,⟨heap_alloc_last w2 _,Nat.le_trans HZ.out HO2.out.1.size⟩,ho.owns HO2.out.2 (fun _ _=>by simp),HO2.out.1.size,HO2.out.1.trans ho (fun _ h=>by cases h)⟩
theorem open_any (hd:Ds g w s)(hw:s.wt=[]):Calls Tryz.prog 18 #[.pointer (some ⟨g.t,0,none⟩)] w fun e w'=>OpenR g w w' s e:=by
 cases hn:newestL s.sec with
 | none=>exact (open_none hd hn).mono fun e w' q=>⟨q.2,Or.inl ⟨by unfold openL;rw [hn];rfl,q.1⟩⟩
 | some h =>
  cases hr:recsOf h s.sec with
  | none=>exact (open_bad hd h hn hr).mono fun e w' q=>⟨q.2,Or.inl ⟨by unfold openL;rw [hn,Option.bind_some,hr],q.1⟩⟩
  | some R =>
   exact (open_good hd hw h hn R hr).mono fun e w' q=>by
    obtain ⟨l,v,a,b,c,d,e⟩:=q;exact ⟨e,Or.inr ⟨R,l,v,by unfold openL;rw [hn,Option.bind_some,hr],a,b,c,d⟩⟩
theorem zeroS_byte (x:ByteArray)(hx:bs zeroS.1=x)(j:Nat)(h:j < x.size):x[j].toNat=0:=by
 subst hx
 have:(bs zeroS.1)[j]=0:=by
  have h1:(bs zeroS.1)[j]=(List.replicate 64 (0:UInt8))[j]'(by rw [bs_size,zeroS.2] at h;simpa using h):=rfl;rw [h1,List.getElem_replicate]
 rw [this];rfl
theorem blank_ok (hd:Ds g w s)(n:Nat)(hn:s.sec[n]?=some zeroS):Calls Tryz.prog 146 #[.pointer (some ⟨g.t,0,none⟩),.int .i64 (n:Nat)] w fun e w'=>e = .returned (.bool true)∧w'=w:=by
 obtain ⟨vw,hk⟩:=hd.dk;have H:Hid (Calls Tryz.prog 67 #[.pointer (some ⟨g.t,0,none⟩),.int .i64 (n:Nat)] w fun e w'=>e = .returned (.tuple #[.string (bs zeroS.1),.nilIface])∧w'=w):=read_ok hk n zeroS hn;have hz:=fun x hx=>zeroS_byte x hx
 have hsz:(bs zeroS.1).size=64:=by rw [bs_size,zeroS.2]
 obtain ⟨x,hx⟩:∃ x,bs zeroS.1=x:=⟨_,rfl⟩;have HZ:Hid (∀ j (h:j < x.size),x[j].toNat=0):=hz x hx;rw [hx] at H hsz;clear hx hz hk hd hn
 go_enter Tryz.func146,Tryz.ntmps146
 go_wp2_with (go_at_call 67;refine H.out.mono ?_;rintro e w1 ⟨rfl,h0⟩;have h1:=h0.symm;subst h1;clear h0)
 go_loopw [16] (fun i wr=>∃ j:Nat,i = .int .i64 (j:Nat)∧j≤64∧wr=w) (fun i _=>64 - (intOf i).toNat)
 case atStart=>exact ⟨0,rfl,Nat.zero_le _,rfl⟩
 case round =>
  obtain ⟨j,rfl,hj,hw⟩:=hrel;subst hw
  by_cases hlt:j < 64
  · have hl:decide ((j:Int) < 64)=true:=decide_eq_true (by omega)
    have hb:=HZ.out j (by omega)
    go_wp2
    exact ⟨⟨j+1,by go_num,by omega,trivial⟩,by simp only [intOf];omega⟩
  · have hl:decide ((j:Int) < 64)=false:=decide_eq_false (by omega)
    go_wp2
    go_ret
    exact ⟨rfl,rfl⟩
theorem wipe_ok (hd:Ds g w s)(hw:s.wt=[])(n:Nat)(hz:∀ i,i < s.sec.length→i≠n→s.sec[i]?=some zeroS):Calls Tryz.prog 95 #[.pointer (some ⟨g.t,0,none⟩),.int .i64 (n:Nat)] w fun e w'=>e = .returned .nilIface∧w'=w:=by
 have HS:Hid (Calls Tryz.prog 92 #[.pointer (some ⟨g.t,0,none⟩)] w fun e w'=>e = .returned (.int .i64 (s.sec.length:Nat))∧w'=w):=hd.sectors;have HT:Hid (Calls Tryz.prog 39 #[.pointer (some ⟨g.t,0,none⟩)] w fun e w'=>e = .returned .nilIface∧w'=w):=hd.settle hw;have HB:Hid (∀ i,i < s.sec.length→i≠n→Calls Tryz.prog 146 #[.pointer (some ⟨g.t,0,none⟩),.int .i64 (i:Nat)] w fun e w'=>e = .returned (.bool true)∧w'=w):=fun i h1 h2=>blank_ok hd i (hz i h1 h2);have hm:=hd.most.2;generalize s.sec.length=N at HS HB hm;clear hd hw hz
 go_enter Tryz.func95,Tryz.ntmps95
 go_wp2_with (go_at_call 92;refine HS.out.mono ?_;rintro e w1 ⟨rfl,h0⟩;have h1:=h0.symm;subst h1;clear h0)
 go_loopw [9] (fun i wr=>∃ j:Nat,i = .int .i64 (j:Nat)∧j≤N∧wr=w) (fun i _=>N - (intOf i).toNat)
 case atStart=>exact ⟨0,rfl,Nat.zero_le _,rfl⟩
 case round =>
  obtain ⟨j,rfl,hj,hw⟩:=hrel;subst hw
  by_cases hlt:j < N
  · have hl:decide ((j:Int) < (N:Int))=true:=decide_eq_true (by omega)
    by_cases hjn:j=n
    · have hb:((j:Int)==(n:Int))=true:=by rw [hjn];simp
      clear hjn
      go_wp2
      go_roundw
      case rel=>exact ⟨j+1,by go_num,by omega,trivial⟩
      case measure=>simp [intOf];omega
    · have hb:((j:Int)==(n:Int))=false:=by simp;omega
      have HB1:Hid (Calls Tryz.prog 146 #[.pointer (some ⟨g.t,0,none⟩),.int .i64 (j:Nat)] wr fun e w'=>e = .returned (.bool true)∧w'=wr):=HB.out j hlt hjn;clear hjn
      go_wp2_with (go_at_call 146;refine HB1.out.mono ?_;rintro e w1 ⟨rfl,h0⟩;have h1:=h0.symm;subst h1;clear h0)
      go_roundw
      case rel=>exact ⟨j+1,by go_num,by omega,trivial⟩
      case measure=>simp [intOf];omega
  · have hl:decide ((j:Int) < (N:Int))=false:=decide_eq_false (by omega)
    go_wp2_with (go_at_call 39;refine HT.out.mono ?_;rintro e w1 ⟨rfl,h0⟩;have h1:=h0.symm;subst h1;clear h0)
    go_ret
    exact ⟨rfl,rfl⟩
theorem format_full (hd:Ds g w s)(hN:s.sec.length < 8):Calls Tryz.prog 49 #[.pointer (some ⟨g.t,0,none⟩)] w fun e w'=>e = .returned (.tuple #[.pointer none,.iface 535 (.pointer (some (g.A 8)))])∧Only [] w w':=by
 have HS:Hid (Calls Tryz.prog 92 #[.pointer (some ⟨g.t,0,none⟩)] w fun e w'=>e = .returned (.int .i64 (s.sec.length:Nat))∧w'=w):=hd.sectors;have ce:w.cell? ⟨9,0,none⟩=some (.iface 535 (.pointer (some (g.A 8)))):=hd.err 8 (by simp);have d0:decide ((s.sec.length:Int) < 8)=true:=decide_eq_true (by omega);have hlt:=lt_of_cell ce;generalize s.sec.length=N at HS d0 hN;clear hd
 go_enter Tryz.func49,Tryz.ntmps49
 go_upto_region 2 with (go_at_call 92;refine HS.out.mono ?_;rintro e w1 ⟨rfl,h0⟩;have h1:=h0.symm;subst h1;clear h0)
 go_quiet (fail)
 go_wp2
 go_ret2
 exact ⟨rfl,drewsD (Only.refl [] _) nq⟩
theorem set3_heap {W:World}{b:Nat}{c0 c1 c2:Value}{ty:TypeId}(hb:W.heap[b]?=some (.cells #[c0,c1,c2] ty (0,0)))(v0 v1 v2:Value):(((W.setCell ⟨b,0,none⟩ v0).setCell ⟨b,1,none⟩ v1).setCell ⟨b,2,none⟩ v2).heap[b]?=some (.cells #[v0,v1,v2] ty (0,0)):=by
 rw [heap_setCell_same _ b 2 _ _ _ (heap_setCell_same _ b 1 _ _ _ (heap_setCell_same W b 0 _ _ _ hb))];rfl
def newHead:Hd:=Hd.zero.emptied
def newSec (N:Nat):List Sec:=(List.replicate N zeroS).set 1 (padB (bs (hdT newHead)))
theorem format_new (hd:Ds g w s){N:Nat}(hs:s.sec=List.replicate N zeroS)(hN:8≤N)(hw:s.wt=[])(hp:s.pw=none):Calls Tryz.prog 49 #[.pointer (some ⟨g.t,0,none⟩)] w fun e w'=>∃ l,e = .returned (.tuple #[.pointer (some ⟨l,0,none⟩),.nilIface])∧Ds g w' ⟨none,newSec N,[]⟩∧LogAt w' g l false∧OthL w w'∧w.heap.size≤l:=by
 have hl:s.sec.length=N:=by rw [hs];simp
 have HS:Hid (Calls Tryz.prog 92 #[.pointer (some ⟨g.t,0,none⟩)] w fun e w'=>e = .returned (.int .i64 (N:Nat))∧w'=w):=by rw [← hl];exact hd.sectors
 have HNW:Hid (Calls Tryz.prog 37 #[.pointer (some ⟨g.t,0,none⟩)] w fun e w'=>e = .returned (.tuple #[hdV Hd.zero,.bool false])∧Only [] w w'):=by
  have:=hd.newest;rw [hs,newest_zero] at this;exact this
 have d0:decide ((N:Int) < 8)=false:=decide_eq_false (by omega);have HEM:Hid (∀ W,Calls Tryz.prog 93 #[hdV Hd.zero] W fun e w'=>e = .returned (hdV newHead)∧Only [] W w'):=fun W=>emptied_ok W Hd.zero ⟨by decide,by decide,by decide⟩ (by decide);have hok:newHead.Ok:=⟨by decide,by decide,by decide⟩
 have HSV:Hid (∀ W,Ds g W s→Calls Tryz.prog 94 #[hdV newHead,.pointer (some ⟨g.t,0,none⟩)] W fun e w'=>e = .returned .nilIface∧Ds g w' ⟨none,newSec N,[]⟩∧Oth W w'):=fun W hW=>(save_any hW newHead hok (by omega) (by rw [hw];exact Nat.zero_le _)).mono fun e w' q=>by
  obtain ⟨c,s',he,hP,h1,h2⟩:=q;rcases hP with ⟨_,p1,_⟩ | ⟨_,p1,_⟩ | ⟨rfl,p1,p2,p3⟩
  · exact absurd hp p1
  · exact absurd hp p1
  · have e1:s'=⟨none,newSec N,[]⟩:=by
      obtain ⟨a,b,c⟩:=s';have p4:=p3 hp;simp only at p1 p2 p4;rw [hs] at p1;subst p1 p2 p4;rfl
    rw [← e1];exact ⟨he,h1,h2⟩
 have HSL:Hid (∀ W,Calls Tryz.prog 96 #[hdV newHead] W fun e w'=>e = .returned (.int .i64 (1:Nat))∧Only [] W w'):=fun W=>slot_ok W newHead hok
 have HWP:Hid (∀ W,Ds g W ⟨none,newSec N,[]⟩→Calls Tryz.prog 95 #[.pointer (some ⟨g.t,0,none⟩),.int .i64 (1:Nat)] W fun e w'=>e = .returned .nilIface∧w'=W):=fun W hW=>wipe_ok hW rfl 1 (fun i h1 h2=>by
  have h3:i < N:=by simpa [newSec] using h1
  show (newSec N)[i]?=_;unfold newSec
  rw [List.getElem?_set_ne (by omega),List.getElem?_replicate,if_pos h3])
 have HD:Hid (Ds g w s):=hd;have HZ:Hid (g.W0.heap.size≤w.heap.size):=hd.bel.size;generalize newHead=nh at HEM HSV HSL;clear hd hl hs hw hp hok
 go_enter Tryz.func49,Tryz.ntmps49
 go_upto_region 4 with (first
  | (go_at_call 92;refine HS.out.mono ?_;rintro e w1 ⟨rfl,h0⟩;have h1:=h0.symm;subst h1;clear h0)
  | (go_at_call 37;refine HNW.out.mono ?_;rintro e w1 ⟨rfl,h1⟩;have HO:Hid (Only [] w (w1.alloc (hdO Hd.zero))):=h1.alloc _;have HGE:Hid (w.heap.size≤w1.heap.size):=h1.size;clear h1))
 have b1:=heap_alloc_last w1 (hdO Hd.zero);generalize w1.heap.size=hb at b1 HGE ⊢;generalize w1.alloc (hdO Hd.zero)=W1 at HO b1 ⊢;obtain ⟨q0,q1,q2,q4,q5⟩:=cells3 b1;have HB1:Hid (W1.heap[hb]?=some (.cells #[.int .u32 (Hd.zero.calls:Nat),.int .i64 (Hd.zero.half:Nat),.int .i64 (Hd.zero.used:Nat)] 131 (0,0))):=b1;clear b1
 go_upto_region 5 with (go_at_call 93;refine (HEM.out _).mono ?_;rintro e w2 ⟨rfl,h1⟩;obtain ⟨q0,q1,q2,q4,q5⟩:=cells3 (kept3 HB1.out h1);have HO2:Hid (Only [] W1 w2):=h1;clear h1)
 have o2:Only [] w w2:=HO.out.trans HO2.out (fun _ h=>by cases h);have o3:=set3 o2 HGE.out (.int .u32 (nh.calls:Nat)) (.int .i64 (nh.half:Nat)) (.int .i64 (nh.used:Nat));have b3:=set3_heap (kept3 HB1.out HO2.out) (.int .u32 (nh.calls:Nat)) (.int .i64 (nh.half:Nat)) (.int .i64 (nh.used:Nat));clear o2 q0 q1 q2 q4 q5 HO HO2 HB1;generalize ((w2.setCell ⟨hb,0,none⟩ (.int .u32 (nh.calls:Nat))).setCell ⟨hb,1,none⟩ (.int .i64 (nh.half:Nat))).setCell ⟨hb,2,none⟩ (.int .i64 (nh.used:Nat))=W3 at o3 b3 ⊢;have HO3:Hid (Only [] w W3):=o3;have HD3:Hid (Ds g W3 s):=HD.out.keep o3;have HB3:Hid (W3.heap[hb]?=some (.cells #[.int .u32 (nh.calls:Nat),.int .i64 (nh.half:Nat),.int .i64 (nh.used:Nat)] 131 (0,0))):=b3;obtain ⟨q0,q1,q2,q4,q5⟩:=cells3 b3;clear o3 b3
 go_wp2_with (first
  | (go_at_call 94;refine (HSV.out _ HD3.out).mono ?_;rintro e w4 ⟨rfl,h1,h2⟩;obtain ⟨q0,q1,q2,q4,q5⟩:=cells3 (Oth.kept3 HB3.out h2);have HD4:Hid (Ds g w4 ⟨none,newSec N,[]⟩∧Oth w w4):=⟨h1,(Oth.of_only HO3.out).trans h2⟩;clear h1 h2)
  | (go_at_call 96;refine (HSL.out _).mono ?_;rintro e w5 ⟨rfl,h1⟩;have HD5:Hid (Ds g w5 ⟨none,newSec N,[]⟩∧Oth w w5):=⟨HD4.out.1.keep h1,HD4.out.2.trans (Oth.of_only h1)⟩;clear h1)
  | (go_at_call 95;refine (HWP.out _ HD5.out.1).mono ?_;rintro e w6 ⟨rfl,h0⟩;have h1:=h0.symm;subst h1;clear h0))
 go_ret2
 have ho:Only [] w5 (w5.alloc (.cells #[.pointer (some ⟨g.t,0,none⟩),.bool false] 138)):=(Only.refl [] w5).alloc _;exact ⟨w5.heap.size,rfl,HD5.out.1.keep ho,⟨heap_alloc_last w5 _,HD5.out.1.bel.size⟩,(HD5.out.2.trans (Oth.of_only ho)).toL,HD5.out.2.size⟩
theorem newSec_log {N:Nat}(h1:8≤N)(h2:N≤4000):LogOk (newSec N) [] 0:=new_log h1 h2
end
end
section
open Go Go.RowKit Go.Deep Go.Maps
abbrev stC (s:Value)(left:Int)(kn lg:Value)(t c:ByteArray)(f:Value):Array Value:=#[s,.int .i64 left,kn,lg,.string t,.string c,f]
theorem begin_any (w:World)(st:Nat)(s kn lg f:Value)(ad:Option Addr)(n cap:Nat)(left:Int)(t c:ByteArray)(h:w.heap[st]?=some (.cells (stC s left kn lg t c f) 74 (0,0))):
  Calls Tryz.prog 23 #[.pointer (some ⟨st,1,none⟩),.slice ad n cap] w fun e w'=>e = .returned (.tuple #[])∧w'=(w.setCell ⟨st,1,none⟩ (.int .i64 60)).setCell ⟨st,2,none⟩ (.slice ad n cap):=by
 have c1:=cell_of_row _ _ 1 _ _ _ h;have c2:=cell_of_row _ _ 2 _ _ _ h;have f1:=frozen_of_row w st 1 _ _ h;have f2:=frozen_of_row w st 2 _ _ h;have hl:=lt_of_cell c1;clear h
 go_enter Tryz.func23,Tryz.ntmps23
 go_wp2
 go_end0
 exact ⟨rfl,rfl⟩
def ShortR (R:List (List UInt8))(M:Nat):Prop:=∀ r∈R,r.length≤M
def SOpenR (A:Nat→Addr)(w w':World)(sec:List Sec)(most:Nat)(e:Ending):Prop :=
 ((∃ st sv tr T c q t u,e = .returned (.tuple #[.pointer (some ⟨st,0,none⟩),.nilIface])∧(openL sec=some [t,u]∨(t=[]∧u=[]))∧w'.cell? ⟨st,0,none⟩=some (.pointer (some ⟨sv,0,none⟩))∧w'.cell? ⟨sv,0,none⟩=some (.pointer (some ⟨tr,0,none⟩))∧pLoad most (bs t)=some c∧bs (snapT T)=bs t∧LoadT w w' tr T c most q) ∨
   (e = .returned (.tuple #[.pointer none,eS A 0])∧(openL sec=none∨∃ R,openL sec=some R∧∀ t u,R=[t,u]→u=[]→∀ T:Tr,pLoad most (bs t)=some (absT T)→bs (snapT T)≠bs t)))∧Only [] w w'
theorem sload_form {A:Nat→Addr}{s:ByteArray}{most:Nat}{w w':World}{e:Ending}(h:(∃ sv tr T c q,e = .returned (.tuple #[.pointer (some ⟨sv,0,none⟩),.nilIface])∧w'.cell? ⟨sv,0,none⟩=some (.pointer (some ⟨tr,0,none⟩))∧w.heap.size≤sv∧pLoad most s=some c∧bs (snapT T)=s∧LoadT w w' tr T c most q)∨((∀ T:Tr,pLoad most s=some (absT T)→bs (snapT T)≠s)∧e = .returned (.tuple #[.pointer none,eS A 0]))):∃ v u,e = .returned (.tuple #[v,u]):=by
 rcases h with ⟨_,_,_,_,_,h,_⟩ | ⟨_,h⟩
 · exact ⟨_,_,h⟩
 · exact ⟨_,_,h⟩
theorem loadT_kept {w0 w w' w'':World}{tr most q:Nat}{T:Tr}{c:Lc}{L:List Nat}(h:LoadT w w' tr T c most q)(ho:Only L w' w'')(hL:∀ k,w.heap.size≤k→k∉L)(h0:Only [] w0 w):LoadT w0 w'' tr T c most q :=
 ⟨h.at_.kept ho (fun k hk=>hL k (h.fresh k hk)),h.abs,h.ok,h.small,h.mst,h.few,h.pn,fun k hk=>Nat.le_trans h0.size (h.fresh k hk)⟩
section
variable {g:Dv}{w:World}{s:DSt}
theorem sopen_any (A:Nat→Addr)(m:Int)(most:Nat)(hd:Ds g w s)(hA:g.A=A)(hw:s.wt=[])(hE:Errs w A)(hm:w.cell? ⟨16,0,none⟩=some (.int .i64 m))(h1:1≤most)(h2:most≤300)(hsz:∀ R,openL s.sec=some R→ShortR R 15000):
   Calls Tryz.prog 7 #[.pointer (some ⟨g.t,0,none⟩),.int .i64 (most:Nat)] w fun e w'=>SOpenR A w w' s.sec most e:=by
 have hop:=open_any hd hw;have HE:Hid (∀ W,Only [] w W→Errs W A):=fun W ho=>hE.below (ho.to_below (Nat.le_refl _) (fun _ h=>by cases h)) (Nat.le_refl _);have HM:Hid (∀ W,Only [] w W→W.cell? ⟨16,0,none⟩=some (.int .i64 m)):=fun W ho=>(ho.cell (lt_of_cell hm) (by simp)).trans hm;have HSZ:Hid (∀ R,openL s.sec=some R→ShortR R 15000):=hsz;have HGA:Hid (g.A=A):=hA;clear hd hw hE hm hsz hA
 go_enter Tryz.func7,Tryz.ntmps7
 go_wp2_with fail
 refine hop.mono ?_;rintro e w1 ⟨ho1,⟨hn,rfl⟩ | ⟨R,l,v,hR,rfl,hlog,hrow,hll⟩⟩
 · have HN:Hid (openL s.sec=none∧Only [] w w1):=⟨hn,ho1⟩
   clear hop ho1 hn
   go_wp2
   go_ret2
   exact ⟨Or.inr ⟨by rw [HGA.out];rfl,Or.inl HN.out.1⟩,HN.out.2⟩
 · have HR:Hid (openL s.sec=some R∧Only [] w w1):=⟨hR,ho1⟩
   have hsh:=HSZ.out R hR
   obtain ⟨ad,cap,hv,him⟩:∃ ad cap,v = .slice ad R.length cap∧∃ t u,(R=[t,u]∨(R.length≠2∧t=[]∧u=[]))∧t.length≤15000∧u.length≤15000∧Calls Tryz.prog 19 #[v] w1 fun e w'=>e = .returned (.agg #[.string (bs t),.string (bs u)])∧Only [] w1 w':=by
     obtain ⟨ad,cap,hv,hc⟩:=row_cells1 (f:=txv) (ss:=R) hrow;refine ⟨ad,cap,hv,?_⟩
     by_cases h2:R.length=2
     · obtain ⟨t,u,rfl⟩:∃ t u,R=[t,u]:=by
         match R,h2 with
         | [t,u],_=>exact ⟨t,u,rfl⟩
       obtain ⟨gg,rfl,_,_,k0⟩:=hc 0 t rfl;obtain ⟨gg2,e2,_,_,k1⟩:=hc 1 u rfl;simp only [Option.some.injEq,Addr.mk.injEq,and_true] at e2;subst e2;subst hv;exact ⟨t,u,Or.inl rfl,hsh t (by simp),hsh u (by simp),imageOf_two w1 gg cap (bs t) (bs u) k0 k1⟩
     · subst hv
       exact ⟨[],[],Or.inr ⟨h2,rfl,rfl⟩,Nat.zero_le _,Nat.zero_le _,imageOf_not w1 ad R.length cap h2⟩
   obtain ⟨t,u,htu,htl,hul,him⟩:=him;have HTU:Hid (R=[t,u]∨(R.length≠2∧t=[]∧u=[])):=htu
   have hts:(bs t).size≤15000:=by rw [bs_size];exact htl
   have hus:(bs u).size≤1000000:=by rw [bs_size];omega
   have HB:Hid (bs t=bs t∧bs u=bs u):=⟨rfl,rfl⟩;obtain ⟨tx,htx⟩:∃ tx,bs t=tx:=⟨_,rfl⟩;obtain ⟨ux,hux⟩:∃ ux,bs u=ux:=⟨_,rfl⟩;have HTX:Hid (bs t=tx∧bs u=ux):=⟨htx,hux⟩;rw [htx,hux] at him;rw [htx] at hts;rw [hux] at hus;clear hop ho1 hR hsh htu htl hul hlog hrow hll htx hux HB HSZ;subst hv
   go_upto_region 5 with (go_at_call 19;refine him.mono ?_;rintro e w2 ⟨rfl,ho2⟩;have HO2:Hid (Only [] w w2):=HR.out.2.trans ho2 (fun _ h=>by cases h);clear him ho2)
   have hb3:=heap_alloc_last w2 (.cells (stC (.pointer none) 0 (.slice none 0 0) (.pointer (some ⟨l,0,none⟩)) tx ux .nilIface) 74);have HO3:Hid (Only [] w (w2.alloc (.cells (stC (.pointer none) 0 (.slice none 0 0) (.pointer (some ⟨l,0,none⟩)) tx ux .nilIface) 74))):=HO2.out.alloc _;have HST:Hid (w.heap.size≤w2.heap.size):=HO2.out.size;clear HO2;generalize w2.alloc (.cells (stC (.pointer none) 0 (.slice none 0 0) (.pointer (some ⟨l,0,none⟩)) tx ux .nilIface) 74)=w3 at hb3 HO3 ⊢;generalize w2.heap.size=st at hb3 HST ⊢;have HB3:Hid (w3.heap[st]?=some (.cells (stC (.pointer none) 0 (.slice none 0 0) (.pointer (some ⟨l,0,none⟩)) tx ux .nilIface) 74 (0,0))):=hb3;have HS0:Hid (w3.cell? ⟨st,4,none⟩=some (.string tx)):=cell_of_row _ _ 4 _ _ _ hb3;have HS1:Hid (w3.drew.cell? ⟨st,4,none⟩=some (.string tx)):=cell_of_row w3.drew st 4 _ _ _ hb3;have hl3:st < w3.heap.size:=(Array.getElem?_eq_some_iff.1 hb3).1;have hld:=sload_any A w3.drew tx most (.func 21) #[.pointer (some ⟨st,1,none⟩)] #[] (HE.out _ HO3.out.drew) hts h1 h2
   have hmf:∀ (fn:Fn) (first cap:Array Value) (w:World),(Instr.makeFunc fn first cap).run Tryz.prog w = .ok (.func fn first cap) w:=fun _ _ _ _=>rfl
   clear hb3 h1 h2 hts
   go_region_held3 (fun W=>W.cell? ⟨st,4,none⟩=some (.string tx)) (with_reducible first | exact HS0.out | exact HS1.out | exact HS2.out)
     ((go_at_call 20;refine hld.mono ?_;rintro e w4 ⟨he,ho4⟩;obtain ⟨v4,u4,rfl⟩:=sload_form he;have H4:Hid (SLoadR A tx most w3.drew w4 (.returned (.tuple #[v4,u4]))):=⟨he,ho4⟩;have HS2:Hid (w4.cell? ⟨st,4,none⟩=some (.string tx)):=(ho4.cell (p:=⟨st,4,none⟩) (by simpa using hl3) (by simp)).trans HS1.out;clear he ho4))
   clear hld HS0 HS1 HS2;obtain ⟨hq,ho4⟩:=H4.out;have o34:Only [] w3 w4:=((Only.refl [] w3).drew).trans ho4 (fun _ h=>by cases h);have HO4:Hid (Only [] w w4):=HO3.out.trans o34 (fun _ h=>by cases h);have HB4:Hid (w4.heap[st]?=some (.cells (stC (.pointer none) 0 (.slice none 0 0) (.pointer (some ⟨l,0,none⟩)) tx ux .nilIface) 74 (0,0))):=(o34.block st hl3 (by simp)).trans HB3.out;clear H4 ho4 o34;rcases hq with ⟨sv,tr,T,c,q,he,hc0,hge,hp,hsn,hT⟩ | ⟨hno,he⟩
   · simp only [Ending.returned.injEq,Value.tuple.injEq] at he
     obtain ⟨rfl,rfl⟩:v4 = .pointer (some ⟨sv,0,none⟩)∧u4 = .nilIface:=by simpa using he
     have HQ:Hid (w4.cell? ⟨sv,0,none⟩=some (.pointer (some ⟨tr,0,none⟩))∧w3.drew.heap.size≤sv∧pLoad most tx=some c∧bs (snapT T)=tx∧LoadT w3.drew w4 tr T c most q):=⟨hc0,hge,hp,hsn,hT⟩;have k5:w4.cell? ⟨st,5,none⟩=some (.string ux):=cell_of_row _ _ 5 _ _ _ HB4.out;have hrn:=readNames_any A w4 ux m (HE.out _ HO4.out) hus (HM.out _ HO4.out);have hl4:=lt_of_cell k5;clear he hc0 hge hp hsn hT hus
     go_upto_region 8 with fail
     go_wp2_with fail
     refine hrn.mono ?_;rintro e w5 ⟨v5,u5,rfl,⟨ad5,n5,cap5,hv5⟩,hu,ho5⟩;have HO5:Hid (Only [] w w5):=HO4.out.trans ho5 (fun _ h=>by cases h);have hb5:=(ho5.block st hl4 (by simp)).trans HB4.out;have HQ5:Hid (w5.cell? ⟨sv,0,none⟩=some (.pointer (some ⟨tr,0,none⟩))∧LoadT w3.drew w5 tr T c most q):=⟨(ho5.cell (lt_of_cell HQ.out.1) (by simp)).trans HQ.out.1,HQ.out.2.2.2.2.only ho5⟩;have HB5:Hid (w5.heap[st]?=some (.cells (stC (.pointer none) 0 (.slice none 0 0) (.pointer (some ⟨l,0,none⟩)) tx ux .nilIface) 74 (0,0))):=hb5;clear hrn ho5 hb5 k5 HB4;rcases hu with rfl | ⟨hv6,rfl,hne⟩
     · subst hv5
       have k0:w5.cell? ⟨st,0,none⟩=some (.pointer none):=cell_of_row _ _ 0 _ _ _ HB5.out;have f0:=frozen_of_row w5 st 0 _ _ HB5.out;have hl5:=lt_of_cell k0;have hb6:=heap_setCell_same w5 st 0 _ _ (.pointer (some ⟨sv,0,none⟩)) HB5.out;have hbg:=begin_any (w5.setCell ⟨st,0,none⟩ (.pointer (some ⟨sv,0,none⟩))) st (.pointer (some ⟨sv,0,none⟩)) (.slice none 0 0) (.pointer (some ⟨l,0,none⟩)) .nilIface ad5 n5 cap5 0 tx ux hb6;have HB6:Hid ((w5.setCell ⟨st,0,none⟩ (.pointer (some ⟨sv,0,none⟩))).heap[st]?=some (.cells (stC (.pointer (some ⟨sv,0,none⟩)) 0 (.slice none 0 0) (.pointer (some ⟨l,0,none⟩)) tx ux .nilIface) 74 (0,0))):=hb6;clear hb6
       go_wp2_with (go_at_call 23;refine hbg.mono ?_;rintro e w7 ⟨rfl,h0⟩;have H7:Hid (w7=((w5.setCell ⟨st,0,none⟩ (.pointer (some ⟨sv,0,none⟩))).setCell ⟨st,1,none⟩ (.int .i64 60)).setCell ⟨st,2,none⟩ (.slice ad5 n5 cap5)):=h0;clear hbg h0)
       go_ret2
       have h7:=H7.out
       have o57:Only [st] w5 w7:=by
         rw [h7];exact (((Only.refl [st] w5).setCell (Or.inl (by simp)) _).setCell (Or.inl (by simp)) _).setCell (Or.inl (by simp)) _
       have hsv:sv∉[st]:=by
         have:=HQ.out.2.1;simp;intro e;have:st < w3.drew.heap.size:=hl3;omega
       refine ⟨Or.inl ⟨st,sv,tr,T,c,q,t,u,rfl,?_,?_,?_,?_,?_,?_⟩,HO5.out.trans o57 (fun k hk=>Or.inr (by rw [List.mem_singleton.1 hk];exact HST.out))⟩
       · rcases HTU.out with e | ⟨_,e1,e2⟩
         · exact Or.inl (by rw [HR.out.1,e])
         · exact Or.inr ⟨e1,e2⟩
       · rw [h7,World.cell?_setCell_other _ _ _ _ (by simp),World.cell?_setCell_other _ _ _ _ (by simp)]
         exact World.cell?_setCell_same _ _ _ k0
       · exact (o57.cell (p:=⟨sv,0,none⟩) (lt_of_cell HQ5.out.1) hsv).trans HQ5.out.1
       · rw [HTX.out.1]
         exact HQ.out.2.2.1
       · rw [HTX.out.1]
         exact HQ.out.2.2.2.1
       · exact loadT_kept HQ5.out.2 o57 (fun k hk=>by
           rw [List.mem_singleton];have:st < w3.drew.heap.size:=hl3
           omega) HO3.out.drew
     · subst hv6
       clear hv5;have HNE:Hid ((ux.toList==([]:List UInt8))=false):=hne;clear hne
       go_wp2
       go_ret2
       refine ⟨Or.inr ⟨rfl,Or.inr ⟨R,HR.out.1,fun t' u' e eu T' _ _=>?_⟩⟩,HO5.out⟩;rcases HTU.out with e2 | ⟨e2,_,_⟩
       · rw [e2] at e
         simp only [List.cons.injEq,and_true] at e;have h9:=HNE.out;rw [← HTX.out.2,e.2,eu] at h9;exact absurd h9 (by rw [Lib.toList_data];decide)
       · rw [e] at e2
         simp at e2
   · simp only [Ending.returned.injEq,Value.tuple.injEq] at he
     obtain ⟨rfl,rfl⟩:v4 = .pointer none∧u4=eS A 0:=by simpa using he
     have HNO:Hid (∀ T:Tr,pLoad most tx=some (absT T)→bs (snapT T)≠tx):=hno;clear he hno
     go_wp2
     go_ret2
     refine ⟨Or.inr ⟨rfl,Or.inr ⟨R,HR.out.1,fun t' u' e eu T' h1 h2=>?_⟩⟩,HO4.out⟩;rcases HTU.out with e2 | ⟨e2,_,_⟩
     · rw [e2] at e
       simp only [List.cons.injEq,and_true] at e;obtain ⟨rfl,rfl⟩:=e;rw [HTX.out.1] at h1 h2;exact HNO.out T' h1 h2
     · rw [e] at e2
       simp at e2
end
end
end Go.Proofs.YtmnidbnaneagjaaGreatDoor
