import Derived.Test.YtmnidbnaneagjaaGreatDoorK36
set_option maxRecDepth 100000
set_option maxHeartbeats 8000000
namespace Go.Proofs.YtmnidbnaneagjaaGreatDoor
section
open Go Go.RowKit Go.Deep
theorem bstring_nil (w:World)(b:Nat)(p:Value)(hbk:w.heap[b]?=some (.cells #[p,.slice none 0 0] 186 (0,0))):
  Calls Tryz.prog 71 #[.pointer (some ⟨b,0,none⟩)] w fun e w'=>e = .returned (.string ⟨#[]⟩)∧Only [] w w':=by
 have hUS:∀ W:World,(Builtin.unsafeString_ #[259,3] 9 #[.pointer none,.int .i64 0]).run Tryz.prog W = .ok (.string .empty) W:=fun W=>Lib.run_unsafeString_none W _ _ _ none
 have c1:w.drew.cell? ⟨b,1,none⟩=some (.slice none 0 0):=by
  have:w.drew.heap[b]?=some (.cells #[p,.slice none 0 0] 186 (0,0)):=hbk;rw [Lib.cell_of_heap this];rfl
 have hSD:(Builtin.unsafeSliceData_ #[159] 259 #[.slice none 0 0]).run Tryz.prog w.drew = .ok (.pointer none) w.drew:=rfl
 go_enter Tryz.func71,Tryz.ntmps71
 go_wp2
 go_region
 all_goals go_wp2
 all_goals go_ret
 all_goals exact ⟨rfl,(Only.refl _ _).drew⟩
theorem Hd.room {h:Hd}{N:Nat}(e:h.fits N=true):h.first N+h.used≤N∧h.used≤(N - 2) / 2∧2≤h.first N∧h.half≤1∧8≤N:=by
 obtain ⟨h1,h2,h5⟩:=Hd.fits_iff e
 have h6:h.half=0∨h.half=1:=by omega
 unfold Hd.first;rcases h6 with h6 | h6<;>rw [h6]<;>omega
def textOf (h:Hd)(sec:List Sec):List UInt8:=concatS ((sec.drop (h.first sec.length)).take h.used)
def recsOf (h:Hd)(sec:List Sec):Option (List (List UInt8)):=rAll (textOf h sec)
theorem BlksR.opened {w w':World}{T:List UInt8}{e:Ending}(h:BlksR w w' T e):∃ v b,e = .returned (.tuple #[v,.bool b])∧BlksR w w' T (.returned (.tuple #[v,.bool b])):=by
 obtain ⟨ho,⟨h1,rfl⟩ | ⟨R,v,h1,rfl,h2⟩⟩:=h
 · exact ⟨_,_,rfl,ho,Or.inl ⟨h1,rfl⟩⟩
 · exact ⟨_,_,rfl,ho,Or.inr ⟨R,v,h1,rfl,h2⟩⟩
theorem BlksR.from {w w0 w':World}{T:List UInt8}{e:Ending}(h:BlksR w w' T e)(ho:Only [] w0 w):BlksR w0 w' T e:=by
 obtain ⟨h1,h2⟩:=h;refine ⟨ho.trans h1 (fun _ h=>by cases h),?_⟩;rcases h2 with h2 | ⟨R,v,a,b,c⟩
 · exact Or.inl h2
 · exact Or.inr ⟨R,v,a,b,own_base c ho.size⟩
section
variable {w:World}{base t:Nat}{pw:Option Nat}{vs vw:Value}{sec:List Sec}{wt:List Wr}
theorem records_ok (hd:DkAt w base t pw vs vw sec wt)(h:Hd)(hf:h.fits sec.length=true):
   Calls Tryz.prog 38 #[hdV h,.pointer (some ⟨t,0,none⟩)] w fun e w'=>BlksR w w' (textOf h sec) e:=by
 obtain ⟨r1,r2,r3,r4,r5⟩:=Hd.room hf;have hm:=hd.most;obtain ⟨wb,hwb⟩:∃ wb,w.alloc (hdO h)=wb:=⟨_,rfl⟩
 have o0:Only [] w wb:=by rw [← hwb];exact (Only.refl [] w).alloc _
 have e0:wb.heap[w.heap.size]?=some (.cells #[.int .u32 (h.calls:Nat),.int .i64 (h.half:Nat),.int .i64 (h.used:Nat)] 131 (0,0)):=by rw [← hwb];exact heap_alloc_last w _
 have HK:Hid (∀ W,Only [] wb W→W.heap[w.heap.size]?=some (.cells #[.int .u32 (h.calls:Nat),.int .i64 (h.half:Nat),.int .i64 (h.used:Nat)] 131 (0,0))):=fun W ho=>kept3 e0 ho;have HD:Hid (∀ W,Only [] wb W→DkAt W base t pw vs vw sec wt):=fun W ho=>(hd.keep o0).keep ho;have HF:Hid (∀ W,Only [] wb W→Calls Tryz.prog 68 #[hdV h,.pointer (some ⟨t,0,none⟩)] W fun e w'=>e = .returned (.int .i64 (h.first sec.length:Nat))∧Only [] W w'):=fun W ho=>hfirst_ok ((hd.keep o0).keep ho) h r4 (by omega);have HB0:Hid (BuW wb (wb.alloc (.cells #[.pointer none,.slice none 0 0] 186)) wb.heap.size []):=BuW.fresh (Only.refl [] wb);have HN0:Hid ((wb.alloc (.cells #[.pointer none,.slice none 0 0] 186)).heap[wb.heap.size]?=some (.cells #[.pointer none,.slice none 0 0] 186 (0,0))):=heap_alloc_last wb _;have HO0:Hid (Only [] w wb):=o0;have HWS:Hid (∀ W l t2,BuW wb W wb.heap.size l→l.length+t2.size≤140737488355328→Calls Tryz.prog 69 #[.pointer (some ⟨wb.heap.size,0,none⟩),.string t2] W fun e w'=>e = .returned (.tuple #[.int .i64 t2.size,.nilIface])∧BuW wb w' wb.heap.size (l++t2.data.toList)):=fun W l t2 hB hl=>(bwrite_any wb W wb.heap.size l t2 hB hl).mono fun e w' q=>⟨q.1,q.2.1⟩;unfold textOf;obtain ⟨F,hF⟩:∃ F,h.first sec.length=F:=⟨_,rfl⟩;rw [hF] at HF r1 r3 ⊢;obtain ⟨TT,hTT⟩:∃ TT,concatS ((sec.drop F).take h.used)=TT:=⟨_,rfl⟩;have HTT:Hid (concatS ((sec.drop F).take h.used)=TT):=hTT
 have hTl:TT.length≤1000000:=by rw [← hTT,concatS_len,List.length_take,List.length_drop];omega
 have HRB:Hid (∀ W,Only [] w W→Calls Tryz.prog 70 #[.string (bs TT)] W fun e w'=>∃ v b,e = .returned (.tuple #[v,.bool b])∧BlksR w w' TT (.returned (.tuple #[v,.bool b]))):=fun W ho=>(readBlocks_ok W TT hTl).mono fun e w' q=>by
   obtain ⟨v,b,he,hr⟩:=q.opened;exact ⟨v,b,he,hr.from ho⟩
 rw [hTT];clear hd o0 hf hF hTT hTl
 by_cases hu0:h.used=0
 · have HTN:Hid (TT=[]):=by rw [← HTT.out,hu0];rfl
   obtain ⟨q0,q1,q2,q4,q5⟩:=cells3 (HK.out (wb.alloc (.cells #[.pointer none,.slice none 0 0] 186)) ((Only.refl [] wb).alloc _));rw [hu0] at q2;have HSN:Hid (Calls Tryz.prog 71 #[.pointer (some ⟨wb.heap.size,0,none⟩)] (wb.alloc (.cells #[.pointer none,.slice none 0 0] 186)) fun e w'=>e = .returned (.string ⟨#[]⟩)∧Only [] w w'):=(bstring_nil _ _ _ HN0.out).mono fun e w' q=>⟨q.1,(HO0.out.alloc _).trans q.2 (fun _ h=>by cases h)⟩;clear HWS HF HB0 HN0 HD hu0
   go_enter Tryz.func38,Tryz.ntmps38
   go_upto_region 2 with (fail)
   clear hwb;generalize wb.alloc (.cells #[.pointer none,.slice none 0 0] 186)=W0 at q0 q1 q2 q4 q5 HSN ⊢
   go_wp2
   refine wp_loop_rounds 1 ?_;rw [rounds_succ]
   go_wp2_with (first
    | (go_at_call 71;refine HSN.out.mono ?_;rintro e w1 ⟨rfl,h1⟩;have HO1:Hid (Only [] w w1):=h1;clear h1)
    | (go_at_call 70;refine ((show Calls Tryz.prog 70 #[.string ⟨#[]⟩] w1 _ from (by have:=HRB.out w1 HO1.out;rw [HTN.out] at this;exact this))).mono ?_;rintro e w2 ⟨v,b,rfl,h2⟩;have HR:Hid (BlksR w w2 [] (.returned (.tuple #[v,.bool b]))):=h2;clear h2))
   go_ret2
   rw [HTN.out];exact HR.out
 · have HU0:Hid (h.used≠0):=hu0
   clear HN0 hu0
   go_enter Tryz.func38,Tryz.ntmps38
   go_upto_region 2 with (fail)
   clear hwb;generalize wb.alloc (.cells #[.pointer none,.slice none 0 0] 186)=W0 at HB0 ⊢;obtain ⟨b,hb⟩:∃ b,wb.heap.size=b:=⟨_,rfl⟩;rw [hb] at HB0 HWS ⊢;clear hb;obtain ⟨q0,q1,q2,q4,q5⟩:=cells3 (HK.out W0 HB0.out.only)
   go_upto_region 3 with (fail)
   clear q0 q1 q2 q4 q5
   go_loopw [12] (fun i wr=>∃ j:Nat,i = .int .i64 (j:Nat)∧j≤h.used∧BuW wb wr b (concatS ((sec.drop F).take j))) (fun i _=>h.used - (intOf i).toNat)
   case atStart=>exact ⟨0,rfl,Nat.zero_le _,HB0.out⟩
   case round =>
    clear HB0;obtain ⟨j,rfl,hj,hB⟩:=hrel
    by_cases hlt:j < h.used
    · have hl:decide ((j:Int) < (h.used:Int))=true:=decide_eq_true (by omega)
      obtain ⟨s,hs⟩:∃ s,sec[F+j]?=some s:=⟨sec[F+j]'(by omega),List.getElem?_eq_getElem _⟩
      have HNX:Hid (concatS ((sec.drop F).take (j+1))=concatS ((sec.drop F).take j)++s.1):=by
        have:(sec.drop F)[j]?=some s:=by rw [List.getElem?_drop];exact hs
        show concatS _=_;rw [take_snoc this,concatS_app];simp [concatS]
      have HF1:Hid (Calls Tryz.prog 68 #[hdV h,.pointer (some ⟨t,0,none⟩)] wr fun e w'=>e = .returned (.int .i64 (F:Nat))∧BuW wb w' b (concatS ((sec.drop F).take j))):=(HF.out wr hB.only).mono fun e w' q=>⟨q.1,hB.other q.2⟩;have HRD:Hid (∀ W,Only [] wb W→Calls Tryz.prog 67 #[.pointer (some ⟨t,0,none⟩),.int .i64 (F+j:Nat)] W fun e w'=>e = .returned (.tuple #[.string (bs s.1),.nilIface])∧w'=W):=fun W ho=>read_ok (HD.out W ho) (F+j) s hs
      have hsz:(bs s.1).size=64:=by rw [bs_size,s.2]
      have HSD:Hid ((bs s.1).data.toList=s.1):=bs_data s.1
      have HLN:Hid ((concatS ((sec.drop F).take j)).length+(bs s.1).size≤140737488355328):=by
        show _≤_;rw [concatS_len,List.length_take,List.length_drop,hsz];omega
      obtain ⟨q0,q1,q2,q4,q5⟩:=cells3 (HK.out wr hB.only);generalize bs s.1=x at HRD hsz HSD HLN
      have e1:((F+j:Nat):Int)=(F:Int)+(j:Int):=by omega
      rw [e1] at HRD;clear hB hs e1
      go_wp2_with (first
        | (go_at_call 68;refine HF1.out.mono ?_;rintro e w1 ⟨rfl,h1⟩;have HB1:Hid (BuW wb w1 b (concatS ((sec.drop F).take j))):=h1;clear h1)
        | (go_at_call 67;refine (HRD.out _ HB1.out.only).mono ?_;rintro e w2 ⟨rfl,h0⟩;have h1:=h0.symm;subst h1;clear h0)
        | (go_at_call 69;refine (HWS.out _ _ x HB1.out HLN.out).mono ?_;rintro e w5 ⟨rfl,h2⟩;have HB5:Hid (BuW wb w5 b (concatS ((sec.drop F).take j)++x.data.toList)):=h2;clear h2))
      go_roundw
      case rel =>
        refine ⟨j+1,by go_num,by omega,?_⟩;rw [HNX.out,← HSD.out];exact HB5.out
      case measure=>simp [intOf];omega
    · have hl:decide ((j:Int) < (h.used:Int))=false:=decide_eq_false (by omega)
      obtain rfl:j=h.used:=by omega
      have HST:Hid (Calls Tryz.prog 71 #[.pointer (some ⟨b,0,none⟩)] wr fun e w'=>e = .returned (.string (bs TT))∧Only [] w w'):=by
        have:=bstring_any wb wr b _ hB (by
         intro e;have:=congrArg List.length e;rw [concatS_len,List.length_take,List.length_drop] at this;have h0:=HU0.out;simp at this
         omega)
        rw [HTT.out] at this;exact this.mono fun e w' q=>⟨q.1,HO0.out.trans q.2 (fun _ h=>by cases h)⟩
      clear hB
      go_wp2_with (first
        | (go_at_call 71;refine HST.out.mono ?_;rintro e w1 ⟨rfl,h1⟩;have HO1:Hid (Only [] w w1):=h1;clear h1)
        | (go_at_call 70;refine (HRB.out w1 HO1.out).mono ?_;rintro e w2 ⟨v,b,rfl,h2⟩;have HR:Hid (BlksR w w2 TT (.returned (.tuple #[v,.bool b]))):=h2;clear h2))
      go_ret2
      exact HR.out
end
theorem stepD_len (x:Ac)(s:DSt):(stepD x s).2.sec.length=s.sec.length:=by
 unfold stepD
 split
 · split
   · split
     · rfl
     · split
       · rfl
       · simp
   · rfl
 · split
   · split<;>rfl
   · split
     · split<;>rfl
     · split
       · simp [redo_len,undo_len]
       · rfl
theorem stepD_wt (x:Ac)(s:DSt):(stepD x s).2.wt.length≤s.wt.length+1:=by
 unfold stepD
 split
 · split
   · split
     · simp
     · split
       · simp
       · simp
   · simp
 · split
   · split<;>simp
   · split
     · split<;>simp
     · split<;>simp
theorem stepD_pw (x:Ac)(s:DSt)(hx:x.N < 9223372036854775808)(h:∀ k,s.pw=some k→k < 9223372036854775808):∀ k,(stepD x s).2.pw=some k→k < 9223372036854775808:=by
 have hm:∀ k,s.pw.map (· - 1)=some k→k < 9223372036854775808:=fun k hk=>by
   obtain ⟨j,hj,rfl⟩:=Option.map_eq_some_iff.1 hk;have:=h j hj;omega
 unfold stepD
 split
 · split
   · split
     · exact h
     · split
       · exact h
       · exact hm
   · exact h
 · split
   · split
     · exact h
     · exact hm
   · split
     · split
       · exact h
       · intro k hk
         have:x.N.toNat=k:=by simpa using hk
         omega
     · split
       · intro k hk
         cases hk
       · exact h
section
variable {w:World}{base t:Nat}{pw:Option Nat}{vs vw:Value}{sec:List Sec}{wt:List Wr}
theorem DkAt.foot_ge (h:DkAt w base t pw vs vw sec wt):∀ k∈dkFoot t vs vw,base≤k:=fun k hk=>by
 rcases mem_foot.1 hk with rfl | hk | hk
 · exact h.tb
 · exact (own_blkD h.secs hk).1
 · exact (own_blkD h.wts hk).1
end
theorem one_crash (S:List Sec){a:Nat}{x0 p:Sec}(h:S[a]?=some x0)(keep:Bool):redo (keepB [keep]) [⟨a,x0,p⟩] (undo (S.set a p) [⟨a,x0,p⟩]) 1=if keep then S.set a p else S:=by
 obtain ⟨ha,rfl⟩:=List.getElem?_eq_some_iff.1 h
 have e:undo (S.set a p) [⟨a,S[a],p⟩]=S:=by simp [undo]
 rw [e]
 cases keep<;>simp [redo,keepB]
def Err5 (W:World)(A:Nat→Addr):Prop:=∀ k,k∈[0,1,2,8,14]→W.cell? ⟨gOf k,0,none⟩=some (.iface 535 (.pointer (some (A k))))
theorem Err5.below {W w:World}{A:Nat→Addr}(h:Err5 W A){B:Nat}(hb:Below B W w)(hB:W.heap.size≤B):Err5 w A:=fun k hk=>(hb.cell (p:=⟨gOf k,0,none⟩) (Nat.lt_of_lt_of_le (lt_of_cell (h k hk)) hB)).trans (h k hk)
theorem Err5.three {W:World}{A:Nat→Addr}(h:Err5 W A):Err3 W A:=fun k hk=>h k (by simp at hk ⊢;omega)
theorem Errs.five {W:World}{A:Nat→Addr}(h:Errs W A):Err5 W A:=fun k hk=>h.cell k (by simp at hk;omega)
structure Oth (w w':World):Prop where
 os:w'.os=w.os
 tape:w'.tape=w.tape
 output:w'.output=w.output
 size:w.heap.size≤w'.heap.size
 block:∀ (k:Nat) (cs:Array Value) (ty:TypeId) (fr:Nat×Nat),w.heap[k]?=some (.cells cs ty fr)→ty≠61→ty≠106→ty≠108→w'.heap[k]?=some (.cells cs ty fr)
 maps:∀ (k:Nat) (o:Obj),w.heap[k]?=some o→(∀ cs ty fr,o ≠ .cells cs ty fr)→w'.heap[k]?=some o
theorem Oth.trans {a b c:World}(h:Oth a b)(k:Oth b c):Oth a c:=⟨k.os.trans h.os,k.tape.trans h.tape,k.output.trans h.output,Nat.le_trans h.size k.size,fun j cs ty fr hc h1 h2 h3=>k.block j cs ty fr (h.block j cs ty fr hc h1 h2 h3) h1 h2 h3,fun j o hc hn=>k.maps j o (h.maps j o hc hn) hn⟩
theorem Oth.of_only {a b:World}(h:Only [] a b):Oth a b:=⟨h.os,h.tape,h.output,h.size,fun k cs ty fr hc _ _ _=>(h.block k (Array.getElem?_eq_some_iff.1 hc).1 (by simp)).trans hc,fun k o hc _=>(h.block k (Array.getElem?_eq_some_iff.1 hc).1 (by simp)).trans hc⟩
theorem Oth.of_foot {w w':World}{base t:Nat}{pw:Option Nat}{vs vw:Value}{sec:List Sec}{wt:List Wr}(h:DkAt w base t pw vs vw sec wt)(ho:Only (dkFoot t vs vw) w w'):Oth w w':=⟨ho.os,ho.tape,ho.output,ho.size,fun k cs ty fr hc h1 h2 h3=>by
 rw [ho.block k (Array.getElem?_eq_some_iff.1 hc).1 (fun hm=>?_)]
 · exact hc
 · rcases mem_foot.1 hm with e | e | e
   · rw [e,h.blk] at hc
     simp only [Option.some.injEq,Obj.cells.injEq] at hc;exact h1 hc.2.1.symm
   · obtain ⟨_,_,cur,hq⟩:=own_blkD h.secs e
     rw [hq] at hc;simp only [Option.some.injEq,Obj.cells.injEq] at hc;exact h2 hc.2.1.symm
   · obtain ⟨_,_,cur,hq⟩:=own_blkD h.wts e
     rw [hq] at hc;simp only [Option.some.injEq,Obj.cells.injEq] at hc
     exact h3 hc.2.1.symm,fun k o hc hn=>by
 rw [ho.block k (Array.getElem?_eq_some_iff.1 hc).1 (fun hm=>?_)]
 · exact hc
 · rcases mem_foot.1 hm with e | e | e
   · rw [e,h.blk] at hc
     exact hn _ _ _ (Option.some.inj hc).symm
   · obtain ⟨_,_,cur,hq⟩:=own_blkD h.secs e
     rw [hq] at hc;exact hn _ _ _ (Option.some.inj hc).symm
   · obtain ⟨_,_,cur,hq⟩:=own_blkD h.wts e
     rw [hq] at hc
     exact hn _ _ _ (Option.some.inj hc).symm⟩
theorem Oth.kept3 {W W':World}{b:Nat}{c0 c1 c2:Value}(hb:W.heap[b]?=some (.cells #[c0,c1,c2] 131 (0,0)))(ho:Oth W W'):
 W'.heap[b]?=some (.cells #[c0,c1,c2] 131 (0,0)):=ho.block b _ _ _ hb (by decide) (by decide) (by decide)
structure Dv where
 W0:World
 A:Nat→Addr
 base:Nat
 t:Nat
 vs:Value
structure Ds (g:Dv)(w:World)(s:DSt):Prop where
 dk:∃ vw,DkAt w g.base g.t s.pw g.vs vw s.sec s.wt
 er:Err5 g.W0 g.A
 bel:Below g.W0.heap.size g.W0 w
 ge:g.W0.heap.size≤g.base
 bs:g.base≤w.heap.size
 pl:∀ k,s.pw=some k→k < 9223372036854775808
section
variable {g:Dv}{w w':World}{s s':DSt}
theorem Ds.err (h:Ds g w s):Err5 w g.A:=h.er.below h.bel (Nat.le_refl _)
theorem Ds.keep (h:Ds g w s)(ho:Only [] w w'):Ds g w' s:=by
 obtain ⟨vw,hd⟩:=h.dk;exact ⟨⟨vw,hd.keep ho⟩,h.er,h.bel.trans (ho.to_below h.bel.size (fun _ h=>by cases h)),h.ge,Nat.le_trans h.bs ho.size,h.pl⟩
theorem Ds.most (h:Ds g w s):1≤s.sec.length∧s.sec.length≤4000:=by
 obtain ⟨vw,hd⟩:=h.dk;exact ⟨hd.pos,hd.most⟩
theorem Ds.step (h:Ds g w s){vw vw':Value}(hd:DkAt w g.base g.t s.pw g.vs vw s.sec s.wt)(hd':DkAt w' g.base g.t s'.pw g.vs vw' s'.sec s'.wt)(ho:Only (dkFoot g.t g.vs vw) w w')(hp:∀ k,s'.pw=some k→k < 9223372036854775808):Ds g w' s' :=
 ⟨⟨vw',hd'⟩,h.er,h.bel.trans (ho.to_below h.bel.size (fun k hk=>Nat.le_trans h.ge (hd.foot_ge k hk))),h.ge,Nat.le_trans h.bs ho.size,hp⟩
theorem pred_lt {pw:Option Nat}(h:∀ k,pw=some k→k < 9223372036854775808):∀ k,pw.map (· - 1)=some k→k < 9223372036854775808:=fun k e=>by
 cases pw with
 | none=>cases e
 | some j=>have:=h j rfl;simp at e;omega
theorem Ds.sectors (h:Ds g w s):Calls Tryz.prog 92 #[.pointer (some ⟨g.t,0,none⟩)] w fun e w'=>e = .returned (.int .i64 (s.sec.length:Nat))∧w'=w:=by
 obtain ⟨vw,hd⟩:=h.dk;exact sectors_ok hd
theorem Ds.settle (h:Ds g w s)(hw:s.wt=[]):Calls Tryz.prog 39 #[.pointer (some ⟨g.t,0,none⟩)] w fun e w'=>e = .returned .nilIface∧w'=w:=by
 obtain ⟨vw,hd⟩:=h.dk;rw [hw] at hd;exact settle_ok hd
theorem Ds.newest (h:Ds g w s):Calls Tryz.prog 37 #[.pointer (some ⟨g.t,0,none⟩)] w fun e w'=>e = .returned (.tuple #[hdV ((newestL s.sec).getD Hd.zero),.bool (newestL s.sec).isSome])∧Only [] w w':=by
 obtain ⟨vw,hd⟩:=h.dk;exact newest_ok g.A h.err.three hd
theorem Ds.write_dark (h:Ds g w s)(n:Nat)(x:ByteArray)(hn:n < s.sec.length)(hx:x.size≤64)(hp:s.pw=some 0):
   Calls Tryz.prog 30 #[.pointer (some ⟨g.t,0,none⟩),.int .i64 (n:Nat),.string x] w fun e w'=>e = .returned (.iface 535 (.pointer (some (g.A 14))))∧w'=w:=by
 obtain ⟨vw,hd⟩:=h.dk;refine (write_power g.A h.err.three hd n x ⟨by omega,by omega⟩ hx hp).mono fun e w' q=>?_;rcases q with ⟨a,_⟩ | ⟨_,a,_⟩ | ⟨_,_,_,a,b⟩ | ⟨_,_,a,_⟩
 · omega
 · omega
 · exact ⟨a,b⟩
 · exact absurd hp a
theorem Ds.write_lit (h:Ds g w s)(n:Nat)(x:ByteArray)(x0:Sec)(hn:s.sec[n]?=some x0)(hx:x.size≤64)(hp:s.pw≠some 0)(hw:s.wt.length≤100000):
  Calls Tryz.prog 30 #[.pointer (some ⟨g.t,0,none⟩),.int .i64 (n:Nat),.string x] w fun e w'=>e = .returned .nilIface∧Ds g w' ⟨s.pw.map (· - 1),s.sec.set n (padB x),s.wt++[⟨n,x0,padB x⟩]⟩∧Oth w w':=by
 obtain ⟨vw,hd⟩:=h.dk;refine (write_ok g.A h.err.three hd n x x0 hn hx hp h.pl hw h.bs).mono fun e w' q=>?_;obtain ⟨he,vw',h1,h2,_⟩:=q;exact ⟨he,h.step (s':=⟨s.pw.map (· - 1),s.sec.set n (padB x),s.wt++[⟨n,x0,padB x⟩]⟩) hd h1 h2 (pred_lt h.pl),Oth.of_foot hd h2⟩
theorem Ds.flush_dark (h:Ds g w s)(hp:s.pw=some 0):
   Calls Tryz.prog 31 #[.pointer (some ⟨g.t,0,none⟩)] w fun e w'=>e = .returned (.iface 535 (.pointer (some (g.A 14))))∧w'=w:=by
 obtain ⟨vw,hd⟩:=h.dk;refine (flush_any g.A h.err.three hd h.pl).mono fun e w' q=>?_;rcases q with ⟨_,a,b⟩ | ⟨a,_⟩
 · exact ⟨a,b⟩
 · exact absurd hp a
theorem Ds.flush_lit (h:Ds g w s)(hp:s.pw≠some 0):
   Calls Tryz.prog 31 #[.pointer (some ⟨g.t,0,none⟩)] w fun e w'=>e = .returned .nilIface∧Ds g w' ⟨s.pw.map (· - 1),s.sec,[]⟩∧Oth w w':=by
 obtain ⟨vw,hd⟩:=h.dk;refine (flush_any g.A h.err.three hd h.pl).mono fun e w' q=>?_;rcases q with ⟨a,_⟩ | ⟨_,he,h1,h2⟩
 · exact absurd a hp
 · have h3:Only (dkFoot g.t g.vs vw) w w':=h2.mono (fun k hk=>Or.inl (mem_foot.2 (Or.inl (by simpa using hk))))
   exact ⟨he,h.step (s':=⟨s.pw.map (· - 1),s.sec,[]⟩) hd h1 h3 (pred_lt h.pl),Oth.of_foot hd h3⟩
end
def hdT (h:Hd):List UInt8:=markL++(wd h.calls++(wd h.half++wd h.used))
theorem hdT_len (h:Hd):(hdT h).length=28:=by simp [hdT,markL,wd_len]
theorem hdT_is (h:Hd):(((⟨#[112,105,103,101,111,110,104,111,108,101,115,32,108,111,103,10]⟩:ByteArray)++bs (wd h.calls))++bs (wd h.half))++bs (wd h.used)=bs (hdT h):=by
 apply data_inj;simp [hdT,markL,bs]
def SaveP (s:DSt)(n:Nat)(p:Sec)(c:Nat)(s':DSt):Prop :=
 (c=15∧s.pw≠none∧s'=s)∨(c=15∧s.pw≠none∧∃ x0,s.sec[n]?=some x0∧s'.sec=s.sec.set n p∧s'.wt=s.wt++[⟨n,x0,p⟩])∨(c=0∧s'.sec=s.sec.set n p∧s'.wt=[]∧(s.pw=none→s'.pw=none))
def SaveR (g:Dv)(w w':World)(s:DSt)(n:Nat)(p:Sec)(e:Ending):Prop:=∃ c s',e = .returned (errN g.A c)∧SaveP s n p c s'∧Ds g w' s'∧Oth w w'
section
variable {g:Dv}{w:World}{s:DSt}
theorem save_dark (hd:Ds g w s)(h:Hd)(hk:h.Ok)(hN:2≤s.sec.length)(hp:s.pw=some 0):
  Calls Tryz.prog 94 #[hdV h,.pointer (some ⟨g.t,0,none⟩)] w fun e w'=>SaveR g w w' s (h.calls % 2) (padB (bs (hdT h))) e:=by
 have hc1:=hk.calls;obtain ⟨wb,hwb⟩:∃ wb,w.alloc (hdO h)=wb:=⟨_,rfl⟩
 have o0:Only [] w wb:=by rw [← hwb];exact (Only.refl [] w).alloc _
 have e0:wb.heap[w.heap.size]?=some (.cells #[.int .u32 (h.calls:Nat),.int .i64 (h.half:Nat),.int .i64 (h.used:Nat)] 131 (0,0)):=by rw [← hwb];exact heap_alloc_last w _
 haveI:Nonempty (OnlyBy wb):=⟨⟨_,Only.refl _ _⟩⟩
 have y0:∀ p:OnlyBy wb,p.w.cell? ⟨w.heap.size,0,none⟩=some (.int .u32 (h.calls:Nat)):=fun p=>(cells3 (kept3 e0 p.ho)).1;have y1:∀ p:OnlyBy wb,p.w.cell? ⟨w.heap.size,1,none⟩=some (.int .i64 (h.half:Nat)):=fun p=>(cells3 (kept3 e0 p.ho)).2.1;have y2:∀ p:OnlyBy wb,p.w.cell? ⟨w.heap.size,2,none⟩=some (.int .i64 (h.used:Nat)):=fun p=>(cells3 (kept3 e0 p.ho)).2.2.1;have HSL:Hid (∀ p:OnlyBy wb,Calls Tryz.prog 96 #[hdV h] p.w fun e w'=>e = .returned (.int .i64 (h.calls % 2:Nat))∧Only [] p.w w'):=fun p=>slot_ok p.w h hk;have HWD:Hid (∀ (p:OnlyBy wb) (n:Nat),Calls Tryz.prog 145 #[.int .i64 (n:Nat)] p.w fun e w'=>e = .returned (.string (bs (wd n)))∧Only [] p.w w'):=fun p n=>word_ok p.w n
 have hwl:∀ n,(bs (wd n)).size=4:=fun n=>by rw [bs_size,wd_len]
 have a1:∀ W:World,(Op.stringOp .add (⟨#[112,105,103,101,111,110,104,111,108,101,115,32,108,111,103,10]⟩:ByteArray) (bs (wd h.calls))).run Tryz.prog W = .ok (.string ((⟨#[112,105,103,101,111,110,104,111,108,101,115,32,108,111,103,10]⟩:ByteArray)++bs (wd h.calls))) W:=fun W=>run_string_add W _ _ (by decide) (by rw [hwl];decide);obtain ⟨X1,hX1⟩:∃ X1,(⟨#[112,105,103,101,111,110,104,111,108,101,115,32,108,111,103,10]⟩:ByteArray)++bs (wd h.calls)=X1:=⟨_,rfl⟩
 have l1:X1.size=20:=by rw [← hX1,ByteArray.size_append,hwl];rfl
 have a2:∀ W:World,(Op.stringOp .add X1 (bs (wd h.half))).run Tryz.prog W = .ok (.string (X1++bs (wd h.half))) W:=fun W=>run_string_add W _ _ (by omega) (by rw [hwl];decide);obtain ⟨X2,hX2⟩:∃ X2,X1++bs (wd h.half)=X2:=⟨_,rfl⟩
 have l2:X2.size=24:=by rw [← hX2,ByteArray.size_append,hwl,l1]
 have a3:∀ W:World,(Op.stringOp .add X2 (bs (wd h.used))).run Tryz.prog W = .ok (.string (X2++bs (wd h.used))) W:=fun W=>run_string_add W _ _ (by omega) (by rw [hwl];decide)
 have hX3:X2++bs (wd h.used)=bs (hdT h):=by rw [← hX2,← hX1];exact hdT_is h
 rw [hX1] at a1;rw [hX2] at a2;rw [hX3] at a3
 have hsz:(bs (hdT h)).size≤64:=by rw [bs_size,hdT_len];decide
 have HWR:Hid (∀ p:OnlyBy wb,Calls Tryz.prog 30 #[.pointer (some ⟨g.t,0,none⟩),.int .i64 (h.calls % 2:Nat),.string (bs (hdT h))] p.w fun e w'=>e = .returned (.iface 535 (.pointer (some (g.A 14))))∧w'=p.w):=fun p=>((hd.keep o0).keep p.ho).write_dark _ _ (by omega) hsz hp;have HF:Hid (∀ p:OnlyBy wb,SaveR g w p.w s (h.calls % 2) (padB (bs (hdT h))) (.returned (.iface 535 (.pointer (some (g.A 14)))))):=fun p=>⟨15,s,rfl,Or.inl ⟨rfl,by rw [hp];simp,rfl⟩,(hd.keep o0).keep p.ho,(Oth.of_only o0).trans (Oth.of_only p.ho)⟩
 have hw64:IntKind.i64.wrap ((h.calls:Nat):Int)=((h.calls:Nat):Int):=by rw [IntKind.wrap_i64];omega
 generalize bs (hdT h)=X4 at a3 HWR HF ⊢;generalize h.calls % 2=n2 at HSL HWR HF ⊢;clear hd hk hN hwl hsz hX1 hX2 hX3 o0 e0 l1 l2 hp
 go_enter Tryz.func94,Tryz.ntmps94
 go_upto_region 1 with (fail)
 clear hwb;refine wp_region_any (by kernel_rfl) ?_
 change wpAny _ _ _ _ _ _ _ (World.drew _)
 refine wpAny_pre2 (w0:=wb) (k0:=0) 16 2 _ rfl (by decide) (by kernel_rfl) (by kernel_rfl) (by kernel_rfl) (by kernel_rfl) (Only.refl [] _).drew ?_;simp only [List.drop_zero,List.take_succ_cons,List.take_zero]
 repeat (first | go_big_quiet_skip | quiet_step ((first
  | (go_at_call 96;refine Calls.only_of (HSL.out _))
  | (go_at_call 145;refine Calls.only_of (HWD.out _ _)))))
 refine wpQuiet_nil ?_;intro _ hw';obtain ⟨p,hw2⟩:=hw';subst hw2;refine wpAny_ready (rs:=[16]) (by kernel_rfl) (by simp) ?_;refine AllReady.cons rfl (fun K hK=>?_) AllReady.nil
 go_simp
 refine (HWR.out p).mono ?_;rintro e w1 ⟨rfl,h0⟩;have h1:=h0.symm;subst h1;clear h0;refine hK _ _ ?_;clear hK K;refine wpAny_ready (rs:=[17]) (by kernel_rfl) (by simp) ?_;refine AllReady.cons rfl (fun K hK=>?_) AllReady.nil
 go_simp
 refine hK _ _ ?_;clear hK K;refine wpAny_done (by kernel_rfl) ?_ _
 go_wp2
 go_ret
 exact HF.out p
theorem save_one (hd:Ds g w s)(h:Hd)(hk:h.Ok)(hN:2≤s.sec.length)(hp:s.pw≠some 0)(hp1:s.pw.map (· - 1)=some 0)(hwl0:s.wt.length≤100000):
  Calls Tryz.prog 94 #[hdV h,.pointer (some ⟨g.t,0,none⟩)] w fun e w'=>SaveR g w w' s (h.calls % 2) (padB (bs (hdT h))) e:=by
 have hc1:=hk.calls;obtain ⟨wb,hwb⟩:∃ wb,w.alloc (hdO h)=wb:=⟨_,rfl⟩
 have o0:Only [] w wb:=by rw [← hwb];exact (Only.refl [] w).alloc _
 have e0:wb.heap[w.heap.size]?=some (.cells #[.int .u32 (h.calls:Nat),.int .i64 (h.half:Nat),.int .i64 (h.used:Nat)] 131 (0,0)):=by rw [← hwb];exact heap_alloc_last w _
 haveI:Nonempty (OnlyBy wb):=⟨⟨_,Only.refl _ _⟩⟩
 have y0:∀ p:OnlyBy wb,p.w.cell? ⟨w.heap.size,0,none⟩=some (.int .u32 (h.calls:Nat)):=fun p=>(cells3 (kept3 e0 p.ho)).1;have y1:∀ p:OnlyBy wb,p.w.cell? ⟨w.heap.size,1,none⟩=some (.int .i64 (h.half:Nat)):=fun p=>(cells3 (kept3 e0 p.ho)).2.1;have y2:∀ p:OnlyBy wb,p.w.cell? ⟨w.heap.size,2,none⟩=some (.int .i64 (h.used:Nat)):=fun p=>(cells3 (kept3 e0 p.ho)).2.2.1;have HSL:Hid (∀ p:OnlyBy wb,Calls Tryz.prog 96 #[hdV h] p.w fun e w'=>e = .returned (.int .i64 (h.calls % 2:Nat))∧Only [] p.w w'):=fun p=>slot_ok p.w h hk;have HWD:Hid (∀ (p:OnlyBy wb) (n:Nat),Calls Tryz.prog 145 #[.int .i64 (n:Nat)] p.w fun e w'=>e = .returned (.string (bs (wd n)))∧Only [] p.w w'):=fun p n=>word_ok p.w n
 have hwl:∀ n,(bs (wd n)).size=4:=fun n=>by rw [bs_size,wd_len]
 have a1:∀ W:World,(Op.stringOp .add (⟨#[112,105,103,101,111,110,104,111,108,101,115,32,108,111,103,10]⟩:ByteArray) (bs (wd h.calls))).run Tryz.prog W = .ok (.string ((⟨#[112,105,103,101,111,110,104,111,108,101,115,32,108,111,103,10]⟩:ByteArray)++bs (wd h.calls))) W:=fun W=>run_string_add W _ _ (by decide) (by rw [hwl];decide);obtain ⟨X1,hX1⟩:∃ X1,(⟨#[112,105,103,101,111,110,104,111,108,101,115,32,108,111,103,10]⟩:ByteArray)++bs (wd h.calls)=X1:=⟨_,rfl⟩
 have l1:X1.size=20:=by rw [← hX1,ByteArray.size_append,hwl];rfl
 have a2:∀ W:World,(Op.stringOp .add X1 (bs (wd h.half))).run Tryz.prog W = .ok (.string (X1++bs (wd h.half))) W:=fun W=>run_string_add W _ _ (by omega) (by rw [hwl];decide);obtain ⟨X2,hX2⟩:∃ X2,X1++bs (wd h.half)=X2:=⟨_,rfl⟩
 have l2:X2.size=24:=by rw [← hX2,ByteArray.size_append,hwl,l1]
 have a3:∀ W:World,(Op.stringOp .add X2 (bs (wd h.used))).run Tryz.prog W = .ok (.string (X2++bs (wd h.used))) W:=fun W=>run_string_add W _ _ (by omega) (by rw [hwl];decide)
 have hX3:X2++bs (wd h.used)=bs (hdT h):=by rw [← hX2,← hX1];exact hdT_is h
 rw [hX1] at a1;rw [hX2] at a2;rw [hX3] at a3
 have hsz:(bs (hdT h)).size≤64:=by rw [bs_size,hdT_len];decide
 obtain ⟨x0,hx0⟩:∃ x0,s.sec[h.calls % 2]?=some x0:=⟨s.sec[h.calls % 2]'(by omega),List.getElem?_eq_getElem _⟩;have HWR:Hid (∀ p:OnlyBy wb,Calls Tryz.prog 30 #[.pointer (some ⟨g.t,0,none⟩),.int .i64 (h.calls % 2:Nat),.string (bs (hdT h))] p.w fun e w'=>e = .returned .nilIface∧Ds g w' ⟨s.pw.map (· - 1),s.sec.set (h.calls % 2) (padB (bs (hdT h))),s.wt++[⟨h.calls % 2,x0,padB (bs (hdT h))⟩]⟩∧Oth w w'):=fun p=>(((hd.keep o0).keep p.ho).write_lit _ _ x0 hx0 hsz hp hwl0).mono fun e w' q=>⟨q.1,q.2.1,((Oth.of_only o0).trans (Oth.of_only p.ho)).trans q.2.2⟩;have HFL:Hid (∀ w1,Ds g w1 ⟨s.pw.map (· - 1),s.sec.set (h.calls % 2) (padB (bs (hdT h))),s.wt++[⟨h.calls % 2,x0,padB (bs (hdT h))⟩]⟩→Calls Tryz.prog 31 #[.pointer (some ⟨g.t,0,none⟩)] w1 fun e w'=>e = .returned (.iface 535 (.pointer (some (g.A 14))))∧w'=w1):=fun w1 h1=>h1.flush_dark hp1;have HF:Hid (∀ w1,Ds g w1 ⟨s.pw.map (· - 1),s.sec.set (h.calls % 2) (padB (bs (hdT h))),s.wt++[⟨h.calls % 2,x0,padB (bs (hdT h))⟩]⟩→Oth w w1→SaveR g w w1 s (h.calls % 2) (padB (bs (hdT h))) (.returned (.iface 535 (.pointer (some (g.A 14)))))):=fun w1 h1 h2=>⟨15,⟨s.pw.map (· - 1),s.sec.set (h.calls % 2) (padB (bs (hdT h))),s.wt++[⟨h.calls % 2,x0,padB (bs (hdT h))⟩]⟩,rfl,Or.inr (Or.inl ⟨rfl,(fun e=>(by rw [e] at hp1;cases hp1)),x0,hx0,rfl,rfl⟩),h1,h2⟩
 have hw64:IntKind.i64.wrap ((h.calls:Nat):Int)=((h.calls:Nat):Int):=by rw [IntKind.wrap_i64];omega
 generalize bs (hdT h)=X4 at a3 HWR HFL HF ⊢;generalize h.calls % 2=n2 at HSL HWR HFL HF ⊢;clear hd hk hN hwl hsz hX1 hX2 hX3 o0 e0 l1 l2 hp hp1 hwl0 hx0
 go_enter Tryz.func94,Tryz.ntmps94
 go_upto_region 1 with (fail)
 clear hwb;refine wp_region_any (by kernel_rfl) ?_
 change wpAny _ _ _ _ _ _ _ (World.drew _)
 refine wpAny_pre2 (w0:=wb) (k0:=0) 16 2 _ rfl (by decide) (by kernel_rfl) (by kernel_rfl) (by kernel_rfl) (by kernel_rfl) (Only.refl [] _).drew ?_;simp only [List.drop_zero,List.take_succ_cons,List.take_zero]
 repeat (first | go_big_quiet_skip | quiet_step ((first
  | (go_at_call 96;refine Calls.only_of (HSL.out _))
  | (go_at_call 145;refine Calls.only_of (HWD.out _ _)))))
 refine wpQuiet_nil ?_;intro _ hw';obtain ⟨p,hw2⟩:=hw';subst hw2;refine wpAny_ready (rs:=[16]) (by kernel_rfl) (by simp) ?_;refine AllReady.cons rfl (fun K hK=>?_) AllReady.nil
 go_simp
 refine (HWR.out p).mono ?_;rintro e w1 ⟨rfl,hr1,hr2⟩;have HW1:Hid (Ds g w1 ⟨s.pw.map (· - 1),s.sec.set (n2) (padB (X4)),s.wt++[⟨n2,x0,padB (X4)⟩]⟩∧Oth w w1):=⟨hr1,hr2⟩;clear hr1 hr2;refine hK _ _ ?_;clear hK K;refine wpAny_ready (rs:=[17]) (by kernel_rfl) (by simp) ?_;refine AllReady.cons rfl (fun K hK=>?_) AllReady.nil
 go_simp
 refine hK _ _ ?_;clear hK K;refine wpAny_done (by kernel_rfl) ?_ _
 go_wp2_with (go_at_call 31;refine (HFL.out w1 HW1.out.1).mono ?_;rintro e w2 ⟨rfl,h0⟩;have h1:=h0.symm;subst h1;clear h0)
 go_ret
 exact HF.out w1 HW1.out.1 HW1.out.2
theorem save_lit (hd:Ds g w s)(h:Hd)(hk:h.Ok)(hN:2≤s.sec.length)(hp:s.pw≠some 0)(hp1:s.pw.map (· - 1)≠some 0)(hwl0:s.wt.length≤100000):
  Calls Tryz.prog 94 #[hdV h,.pointer (some ⟨g.t,0,none⟩)] w fun e w'=>SaveR g w w' s (h.calls % 2) (padB (bs (hdT h))) e:=by
 have hc1:=hk.calls;obtain ⟨wb,hwb⟩:∃ wb,w.alloc (hdO h)=wb:=⟨_,rfl⟩
 have o0:Only [] w wb:=by rw [← hwb];exact (Only.refl [] w).alloc _
 have e0:wb.heap[w.heap.size]?=some (.cells #[.int .u32 (h.calls:Nat),.int .i64 (h.half:Nat),.int .i64 (h.used:Nat)] 131 (0,0)):=by rw [← hwb];exact heap_alloc_last w _
 haveI:Nonempty (OnlyBy wb):=⟨⟨_,Only.refl _ _⟩⟩
 have y0:∀ p:OnlyBy wb,p.w.cell? ⟨w.heap.size,0,none⟩=some (.int .u32 (h.calls:Nat)):=fun p=>(cells3 (kept3 e0 p.ho)).1;have y1:∀ p:OnlyBy wb,p.w.cell? ⟨w.heap.size,1,none⟩=some (.int .i64 (h.half:Nat)):=fun p=>(cells3 (kept3 e0 p.ho)).2.1;have y2:∀ p:OnlyBy wb,p.w.cell? ⟨w.heap.size,2,none⟩=some (.int .i64 (h.used:Nat)):=fun p=>(cells3 (kept3 e0 p.ho)).2.2.1;have HSL:Hid (∀ p:OnlyBy wb,Calls Tryz.prog 96 #[hdV h] p.w fun e w'=>e = .returned (.int .i64 (h.calls % 2:Nat))∧Only [] p.w w'):=fun p=>slot_ok p.w h hk;have HWD:Hid (∀ (p:OnlyBy wb) (n:Nat),Calls Tryz.prog 145 #[.int .i64 (n:Nat)] p.w fun e w'=>e = .returned (.string (bs (wd n)))∧Only [] p.w w'):=fun p n=>word_ok p.w n
 have hwl:∀ n,(bs (wd n)).size=4:=fun n=>by rw [bs_size,wd_len]
 have a1:∀ W:World,(Op.stringOp .add (⟨#[112,105,103,101,111,110,104,111,108,101,115,32,108,111,103,10]⟩:ByteArray) (bs (wd h.calls))).run Tryz.prog W = .ok (.string ((⟨#[112,105,103,101,111,110,104,111,108,101,115,32,108,111,103,10]⟩:ByteArray)++bs (wd h.calls))) W:=fun W=>run_string_add W _ _ (by decide) (by rw [hwl];decide);obtain ⟨X1,hX1⟩:∃ X1,(⟨#[112,105,103,101,111,110,104,111,108,101,115,32,108,111,103,10]⟩:ByteArray)++bs (wd h.calls)=X1:=⟨_,rfl⟩
 have l1:X1.size=20:=by rw [← hX1,ByteArray.size_append,hwl];rfl
 have a2:∀ W:World,(Op.stringOp .add X1 (bs (wd h.half))).run Tryz.prog W = .ok (.string (X1++bs (wd h.half))) W:=fun W=>run_string_add W _ _ (by omega) (by rw [hwl];decide);obtain ⟨X2,hX2⟩:∃ X2,X1++bs (wd h.half)=X2:=⟨_,rfl⟩
 have l2:X2.size=24:=by rw [← hX2,ByteArray.size_append,hwl,l1]
 have a3:∀ W:World,(Op.stringOp .add X2 (bs (wd h.used))).run Tryz.prog W = .ok (.string (X2++bs (wd h.used))) W:=fun W=>run_string_add W _ _ (by omega) (by rw [hwl];decide)
 have hX3:X2++bs (wd h.used)=bs (hdT h):=by rw [← hX2,← hX1];exact hdT_is h
 rw [hX1] at a1;rw [hX2] at a2;rw [hX3] at a3
 have hsz:(bs (hdT h)).size≤64:=by rw [bs_size,hdT_len];decide
 obtain ⟨x0,hx0⟩:∃ x0,s.sec[h.calls % 2]?=some x0:=⟨s.sec[h.calls % 2]'(by omega),List.getElem?_eq_getElem _⟩;have HWR:Hid (∀ p:OnlyBy wb,Calls Tryz.prog 30 #[.pointer (some ⟨g.t,0,none⟩),.int .i64 (h.calls % 2:Nat),.string (bs (hdT h))] p.w fun e w'=>e = .returned .nilIface∧Ds g w' ⟨s.pw.map (· - 1),s.sec.set (h.calls % 2) (padB (bs (hdT h))),s.wt++[⟨h.calls % 2,x0,padB (bs (hdT h))⟩]⟩∧Oth w w'):=fun p=>(((hd.keep o0).keep p.ho).write_lit _ _ x0 hx0 hsz hp hwl0).mono fun e w' q=>⟨q.1,q.2.1,((Oth.of_only o0).trans (Oth.of_only p.ho)).trans q.2.2⟩;have HFL:Hid (∀ w1,Ds g w1 ⟨s.pw.map (· - 1),s.sec.set (h.calls % 2) (padB (bs (hdT h))),s.wt++[⟨h.calls % 2,x0,padB (bs (hdT h))⟩]⟩→Oth w w1→Calls Tryz.prog 31 #[.pointer (some ⟨g.t,0,none⟩)] w1 fun e w'=>e = .returned .nilIface∧SaveR g w w' s (h.calls % 2) (padB (bs (hdT h))) (.returned .nilIface)):=fun w1 h1 h2=>(h1.flush_lit hp1).mono fun e w' q=>⟨q.1,0,_,rfl,Or.inr (Or.inr ⟨rfl,rfl,rfl,fun e=>by simp [e]⟩),q.2.1,h2.trans q.2.2⟩;have HF:Hid True:=trivial
 have hw64:IntKind.i64.wrap ((h.calls:Nat):Int)=((h.calls:Nat):Int):=by rw [IntKind.wrap_i64];omega
 generalize bs (hdT h)=X4 at a3 HWR HFL ⊢;generalize h.calls % 2=n2 at HSL HWR HFL ⊢;clear hd hk hN hwl hsz hX1 hX2 hX3 o0 e0 l1 l2 hp hp1 hwl0 hx0
 go_enter Tryz.func94,Tryz.ntmps94
 go_upto_region 1 with (fail)
 clear hwb;refine wp_region_any (by kernel_rfl) ?_
 change wpAny _ _ _ _ _ _ _ (World.drew _)
 refine wpAny_pre2 (w0:=wb) (k0:=0) 16 2 _ rfl (by decide) (by kernel_rfl) (by kernel_rfl) (by kernel_rfl) (by kernel_rfl) (Only.refl [] _).drew ?_;simp only [List.drop_zero,List.take_succ_cons,List.take_zero]
 repeat (first | go_big_quiet_skip | quiet_step ((first
  | (go_at_call 96;refine Calls.only_of (HSL.out _))
  | (go_at_call 145;refine Calls.only_of (HWD.out _ _)))))
 refine wpQuiet_nil ?_;intro _ hw';obtain ⟨p,hw2⟩:=hw';subst hw2;refine wpAny_ready (rs:=[16]) (by kernel_rfl) (by simp) ?_;refine AllReady.cons rfl (fun K hK=>?_) AllReady.nil
 go_simp
 refine (HWR.out p).mono ?_;rintro e w1 ⟨rfl,hr1,hr2⟩;have HW1:Hid (Ds g w1 ⟨s.pw.map (· - 1),s.sec.set (n2) (padB (X4)),s.wt++[⟨n2,x0,padB (X4)⟩]⟩∧Oth w w1):=⟨hr1,hr2⟩;clear hr1 hr2;refine hK _ _ ?_;clear hK K;refine wpAny_ready (rs:=[17]) (by kernel_rfl) (by simp) ?_;refine AllReady.cons rfl (fun K hK=>?_) AllReady.nil
 go_simp
 refine hK _ _ ?_;clear hK K;refine wpAny_done (by kernel_rfl) ?_ _
 go_wp2_with (go_at_call 31;refine (HFL.out w1 HW1.out.1 HW1.out.2).mono ?_;rintro e w2 ⟨rfl,h0⟩;have HZ:Hid (SaveR g w w2 s n2 (padB X4) (.returned .nilIface)):=h0;clear h0)
 go_ret
 exact HZ.out
theorem save_any (hd:Ds g w s)(h:Hd)(hk:h.Ok)(hN:2≤s.sec.length)(hwl0:s.wt.length≤100000):
   Calls Tryz.prog 94 #[hdV h,.pointer (some ⟨g.t,0,none⟩)] w fun e w'=>SaveR g w w' s (h.calls % 2) (padB (bs (hdT h))) e:=by
 by_cases hp:s.pw=some 0
 · exact save_dark hd h hk hN hp
 · by_cases hp1:s.pw.map (· - 1)=some 0
   · exact save_one hd h hk hN hp hp1 hwl0
   · exact save_lit hd h hk hN hp hp1 hwl0
end
def hdN (h:Hd)(T:List UInt8):Hd:=⟨h.calls,h.half,h.used+secsN T.length⟩
def secA (sec:List Sec)(h:Hd)(T:List UInt8):List Sec:=putAt sec (h.first sec.length+h.used) (piecesS T (secsN T.length))
def secB (sec:List Sec)(h:Hd)(T:List UInt8):List Sec:=(secA sec h T).set (h.calls % 2) (padB (bs (hdT (hdN h T))))
def Torn (sec:List Sec)(h:Hd)(T:List UInt8)(s':DSt):Prop:=∀ keep,Near sec (h.first sec.length+h.used) (secsN T.length) (redo keep s'.wt (undo s'.sec s'.wt) s'.wt.length)∨redo keep s'.wt (undo s'.sec s'.wt) s'.wt.length=secB sec h T
def CommP (s:DSt)(h:Hd)(T:List UInt8)(c:Nat)(s':DSt):Prop :=
 (c=15∧s.pw≠none∧s'.wt.length≤5000∧Torn s.sec h T s')∨(c=0∧s'.sec=secB s.sec h T∧s'.wt=[]∧(s.pw=none→s'.pw=none))
def CommR (g:Dv)(w w':World)(s:DSt)(h:Hd)(T:List UInt8)(e:Ending):Prop:=∃ c s',e = .returned (errN g.A c)∧CommP s h T c s'∧Ds g w' s'∧Oth w w'
structure MidG (s:DSt)(h:Hd)(T:List UInt8)(j:Nat)(q:DSt):Prop where
 sec:q.sec=putAt s.sec (h.first s.sec.length+h.used) (piecesS T j)
 wt:∀ x∈q.wt,h.first s.sec.length+h.used≤x.n∧x.n < h.first s.sec.length+h.used+secsN T.length
 len:q.wt.length=j
 pw:s.pw=none→q.pw=none
theorem piecesS_len (T:List UInt8)(j:Nat):(piecesS T j).length=j:=by simp [piecesS]
theorem piecesS_snoc (T:List UInt8)(j:Nat):piecesS T (j+1)=piecesS T j++[pieceS T j]:=by simp [piecesS,List.range_succ]
theorem MidG.torn {s q:DSt}{h:Hd}{T:List UInt8}{j:Nat}(m:MidG s h T j q)(hj:j≤secsN T.length):Torn s.sec h T q:=fun keep=>Or.inl (by
 have h1:Near s.sec (h.first s.sec.length+h.used) (secsN T.length) q.sec:=by rw [m.sec];exact Near.put _ (by rw [piecesS_len];exact hj)
 exact (h1.undo m.wt).redo m.wt keep _)
theorem MidG.start (s:DSt)(h:Hd)(T:List UInt8)(hw:s.wt=[]):MidG s h T 0 s:=⟨rfl,fun x hx=>(by rw [hw] at hx;cases hx),by rw [hw];rfl,id⟩
theorem MidG.next {s q:DSt}{h:Hd}{T:List UInt8}{j:Nat}(m:MidG s h T j q)(hj:j < secsN T.length)(x0:Sec):MidG s h T (j+1) ⟨q.pw.map (· - 1),q.sec.set (h.first s.sec.length+h.used+j) (pieceS T j),q.wt++[⟨h.first s.sec.length+h.used+j,x0,pieceS T j⟩]⟩:=by
 refine ⟨?_,fun x hx=>?_,by simp [m.len],fun e=>by simp [m.pw e]⟩
 · show q.sec.set _ _=_
   rw [m.sec,piecesS_snoc,putAt_snoc,piecesS_len]
 · rcases List.mem_append.1 hx with hx | hx
   · exact m.wt x hx
   · obtain rfl:=List.mem_singleton.1 hx
     exact ⟨by show _≤_+_+j;omega,by show _+_+j < _;omega⟩
theorem torn_flushed {s q:DSt}{h:Hd}{T:List UInt8}(m:MidG s h T (secsN T.length) q)(pw:Option Nat):Torn s.sec h T ⟨pw,q.sec,[]⟩:=fun keep=>Or.inl (by
 show Near _ _ _ q.sec;rw [m.sec]
 exact Near.put _ (Nat.le_of_eq (piecesS_len _ _)))
theorem torn_head {s q r:DSt}{h:Hd}{T:List UInt8}(m:MidG s h T (secsN T.length) q){x0:Sec}(hx:q.sec[h.calls % 2]?=some x0)(h1:r.sec=q.sec.set (h.calls % 2) (padB (bs (hdT (hdN h T)))))(h2:r.wt=[]++[⟨h.calls % 2,x0,padB (bs (hdT (hdN h T)))⟩]):Torn s.sec h T r:=fun keep=>by
 rw [h1,h2];have:=one_crash q.sec hx (p:=padB (bs (hdT (hdN h T)))) (keep 0)
 have e1:redo keep ([]++[⟨h.calls % 2,x0,padB (bs (hdT (hdN h T)))⟩]) (undo (q.sec.set (h.calls % 2) (padB (bs (hdT (hdN h T))))) ([]++[⟨h.calls % 2,x0,padB (bs (hdT (hdN h T)))⟩])) ([]++[(⟨h.calls % 2,x0,padB (bs (hdT (hdN h T)))⟩:Wr)]).length=if keep 0 then q.sec.set (h.calls % 2) (padB (bs (hdT (hdN h T)))) else q.sec:=by
  rw [← this];simp [redo,keepB]
 rw [e1]
 cases keep 0 with
 | true =>
  refine Or.inr ?_;simp only [if_true];rw [m.sec];rfl
 | false =>
  refine Or.inl ?_;simp only [Bool.false_eq_true,if_false];rw [m.sec];exact Near.put _ (Nat.le_of_eq (piecesS_len _ _))
theorem piece_text (T:List UInt8)(j:Nat)(hj:j*64≤T.length):(bs T).extract (j*64) (min (j*64+64) T.length)=bs ((T.drop (j*64)).take 64):=by
 apply data_inj;simp only [bs,ByteArray.data_extract,Array.toList_extract,List.extract_eq_take_drop];apply List.ext_getElem?;intro i;simp only [List.getElem?_take]
 split<;>split
 · rfl
 · omega
 · symm
   rw [List.getElem?_eq_none_iff,List.length_drop];omega
 · rfl
end
end Go.Proofs.YtmnidbnaneagjaaGreatDoor
