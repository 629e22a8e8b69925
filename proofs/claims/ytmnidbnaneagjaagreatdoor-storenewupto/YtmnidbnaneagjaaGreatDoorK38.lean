import Derived.Test.YtmnidbnaneagjaaGreatDoorK37
set_option maxRecDepth 100000
set_option maxHeartbeats 8000000
namespace Go.Proofs.YtmnidbnaneagjaaGreatDoor
section
open Go Go.RowKit Go.Deep
section
variable {g:Dv}{w:World}{s:DSt}
theorem Ds.first (hd:Ds g w s)(h:Hd)(h0:h.half≤1)(hN:2≤s.sec.length):Calls Tryz.prog 68 #[hdV h,.pointer (some ⟨g.t,0,none⟩)] w fun e w'=>e = .returned (.int .i64 (h.first s.sec.length:Nat))∧Only [] w w':=by
 obtain ⟨vw,hk⟩:=hd.dk;exact hfirst_ok hk h h0 hN
theorem foot_type {base t:Nat}{pw:Option Nat}{vs vw:Value}{sec:List Sec}{wt:List Wr}(h:DkAt w base t pw vs vw sec wt){b:Nat}{cs:Array Value}{ty:TypeId}{fr:Nat×Nat}(hb:w.heap[b]?=some (.cells cs ty fr))(h1:ty≠61)(h2:ty≠106)(h3:ty≠108):b∉dkFoot t vs vw:=fun hm=>by
 rcases mem_foot.1 hm with e | e | e
 · rw [e,h.blk] at hb
   simp only [Option.some.injEq,Obj.cells.injEq] at hb;exact h1 hb.2.1.symm
 · obtain ⟨_,_,cur,hq⟩:=own_blkD h.secs e
   rw [hq] at hb;simp only [Option.some.injEq,Obj.cells.injEq] at hb;exact h2 hb.2.1.symm
 · obtain ⟨_,_,cur,hq⟩:=own_blkD h.wts e
   rw [hq] at hb;simp only [Option.some.injEq,Obj.cells.injEq] at hb;exact h3 hb.2.1.symm
theorem Ds.poke (h:Ds g w s){b:Nat}{cs:Array Value}{ty:TypeId}{fr:Nat×Nat}(hb:w.heap[b]?=some (.cells cs ty fr))(h1:ty≠61)(h2:ty≠106)(h3:ty≠108)(hge:g.W0.heap.size≤b)(o:Nat)(v:Value):Ds g (w.setCell ⟨b,o,none⟩ v) s:=by
 obtain ⟨vw,hd⟩:=h.dk;have ho:Only [b] w (w.setCell ⟨b,o,none⟩ v):=(Only.refl [b] w).setCell (Or.inl (by simp)) _;exact ⟨⟨vw,hd.only ho (fun k hk hm=>foot_type hd hb h1 h2 h3 (by rw [← List.mem_singleton.1 hm];exact hk))⟩,h.er,h.bel.trans (ho.to_below h.bel.size (fun k hk=>by rw [List.mem_singleton.1 hk];exact hge)),h.ge,Nat.le_trans h.bs ho.size,h.pl⟩
theorem Oth.poke {a w:World}(h:Oth a w){b:Nat}(hb:a.heap.size≤b)(o:Nat)(v:Value):Oth a (w.setCell ⟨b,o,none⟩ v):=by
 have ho:Only [b] w (w.setCell ⟨b,o,none⟩ v):=(Only.refl [b] w).setCell (Or.inl (by simp)) _;refine ⟨ho.os.trans h.os,ho.tape.trans h.tape,ho.output.trans h.output,Nat.le_trans h.size ho.size,fun k cs ty fr hc h1 h2 h3=>?_,fun k o hc hn=>?_⟩
 · have hk:=h.block k cs ty fr hc h1 h2 h3
   rw [ho.block k (Array.getElem?_eq_some_iff.1 hk).1 (by have:=(Array.getElem?_eq_some_iff.1 hc).1;simp;omega)];exact hk
 · have hk:=h.maps k o hc hn
   rw [ho.block k (Array.getElem?_eq_some_iff.1 hk).1 (by have:=(Array.getElem?_eq_some_iff.1 hc).1;simp;omega)];exact hk
theorem commit_ok (hd:Ds g w s)(h:Hd)(hk:h.Ok)(h0:h.half≤1)(hN:2≤s.sec.length)(T:List UInt8)(hT:T.length≤1000000)(hfit:h.first s.sec.length+h.used+secsN T.length≤s.sec.length)(hw:s.wt=[]):
  Calls Tryz.prog 168 #[hdV h,.pointer (some ⟨g.t,0,none⟩),.string (bs T)] w fun e w'=>CommR g w w' s h T e:=by
 obtain ⟨wb,hwb⟩:∃ wb,w.alloc (hdO h)=wb:=⟨_,rfl⟩
 have o0:Only [] w wb:=by rw [← hwb];exact (Only.refl [] w).alloc _
 have e0:wb.heap[w.heap.size]?=some (.cells #[.int .u32 (h.calls:Nat),.int .i64 (h.half:Nat),.int .i64 (h.used:Nat)] 131 (0,0)):=by rw [← hwb];exact heap_alloc_last w _
 have hmost:=hd.most.2;have HSE:Hid (Calls Tryz.prog 39 #[.pointer (some ⟨g.t,0,none⟩)] wb fun e w'=>e = .returned .nilIface∧w'=wb):=(hd.keep o0).settle hw
 have HSN:Hid (∀ W,Calls Tryz.prog 167 #[.string (bs T)] W fun e w'=>e = .returned (.int .i64 (secsN T.length:Nat))∧w'=W):=fun W=>by
  have:=sectorsOf_ok W (bs T) (by rw [bs_size];omega)
  rwa [bs_size] at this
 have HFI:Hid (∀ W s' (u:Nat),Ds g W s'→s'.sec.length=s.sec.length→Calls Tryz.prog 68 #[hdV ⟨h.calls,h.half,u⟩,.pointer (some ⟨g.t,0,none⟩)] W fun e w'=>e = .returned (.int .i64 (h.first s.sec.length:Nat))∧Only [] W w'):=fun W s' u hW hl=>by
  have:=hW.first ⟨h.calls,h.half,u⟩ h0 (by omega);rw [hl] at this;exact this
 have HSV:Hid (∀ W s',Ds g W s'→s'.sec.length=s.sec.length→s'.wt=[]→Calls Tryz.prog 94 #[hdV (hdN h T),.pointer (some ⟨g.t,0,none⟩)] W fun e w'=>SaveR g W w' s' (h.calls % 2) (padB (bs (hdT (hdN h T)))) e):=fun W s' hW hl hw'=>save_any hW (hdN h T) ⟨hk.calls,hk.half,by show h.used+secsN T.length < _;omega⟩ (by omega) (by rw [hw'];decide);have HD0:Hid (Ds g wb s):=hd.keep o0;have HO0:Hid (Oth w wb):=Oth.of_only o0;have HB0:Hid (wb.heap[w.heap.size]?=some (.cells #[.int .u32 (h.calls:Nat),.int .i64 (h.half:Nat),.int .i64 (h.used+0:Nat)] 131 (0,0))):=e0;have HM0:Hid (MidG s h T 0 s):=MidG.start s h T hw;have hsz:(bs T).size=T.length:=bs_size T
 have hkb:secsN T.length*64 < T.length+64:=by unfold secsN;omega
 have hus:=hk.used;have HPT:Hid (∀ j,j < secsN T.length→(bs T).extract (j*64) (min (j*64+64) T.length)=bs ((T.drop (j*64)).take 64)):=fun j hj=>piece_text T j (by unfold secsN at hj;omega);have HZ:Hid (g.W0.heap.size≤w.heap.size):=hd.bel.size;have HZ2:Hid (w.heap.size≤w.heap.size):=Nat.le_refl _;clear hd o0 e0 hk hw;generalize hkk:secsN T.length=k at *;have HKK:Hid (secsN T.length=k):=hkk;clear hkk
 go_enter Tryz.func168,Tryz.ntmps168
 go_upto_region 5 with (first
  | (go_at_call 39;refine HSE.out.mono ?_;rintro e w1 ⟨rfl,h0⟩;have h1:=h0.symm;subst h1;clear h0)
  | (go_at_call 167;refine (HSN.out _).mono ?_;rintro e w1 ⟨rfl,h0⟩;have h1:=h0.symm;subst h1;clear h0))
 clear hwb HSE HSN;obtain ⟨hb,ehb⟩:∃ hb,w.heap.size=hb:=⟨_,rfl⟩;rw [ehb] at HB0 HZ ⊢;replace HZ2:Hid (w.heap.size≤hb):=Nat.le_of_eq ehb;clear ehb
 go_loopw [20] (fun i wr=>∃ (j:Nat) (q:DSt),i = .int .i64 (j:Nat)∧j≤k∧Ds g wr q∧MidG s h T j q∧Oth w wr∧wr.heap[hb]?=some (.cells #[.int .u32 (h.calls:Nat),.int .i64 (h.half:Nat),.int .i64 (h.used+j:Nat)] 131 (0,0))) (fun i _=>k - (intOf i).toNat)
 case atStart=>exact ⟨0,s,rfl,Nat.zero_le _,HD0.out,HM0.out,HO0.out,HB0.out⟩
 case round =>
  clear HD0 HM0 HO0 HB0;obtain ⟨j,q,rfl,hj,hD,hM,hO,hB⟩:=hrel;have HD:Hid (Ds g wr q):=hD;have HM:Hid (MidG s h T j q):=hM;have HO:Hid (Oth w wr):=hO;have HBK:Hid (wr.heap[hb]?=some (.cells #[.int .u32 (h.calls:Nat),.int .i64 (h.half:Nat),.int .i64 (h.used+j:Nat)] 131 (0,0))):=hB
  have hql:q.sec.length=s.sec.length:=by rw [hM.sec,putAt_len]
  have HQL:Hid (q.sec.length=s.sec.length):=hql
  by_cases hlt:j < k
  · have hl:decide ((j:Int) < (k:Int))=true:=decide_eq_true (by omega)
    have hpt:=HPT.out j hlt
    have hmn:min ((j:Int)*64+64) (T.length:Int)=((min (j*64+64) T.length:Nat):Int):=by omega
    obtain ⟨m,hm⟩:∃ m,min (j*64+64) T.length=m:=⟨_,rfl⟩
    have hm1:j*64≤m:=by omega
    have hm2:m≤T.length:=by omega
    rw [hm] at hmn hpt;clear hD hM hO hB hql;clear hm
    go_upto_region 9 with (fail)
    haveI:Nonempty (OnlyBy wr):=⟨⟨_,Only.refl _ _⟩⟩
    have HXP:Hid (padB ((bs T).extract (j*64) m)=pieceS T j∧((bs T).extract (j*64) m).size≤64):=by
      rw [hpt];exact ⟨rfl,by rw [bs_size,List.length_take];omega⟩
    clear hpt;generalize (bs T).extract (j*64) m=X at HXP ⊢;obtain ⟨u,hu⟩:∃ u,h.used+j=u:=⟨_,rfl⟩;have HF1:Hid (∀ p:OnlyBy wr,Calls Tryz.prog 68 #[hdV ⟨h.calls,h.half,u⟩,.pointer (some ⟨g.t,0,none⟩)] p.w fun e w'=>e = .returned (.int .i64 (h.first s.sec.length:Nat))∧Only [] p.w w'):=fun p=>HFI.out p.w q u (HD.out.keep p.ho) HQL.out;have HU:Hid (h.used+j=u):=hu;have hBK:=HBK.out;rw [hu] at hBK;have y0:∀ p:OnlyBy wr,p.w.cell? ⟨hb,0,none⟩=some (.int .u32 (h.calls:Nat)):=fun p=>(cells3 (kept3 hBK p.ho)).1;have y1:∀ p:OnlyBy wr,p.w.cell? ⟨hb,1,none⟩=some (.int .i64 (h.half:Nat)):=fun p=>(cells3 (kept3 hBK p.ho)).2.1;have y2:∀ p:OnlyBy wr,p.w.cell? ⟨hb,2,none⟩=some (.int .i64 (u:Nat)):=fun p=>(cells3 (kept3 hBK p.ho)).2.2.1
    have hn1:h.first s.sec.length+u < s.sec.length:=by omega
    have HPL:Hid (h.first s.sec.length+h.used+j=h.first s.sec.length+u):=by show _=_;omega
    obtain ⟨F,hF⟩:∃ F,h.first s.sec.length=F:=⟨_,rfl⟩;have HFF:Hid (h.first s.sec.length=F):=hF;rw [hF] at HF1 hn1 HPL
    have hwr1:IntKind.i64.wrap ((F:Int)+(u:Int))=((F+u:Nat):Int):=by rw [IntKind.wrap_i64];omega
    obtain ⟨n,hn⟩:∃ n,F+u=n:=⟨_,rfl⟩;rw [hn] at hwr1 hn1 HPL;clear hu hF hn hm1 hm2 hmn hsz hkb;have HBU:Hid (wr.heap[hb]?=some (.cells #[.int .u32 (h.calls:Nat),.int .i64 (h.half:Nat),.int .i64 (u:Nat)] 131 (0,0))):=hBK;clear hBK
    by_cases hp:q.pw=some 0
    · have HWR:Hid (∀ p:OnlyBy wr,Calls Tryz.prog 30 #[.pointer (some ⟨g.t,0,none⟩),.int .i64 (n:Nat),.string X] p.w fun e w'=>e = .returned (.iface 535 (.pointer (some (g.A 14))))∧w'=p.w):=fun p=>(HD.out.keep p.ho).write_dark n X (by rw [HQL.out];exact hn1) HXP.out.2 hp
      have HF:Hid (∀ p:OnlyBy wr,CommR g w p.w s h T (.returned (.iface 535 (.pointer (some (g.A 14)))))):=fun p=>⟨15,q,rfl,Or.inl ⟨rfl,fun e=>(by have:=HM.out.pw e;rw [hp] at this;cases this),by rw [HM.out.len];omega,HM.out.torn (by rw [HKK.out];omega)⟩,HD.out.keep p.ho,HO.out.trans (Oth.of_only p.ho)⟩;clear hp;refine wp_region_any (by kernel_rfl) ?_
      change wpAny _ _ _ _ _ _ _ (World.drew _)
      refine wpAny_pre2 (w0:=wr) (k0:=0) 8 2 _ rfl (by decide) (by kernel_rfl) (by kernel_rfl) (by kernel_rfl) (by kernel_rfl) (Only.refl [] _).drew ?_;simp only [List.drop_zero,List.take_succ_cons,List.take_zero]
      repeat (first | go_big_quiet_skip | quiet_step ((go_at_call 68;refine Calls.only_of (HF1.out _))))
      refine wpQuiet_nil ?_;intro _ hw';obtain ⟨p,hw2⟩:=hw';subst hw2;refine wpAny_ready (rs:=[8]) (by kernel_rfl) (by simp) ?_;refine AllReady.cons rfl (fun K hK=>?_) AllReady.nil
      go_simp
      refine (HWR.out p).mono ?_;rintro e w1 ⟨rfl,hr0⟩;have hr1:=hr0.symm;subst hr1;clear hr0;refine hK _ _ ?_;clear hK K;refine wpAny_ready (rs:=[9]) (by kernel_rfl) (by simp) ?_;refine AllReady.cons rfl (fun K hK=>?_) AllReady.nil
      go_simp
      refine hK _ _ ?_;clear hK K;refine wpAny_done (by kernel_rfl) ?_ _
      go_wp2
      go_ret
      exact HF.out p
    · obtain ⟨x0,hx0⟩:∃ x0,q.sec[n]?=some x0:=⟨q.sec[n]'(by rw [HQL.out];exact hn1),List.getElem?_eq_getElem _⟩
      have HWR:Hid (∀ p:OnlyBy wr,Calls Tryz.prog 30 #[.pointer (some ⟨g.t,0,none⟩),.int .i64 (n:Nat),.string X] p.w fun e w'=>e = .returned .nilIface∧Ds g w' ⟨q.pw.map (· - 1),q.sec.set n (pieceS T j),q.wt++[⟨n,x0,pieceS T j⟩]⟩∧Oth wr w'):=fun p=>((HD.out.keep p.ho).write_lit n X x0 hx0 HXP.out.2 hp (by rw [HM.out.len];omega)).mono fun e w' r=>⟨r.1,by rw [← HXP.out.1];exact r.2.1,(Oth.of_only p.ho).trans r.2.2⟩
      have HNX:Hid (MidG s h T (j+1) ⟨q.pw.map (· - 1),q.sec.set n (pieceS T j),q.wt++[⟨n,x0,pieceS T j⟩]⟩):=by
       have:=HM.out.next (by rw [HKK.out];exact hlt) x0;rw [HFF.out,HPL.out] at this;exact this
      clear hp hx0;refine wp_region_any (by kernel_rfl) ?_
      change wpAny _ _ _ _ _ _ _ (World.drew _)
      refine wpAny_pre2 (w0:=wr) (k0:=0) 8 2 _ rfl (by decide) (by kernel_rfl) (by kernel_rfl) (by kernel_rfl) (by kernel_rfl) (Only.refl [] _).drew ?_;simp only [List.drop_zero,List.take_succ_cons,List.take_zero]
      repeat (first | go_big_quiet_skip | quiet_step ((go_at_call 68;refine Calls.only_of (HF1.out _))))
      refine wpQuiet_nil ?_;intro _ hw';obtain ⟨p,hw2⟩:=hw';subst hw2;refine wpAny_ready (rs:=[8]) (by kernel_rfl) (by simp) ?_;refine AllReady.cons rfl (fun K hK=>?_) AllReady.nil
      go_simp
      refine (HWR.out p).mono ?_;rintro e w1 ⟨rfl,hr0,hr1⟩;have HD1:Hid (Ds g w1 ⟨q.pw.map (· - 1),q.sec.set n (pieceS T j),q.wt++[⟨n,x0,pieceS T j⟩]⟩∧Oth wr w1):=⟨hr0,hr1⟩;clear hr0 hr1;refine hK _ _ ?_;clear hK K;refine wpAny_ready (rs:=[9]) (by kernel_rfl) (by simp) ?_;refine AllReady.cons rfl (fun K hK=>?_) AllReady.nil
      go_simp
      refine hK _ _ ?_;clear hK K;refine wpAny_done (by kernel_rfl) ?_ _;obtain ⟨z0,z1,z2,z4,z5⟩:=cells3 (Oth.kept3 HBU.out HD1.out.2);clear y0 y1 y2
      go_wp2
      go_roundw
      case rel =>
       have hk4:=Oth.kept3 HBU.out HD1.out.2;refine ⟨j+1,_,by go_num,by omega,HD1.out.1.poke hk4 (by decide) (by decide) (by decide) HZ.out _ _,HNX.out,(HO.out.trans HD1.out.2).poke HZ2.out _ _,?_⟩;rw [heap_setCell_same w1 hb 2 _ _ _ hk4];have:=HU.out
       have e1:wrap64 ((u:Int)+1)=((h.used+(j+1):Nat):Int):=by unfold wrap64;omega
       rw [e1];rfl
      case measure=>simp [intOf];omega
  · have hl:decide ((j:Int) < (k:Int))=false:=decide_eq_false (by omega)
    obtain rfl:k=j:=by omega
    have hMk:MidG s h T (secsN T.length) q:=by rw [HKK.out];exact hM
    have HMK:Hid (MidG s h T (secsN T.length) q):=hMk;clear hD hM hO hB hql hMk
    by_cases hp:q.pw=some 0
    · have HFL:Hid (Calls Tryz.prog 31 #[.pointer (some ⟨g.t,0,none⟩)] wr fun e w'=>e = .returned (.iface 535 (.pointer (some (g.A 14))))∧w'=wr):=HD.out.flush_dark hp
      have HF:Hid (CommR g w wr s h T (.returned (.iface 535 (.pointer (some (g.A 14)))))):=⟨15,q,rfl,Or.inl ⟨rfl,fun e=>(by have:=HM.out.pw e;rw [hp] at this;cases this),by rw [HM.out.len];omega,HMK.out.torn (Nat.le_refl _)⟩,HD.out,HO.out⟩;clear hp
      go_wp2_with (go_at_call 31;refine HFL.out.mono ?_;rintro e w1 ⟨rfl,hr0⟩;have hr1:=hr0.symm;subst hr1;clear hr0)
      go_ret
      exact HF.out
    · have HFL:Hid (Calls Tryz.prog 31 #[.pointer (some ⟨g.t,0,none⟩)] wr fun e w'=>e = .returned .nilIface∧Ds g w' ⟨q.pw.map (· - 1),q.sec,[]⟩∧Oth wr w'):=HD.out.flush_lit hp
      have HS1:Hid (∀ W,Ds g W ⟨q.pw.map (· - 1),q.sec,[]⟩→Oth w W→Calls Tryz.prog 94 #[.agg #[.int .u32 (h.calls:Nat),.int .i64 (h.half:Nat),.int .i64 (h.used+k:Nat)],.pointer (some ⟨g.t,0,none⟩)] W fun e w'=>∃ v,e = .returned v∧CommR g w w' s h T (.returned v)):=fun W hW hOW=>by
       have:=HSV.out W _ hW HQL.out rfl
       have e1:hdN h T=⟨h.calls,h.half,h.used+k⟩:=by unfold hdN;rw [HKK.out]
       rw [e1] at this;refine this.mono fun e w' r=>?_;rw [← e1] at r;obtain ⟨c,s',he,hS,h1,h2⟩:=r;refine ⟨_,he,c,s',rfl,?_,h1,hOW.trans h2⟩;rcases hS with ⟨c1,c2,c3⟩ | ⟨c1,c2,x0,c3,c4,c5⟩ | ⟨c1,c2,c3,c4⟩
       · refine Or.inl ⟨c1,fun e=>c2 (by show q.pw.map _=none;rw [HM.out.pw e];rfl),by rw [c3];exact Nat.zero_le _,by rw [c3];exact torn_flushed HMK.out _⟩
       · refine Or.inl ⟨c1,fun e=>c2 (by show q.pw.map _=none;rw [HM.out.pw e];rfl),by rw [c5];show 1≤5000;decide,torn_head HMK.out c3 c4 c5⟩
       · refine Or.inr ⟨c1,?_,c3,fun e=>c4 (by show q.pw.map _=none;rw [HM.out.pw e];rfl)⟩
         rw [c2];show q.sec.set _ _=_;rw [HMK.out.sec];rfl
      have hkb:k≤4000:=by omega
      clear hp
      go_wp2_with (first
       | (go_at_call 31;refine HFL.out.mono ?_;rintro e w1 ⟨rfl,hr0,hr1⟩;obtain ⟨z0,z1,z2,z4,z5⟩:=cells3 (Oth.kept3 HBK.out hr1);have HD1:Hid (Ds g w1 ⟨q.pw.map (· - 1),q.sec,[]⟩∧Oth w w1):=⟨hr0,HO.out.trans hr1⟩;clear hr0 hr1)
       | (go_at_call 94;refine (HS1.out _ HD1.out.1 HD1.out.2).mono ?_;rintro e w2 ⟨v,rfl,hr⟩;have HR:Hid (CommR g w w2 s h T (.returned v)):=hr;clear hr))
      go_ret
      exact HR.out
end
structure OthL (w w':World):Prop where
 os:w'.os=w.os
 tape:w'.tape=w.tape
 output:w'.output=w.output
 size:w.heap.size≤w'.heap.size
 block:∀ (k:Nat) (cs:Array Value) (ty:TypeId) (fr:Nat×Nat),w.heap[k]?=some (.cells cs ty fr)→ty≠61→ty≠106→ty≠108→ty≠138→w'.heap[k]?=some (.cells cs ty fr)
 maps:∀ (k:Nat) (o:Obj),w.heap[k]?=some o→(∀ cs ty fr,o ≠ .cells cs ty fr)→w'.heap[k]?=some o
theorem OthL.trans {a b c:World}(h:OthL a b)(k:OthL b c):OthL a c:=⟨k.os.trans h.os,k.tape.trans h.tape,k.output.trans h.output,Nat.le_trans h.size k.size,fun j cs ty fr hc h1 h2 h3 h4=>k.block j cs ty fr (h.block j cs ty fr hc h1 h2 h3 h4) h1 h2 h3 h4,fun j o hc hn=>k.maps j o (h.maps j o hc hn) hn⟩
theorem Oth.toL {a b:World}(h:Oth a b):OthL a b:=⟨h.os,h.tape,h.output,h.size,fun j cs ty fr hc h1 h2 h3 _=>h.block j cs ty fr hc h1 h2 h3,h.maps⟩
theorem OthL.of_only {a b:World}(h:Only [] a b):OthL a b:=(Oth.of_only h).toL
structure LogAt (w:World)(g:Dv)(l:Nat)(dark:Bool):Prop where
 blk:w.heap[l]?=some (.cells #[.pointer (some ⟨g.t,0,none⟩),.bool dark] 138 (0,0))
 ge:g.W0.heap.size≤l
section
variable {g:Dv}{w w':World}{s:DSt}{l:Nat}{dark:Bool}
theorem LogAt.keep (h:LogAt w g l dark)(ho:Oth w w'):LogAt w' g l dark:=⟨ho.block l _ _ _ h.blk (by decide) (by decide) (by decide),h.ge⟩
theorem LogAt.cells (h:LogAt w g l dark):w.cell? ⟨l,0,none⟩=some (.pointer (some ⟨g.t,0,none⟩))∧w.cell? ⟨l,1,none⟩=some (.bool dark)∧l < w.heap.size∧(∀ o,w.frozen? ⟨l,o,none⟩=false) :=
 ⟨cell_of_row _ _ 0 _ _ _ h.blk,cell_of_row _ _ 1 _ _ _ h.blk,(Array.getElem?_eq_some_iff.1 h.blk).1,fun _=>frozen_of_row _ _ _ _ _ h.blk⟩
theorem LogAt.set (h:LogAt w g l dark)(b:Bool):LogAt (w.setCell ⟨l,1,none⟩ (.bool b)) g l b:=⟨heap_setCell_same w l 1 _ _ _ h.blk,h.ge⟩
theorem LogAt.oth (h:LogAt w g l dark)(v:Value)(o:Nat):OthL w (w.setCell ⟨l,o,none⟩ v):=by
 have ho:Only [l] w (w.setCell ⟨l,o,none⟩ v):=(Only.refl [l] w).setCell (Or.inl (by simp)) _;refine ⟨ho.os,ho.tape,ho.output,ho.size,fun k cs ty fr hc h1 h2 h3 h4=>?_,fun k o hc hn=>?_⟩
 · rw [ho.block k (Array.getElem?_eq_some_iff.1 hc).1 (fun hm=>?_)]
   · exact hc
   · rw [List.mem_singleton.1 hm,h.blk] at hc
     simp only [Option.some.injEq,Obj.cells.injEq] at hc;exact h4 hc.2.1.symm
 · rw [ho.block k (Array.getElem?_eq_some_iff.1 hc).1 (fun hm=>?_)]
   · exact hc
   · rw [List.mem_singleton.1 hm,h.blk] at hc
     exact hn _ _ _ (Option.some.inj hc).symm
theorem lhead_lit (hd:Ds g w s)(hl:LogAt w g l false)(h:Hd)(hn:newestL s.sec=some h):
  Calls Tryz.prog 110 #[.pointer (some ⟨l,0,none⟩)] w fun e w'=>e = .returned (.tuple #[hdV h,.nilIface])∧Only [] w w':=by
 obtain ⟨c0,c1,hlt,fz⟩:=hl.cells
 have HN:Hid (∀ o,Calls Tryz.prog 37 #[.pointer (some ⟨g.t,0,none⟩)] (w.alloc o) fun e w'=>e = .returned (.tuple #[hdV h,.bool true])∧Only [] (w.alloc o) w'):=fun o=>by
  have:=(hd.keep ((Only.refl [] w).alloc o)).newest;rw [hn] at this;exact this
 clear hd hl fz hn
 go_enter Tryz.func110,Tryz.ntmps110
 go_upto_region 4 with (go_at_call 37;refine (HN.out _).mono ?_;rintro e w1 ⟨rfl,h1⟩;obtain ⟨k1,k2,k3,k5,k6,HO⟩:=res_kept h1;clear h1)
 have o1:Only [] w (w1.alloc (hdO h)):=HO.out.alloc _;have r1:∀ o v,w1.cell? ⟨w.heap.size,o,none⟩=some v→(w1.alloc (hdO h)).cell? ⟨w.heap.size,o,none⟩=some v:=fun o v e=>(((Only.refl [] w1).alloc (hdO h)).cell (p:=⟨w.heap.size,o,none⟩) (lt_of_cell e) (by simp)).trans e;have f1:∀ o,(w1.alloc (hdO h)).frozen? ⟨w.heap.size,o,none⟩=false:=fun o=>(((Only.refl [] w1).alloc (hdO h)).frozen (p:=⟨w.heap.size,o,none⟩) k6 (by simp)).trans (k5 o);have p0:=r1 0 _ k1;have p1:=r1 1 _ k2;have p2:=r1 2 _ k3;have k7:w.heap.size < (w1.alloc (hdO h)).heap.size:=Nat.lt_of_lt_of_le k6 ((Only.refl [] w1).alloc (hdO h)).size;obtain ⟨q0,q1,q2,q4,q5⟩:=cells3 (heap_alloc_last w1 (hdO h));have HO1:Hid (Only [] w (w1.alloc (hdO h))):=o1;clear r1 k1 k2 k3 k5 k6 HO o1 c0 c1 hlt;generalize w1.heap.size=hb at q0 q1 q2 q4 q5 ⊢;generalize w1.alloc (hdO h)=W1 at p0 p1 p2 f1 k7 q0 q1 q2 q4 q5 HO1 ⊢
 go_wp2
 refine bodyPost_ret (v := .tuple #[hdV h,.nilIface]) (by simp [results,Tryz.results110,go_sem,p0,p1,p2]) rfl ⟨rfl,set3 HO1.out (Nat.le_refl _) _ _ _⟩
end
def WrR (g:Dv)(w w':World)(s:DSt)(l:Nat)(h:Hd)(L:List (List UInt8))(e:Ending):Prop :=
 ((s.sec.length - 2) / 2 < h.used+secsN (blkT L).length∧e = .returned (.iface 535 (.pointer (some (g.A 8))))∧Ds g w' s∧LogAt w' g l false∧OthL w w') ∨
 (h.used+secsN (blkT L).length≤(s.sec.length - 2) / 2∧∃ c s',e = .returned (errN g.A c)∧CommP s h (blkT L) c s'∧Ds g w' s'∧LogAt w' g l (decide (c=15))∧OthL w w')
section
variable {g:Dv}{w w':World}{s:DSt}{l:Nat}
theorem Ds.half (hd:Ds g w s)(h2:2≤s.sec.length):Calls Tryz.prog 126 #[.pointer (some ⟨g.t,0,none⟩)] w fun e w'=>e = .returned (.int .i64 ((s.sec.length - 2) / 2:Nat))∧w'=w:=by
 obtain ⟨vw,hk⟩:=hd.dk;exact half_ok hk h2
theorem half_room {h:Hd}{T:List UInt8}{N:Nat}(h0:h.half≤1)(hN:8≤N)(h2:h.used+secsN T.length≤(N - 2) / 2):h.first N+h.used+secsN T.length≤N:=by
 have h6:h.half=0∨h.half=1:=by omega
 show (2+h.half*((N - 2) / 2))+h.used+secsN T.length≤N;rcases h6 with h6 | h6<;>rw [h6]<;>omega
theorem lwrite_any (hd:Ds g w s)(hl:LogAt w g l false)(h:Hd)(hk:h.Ok)(h0:h.half≤1)(hN:8≤s.sec.length)(hw:s.wt=[])(ad:Option Addr)(cap:Nat)(L:List (List UInt8))(hT:TxIn w ad L)(hL:L.length≤2000000)(hW:wgt L < 4294967296):
   Calls Tryz.prog 111 #[.pointer (some ⟨l,0,none⟩),hdV h,.slice ad L.length cap] w fun e w'=>WrR g w w' s l h L e:=by
 obtain ⟨wb,hwb⟩:∃ wb,w.alloc (hdO h)=wb:=⟨_,rfl⟩
 have o0:Only [] w wb:=by rw [← hwb];exact (Only.refl [] w).alloc _
 have e0:wb.heap[w.heap.size]?=some (.cells #[.int .u32 (h.calls:Nat),.int .i64 (h.half:Nat),.int .i64 (h.used:Nat)] 131 (0,0)):=by rw [← hwb];exact heap_alloc_last w _
 have hmost:=hd.most.2;have HBK:Hid (Calls Tryz.prog 166 #[.slice ad L.length cap] wb fun e w'=>e = .returned (.string (bs (blkT L)))∧Only [] wb w'):=block_ok wb ad cap L (hT.only o0) hL (by omega);have hbl:=blkT_len L
 have HSN:Hid (∀ W,Calls Tryz.prog 167 #[.string (bs (blkT L))] W fun e w'=>e = .returned (.int .i64 (secsN (blkT L).length:Nat))∧w'=W):=fun W=>by
   have:=sectorsOf_ok W (bs (blkT L)) (by rw [bs_size];omega)
   rwa [bs_size] at this
 have HD0:Hid (Ds g wb s):=hd.keep o0;have HLG0:Hid (LogAt wb g l false):=hl.keep (Oth.of_only o0);have HE0:Hid (wb.heap[w.heap.size]?=some (.cells #[.int .u32 (h.calls:Nat),.int .i64 (h.half:Nat),.int .i64 (h.used:Nat)] 131 (0,0))):=e0;have HO0:Hid (Only [] w wb):=o0;have HOK:Hid h.Ok:=hk;have hus:=hk.used
 have hsn:secsN (blkT L).length≤4294967296:=by unfold secsN;omega
 obtain ⟨k,hkk⟩:∃ k,secsN (blkT L).length=k:=⟨_,rfl⟩
 have hadd:IntKind.i64.wrap ((h.used:Int)+(k:Int))=((h.used+k:Nat):Int):=by rw [IntKind.wrap_i64];omega
 have HKK:Hid (secsN (blkT L).length=k):=hkk;have HRM:Hid (h.used+k≤(s.sec.length - 2) / 2→h.first s.sec.length+h.used+secsN (blkT L).length≤s.sec.length):=fun e=>half_room h0 hN (by omega);have HWS:Hid (s.wt=[]):=hw;have HHB:Hid (h.half≤1):=h0;have HN8:Hid (8≤s.sec.length):=hN
 have HBL:Hid (h.used+k≤(s.sec.length - 2) / 2→(blkT L).length≤1000000):=fun e=>by rw [← hkk] at e;unfold secsN at e;omega
 rw [hkk] at HSN;clear hd hl hk h0 hw hT o0 e0 hkk hbl hsn hus hW;obtain ⟨BT,hBT⟩:∃ BT,bs (blkT L)=BT:=⟨_,rfl⟩;rw [hBT] at HBK HSN;have HBT:Hid (bs (blkT L)=BT):=hBT;clear hBT
 go_enter Tryz.func111,Tryz.ntmps111
 go_upto_region 2 with (go_at_call 166;refine HBK.out.mono ?_;rintro e w1 ⟨rfl,h1⟩;have HO:Hid (Only [] wb w1):=h1;clear h1)
 clear hwb HBK;have HD1:Hid (Ds g w1 s):=HD0.out.keep HO.out;have HLG1:Hid (LogAt w1 g l false):=HLG0.out.keep (Oth.of_only HO.out);have HOT:Hid (Oth w w1):=(Oth.of_only HO0.out).trans (Oth.of_only HO.out);have HB1:Hid (w1.heap[w.heap.size]?=some (.cells #[.int .u32 (h.calls:Nat),.int .i64 (h.half:Nat),.int .i64 (h.used:Nat)] 131 (0,0))):=kept3 HE0.out HO.out;clear HD0 HLG0 HE0 HO0 HO;obtain ⟨hb,ehb⟩:∃ hb,w.heap.size=hb:=⟨_,rfl⟩;rw [ehb] at HB1 ⊢;clear ehb;have HTH:Hid (∀ n,Calls Tryz.prog 126 #[.pointer (some ⟨g.t,0,none⟩)] (w1.drewN n) fun e w'=>e = .returned (.int .i64 ((s.sec.length - 2) / 2:Nat))∧w'=w1.drewN n):=fun n=>(HD1.out.keep (drewsD (Only.refl [] _) n)).half (by have:=HN8.out;omega);obtain ⟨z0,z1,z2,z4,z5⟩:=cells3 HB1.out;obtain ⟨l0,l1,l2,l3⟩:=HLG1.out.cells;have ce:w1.cell? ⟨9,0,none⟩=some (.iface 535 (.pointer (some (g.A 8)))):=HD1.out.err 8 (by simp);obtain ⟨M,hM⟩:∃ M,(s.sec.length - 2) / 2=M:=⟨_,rfl⟩;have HM:Hid ((s.sec.length - 2) / 2=M):=hM;rw [hM] at HTH HRM HBL;clear hM;obtain ⟨tk,htk⟩:∃ tk,h.used+k=tk:=⟨_,rfl⟩;have HTK:Hid (h.used+k=tk):=htk;rw [htk] at hadd HRM HBL;clear htk
 by_cases hf:M < tk
 · have d0:decide ((M:Int) < (tk:Int))=true:=decide_eq_true (by omega)
   go_quiet (first
     | (go_at_call 167;refine Calls.quiet_of_same (HSN.out _))
     | (go_at_call 126;refine Calls.quiet_of_same (HTH.out _)))
   have ho:Only [] w1 (w1.drewN nq):=drewsD (Only.refl [] _) nq
   go_wp2
   go_ret
   refine Or.inl ⟨by rw [HM.out,HKK.out,HTK.out];exact hf,rfl,HD1.out.keep ho,HLG1.out.keep (Oth.of_only ho),(HOT.out.trans (Oth.of_only ho)).toL⟩
 · have d0:decide ((M:Int) < (tk:Int))=false:=decide_eq_false (by omega)
   have hroom:=HRM.out (by omega);have hlen:=HBL.out (by omega)
   have HWf:Hid (h.used+secsN (blkT L).length≤(s.sec.length - 2) / 2):=by rw [HM.out,HKK.out,HTK.out];show _≤_;omega
   go_quiet (first
     | (go_at_call 167;refine Calls.quiet_of_same (HSN.out _))
     | (go_at_call 126;refine Calls.quiet_of_same (HTH.out _)))
   have ho:Only [] w1 (w1.drewN nq):=drewsD (Only.refl [] _) nq;have HD2:Hid (Ds g (w1.drewN nq) s):=HD1.out.keep ho;have HB2:=kept3 HB1.out ho;have HL2:Hid (LogAt (w1.drewN nq) g l false):=HLG1.out.keep (Oth.of_only ho);have HOT2:Hid (Oth w (w1.drewN nq)):=HOT.out.trans (Oth.of_only ho);clear HD1 HB1 HLG1 HOT HTH z0 z1 z2 z4 z5 l0 l1 l2 l3 ce HRM HBL ho d0;generalize w1.drewN nq=W2 at HD2 HB2 HL2 HOT2 ⊢;have HB3:Hid (W2.heap[hb]?=some (.cells #[.int .u32 (h.calls:Nat),.int .i64 (h.half:Nat),.int .i64 (h.used:Nat)] 131 (0,0))):=HB2;clear HB2
   haveI:Nonempty (OnlyBy W2):=⟨⟨_,Only.refl _ _⟩⟩
   have y0:∀ p:OnlyBy W2,p.w.cell? ⟨hb,0,none⟩=some (.int .u32 (h.calls:Nat)):=fun p=>(cells3 (kept3 HB3.out p.ho)).1;have y1:∀ p:OnlyBy W2,p.w.cell? ⟨hb,1,none⟩=some (.int .i64 (h.half:Nat)):=fun p=>(cells3 (kept3 HB3.out p.ho)).2.1;have y2:∀ p:OnlyBy W2,p.w.cell? ⟨hb,2,none⟩=some (.int .i64 (h.used:Nat)):=fun p=>(cells3 (kept3 HB3.out p.ho)).2.2.1;have y4:∀ p:OnlyBy W2,p.w.cell? ⟨l,0,none⟩=some (.pointer (some ⟨g.t,0,none⟩)):=fun p=>(HL2.out.keep (Oth.of_only p.ho)).cells.1
   have HCM:Hid (∀ p:OnlyBy W2,Calls Tryz.prog 168 #[hdV h,.pointer (some ⟨g.t,0,none⟩),.string BT] p.w fun e w'=>(e = .returned .nilIface∧∃ s',CommP s h (blkT L) 0 s'∧Ds g w' s'∧Oth p.w w')∨(e = .returned (.iface 535 (.pointer (some (g.A 14))))∧∃ s',CommP s h (blkT L) 15 s'∧Ds g w' s'∧Oth p.w w')):=fun p=>by
     have:=commit_ok (HD2.out.keep p.ho) h HOK.out HHB.out (by have:=HN8.out;omega) (blkT L) hlen hroom HWS.out;rw [HBT.out] at this;refine this.mono fun e w' q=>?_;obtain ⟨c,s',he,hP,h1,h2⟩:=q;rcases hP with hP | hP
     · obtain rfl:=hP.1
       exact Or.inr ⟨he,s',Or.inl hP,h1,h2⟩
     · obtain rfl:=hP.1
       exact Or.inl ⟨he,s',Or.inr hP,h1,h2⟩
   clear hroom hlen
   go_upto_region 4 with (fail)
   refine wp_region_any (by kernel_rfl) ?_
   change wpAny _ _ _ _ _ _ _ (World.drew _)
   refine wpAny_pre2 (w0:=W2) (k0:=0) 6 2 _ rfl (by decide) (by kernel_rfl) (by kernel_rfl) (by kernel_rfl) (by kernel_rfl) (Only.refl [] _).drew ?_;simp only [List.drop_zero,List.take_succ_cons,List.take_zero]
   repeat (first | go_big_quiet_skip | quiet_step (skip))
   refine wpQuiet_nil ?_;intro _ hw';obtain ⟨p2,hw2⟩:=hw';subst hw2;refine wpAny_ready (rs:=[6]) (by kernel_rfl) (by simp) ?_;refine AllReady.cons rfl (fun K hK=>?_) AllReady.nil
   go_simp
   refine (HCM.out p2).mono ?_;rintro e w3 (⟨rfl,s',hP,h1,h2⟩ | ⟨rfl,s',hP,h1,h2⟩)
   · have HL3:Hid (LogAt w3 g l false):=(HL2.out.keep (Oth.of_only p2.ho)).keep h2
     have HO3:Hid (Oth w w3):=(HOT2.out.trans (Oth.of_only p2.ho)).trans h2;have HD3:Hid (Ds g w3 s'):=h1;have HP:Hid (CommP s h (blkT L) 0 s'):=hP;clear h1 h2 hP y0 y1 y2 y4;refine hK _ _ ?_;clear hK K;refine wpAny_ready (rs:=[7]) (by kernel_rfl) (by simp) ?_;refine AllReady.cons rfl (fun K hK=>?_) AllReady.nil
     go_simp
     refine hK _ _ ?_;clear hK K;refine wpAny_done (by kernel_rfl) ?_ _;obtain ⟨l0,l1,l2,l3⟩:=HL3.out.cells
     go_wp2
     go_ret
     exact Or.inr ⟨HWf.out,0,s',rfl,HP.out,HD3.out.poke HL3.out.blk (by decide) (by decide) (by decide) HL3.out.ge _ _,HL3.out.set false,HO3.out.toL.trans (HL3.out.oth _ _)⟩
   · have HL3:Hid (LogAt w3 g l false):=(HL2.out.keep (Oth.of_only p2.ho)).keep h2
     have HO3:Hid (Oth w w3):=(HOT2.out.trans (Oth.of_only p2.ho)).trans h2;have HD3:Hid (Ds g w3 s'):=h1;have HP:Hid (CommP s h (blkT L) 15 s'):=hP;clear h1 h2 hP y0 y1 y2 y4;refine hK _ _ ?_;clear hK K;refine wpAny_ready (rs:=[7]) (by kernel_rfl) (by simp) ?_;refine AllReady.cons rfl (fun K hK=>?_) AllReady.nil
     go_simp
     refine hK _ _ ?_;clear hK K;refine wpAny_done (by kernel_rfl) ?_ _;obtain ⟨l0,l1,l2,l3⟩:=HL3.out.cells
     go_wp2
     go_ret
     exact Or.inr ⟨HWf.out,15,s',rfl,HP.out,HD3.out.poke HL3.out.blk (by decide) (by decide) (by decide) HL3.out.ge _ _,HL3.out.set true,HO3.out.toL.trans (HL3.out.oth _ _)⟩
end
def LogOk (sec:List Sec)(R:List (List UInt8))(n:Nat):Prop:=∃ (h:Hd) (Ls:List (List (List UInt8))),newestL sec=some h∧textOf h sec=(Ls.map fun L=>fillT (blkT L)).flatten∧R=Ls.flatten∧(∀ L∈Ls,BkOk L)∧h.used*64≤64+64*n+wgt R
theorem LogOk.recs {sec:List Sec}{R:List (List UInt8)}{n:Nat}(h:LogOk sec R n):∃ h,newestL sec=some h∧recsOf h sec=some R:=by
 obtain ⟨h,Ls,h1,h2,rfl,h4,_⟩:=h;refine ⟨h,h1,?_⟩;unfold recsOf rAll;rw [h2,rBlks_read h4 [] _ (Nat.le_refl _)];simp
theorem padB_take (l:List UInt8)(h:l.length≤64)(k:Nat)(hk:k≤l.length):(padB (bs l)).1.take k=l.take k:=by
 simp only [padB,bs];rw [List.take_take,Nat.min_eq_left (by omega),List.take_append_of_le_length (by simpa using hk)]
theorem padB_part (l:List UInt8)(h:l.length≤64)(j k:Nat)(hk:j+k≤l.length):((padB (bs l)).1.drop j).take k=(l.drop j).take k:=by
 have e:∀ m:List UInt8,(m.drop j).take k=(m.take (j+k)).drop j:=fun m=>by rw [List.drop_take];congr 1;omega
 rw [e,e,padB_take l h (j+k) hk]
theorem hdRead_hdT {h:Hd}(hk:h.Ok):hdRead (padB (bs (hdT h)))=h∧isMark (padB (bs (hdT h)))=true:=by
 have hl:=hdT_len h;have p:=fun j k (hk:j+k≤28)=>padB_part (hdT h) (by omega) j k (by omega)
 have e1:((hdT h).drop 16).take 4=wd h.calls:=by simp [hdT,markL,wd]
 have e2:((hdT h).drop 20).take 4=wd h.half:=by simp [hdT,markL,wd]
 have e3:((hdT h).drop 24).take 4=wd h.used:=by simp [hdT,markL,wd]
 refine ⟨?_,?_⟩
 · unfold hdRead
   rw [p 16 4 (by decide),p 20 4 (by decide),p 24 4 (by decide),e1,e2,e3,unwd_wd hk.calls,unwd_wd hk.half,unwd_wd hk.used]
 · unfold isMark
   rw [padB_take (hdT h) (by omega) 16 (by omega)];simp [hdT,markL]
theorem headAt_set {sec:List Sec}{h:Hd}(hk:h.Ok)(hf:h.fits sec.length=true)(hN:2≤sec.length):headAt (sec.set (h.calls % 2) (padB (bs (hdT h)))) (h.calls % 2)=some h:=by
 obtain ⟨r1,r2⟩:=hdRead_hdT hk;unfold headAt;rw [List.getElem?_set_self (by omega),List.length_set,Option.bind_some];unfold hdOf;rw [r1,r2,hf];simp
theorem headAt_same {sec sec':List Sec}{i:Nat}(h:sec'[i]?=sec[i]?)(hl:sec'.length=sec.length):headAt sec' i=headAt sec i:=by
 unfold headAt;rw [h,hl]
theorem newest_pick {sec:List Sec}{h h':Hd}(h1:headAt sec (h.calls % 2)=some h)(h2:headAt sec (h'.calls % 2)=some h')(hc:h'.calls=(h.calls+1) % 4294967296)(hb:h.calls < 4294967296):newestL sec=some h':=by
 have hp:h.calls % 2=0∧h'.calls % 2=1∨h.calls % 2=1∧h'.calls % 2=0:=by omega
 unfold newestL;rcases hp with ⟨e1,e2⟩ | ⟨e1,e2⟩
 · rw [e1] at h1
   rw [e2] at h2
   have hbh:h'.behind h=true:=by unfold Hd.behind;apply decide_eq_true;omega
   simp [h1,h2,hbh]
 · rw [e1] at h1
   rw [e2] at h2
   have hbh:h.behind h'=false:=by unfold Hd.behind;apply decide_eq_false;omega
   simp [h1,h2,hbh]
theorem newest_near {sec s:List Sec}{a k:Nat}(hn:Near sec a k s)(ha:2≤a):newestL s=newestL sec:=by
 unfold newestL;rw [headAt_same (hn.2 0 (by omega)) hn.1,headAt_same (hn.2 1 (by omega)) hn.1]
theorem text_near {sec s:List Sec}{a k:Nat}{h:Hd}(hn:Near sec a k s)(hd:h.first sec.length+h.used≤a∨a+k≤h.first sec.length):textOf h s=textOf h sec:=by
 unfold textOf;rw [hn.1];congr 1;apply List.ext_getElem?;intro i;simp only [List.getElem?_take,List.getElem?_drop]
 split
 · exact hn.2 _ (by omega)
 · rfl
theorem LogOk.near {sec s:List Sec}{R:List (List UInt8)}{n a k:Nat}{h:Hd}(hl:LogOk sec R n)(hh:newestL sec=some h)(hn:Near sec a k s)(ha:2≤a)(hd:h.first sec.length+h.used≤a∨a+k≤h.first sec.length):LogOk s R n:=by
 obtain ⟨h',Ls,h1,h2,h3,h4,h5⟩:=hl;obtain rfl:h=h':=Option.some.inj (hh.symm.trans h1);exact ⟨h,Ls,(newest_near hn ha).trans h1,(text_near hn hd).trans h2,h3,h4,h5⟩
theorem text_put {sec:List Sec}{h:Hd}{T:List UInt8}(hN:2≤h.first sec.length)(hfit:h.first sec.length+h.used+secsN T.length≤sec.length):textOf (hdN h T) (secB sec h T)=textOf h sec++fillT T:=by
 have hlen:(secB sec h T).length=sec.length:=by unfold secB secA;rw [List.length_set,putAt_len]
 have hF:(hdN h T).first (secB sec h T).length=h.first sec.length:=by rw [hlen];rfl
 unfold textOf;rw [hF,← pieces_fill,← concatS_app];congr 1;show ((secB sec h T).drop _).take (h.used+secsN T.length)=_;apply List.ext_getElem?;intro i
 have hl2:((sec.drop (h.first sec.length)).take h.used).length=h.used:=by simp;omega
 have hs:∀ j,(secB sec h T)[h.first sec.length+j]?=(secA sec h T)[h.first sec.length+j]?:=fun j=>by
   unfold secB;rw [List.getElem?_set_ne (by omega)]
 rw [List.getElem?_append,hl2,List.getElem?_take,List.getElem?_drop,hs];unfold secA
 by_cases hi:i < h.used
 · rw [if_pos hi,if_pos (by omega),putAt_other _ _ _ _ (by omega),List.getElem?_take,if_pos hi,List.getElem?_drop]
 · rw [if_neg hi]
   by_cases hi2:i < h.used+secsN T.length
   · rw [if_pos hi2]
     have:=putAt_in sec (h.first sec.length+h.used) (piecesS T (secsN T.length)) (i - h.used) (by rw [piecesS_len];omega) (by rw [piecesS_len];omega);rw [← this];congr 1;omega
   · rw [if_neg hi2]
     symm
     rw [List.getElem?_eq_none_iff,piecesS_len];omega
theorem wgt_len (L:List (List UInt8)):16*L.length≤wgt L∧∀ s∈L,s.length≤wgt L:=by
 induction L with
 | nil=>exact ⟨Nat.zero_le _,fun s hs=>by cases hs⟩
 | cons s L ih =>
  have e:wgt (s::L)=16+s.length+wgt L:=by simp [wgt]
  refine ⟨by rw [e,List.length_cons];omega,fun x hx=>?_⟩;rcases List.mem_cons.1 hx with rfl | hx
  · omega
  · have:=ih.2 x hx
    omega
theorem next_log {sec:List Sec}{h h1:Hd}{L:List (List UInt8)}{Ls:List (List (List UInt8))}{n:Nat}(hm:sec.length≤4000)(hh:newestL sec=some h)(hc:h1.calls=(h.calls+1) % 4294967296)(hh1:h1.half≤1)(hu:h1.used+secsN (blkT L).length≤(sec.length - 2) / 2)
   (hx:textOf h1 sec=(Ls.map fun L=>fillT (blkT L)).flatten) (hb:∀ L∈Ls,BkOk L) (htk:(h1.used+secsN (blkT L).length)*64≤64+64*n+wgt (Ls.flatten++L)):LogOk (secB sec h1 (blkT L)) (Ls.flatten++L) n:=by
 obtain ⟨k1,k2,k3⟩:=newest_read hh;obtain ⟨f1,f2,f3⟩:=Hd.fits_iff k2;have hroom:h1.first sec.length+h1.used+secsN (blkT L).length≤sec.length:=half_room hh1 f1 hu
 have hlenA:(secA sec h1 (blkT L)).length=sec.length:=by unfold secA;rw [putAt_len]
 have hF2:2≤h1.first sec.length:=by unfold Hd.first;omega
 have hfit:(hdN h1 (blkT L)).fits sec.length=true:=by
   unfold Hd.fits hdN;exact decide_eq_true ⟨f1,hh1,hu⟩
 have hok:(hdN h1 (blkT L)).Ok:=⟨by show h1.calls < _;omega,by show h1.half < _;omega,by show h1.used+secsN (blkT L).length < _;omega⟩
 have hA:∀ i,i < 2→(secA sec h1 (blkT L))[i]?=sec[i]?:=fun i hi=>by unfold secA;exact putAt_other _ _ _ _ (by omega)
 have hnew:newestL (secB sec h1 (blkT L))=some (hdN h1 (blkT L)):=by
   refine newest_pick (h:=h) ?_ ?_ hc k1.calls
   · unfold secB
     rw [headAt_same (sec:=sec) ?_ (by rw [List.length_set,hlenA]),k3];rw [List.getElem?_set_ne (by omega),hA _ (by omega)]
   · have:=headAt_set (sec:=secA sec h1 (blkT L)) hok (by rw [hlenA];exact hfit) (by omega)
     exact this
 refine ⟨hdN h1 (blkT L),Ls++[L],hnew,?_,by simp,fun M hM=>?_,htk⟩
 · rw [text_put hF2 hroom,hx]
   simp
 · rcases List.mem_append.1 hM with hM | hM
   · exact hb M hM
   · obtain rfl:=List.mem_singleton.1 hM
     have h7:=wgt_len M;have h8:=blkT_len M
     have h9:(blkT M).length≤128000:=by unfold secsN at hu;omega
     exact ⟨by omega,fun s hs=>by have:=h7.2 s hs;omega⟩
theorem clear_log {sec:List Sec}{R L:List (List UInt8)}{n:Nat}{h:Hd}(hm:sec.length≤4000)(hl:LogOk sec R n)(hh:newestL sec=some h)(ht:secsN (blkT L).length≤(sec.length - 2) / 2):
   LogOk (secB sec h.emptied (blkT L)) L 0∧∀ s,Near sec (h.emptied.first sec.length+h.emptied.used) (secsN (blkT L).length) s→LogOk s R n:=by
 obtain ⟨k1,k2,k3⟩:=newest_read hh;obtain ⟨f1,f2,f3⟩:=Hd.fits_iff k2;have hsf:=secs_fit L;have h0:h.emptied.used=0:=rfl;refine ⟨?_,fun s hn=>hl.near hh hn ?_ ?_⟩
 · have:=next_log (h1:=h.emptied) (L:=L) (Ls:=[]) (n:=0) hm hh rfl (by show 1 - h.half≤1;omega) (by rw [h0];omega) (by unfold textOf;rw [h0];rfl) (fun L hL=>by cases hL) (by rw [h0];simpa using hsf)
   simpa using this
 · show 2≤2+(1 - h.half)*((sec.length - 2) / 2)+0
   omega
 · show 2+h.half*((sec.length - 2) / 2)+h.used≤2+(1 - h.half)*((sec.length - 2) / 2)+0∨2+(1 - h.half)*((sec.length - 2) / 2)+0+secsN (blkT L).length≤2+h.half*((sec.length - 2) / 2)
   have h6:h.half=0∨h.half=1:=by omega
   rcases h6 with h6 | h6<;>rw [h6]<;>omega
def roomS (sec:List Sec)(c:Bool)(L:List (List UInt8)):Prop:=(if c then 0 else ((newestL sec).getD Hd.zero).used)+secsN (blkT L).length≤(sec.length - 2) / 2
theorem new_log {N:Nat}(h1:8≤N)(h2:N≤4000):LogOk ((List.replicate N zeroS).set (Hd.zero.emptied.calls % 2) (padB (bs (hdT Hd.zero.emptied)))) [] 0:=by
 have e1:Hd.zero.emptied=⟨1,1,0⟩:=rfl;have hok:Hd.zero.emptied.Ok:=⟨by decide,by decide,by decide⟩
 have hlen:(List.replicate N zeroS).length=N:=by simp
 have hfit:Hd.zero.emptied.fits (List.replicate N zeroS).length=true:=by
   rw [hlen,e1];unfold Hd.fits;apply decide_eq_true;exact ⟨h1,by decide,Nat.zero_le _⟩
 have hs:=headAt_set (sec:=List.replicate N zeroS) hok hfit (by omega)
 have hz:headAt ((List.replicate N zeroS).set (Hd.zero.emptied.calls % 2) (padB (bs (hdT Hd.zero.emptied)))) 0=none:=by
   have e2:Hd.zero.emptied.calls % 2=1:=rfl;rw [e2];unfold headAt;rw [List.getElem?_set_ne (by decide),List.getElem?_replicate,if_pos (by omega),Option.bind_some];unfold hdOf
   have:isMark zeroS=false:=by decide
   rw [this];rfl
 refine ⟨Hd.zero.emptied,[],?_,?_,rfl,(fun L hL=>by cases hL),by decide⟩
 · have e2:Hd.zero.emptied.calls % 2=1:=rfl
   unfold newestL;rw [hz];rw [e2] at hs ⊢;rw [hs]
 · unfold textOf
   rfl
theorem newest_zero (N:Nat):newestL (List.replicate N zeroS)=none:=by
 have:∀ i,headAt (List.replicate N zeroS) i=none:=fun i=>by
  unfold headAt;rw [List.getElem?_replicate]
  split
  · unfold hdOf
    have:isMark zeroS=false:=by decide
    rw [Option.bind_some,this];rfl
  · rfl
 unfold newestL;rw [this 0,this 1]
def crashS (keep:Nat→Bool)(s:DSt):List Sec:=redo keep s.wt (undo s.sec s.wt) s.wt.length
def ActP (s:DSt)(R R':List (List UInt8))(n n':Nat)(r:Prop)(c:Nat)(dark':Bool)(s':DSt):Prop :=
 (c=9∧dark'=false∧s'=s∧¬ r) ∨
 (c=0∧dark'=false∧s'.wt=[]∧LogOk s'.sec R' n'∧s'.sec.length=s.sec.length∧(s.pw=none→s'.pw=none)∧r) ∨
 (c=15∧dark'=true∧s.pw≠none∧s'.wt.length≤5000∧s'.sec.length=s.sec.length∧∀ keep,LogOk (crashS keep s') R n∨LogOk (crashS keep s') R' n')
def ActR (g:Dv)(w w':World)(l:Nat)(s:DSt)(R R':List (List UInt8))(n n':Nat)(r:Prop)(e:Ending):Prop :=
 ∃ c dark' s',e = .returned (errN g.A c)∧ActP s R R' n n' r c dark' s'∧Ds g w' s'∧LogAt w' g l dark'∧OthL w w'
theorem secB_len (sec:List Sec)(h:Hd)(T:List UInt8):(secB sec h T).length=sec.length:=by unfold secB secA;rw [List.length_set,putAt_len]
theorem crash_len {s':DSt}{N:Nat}(keep:Nat→Bool)(h:(crashS keep s').length=N):s'.sec.length=N:=by rw [← h,crashS,redo_len,undo_len]
section
variable {g:Dv}{w w':World}{s:DSt}{l:Nat}
theorem act_of_write {h1:Hd}{L R R':List (List UInt8)}{n n':Nat}{r:Prop}{w0:World}{e:Ending}(ho:Only [] w w0)(hr:WrR g w0 w' s l h1 L e)(hrr:r↔h1.used+secsN (blkT L).length≤(s.sec.length - 2) / 2)
   (hn:h1.used+secsN (blkT L).length≤(s.sec.length - 2) / 2→LogOk (secB s.sec h1 (blkT L)) R' n'∧∀ q,Near s.sec (h1.first s.sec.length+h1.used) (secsN (blkT L).length) q→LogOk q R n):∃ v,e = .returned v∧ActR g w w' l s R R' n n' r (.returned v):=by
 rcases hr with ⟨a,rfl,b,c,d⟩ | ⟨a,c,s',rfl,hP,h2,h3,h4⟩
 · exact ⟨_,rfl,9,false,s,rfl,Or.inl ⟨rfl,rfl,rfl,fun e=>by have:=hrr.1 e;omega⟩,b,c,(OthL.of_only ho).trans d⟩
 · obtain ⟨q1,q2⟩:=hn a
   refine ⟨_,rfl,c,_,s',rfl,?_,h2,h3,(OthL.of_only ho).trans h4⟩;rcases hP with ⟨rfl,p1,p2,p3⟩ | ⟨rfl,p1,p2,p3⟩
   · refine Or.inr (Or.inr ⟨rfl,rfl,p1,p2,?_,fun keep=>?_⟩)
     · rcases p3 (fun _=>false) with p3 | p3
       · exact crash_len (fun _=>false) p3.1
       · exact crash_len (fun _=>false) ((congrArg List.length p3).trans (secB_len _ _ _))
     · rcases p3 keep with p3 | p3
       · exact Or.inl (q2 _ p3)
       · refine Or.inr ?_
         show LogOk (redo keep s'.wt (undo s'.sec s'.wt) s'.wt.length) R' n';rw [p3];exact q1
   · exact Or.inr (Or.inl ⟨rfl,rfl,p2,by rw [p1];exact q1,by rw [p1,secB_len],p3,hrr.2 a⟩)
theorem lclear_lit (hd:Ds g w s)(hl:LogAt w g l false)(hw:s.wt=[]){R:List (List UInt8)}{n:Nat}(hlog:LogOk s.sec R n)(ad:Option Addr)(cap:Nat)(L:List (List UInt8))(hT:TxIn w ad L)(hL:L.length≤2000000)(hW:wgt L < 4000000000):
  Calls Tryz.prog 53 #[.pointer (some ⟨l,0,none⟩),.slice ad L.length cap] w fun e w'=>ActR g w w' l s R (L) n (0) (roomS s.sec true L) e:=by
 have hlog0:=hlog;have hmost:=hd.most.2;obtain ⟨h,Ls,e1,e2,e3,e4,e5⟩:=hlog;obtain ⟨k1,k2,k3⟩:=newest_read e1;obtain ⟨f1,f2,f3⟩:=Hd.fits_iff k2
 have hrs:∀ c,roomS s.sec c L↔(if c then 0 else h.used)+secsN (blkT L).length≤(s.sec.length - 2) / 2:=fun c=>by unfold roomS;rw [e1,Option.getD_some]
 have H:Hid (Calls Tryz.prog 110 #[.pointer (some ⟨l,0,none⟩)] w fun e w'=>e = .returned (.tuple #[hdV h,.nilIface])∧Only [] w w'):=lhead_lit hd hl h e1;have HC:Hid (∀ W,Only [] w W→Calls Tryz.prog 93 #[hdV h] W fun e w'=>e = .returned (hdV h.emptied)∧Only [] w w'):=fun W ho=>(emptied_ok W h k1 f2).mono fun e w' q=>⟨q.1,ho.trans q.2 (fun _ h=>by cases h)⟩;have HW:Hid (∀ W,Only [] w W→Calls Tryz.prog 111 #[.pointer (some ⟨l,0,none⟩),hdV h.emptied,.slice ad L.length cap] W fun e w'=>∃ v,e = .returned v∧ActR g w w' l s R (L) n (0) (roomS s.sec true L) (.returned v)):=fun W ho=>(lwrite_any (hd.keep ho) (hl.keep (Oth.of_only ho)) h.emptied ⟨Nat.mod_lt _ (by decide),by show 1 - h.half < 4294967296;omega,by show 0 < 4294967296;omega⟩ (by show 1 - h.half≤1;omega) f1 hw ad cap L (hT.only ho) hL (by omega)).mono fun e w' q=>act_of_write ho q (hrs true) (fun ht=>clear_log hmost hlog0 e1 (by have e0:h.emptied.used=0:=rfl;omega));clear hd hl hw hlog0 hT k1 k2 k3 e1 e2 e3 e4 e5 hrs
 go_enter Tryz.func53,Tryz.ntmps53
 go_upto_region 4 with (go_at_call 110;refine H.out.mono ?_;rintro e w1 ⟨rfl,h1⟩;have HO:Hid (Only [] w (w1.alloc (hdO h))):=h1.alloc _;clear h1)
 obtain ⟨q0,q1,q2,q4,q5⟩:=cells3 (heap_alloc_last w1 (hdO h));generalize w1.heap.size=hb at q0 q1 q2 q4 q5 ⊢;generalize w1.alloc (hdO h)=W1 at q0 q1 q2 q4 q5 HO ⊢
 go_wp2_with (first
  | (go_at_call 93;refine (HC.out _ HO.out).mono ?_;rintro e w2 ⟨rfl,h1⟩;have HO2:Hid (Only [] w w2):=h1;clear h1)
  | (go_at_call 111;refine (HW.out _ HO2.out).mono ?_;rintro e w3 ⟨v,rfl,h1⟩;have HR:Hid (ActR g w w3 l s R (L) n (0) (roomS s.sec true L) (.returned v)):=h1;clear h1))
 go_ret
 exact HR.out
end
end
end Go.Proofs.YtmnidbnaneagjaaGreatDoor
