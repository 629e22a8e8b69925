import Derived.Test.YtmnidbnaneagjaaGreatDoorK37
set_option maxRecDepth 100000
set_option maxHeartbeats 8000000
namespace Go.Proofs.YtmnidbnaneagjaaGreatDoor
section
open Go Go.RowKit Go.Deep
def SaveP (s:DSt)(n:Nat)(p:Sec)(c:Nat)(s':DSt):Prop :=
 (c=15∧s.pw≠none∧s'=s)∨(c=15∧s.pw≠none∧∃ x0,s.sec[n]?=some x0∧s'.sec=s.sec.set n p∧s'.wt=s.wt++[⟨n,x0,p⟩])∨(c=0∧s'.sec=s.sec.set n p∧s'.wt=[]∧(s.pw=none→s'.pw=none))
def SaveR (g:Dv)(w w':World)(s:DSt)(n:Nat)(p:Sec)(e:Ending):Prop:=∃ c s',e = .returned (errN g.A c)∧SaveP s n p c s'∧Ds g w' s'∧Oth w w'
section
variable {g:Dv}{w:World}{s:DSt}
theorem save_dark (hd:Ds g w s)(h:Hd)(hk:h.Ok)(hN:2≤s.sec.length)(hp:s.pw=some 0):
  Calls Tryz.prog 94 #[hdV h,.pointer (some ⟨g.t,0,none⟩)] w fun e w'=>SaveR g w w' s (h.calls % 2) (padB (bs (hdT h))) e:=by
 have hc1:=hk.calls;obtain ⟨wb,hwb⟩:∃ wb,w.alloc (hdO h)=wb:=⟨_,rfl⟩
 have o0:Only [] w wb:=by rw [← hwb];exact (Only.refl [] w).alloc _
 have e0:wb.heap[w.heap.size]?=some (.cells #[.int .u32 (h.calls:Nat),.int .i64 (h.half:Nat),.int .i64 (h.used:Nat)] 131 (0,0)):=by rw [← hwb];exact heap_alloc_last w _
 haveI:Nonempty (OnlyBy wb):=⟨⟨_,Only.refl _ _⟩⟩
 have y0:∀ p:OnlyBy wb,p.w.cell? ⟨w.heap.size,0,none⟩=some (.int .u32 (h.calls:Nat)):=fun p=>(cells3 (kept3 e0 p.ho)).1;have y1:∀ p:OnlyBy wb,p.w.cell? ⟨w.heap.size,1,none⟩=some (.int .i64 (h.half:Nat)):=fun p=>(cells3 (kept3 e0 p.ho)).2.1;have y2:∀ p:OnlyBy wb,p.w.cell? ⟨w.heap.size,2,none⟩=some (.int .i64 (h.used:Nat)):=fun p=>(cells3 (kept3 e0 p.ho)).2.2.1;have HSL:Hid (∀ p:OnlyBy wb,Calls Tryz.prog 96 #[hdV h] p.w fun e w'=>e = .returned (.int .i64 (h.calls % 2:Nat))∧Only [] p.w w'):=fun p=>slot_ok p.w h hk;have HWD:Hid (∀ (p:OnlyBy wb) (n:Nat),Calls Tryz.prog 145 #[.int .i64 (n:Nat)] p.w fun e w'=>e = .returned (.string (bs (wd n)))∧Only [] p.w w'):=fun p n=>word_ok p.w n
 have hwl:∀ n,(bs (wd n)).size=4:=fun n=>by rw [bs_size,wd_len]
 have a1:∀ W:World,(Op.stringOp .add (⟨#[112,105,103,101,111,110,104,111,108,101,115,32,108,111,103,10]⟩:ByteArray) (bs (wd h.calls))).run Tryz.prog W = .ok (.string ((⟨#[112,105,103,101,111,110,104,111,108,101,115,32,108,111,103,10]⟩:ByteArray)++bs (wd h.calls))) W:=fun W=>run_string_add W _ _ (by decide) (by rw [hwl];decide);obtain ⟨X1,hX1⟩:∃ X1,(⟨#[112,105,103,101,111,110,104,111,108,101,115,32,108,111,103,10]⟩:ByteArray)++bs (wd h.calls)=X1:=⟨_,rfl⟩
 have l1:X1.size=20:=by rw [← hX1,ByteArray.size_append,hwl];rfl
 have a2:∀ W:World,(Op.stringOp .add X1 (bs (wd h.half))).run Tryz.prog W = .ok (.string (X1++bs (wd h.half))) W:=fun W=>run_string_add W _ _ (by omega) (by rw [hwl];decide);obtain ⟨X2,hX2⟩:∃ X2,X1++bs (wd h.half)=X2:=⟨_,rfl⟩
 have l2:X2.size=24:=by rw [← hX2,ByteArray.size_append,hwl,l1]
 have a3:∀ W:World,(Op.stringOp .add X2 (bs (wd h.used))).run Tryz.prog W = .ok (.string (X2++bs (wd h.used))) W:=fun W=>run_string_add W _ _ (by omega) (by rw [hwl];decide)
 have hX3:X2++bs (wd h.used)=bs (hdT h):=by rw [← hX2,← hX1];exact hdT_is h
 rw [hX1] at a1;rw [hX2] at a2;rw [hX3] at a3
 have hsz:(bs (hdT h)).size≤64:=by rw [bs_size,hdT_len];decide
 have HWR:Hid (∀ p:OnlyBy wb,Calls Tryz.prog 30 #[.pointer (some ⟨g.t,0,none⟩),.int .i64 (h.calls % 2:Nat),.string (bs (hdT h))] p.w fun e w'=>e = .returned (.iface 535 (.pointer (some (g.A 14))))∧w'=p.w):=fun p=>((hd.keep o0).keep p.ho).write_dark _ _ (by omega) hsz hp;have HF:Hid (∀ p:OnlyBy wb,SaveR g w p.w s (h.calls % 2) (padB (bs (hdT h))) (.returned (.iface 535 (.pointer (some (g.A 14)))))):=fun p=>⟨15,s,rfl,Or.inl ⟨rfl,by rw [hp];simp,rfl⟩,(hd.keep o0).keep p.ho,(Oth.of_only o0).trans (Oth.of_only p.ho)⟩
 have hw64:IntKind.i64.wrap ((h.calls:Nat):Int)=((h.calls:Nat):Int):=by rw [IntKind.wrap_i64];omega
 generalize bs (hdT h)=X4 at a3 HWR HF ⊢;generalize h.calls % 2=n2 at HSL HWR HF ⊢;clear hd hk hN hwl hsz hX1 hX2 hX3 o0 e0 l1 l2 hp
 go_enter Tryz.func94,Tryz.ntmps94
 go_upto_region 1 with (fail)
 clear hwb;refine wp_region_any (by kernel_rfl) ?_
 change wpAny _ _ _ _ _ _ _ (World.drew _)
 refine wpAny_pre2 (w0:=wb) (k0:=0) 16 2 _ rfl (by decide) (by kernel_rfl) (by kernel_rfl) (by kernel_rfl) (by kernel_rfl) (Only.refl [] _).drew ?_;simp only [List.drop_zero,List.take_succ_cons,List.take_zero]
 repeat (first | go_big_quiet_skip | quiet_step ((first
  | (go_at_call 96;refine Calls.only_of (HSL.out _))
  | (go_at_call 145;refine Calls.only_of (HWD.out _ _)))))
 refine wpQuiet_nil ?_;intro _ hw';obtain ⟨p,hw2⟩:=hw';subst hw2;refine wpAny_ready (rs:=[16]) (by kernel_rfl) (by simp) ?_;refine AllReady.cons rfl (fun K hK=>?_) AllReady.nil
 go_simp
 refine (HWR.out p).mono ?_;rintro e w1 ⟨rfl,h0⟩;have h1:=h0.symm;subst h1;clear h0;refine hK _ _ ?_;clear hK K;refine wpAny_ready (rs:=[17]) (by kernel_rfl) (by simp) ?_;refine AllReady.cons rfl (fun K hK=>?_) AllReady.nil
 go_simp
 refine hK _ _ ?_;clear hK K;refine wpAny_done (by kernel_rfl) ?_ _
 go_wp2
 go_ret
 exact HF.out p
theorem save_one (hd:Ds g w s)(h:Hd)(hk:h.Ok)(hN:2≤s.sec.length)(hp:s.pw≠some 0)(hp1:s.pw.map (· - 1)=some 0)(hwl0:s.wt.length≤100000):
  Calls Tryz.prog 94 #[hdV h,.pointer (some ⟨g.t,0,none⟩)] w fun e w'=>SaveR g w w' s (h.calls % 2) (padB (bs (hdT h))) e:=by
 have hc1:=hk.calls;obtain ⟨wb,hwb⟩:∃ wb,w.alloc (hdO h)=wb:=⟨_,rfl⟩
 have o0:Only [] w wb:=by rw [← hwb];exact (Only.refl [] w).alloc _
 have e0:wb.heap[w.heap.size]?=some (.cells #[.int .u32 (h.calls:Nat),.int .i64 (h.half:Nat),.int .i64 (h.used:Nat)] 131 (0,0)):=by rw [← hwb];exact heap_alloc_last w _
 haveI:Nonempty (OnlyBy wb):=⟨⟨_,Only.refl _ _⟩⟩
 have y0:∀ p:OnlyBy wb,p.w.cell? ⟨w.heap.size,0,none⟩=some (.int .u32 (h.calls:Nat)):=fun p=>(cells3 (kept3 e0 p.ho)).1;have y1:∀ p:OnlyBy wb,p.w.cell? ⟨w.heap.size,1,none⟩=some (.int .i64 (h.half:Nat)):=fun p=>(cells3 (kept3 e0 p.ho)).2.1;have y2:∀ p:OnlyBy wb,p.w.cell? ⟨w.heap.size,2,none⟩=some (.int .i64 (h.used:Nat)):=fun p=>(cells3 (kept3 e0 p.ho)).2.2.1;have HSL:Hid (∀ p:OnlyBy wb,Calls Tryz.prog 96 #[hdV h] p.w fun e w'=>e = .returned (.int .i64 (h.calls % 2:Nat))∧Only [] p.w w'):=fun p=>slot_ok p.w h hk;have HWD:Hid (∀ (p:OnlyBy wb) (n:Nat),Calls Tryz.prog 145 #[.int .i64 (n:Nat)] p.w fun e w'=>e = .returned (.string (bs (wd n)))∧Only [] p.w w'):=fun p n=>word_ok p.w n
 have hwl:∀ n,(bs (wd n)).size=4:=fun n=>by rw [bs_size,wd_len]
 have a1:∀ W:World,(Op.stringOp .add (⟨#[112,105,103,101,111,110,104,111,108,101,115,32,108,111,103,10]⟩:ByteArray) (bs (wd h.calls))).run Tryz.prog W = .ok (.string ((⟨#[112,105,103,101,111,110,104,111,108,101,115,32,108,111,103,10]⟩:ByteArray)++bs (wd h.calls))) W:=fun W=>run_string_add W _ _ (by decide) (by rw [hwl];decide);obtain ⟨X1,hX1⟩:∃ X1,(⟨#[112,105,103,101,111,110,104,111,108,101,115,32,108,111,103,10]⟩:ByteArray)++bs (wd h.calls)=X1:=⟨_,rfl⟩
 have l1:X1.size=20:=by rw [← hX1,ByteArray.size_append,hwl];rfl
 have a2:∀ W:World,(Op.stringOp .add X1 (bs (wd h.half))).run Tryz.prog W = .ok (.string (X1++bs (wd h.half))) W:=fun W=>run_string_add W _ _ (by omega) (by rw [hwl];decide);obtain ⟨X2,hX2⟩:∃ X2,X1++bs (wd h.half)=X2:=⟨_,rfl⟩
 have l2:X2.size=24:=by rw [← hX2,ByteArray.size_append,hwl,l1]
 have a3:∀ W:World,(Op.stringOp .add X2 (bs (wd h.used))).run Tryz.prog W = .ok (.string (X2++bs (wd h.used))) W:=fun W=>run_string_add W _ _ (by omega) (by rw [hwl];decide)
 have hX3:X2++bs (wd h.used)=bs (hdT h):=by rw [← hX2,← hX1];exact hdT_is h
 rw [hX1] at a1;rw [hX2] at a2;rw [hX3] at a3
 have hsz:(bs (hdT h)).size≤64:=by rw [bs_size,hdT_len];decide
 obtain ⟨x0,hx0⟩:∃ x0,s.sec[h.calls % 2]?=some x0:=⟨s.sec[h.calls % 2]'(by omega),List.getElem?_eq_getElem _⟩;have HWR:Hid (∀ p:OnlyBy wb,Calls Tryz.prog 30 #[.pointer (some ⟨g.t,0,none⟩),.int .i64 (h.calls % 2:Nat),.string (bs (hdT h))] p.w fun e w'=>e = .returned .nilIface∧Ds g w' ⟨s.pw.map (· - 1),s.sec.set (h.calls % 2) (padB (bs (hdT h))),s.wt++[⟨h.calls % 2,x0,padB (bs (hdT h))⟩]⟩∧Oth w w'):=fun p=>(((hd.keep o0).keep p.ho).write_lit _ _ x0 hx0 hsz hp hwl0).mono fun e w' q=>⟨q.1,q.2.1,((Oth.of_only o0).trans (Oth.of_only p.ho)).trans q.2.2⟩;have HFL:Hid (∀ w1,Ds g w1 ⟨s.pw.map (· - 1),s.sec.set (h.calls % 2) (padB (bs (hdT h))),s.wt++[⟨h.calls % 2,x0,padB (bs (hdT h))⟩]⟩→Calls Tryz.prog 31 #[.pointer (some ⟨g.t,0,none⟩)] w1 fun e w'=>e = .returned (.iface 535 (.pointer (some (g.A 14))))∧w'=w1):=fun w1 h1=>h1.flush_dark hp1;have HF:Hid (∀ w1,Ds g w1 ⟨s.pw.map (· - 1),s.sec.set (h.calls % 2) (padB (bs (hdT h))),s.wt++[⟨h.calls % 2,x0,padB (bs (hdT h))⟩]⟩→Oth w w1→SaveR g w w1 s (h.calls % 2) (padB (bs (hdT h))) (.returned (.iface 535 (.pointer (some (g.A 14)))))):=fun w1 h1 h2=>⟨15,⟨s.pw.map (· - 1),s.sec.set (h.calls % 2) (padB (bs (hdT h))),s.wt++[⟨h.calls % 2,x0,padB (bs (hdT h))⟩]⟩,rfl,Or.inr (Or.inl ⟨rfl,(fun e=>(by rw [e] at hp1;cases hp1)),x0,hx0,rfl,rfl⟩),h1,h2⟩
 have hw64:IntKind.i64.wrap ((h.calls:Nat):Int)=((h.calls:Nat):Int):=by rw [IntKind.wrap_i64];omega
 generalize bs (hdT h)=X4 at a3 HWR HFL HF ⊢;generalize h.calls % 2=n2 at HSL HWR HFL HF ⊢;clear hd hk hN hwl hsz hX1 hX2 hX3 o0 e0 l1 l2 hp hp1 hwl0 hx0
 go_enter Tryz.func94,Tryz.ntmps94
 go_upto_region 1 with (fail)
 clear hwb;refine wp_region_any (by kernel_rfl) ?_
 change wpAny _ _ _ _ _ _ _ (World.drew _)
 refine wpAny_pre2 (w0:=wb) (k0:=0) 16 2 _ rfl (by decide) (by kernel_rfl) (by kernel_rfl) (by kernel_rfl) (by kernel_rfl) (Only.refl [] _).drew ?_;simp only [List.drop_zero,List.take_succ_cons,List.take_zero]
 repeat (first | go_big_quiet_skip | quiet_step ((first
  | (go_at_call 96;refine Calls.only_of (HSL.out _))
  | (go_at_call 145;refine Calls.only_of (HWD.out _ _)))))
 refine wpQuiet_nil ?_;intro _ hw';obtain ⟨p,hw2⟩:=hw';subst hw2;refine wpAny_ready (rs:=[16]) (by kernel_rfl) (by simp) ?_;refine AllReady.cons rfl (fun K hK=>?_) AllReady.nil
 go_simp
 refine (HWR.out p).mono ?_;rintro e w1 ⟨rfl,hr1,hr2⟩;have HW1:Hid (Ds g w1 ⟨s.pw.map (· - 1),s.sec.set (n2) (padB (X4)),s.wt++[⟨n2,x0,padB (X4)⟩]⟩∧Oth w w1):=⟨hr1,hr2⟩;clear hr1 hr2;refine hK _ _ ?_;clear hK K;refine wpAny_ready (rs:=[17]) (by kernel_rfl) (by simp) ?_;refine AllReady.cons rfl (fun K hK=>?_) AllReady.nil
 go_simp
 refine hK _ _ ?_;clear hK K;refine wpAny_done (by kernel_rfl) ?_ _
 go_wp2_with (go_at_call 31;refine (HFL.out w1 HW1.out.1).mono ?_;rintro e w2 ⟨rfl,h0⟩;have h1:=h0.symm;subst h1;clear h0)
 go_ret
 exact HF.out w1 HW1.out.1 HW1.out.2
theorem save_lit (hd:Ds g w s)(h:Hd)(hk:h.Ok)(hN:2≤s.sec.length)(hp:s.pw≠some 0)(hp1:s.pw.map (· - 1)≠some 0)(hwl0:s.wt.length≤100000):
  Calls Tryz.prog 94 #[hdV h,.pointer (some ⟨g.t,0,none⟩)] w fun e w'=>SaveR g w w' s (h.calls % 2) (padB (bs (hdT h))) e:=by
 have hc1:=hk.calls;obtain ⟨wb,hwb⟩:∃ wb,w.alloc (hdO h)=wb:=⟨_,rfl⟩
 have o0:Only [] w wb:=by rw [← hwb];exact (Only.refl [] w).alloc _
 have e0:wb.heap[w.heap.size]?=some (.cells #[.int .u32 (h.calls:Nat),.int .i64 (h.half:Nat),.int .i64 (h.used:Nat)] 131 (0,0)):=by rw [← hwb];exact heap_alloc_last w _
 haveI:Nonempty (OnlyBy wb):=⟨⟨_,Only.refl _ _⟩⟩
 have y0:∀ p:OnlyBy wb,p.w.cell? ⟨w.heap.size,0,none⟩=some (.int .u32 (h.calls:Nat)):=fun p=>(cells3 (kept3 e0 p.ho)).1;have y1:∀ p:OnlyBy wb,p.w.cell? ⟨w.heap.size,1,none⟩=some (.int .i64 (h.half:Nat)):=fun p=>(cells3 (kept3 e0 p.ho)).2.1;have y2:∀ p:OnlyBy wb,p.w.cell? ⟨w.heap.size,2,none⟩=some (.int .i64 (h.used:Nat)):=fun p=>(cells3 (kept3 e0 p.ho)).2.2.1;have HSL:Hid (∀ p:OnlyBy wb,Calls Tryz.prog 96 #[hdV h] p.w fun e w'=>e = .returned (.int .i64 (h.calls % 2:Nat))∧Only [] p.w w'):=fun p=>slot_ok p.w h hk;have HWD:Hid (∀ (p:OnlyBy wb) (n:Nat),Calls Tryz.prog 145 #[.int .i64 (n:Nat)] p.w fun e w'=>e = .returned (.string (bs (wd n)))∧Only [] p.w w'):=fun p n=>word_ok p.w n
 have hwl:∀ n,(bs (wd n)).size=4:=fun n=>by rw [bs_size,wd_len]
 have a1:∀ W:World,(Op.stringOp .add (⟨#[112,105,103,101,111,110,104,111,108,101,115,32,108,111,103,10]⟩:ByteArray) (bs (wd h.calls))).run Tryz.prog W = .ok (.string ((⟨#[112,105,103,101,111,110,104,111,108,101,115,32,108,111,103,10]⟩:ByteArray)++bs (wd h.calls))) W:=fun W=>run_string_add W _ _ (by decide) (by rw [hwl];decide);obtain ⟨X1,hX1⟩:∃ X1,(⟨#[112,105,103,101,111,110,104,111,108,101,115,32,108,111,103,10]⟩:ByteArray)++bs (wd h.calls)=X1:=⟨_,rfl⟩
 have l1:X1.size=20:=by rw [← hX1,ByteArray.size_append,hwl];rfl
 have a2:∀ W:World,(Op.stringOp .add X1 (bs (wd h.half))).run Tryz.prog W = .ok (.string (X1++bs (wd h.half))) W:=fun W=>run_string_add W _ _ (by omega) (by rw [hwl];decide);obtain ⟨X2,hX2⟩:∃ X2,X1++bs (wd h.half)=X2:=⟨_,rfl⟩
 have l2:X2.size=24:=by rw [← hX2,ByteArray.size_append,hwl,l1]
 have a3:∀ W:World,(Op.stringOp .add X2 (bs (wd h.used))).run Tryz.prog W = .ok (.string (X2++bs (wd h.used))) W:=fun W=>run_string_add W _ _ (by omega) (by rw [hwl];decide)
 have hX3:X2++bs (wd h.used)=bs (hdT h):=by rw [← hX2,← hX1];exact hdT_is h
 rw [hX1] at a1;rw [hX2] at a2;rw [hX3] at a3
 have hsz:(bs (hdT h)).size≤64:=by rw [bs_size,hdT_len];decide
 obtain ⟨x0,hx0⟩:∃ x0,s.sec[h.calls % 2]?=some x0:=⟨s.sec[h.calls % 2]'(by omega),List.getElem?_eq_getElem _⟩;have HWR:Hid (∀ p:OnlyBy wb,Calls Tryz.prog 30 #[.pointer (some ⟨g.t,0,none⟩),.int .i64 (h.calls % 2:Nat),.string (bs (hdT h))] p.w fun e w'=>e = .returned .nilIface∧Ds g w' ⟨s.pw.map (· - 1),s.sec.set (h.calls % 2) (padB (bs (hdT h))),s.wt++[⟨h.calls % 2,x0,padB (bs (hdT h))⟩]⟩∧Oth w w'):=fun p=>(((hd.keep o0).keep p.ho).write_lit _ _ x0 hx0 hsz hp hwl0).mono fun e w' q=>⟨q.1,q.2.1,((Oth.of_only o0).trans (Oth.of_only p.ho)).trans q.2.2⟩;have HFL:Hid (∀ w1,Ds g w1 ⟨s.pw.map (· - 1),s.sec.set (h.calls % 2) (padB (bs (hdT h))),s.wt++[⟨h.calls % 2,x0,padB (bs (hdT h))⟩]⟩→Oth w w1→Calls Tryz.prog 31 #[.pointer (some ⟨g.t,0,none⟩)] w1 fun e w'=>e = .returned .nilIface∧SaveR g w w' s (h.calls % 2) (padB (bs (hdT h))) (.returned .nilIface)):=fun w1 h1 h2=>(h1.flush_lit hp1).mono fun e w' q=>⟨q.1,0,_,rfl,Or.inr (Or.inr ⟨rfl,rfl,rfl,fun e=>by simp [e]⟩),q.2.1,h2.trans q.2.2⟩;have HF:Hid True:=trivial
 have hw64:IntKind.i64.wrap ((h.calls:Nat):Int)=((h.calls:Nat):Int):=by rw [IntKind.wrap_i64];omega
 generalize bs (hdT h)=X4 at a3 HWR HFL ⊢;generalize h.calls % 2=n2 at HSL HWR HFL ⊢;clear hd hk hN hwl hsz hX1 hX2 hX3 o0 e0 l1 l2 hp hp1 hwl0 hx0
 go_enter Tryz.func94,Tryz.ntmps94
 go_upto_region 1 with (fail)
 clear hwb;refine wp_region_any (by kernel_rfl) ?_
 change wpAny _ _ _ _ _ _ _ (World.drew _)
 refine wpAny_pre2 (w0:=wb) (k0:=0) 16 2 _ rfl (by decide) (by kernel_rfl) (by kernel_rfl) (by kernel_rfl) (by kernel_rfl) (Only.refl [] _).drew ?_;simp only [List.drop_zero,List.take_succ_cons,List.take_zero]
 repeat (first | go_big_quiet_skip | quiet_step ((first
  | (go_at_call 96;refine Calls.only_of (HSL.out _))
  | (go_at_call 145;refine Calls.only_of (HWD.out _ _)))))
 refine wpQuiet_nil ?_;intro _ hw';obtain ⟨p,hw2⟩:=hw';subst hw2;refine wpAny_ready (rs:=[16]) (by kernel_rfl) (by simp) ?_;refine AllReady.cons rfl (fun K hK=>?_) AllReady.nil
 go_simp
 refine (HWR.out p).mono ?_;rintro e w1 ⟨rfl,hr1,hr2⟩;have HW1:Hid (Ds g w1 ⟨s.pw.map (· - 1),s.sec.set (n2) (padB (X4)),s.wt++[⟨n2,x0,padB (X4)⟩]⟩∧Oth w w1):=⟨hr1,hr2⟩;clear hr1 hr2;refine hK _ _ ?_;clear hK K;refine wpAny_ready (rs:=[17]) (by kernel_rfl) (by simp) ?_;refine AllReady.cons rfl (fun K hK=>?_) AllReady.nil
 go_simp
 refine hK _ _ ?_;clear hK K;refine wpAny_done (by kernel_rfl) ?_ _
 go_wp2_with (go_at_call 31;refine (HFL.out w1 HW1.out.1 HW1.out.2).mono ?_;rintro e w2 ⟨rfl,h0⟩;have HZ:Hid (SaveR g w w2 s n2 (padB X4) (.returned .nilIface)):=h0;clear h0)
 go_ret
 exact HZ.out
theorem save_any (hd:Ds g w s)(h:Hd)(hk:h.Ok)(hN:2≤s.sec.length)(hwl0:s.wt.length≤100000):
   Calls Tryz.prog 94 #[hdV h,.pointer (some ⟨g.t,0,none⟩)] w fun e w'=>SaveR g w w' s (h.calls % 2) (padB (bs (hdT h))) e:=by
 by_cases hp:s.pw=some 0
 · exact save_dark hd h hk hN hp
 · by_cases hp1:s.pw.map (· - 1)=some 0
   · exact save_one hd h hk hN hp hp1 hwl0
   · exact save_lit hd h hk hN hp hp1 hwl0
end
def hdN (h:Hd)(T:List UInt8):Hd:=⟨h.calls,h.half,h.used+secsN T.length⟩
def secA (sec:List Sec)(h:Hd)(T:List UInt8):List Sec:=putAt sec (h.first sec.length+h.used) (piecesS T (secsN T.length))
def secB (sec:List Sec)(h:Hd)(T:List UInt8):List Sec:=(secA sec h T).set (h.calls % 2) (padB (bs (hdT (hdN h T))))
def Torn (sec:List Sec)(h:Hd)(T:List UInt8)(s':DSt):Prop:=∀ keep,Near sec (h.first sec.length+h.used) (secsN T.length) (redo keep s'.wt (undo s'.sec s'.wt) s'.wt.length)∨redo keep s'.wt (undo s'.sec s'.wt) s'.wt.length=secB sec h T
def CommP (s:DSt)(h:Hd)(T:List UInt8)(c:Nat)(s':DSt):Prop :=
 (c=15∧s.pw≠none∧s'.wt.length≤5000∧Torn s.sec h T s')∨(c=0∧s'.sec=secB s.sec h T∧s'.wt=[]∧(s.pw=none→s'.pw=none))
def CommR (g:Dv)(w w':World)(s:DSt)(h:Hd)(T:List UInt8)(e:Ending):Prop:=∃ c s',e = .returned (errN g.A c)∧CommP s h T c s'∧Ds g w' s'∧Oth w w'
structure MidG (s:DSt)(h:Hd)(T:List UInt8)(j:Nat)(q:DSt):Prop where
 sec:q.sec=putAt s.sec (h.first s.sec.length+h.used) (piecesS T j)
 wt:∀ x∈q.wt,h.first s.sec.length+h.used≤x.n∧x.n < h.first s.sec.length+h.used+secsN T.length
 len:q.wt.length=j
 pw:s.pw=none→q.pw=none
theorem piecesS_len (T:List UInt8)(j:Nat):(piecesS T j).length=j:=by simp [piecesS]
theorem piecesS_snoc (T:List UInt8)(j:Nat):piecesS T (j+1)=piecesS T j++[pieceS T j]:=by simp [piecesS,List.range_succ]
theorem MidG.torn {s q:DSt}{h:Hd}{T:List UInt8}{j:Nat}(m:MidG s h T j q)(hj:j≤secsN T.length):Torn s.sec h T q:=fun keep=>Or.inl (by
 have h1:Near s.sec (h.first s.sec.length+h.used) (secsN T.length) q.sec:=by rw [m.sec];exact Near.put _ (by rw [piecesS_len];exact hj)
 exact (h1.undo m.wt).redo m.wt keep _)
theorem MidG.start (s:DSt)(h:Hd)(T:List UInt8)(hw:s.wt=[]):MidG s h T 0 s:=⟨rfl,fun x hx=>(by rw [hw] at hx;cases hx),by rw [hw];rfl,id⟩
theorem MidG.next {s q:DSt}{h:Hd}{T:List UInt8}{j:Nat}(m:MidG s h T j q)(hj:j < secsN T.length)(x0:Sec):MidG s h T (j+1) ⟨q.pw.map (· - 1),q.sec.set (h.first s.sec.length+h.used+j) (pieceS T j),q.wt++[⟨h.first s.sec.length+h.used+j,x0,pieceS T j⟩]⟩:=by
 refine ⟨?_,fun x hx=>?_,by simp [m.len],fun e=>by simp [m.pw e]⟩
 · show q.sec.set _ _=_
   rw [m.sec,piecesS_snoc,putAt_snoc,piecesS_len]
 · rcases List.mem_append.1 hx with hx | hx
   · exact m.wt x hx
   · obtain rfl:=List.mem_singleton.1 hx
     exact ⟨by show _≤_+_+j;omega,by show _+_+j < _;omega⟩
theorem torn_flushed {s q:DSt}{h:Hd}{T:List UInt8}(m:MidG s h T (secsN T.length) q)(pw:Option Nat):Torn s.sec h T ⟨pw,q.sec,[]⟩:=fun keep=>Or.inl (by
 show Near _ _ _ q.sec;rw [m.sec]
 exact Near.put _ (Nat.le_of_eq (piecesS_len _ _)))
theorem torn_head {s q r:DSt}{h:Hd}{T:List UInt8}(m:MidG s h T (secsN T.length) q){x0:Sec}(hx:q.sec[h.calls % 2]?=some x0)(h1:r.sec=q.sec.set (h.calls % 2) (padB (bs (hdT (hdN h T)))))(h2:r.wt=[]++[⟨h.calls % 2,x0,padB (bs (hdT (hdN h T)))⟩]):Torn s.sec h T r:=fun keep=>by
 rw [h1,h2];have:=one_crash q.sec hx (p:=padB (bs (hdT (hdN h T)))) (keep 0)
 have e1:redo keep ([]++[⟨h.calls % 2,x0,padB (bs (hdT (hdN h T)))⟩]) (undo (q.sec.set (h.calls % 2) (padB (bs (hdT (hdN h T))))) ([]++[⟨h.calls % 2,x0,padB (bs (hdT (hdN h T)))⟩])) ([]++[(⟨h.calls % 2,x0,padB (bs (hdT (hdN h T)))⟩:Wr)]).length=if keep 0 then q.sec.set (h.calls % 2) (padB (bs (hdT (hdN h T)))) else q.sec:=by
  rw [← this];simp [redo,keepB]
 rw [e1]
 cases keep 0 with
 | true =>
  refine Or.inr ?_;simp only [if_true];rw [m.sec];rfl
 | false =>
  refine Or.inl ?_;simp only [Bool.false_eq_true,if_false];rw [m.sec];exact Near.put _ (Nat.le_of_eq (piecesS_len _ _))
theorem piece_text (T:List UInt8)(j:Nat)(hj:j*64≤T.length):(bs T).extract (j*64) (min (j*64+64) T.length)=bs ((T.drop (j*64)).take 64):=by
 apply data_inj;simp only [bs,ByteArray.data_extract,Array.toList_extract,List.extract_eq_take_drop];apply List.ext_getElem?;intro i;simp only [List.getElem?_take]
 split<;>split
 · rfl
 · omega
 · symm
   rw [List.getElem?_eq_none_iff,List.length_drop];omega
 · rfl
section
variable {g:Dv}{w:World}{s:DSt}
theorem Ds.first (hd:Ds g w s)(h:Hd)(h0:h.half≤1)(hN:2≤s.sec.length):Calls Tryz.prog 68 #[hdV h,.pointer (some ⟨g.t,0,none⟩)] w fun e w'=>e = .returned (.int .i64 (h.first s.sec.length:Nat))∧Only [] w w':=by
 obtain ⟨vw,hk⟩:=hd.dk;exact hfirst_ok hk h h0 hN
theorem foot_type {base t:Nat}{pw:Option Nat}{vs vw:Value}{sec:List Sec}{wt:List Wr}(h:DkAt w base t pw vs vw sec wt){b:Nat}{cs:Array Value}{ty:TypeId}{fr:Nat×Nat}(hb:w.heap[b]?=some (.cells cs ty fr))(h1:ty≠61)(h2:ty≠106)(h3:ty≠108):b∉dkFoot t vs vw:=fun hm=>by
 rcases mem_foot.1 hm with e | e | e
 · rw [e,h.blk] at hb
   simp only [Option.some.injEq,Obj.cells.injEq] at hb;exact h1 hb.2.1.symm
 · obtain ⟨_,_,cur,hq⟩:=own_blkD h.secs e
   rw [hq] at hb;simp only [Option.some.injEq,Obj.cells.injEq] at hb;exact h2 hb.2.1.symm
 · obtain ⟨_,_,cur,hq⟩:=own_blkD h.wts e
   rw [hq] at hb;simp only [Option.some.injEq,Obj.cells.injEq] at hb;exact h3 hb.2.1.symm
theorem Ds.poke (h:Ds g w s){b:Nat}{cs:Array Value}{ty:TypeId}{fr:Nat×Nat}(hb:w.heap[b]?=some (.cells cs ty fr))(h1:ty≠61)(h2:ty≠106)(h3:ty≠108)(hge:g.W0.heap.size≤b)(o:Nat)(v:Value):Ds g (w.setCell ⟨b,o,none⟩ v) s:=by
 obtain ⟨vw,hd⟩:=h.dk;have ho:Only [b] w (w.setCell ⟨b,o,none⟩ v):=(Only.refl [b] w).setCell (Or.inl (by simp)) _;exact ⟨⟨vw,hd.only ho (fun k hk hm=>foot_type hd hb h1 h2 h3 (by rw [← List.mem_singleton.1 hm];exact hk))⟩,h.er,h.bel.trans (ho.to_below h.bel.size (fun k hk=>by rw [List.mem_singleton.1 hk];exact hge)),h.ge,Nat.le_trans h.bs ho.size,h.pl⟩
theorem Oth.poke {a w:World}(h:Oth a w){b:Nat}(hb:a.heap.size≤b)(o:Nat)(v:Value):Oth a (w.setCell ⟨b,o,none⟩ v):=by
 have ho:Only [b] w (w.setCell ⟨b,o,none⟩ v):=(Only.refl [b] w).setCell (Or.inl (by simp)) _;refine ⟨ho.os.trans h.os,ho.tape.trans h.tape,ho.output.trans h.output,Nat.le_trans h.size ho.size,fun k cs ty fr hc h1 h2 h3=>?_,fun k o hc hn=>?_⟩
 · have hk:=h.block k cs ty fr hc h1 h2 h3
   rw [ho.block k (Array.getElem?_eq_some_iff.1 hk).1 (by have:=(Array.getElem?_eq_some_iff.1 hc).1;simp;omega)];exact hk
 · have hk:=h.maps k o hc hn
   rw [ho.block k (Array.getElem?_eq_some_iff.1 hk).1 (by have:=(Array.getElem?_eq_some_iff.1 hc).1;simp;omega)];exact hk
theorem commit_ok (hd:Ds g w s)(h:Hd)(hk:h.Ok)(h0:h.half≤1)(hN:2≤s.sec.length)(T:List UInt8)(hT:T.length≤1000000)(hfit:h.first s.sec.length+h.used+secsN T.length≤s.sec.length)(hw:s.wt=[]):
  Calls Tryz.prog 168 #[hdV h,.pointer (some ⟨g.t,0,none⟩),.string (bs T)] w fun e w'=>CommR g w w' s h T e:=by
 obtain ⟨wb,hwb⟩:∃ wb,w.alloc (hdO h)=wb:=⟨_,rfl⟩
 have o0:Only [] w wb:=by rw [← hwb];exact (Only.refl [] w).alloc _
 have e0:wb.heap[w.heap.size]?=some (.cells #[.int .u32 (h.calls:Nat),.int .i64 (h.half:Nat),.int .i64 (h.used:Nat)] 131 (0,0)):=by rw [← hwb];exact heap_alloc_last w _
 have hmost:=hd.most.2;have HSE:Hid (Calls Tryz.prog 39 #[.pointer (some ⟨g.t,0,none⟩)] wb fun e w'=>e = .returned .nilIface∧w'=wb):=(hd.keep o0).settle hw
 have HSN:Hid (∀ W,Calls Tryz.prog 167 #[.string (bs T)] W fun e w'=>e = .returned (.int .i64 (secsN T.length:Nat))∧w'=W):=fun W=>by
  have:=sectorsOf_ok W (bs T) (by rw [bs_size];omega)
  rwa [bs_size] at this
 have HFI:Hid (∀ W s' (u:Nat),Ds g W s'→s'.sec.length=s.sec.length→Calls Tryz.prog 68 #[hdV ⟨h.calls,h.half,u⟩,.pointer (some ⟨g.t,0,none⟩)] W fun e w'=>e = .returned (.int .i64 (h.first s.sec.length:Nat))∧Only [] W w'):=fun W s' u hW hl=>by
  have:=hW.first ⟨h.calls,h.half,u⟩ h0 (by omega);rw [hl] at this;exact this
 have HSV:Hid (∀ W s',Ds g W s'→s'.sec.length=s.sec.length→s'.wt=[]→Calls Tryz.prog 94 #[hdV (hdN h T),.pointer (some ⟨g.t,0,none⟩)] W fun e w'=>SaveR g W w' s' (h.calls % 2) (padB (bs (hdT (hdN h T)))) e):=fun W s' hW hl hw'=>save_any hW (hdN h T) ⟨hk.calls,hk.half,by show h.used+secsN T.length < _;omega⟩ (by omega) (by rw [hw'];decide);have HD0:Hid (Ds g wb s):=hd.keep o0;have HO0:Hid (Oth w wb):=Oth.of_only o0;have HB0:Hid (wb.heap[w.heap.size]?=some (.cells #[.int .u32 (h.calls:Nat),.int .i64 (h.half:Nat),.int .i64 (h.used+0:Nat)] 131 (0,0))):=e0;have HM0:Hid (MidG s h T 0 s):=MidG.start s h T hw;have hsz:(bs T).size=T.length:=bs_size T
 have hkb:secsN T.length*64 < T.length+64:=by unfold secsN;omega
 have hus:=hk.used;have HPT:Hid (∀ j,j < secsN T.length→(bs T).extract (j*64) (min (j*64+64) T.length)=bs ((T.drop (j*64)).take 64)):=fun j hj=>piece_text T j (by unfold secsN at hj;omega);have HZ:Hid (g.W0.heap.size≤w.heap.size):=hd.bel.size;have HZ2:Hid (w.heap.size≤w.heap.size):=Nat.le_refl _;clear hd o0 e0 hk hw;generalize hkk:secsN T.length=k at *;have HKK:Hid (secsN T.length=k):=hkk;clear hkk
 go_enter Tryz.func168,Tryz.ntmps168
 go_upto_region 5 with (first
  | (go_at_call 39;refine HSE.out.mono ?_;rintro e w1 ⟨rfl,h0⟩;have h1:=h0.symm;subst h1;clear h0)
  | (go_at_call 167;refine (HSN.out _).mono ?_;rintro e w1 ⟨rfl,h0⟩;have h1:=h0.symm;subst h1;clear h0))
 clear hwb HSE HSN;obtain ⟨hb,ehb⟩:∃ hb,w.heap.size=hb:=⟨_,rfl⟩;rw [ehb] at HB0 HZ ⊢;replace HZ2:Hid (w.heap.size≤hb):=Nat.le_of_eq ehb;clear ehb
 go_loopw [20] (fun i wr=>∃ (j:Nat) (q:DSt),i = .int .i64 (j:Nat)∧j≤k∧Ds g wr q∧MidG s h T j q∧Oth w wr∧wr.heap[hb]?=some (.cells #[.int .u32 (h.calls:Nat),.int .i64 (h.half:Nat),.int .i64 (h.used+j:Nat)] 131 (0,0))) (fun i _=>k - (intOf i).toNat)
 case atStart=>exact ⟨0,s,rfl,Nat.zero_le _,HD0.out,HM0.out,HO0.out,HB0.out⟩
 case round =>
  clear HD0 HM0 HO0 HB0;obtain ⟨j,q,rfl,hj,hD,hM,hO,hB⟩:=hrel;have HD:Hid (Ds g wr q):=hD;have HM:Hid (MidG s h T j q):=hM;have HO:Hid (Oth w wr):=hO;have HBK:Hid (wr.heap[hb]?=some (.cells #[.int .u32 (h.calls:Nat),.int .i64 (h.half:Nat),.int .i64 (h.used+j:Nat)] 131 (0,0))):=hB
  have hql:q.sec.length=s.sec.length:=by rw [hM.sec,putAt_len]
  have HQL:Hid (q.sec.length=s.sec.length):=hql
  by_cases hlt:j < k
  · have hl:decide ((j:Int) < (k:Int))=true:=decide_eq_true (by omega)
    have hpt:=HPT.out j hlt
    have hmn:min ((j:Int)*64+64) (T.length:Int)=((min (j*64+64) T.length:Nat):Int):=by omega
    obtain ⟨m,hm⟩:∃ m,min (j*64+64) T.length=m:=⟨_,rfl⟩
    have hm1:j*64≤m:=by omega
    have hm2:m≤T.length:=by omega
    rw [hm] at hmn hpt;clear hD hM hO hB hql;clear hm
    go_upto_region 9 with (fail)
    haveI:Nonempty (OnlyBy wr):=⟨⟨_,Only.refl _ _⟩⟩
    have HXP:Hid (padB ((bs T).extract (j*64) m)=pieceS T j∧((bs T).extract (j*64) m).size≤64):=by
      rw [hpt];exact ⟨rfl,by rw [bs_size,List.length_take];omega⟩
    clear hpt;generalize (bs T).extract (j*64) m=X at HXP ⊢;obtain ⟨u,hu⟩:∃ u,h.used+j=u:=⟨_,rfl⟩;have HF1:Hid (∀ p:OnlyBy wr,Calls Tryz.prog 68 #[hdV ⟨h.calls,h.half,u⟩,.pointer (some ⟨g.t,0,none⟩)] p.w fun e w'=>e = .returned (.int .i64 (h.first s.sec.length:Nat))∧Only [] p.w w'):=fun p=>HFI.out p.w q u (HD.out.keep p.ho) HQL.out;have HU:Hid (h.used+j=u):=hu;have hBK:=HBK.out;rw [hu] at hBK;have y0:∀ p:OnlyBy wr,p.w.cell? ⟨hb,0,none⟩=some (.int .u32 (h.calls:Nat)):=fun p=>(cells3 (kept3 hBK p.ho)).1;have y1:∀ p:OnlyBy wr,p.w.cell? ⟨hb,1,none⟩=some (.int .i64 (h.half:Nat)):=fun p=>(cells3 (kept3 hBK p.ho)).2.1;have y2:∀ p:OnlyBy wr,p.w.cell? ⟨hb,2,none⟩=some (.int .i64 (u:Nat)):=fun p=>(cells3 (kept3 hBK p.ho)).2.2.1
    have hn1:h.first s.sec.length+u < s.sec.length:=by omega
    have HPL:Hid (h.first s.sec.length+h.used+j=h.first s.sec.length+u):=by show _=_;omega
    obtain ⟨F,hF⟩:∃ F,h.first s.sec.length=F:=⟨_,rfl⟩;have HFF:Hid (h.first s.sec.length=F):=hF;rw [hF] at HF1 hn1 HPL
    have hwr1:IntKind.i64.wrap ((F:Int)+(u:Int))=((F+u:Nat):Int):=by rw [IntKind.wrap_i64];omega
    obtain ⟨n,hn⟩:∃ n,F+u=n:=⟨_,rfl⟩;rw [hn] at hwr1 hn1 HPL;clear hu hF hn hm1 hm2 hmn hsz hkb;have HBU:Hid (wr.heap[hb]?=some (.cells #[.int .u32 (h.calls:Nat),.int .i64 (h.half:Nat),.int .i64 (u:Nat)] 131 (0,0))):=hBK;clear hBK
    by_cases hp:q.pw=some 0
    · have HWR:Hid (∀ p:OnlyBy wr,Calls Tryz.prog 30 #[.pointer (some ⟨g.t,0,none⟩),.int .i64 (n:Nat),.string X] p.w fun e w'=>e = .returned (.iface 535 (.pointer (some (g.A 14))))∧w'=p.w):=fun p=>(HD.out.keep p.ho).write_dark n X (by rw [HQL.out];exact hn1) HXP.out.2 hp
      have HF:Hid (∀ p:OnlyBy wr,CommR g w p.w s h T (.returned (.iface 535 (.pointer (some (g.A 14)))))):=fun p=>⟨15,q,rfl,Or.inl ⟨rfl,fun e=>(by have:=HM.out.pw e;rw [hp] at this;cases this),by rw [HM.out.len];omega,HM.out.torn (by rw [HKK.out];omega)⟩,HD.out.keep p.ho,HO.out.trans (Oth.of_only p.ho)⟩;clear hp;refine wp_region_any (by kernel_rfl) ?_
      change wpAny _ _ _ _ _ _ _ (World.drew _)
      refine wpAny_pre2 (w0:=wr) (k0:=0) 8 2 _ rfl (by decide) (by kernel_rfl) (by kernel_rfl) (by kernel_rfl) (by kernel_rfl) (Only.refl [] _).drew ?_;simp only [List.drop_zero,List.take_succ_cons,List.take_zero]
      repeat (first | go_big_quiet_skip | quiet_step ((go_at_call 68;refine Calls.only_of (HF1.out _))))
      refine wpQuiet_nil ?_;intro _ hw';obtain ⟨p,hw2⟩:=hw';subst hw2;refine wpAny_ready (rs:=[8]) (by kernel_rfl) (by simp) ?_;refine AllReady.cons rfl (fun K hK=>?_) AllReady.nil
      go_simp
      refine (HWR.out p).mono ?_;rintro e w1 ⟨rfl,hr0⟩;have hr1:=hr0.symm;subst hr1;clear hr0;refine hK _ _ ?_;clear hK K;refine wpAny_ready (rs:=[9]) (by kernel_rfl) (by simp) ?_;refine AllReady.cons rfl (fun K hK=>?_) AllReady.nil
      go_simp
      refine hK _ _ ?_;clear hK K;refine wpAny_done (by kernel_rfl) ?_ _
      go_wp2
      go_ret
      exact HF.out p
    · obtain ⟨x0,hx0⟩:∃ x0,q.sec[n]?=some x0:=⟨q.sec[n]'(by rw [HQL.out];exact hn1),List.getElem?_eq_getElem _⟩
      have HWR:Hid (∀ p:OnlyBy wr,Calls Tryz.prog 30 #[.pointer (some ⟨g.t,0,none⟩),.int .i64 (n:Nat),.string X] p.w fun e w'=>e = .returned .nilIface∧Ds g w' ⟨q.pw.map (· - 1),q.sec.set n (pieceS T j),q.wt++[⟨n,x0,pieceS T j⟩]⟩∧Oth wr w'):=fun p=>((HD.out.keep p.ho).write_lit n X x0 hx0 HXP.out.2 hp (by rw [HM.out.len];omega)).mono fun e w' r=>⟨r.1,by rw [← HXP.out.1];exact r.2.1,(Oth.of_only p.ho).trans r.2.2⟩
      have HNX:Hid (MidG s h T (j+1) ⟨q.pw.map (· - 1),q.sec.set n (pieceS T j),q.wt++[⟨n,x0,pieceS T j⟩]⟩):=by
       have:=HM.out.next (by rw [HKK.out];exact hlt) x0;rw [HFF.out,HPL.out] at this;exact this
      clear hp hx0;refine wp_region_any (by kernel_rfl) ?_
      change wpAny _ _ _ _ _ _ _ (World.drew _)
      refine wpAny_pre2 (w0:=wr) (k0:=0) 8 2 _ rfl (by decide) (by kernel_rfl) (by kernel_rfl) (by kernel_rfl) (by kernel_rfl) (Only.refl [] _).drew ?_;simp only [List.drop_zero,List.take_succ_cons,List.take_zero]
      repeat (first | go_big_quiet_skip | quiet_step ((go_at_call 68;refine Calls.only_of (HF1.out _))))
      refine wpQuiet_nil ?_;intro _ hw';obtain ⟨p,hw2⟩:=hw';subst hw2;refine wpAny_ready (rs:=[8]) (by kernel_rfl) (by simp) ?_;refine AllReady.cons rfl (fun K hK=>?_) AllReady.nil
      go_simp
      refine (HWR.out p).mono ?_;rintro e w1 ⟨rfl,hr0,hr1⟩;have HD1:Hid (Ds g w1 ⟨q.pw.map (· - 1),q.sec.set n (pieceS T j),q.wt++[⟨n,x0,pieceS T j⟩]⟩∧Oth wr w1):=⟨hr0,hr1⟩;clear hr0 hr1;refine hK _ _ ?_;clear hK K;refine wpAny_ready (rs:=[9]) (by kernel_rfl) (by simp) ?_;refine AllReady.cons rfl (fun K hK=>?_) AllReady.nil
      go_simp
      refine hK _ _ ?_;clear hK K;refine wpAny_done (by kernel_rfl) ?_ _;obtain ⟨z0,z1,z2,z4,z5⟩:=cells3 (Oth.kept3 HBU.out HD1.out.2);clear y0 y1 y2
      go_wp2
      go_roundw
      case rel =>
       have hk4:=Oth.kept3 HBU.out HD1.out.2;refine ⟨j+1,_,by go_num,by omega,HD1.out.1.poke hk4 (by decide) (by decide) (by decide) HZ.out _ _,HNX.out,(HO.out.trans HD1.out.2).poke HZ2.out _ _,?_⟩;rw [heap_setCell_same w1 hb 2 _ _ _ hk4];have:=HU.out
       have e1:wrap64 ((u:Int)+1)=((h.used+(j+1):Nat):Int):=by unfold wrap64;omega
       rw [e1];rfl
      case measure=>simp [intOf];omega
  · have hl:decide ((j:Int) < (k:Int))=false:=decide_eq_false (by omega)
    obtain rfl:k=j:=by omega
    have hMk:MidG s h T (secsN T.length) q:=by rw [HKK.out];exact hM
    have HMK:Hid (MidG s h T (secsN T.length) q):=hMk;clear hD hM hO hB hql hMk
    by_cases hp:q.pw=some 0
    · have HFL:Hid (Calls Tryz.prog 31 #[.pointer (some ⟨g.t,0,none⟩)] wr fun e w'=>e = .returned (.iface 535 (.pointer (some (g.A 14))))∧w'=wr):=HD.out.flush_dark hp
      have HF:Hid (CommR g w wr s h T (.returned (.iface 535 (.pointer (some (g.A 14)))))):=⟨15,q,rfl,Or.inl ⟨rfl,fun e=>(by have:=HM.out.pw e;rw [hp] at this;cases this),by rw [HM.out.len];omega,HMK.out.torn (Nat.le_refl _)⟩,HD.out,HO.out⟩;clear hp
      go_wp2_with (go_at_call 31;refine HFL.out.mono ?_;rintro e w1 ⟨rfl,hr0⟩;have hr1:=hr0.symm;subst hr1;clear hr0)
      go_ret
      exact HF.out
    · have HFL:Hid (Calls Tryz.prog 31 #[.pointer (some ⟨g.t,0,none⟩)] wr fun e w'=>e = .returned .nilIface∧Ds g w' ⟨q.pw.map (· - 1),q.sec,[]⟩∧Oth wr w'):=HD.out.flush_lit hp
      have HS1:Hid (∀ W,Ds g W ⟨q.pw.map (· - 1),q.sec,[]⟩→Oth w W→Calls Tryz.prog 94 #[.agg #[.int .u32 (h.calls:Nat),.int .i64 (h.half:Nat),.int .i64 (h.used+k:Nat)],.pointer (some ⟨g.t,0,none⟩)] W fun e w'=>∃ v,e = .returned v∧CommR g w w' s h T (.returned v)):=fun W hW hOW=>by
       have:=HSV.out W _ hW HQL.out rfl
       have e1:hdN h T=⟨h.calls,h.half,h.used+k⟩:=by unfold hdN;rw [HKK.out]
       rw [e1] at this;refine this.mono fun e w' r=>?_;rw [← e1] at r;obtain ⟨c,s',he,hS,h1,h2⟩:=r;refine ⟨_,he,c,s',rfl,?_,h1,hOW.trans h2⟩;rcases hS with ⟨c1,c2,c3⟩ | ⟨c1,c2,x0,c3,c4,c5⟩ | ⟨c1,c2,c3,c4⟩
       · refine Or.inl ⟨c1,fun e=>c2 (by show q.pw.map _=none;rw [HM.out.pw e];rfl),by rw [c3];exact Nat.zero_le _,by rw [c3];exact torn_flushed HMK.out _⟩
       · refine Or.inl ⟨c1,fun e=>c2 (by show q.pw.map _=none;rw [HM.out.pw e];rfl),by rw [c5];show 1≤5000;decide,torn_head HMK.out c3 c4 c5⟩
       · refine Or.inr ⟨c1,?_,c3,fun e=>c4 (by show q.pw.map _=none;rw [HM.out.pw e];rfl)⟩
         rw [c2];show q.sec.set _ _=_;rw [HMK.out.sec];rfl
      have hkb:k≤4000:=by omega
      clear hp
      go_wp2_with (first
       | (go_at_call 31;refine HFL.out.mono ?_;rintro e w1 ⟨rfl,hr0,hr1⟩;obtain ⟨z0,z1,z2,z4,z5⟩:=cells3 (Oth.kept3 HBK.out hr1);have HD1:Hid (Ds g w1 ⟨q.pw.map (· - 1),q.sec,[]⟩∧Oth w w1):=⟨hr0,HO.out.trans hr1⟩;clear hr0 hr1)
       | (go_at_call 94;refine (HS1.out _ HD1.out.1 HD1.out.2).mono ?_;rintro e w2 ⟨v,rfl,hr⟩;have HR:Hid (CommR g w w2 s h T (.returned v)):=hr;clear hr))
      go_ret
      exact HR.out
end
structure OthL (w w':World):Prop where
 os:w'.os=w.os
 tape:w'.tape=w.tape
 output:w'.output=w.output
 size:w.heap.size≤w'.heap.size
 block:∀ (k:Nat) (cs:Array Value) (ty:TypeId) (fr:Nat×Nat),w.heap[k]?=some (.cells cs ty fr)→ty≠61→ty≠106→ty≠108→ty≠138→w'.heap[k]?=some (.cells cs ty fr)
 maps:∀ (k:Nat) (o:Obj),w.heap[k]?=some o→(∀ cs ty fr,o ≠ .cells cs ty fr)→w'.heap[k]?=some o
theorem OthL.trans {a b c:World}(h:OthL a b)(k:OthL b c):OthL a c:=⟨k.os.trans h.os,k.tape.trans h.tape,k.output.trans h.output,Nat.le_trans h.size k.size,fun j cs ty fr hc h1 h2 h3 h4=>k.block j cs ty fr (h.block j cs ty fr hc h1 h2 h3 h4) h1 h2 h3 h4,fun j o hc hn=>k.maps j o (h.maps j o hc hn) hn⟩
theorem Oth.toL {a b:World}(h:Oth a b):OthL a b:=⟨h.os,h.tape,h.output,h.size,fun j cs ty fr hc h1 h2 h3 _=>h.block j cs ty fr hc h1 h2 h3,h.maps⟩
theorem OthL.of_only {a b:World}(h:Only [] a b):OthL a b:=(Oth.of_only h).toL
structure LogAt (w:World)(g:Dv)(l:Nat)(dark:Bool):Prop where
 blk:w.heap[l]?=some (.cells #[.pointer (some ⟨g.t,0,none⟩),.bool dark] 138 (0,0))
 ge:g.W0.heap.size≤l
section
variable {g:Dv}{w w':World}{s:DSt}{l:Nat}{dark:Bool}
theorem LogAt.keep (h:LogAt w g l dark)(ho:Oth w w'):LogAt w' g l dark:=⟨ho.block l _ _ _ h.blk (by decide) (by decide) (by decide),h.ge⟩
theorem LogAt.cells (h:LogAt w g l dark):w.cell? ⟨l,0,none⟩=some (.pointer (some ⟨g.t,0,none⟩))∧w.cell? ⟨l,1,none⟩=some (.bool dark)∧l < w.heap.size∧(∀ o,w.frozen? ⟨l,o,none⟩=false) :=
 ⟨cell_of_row _ _ 0 _ _ _ h.blk,cell_of_row _ _ 1 _ _ _ h.blk,(Array.getElem?_eq_some_iff.1 h.blk).1,fun _=>frozen_of_row _ _ _ _ _ h.blk⟩
theorem LogAt.set (h:LogAt w g l dark)(b:Bool):LogAt (w.setCell ⟨l,1,none⟩ (.bool b)) g l b:=⟨heap_setCell_same w l 1 _ _ _ h.blk,h.ge⟩
theorem LogAt.oth (h:LogAt w g l dark)(v:Value)(o:Nat):OthL w (w.setCell ⟨l,o,none⟩ v):=by
 have ho:Only [l] w (w.setCell ⟨l,o,none⟩ v):=(Only.refl [l] w).setCell (Or.inl (by simp)) _;refine ⟨ho.os,ho.tape,ho.output,ho.size,fun k cs ty fr hc h1 h2 h3 h4=>?_,fun k o hc hn=>?_⟩
 · rw [ho.block k (Array.getElem?_eq_some_iff.1 hc).1 (fun hm=>?_)]
   · exact hc
   · rw [List.mem_singleton.1 hm,h.blk] at hc
     simp only [Option.some.injEq,Obj.cells.injEq] at hc;exact h4 hc.2.1.symm
 · rw [ho.block k (Array.getElem?_eq_some_iff.1 hc).1 (fun hm=>?_)]
   · exact hc
   · rw [List.mem_singleton.1 hm,h.blk] at hc
     exact hn _ _ _ (Option.some.inj hc).symm
theorem lhead_lit (hd:Ds g w s)(hl:LogAt w g l false)(h:Hd)(hn:newestL s.sec=some h):
  Calls Tryz.prog 110 #[.pointer (some ⟨l,0,none⟩)] w fun e w'=>e = .returned (.tuple #[hdV h,.nilIface])∧Only [] w w':=by
 obtain ⟨c0,c1,hlt,fz⟩:=hl.cells
 have HN:Hid (∀ o,Calls Tryz.prog 37 #[.pointer (some ⟨g.t,0,none⟩)] (w.alloc o) fun e w'=>e = .returned (.tuple #[hdV h,.bool true])∧Only [] (w.alloc o) w'):=fun o=>by
  have:=(hd.keep ((Only.refl [] w).alloc o)).newest;rw [hn] at this;exact this
 clear hd hl fz hn
 go_enter Tryz.func110,Tryz.ntmps110
 go_upto_region 4 with (go_at_call 37;refine (HN.out _).mono ?_;rintro e w1 ⟨rfl,h1⟩;obtain ⟨k1,k2,k3,k5,k6,HO⟩:=res_kept h1;clear h1)
 have o1:Only [] w (w1.alloc (hdO h)):=HO.out.alloc _;have r1:∀ o v,w1.cell? ⟨w.heap.size,o,none⟩=some v→(w1.alloc (hdO h)).cell? ⟨w.heap.size,o,none⟩=some v:=fun o v e=>(((Only.refl [] w1).alloc (hdO h)).cell (p:=⟨w.heap.size,o,none⟩) (lt_of_cell e) (by simp)).trans e;have f1:∀ o,(w1.alloc (hdO h)).frozen? ⟨w.heap.size,o,none⟩=false:=fun o=>(((Only.refl [] w1).alloc (hdO h)).frozen (p:=⟨w.heap.size,o,none⟩) k6 (by simp)).trans (k5 o);have p0:=r1 0 _ k1;have p1:=r1 1 _ k2;have p2:=r1 2 _ k3;have k7:w.heap.size < (w1.alloc (hdO h)).heap.size:=Nat.lt_of_lt_of_le k6 ((Only.refl [] w1).alloc (hdO h)).size;obtain ⟨q0,q1,q2,q4,q5⟩:=cells3 (heap_alloc_last w1 (hdO h));have HO1:Hid (Only [] w (w1.alloc (hdO h))):=o1;clear r1 k1 k2 k3 k5 k6 HO o1 c0 c1 hlt;generalize w1.heap.size=hb at q0 q1 q2 q4 q5 ⊢;generalize w1.alloc (hdO h)=W1 at p0 p1 p2 f1 k7 q0 q1 q2 q4 q5 HO1 ⊢
 go_wp2
 refine bodyPost_ret (v := .tuple #[hdV h,.nilIface]) (by simp [results,Tryz.results110,go_sem,p0,p1,p2]) rfl ⟨rfl,set3 HO1.out (Nat.le_refl _) _ _ _⟩
end
def WrR (g:Dv)(w w':World)(s:DSt)(l:Nat)(h:Hd)(L:List (List UInt8))(e:Ending):Prop :=
 ((s.sec.length - 2) / 2 < h.used+secsN (blkT L).length∧e = .returned (.iface 535 (.pointer (some (g.A 8))))∧Ds g w' s∧LogAt w' g l false∧OthL w w') ∨
 (h.used+secsN (blkT L).length≤(s.sec.length - 2) / 2∧∃ c s',e = .returned (errN g.A c)∧CommP s h (blkT L) c s'∧Ds g w' s'∧LogAt w' g l (decide (c=15))∧OthL w w')
section
variable {g:Dv}{w w':World}{s:DSt}{l:Nat}
theorem Ds.half (hd:Ds g w s)(h2:2≤s.sec.length):Calls Tryz.prog 126 #[.pointer (some ⟨g.t,0,none⟩)] w fun e w'=>e = .returned (.int .i64 ((s.sec.length - 2) / 2:Nat))∧w'=w:=by
 obtain ⟨vw,hk⟩:=hd.dk;exact half_ok hk h2
theorem half_room {h:Hd}{T:List UInt8}{N:Nat}(h0:h.half≤1)(hN:8≤N)(h2:h.used+secsN T.length≤(N - 2) / 2):h.first N+h.used+secsN T.length≤N:=by
 have h6:h.half=0∨h.half=1:=by omega
 show (2+h.half*((N - 2) / 2))+h.used+secsN T.length≤N;rcases h6 with h6 | h6<;>rw [h6]<;>omega
theorem lwrite_any (hd:Ds g w s)(hl:LogAt w g l false)(h:Hd)(hk:h.Ok)(h0:h.half≤1)(hN:8≤s.sec.length)(hw:s.wt=[])(ad:Option Addr)(cap:Nat)(L:List (List UInt8))(hT:TxIn w ad L)(hL:L.length≤2000000)(hW:wgt L < 4294967296):
   Calls Tryz.prog 111 #[.pointer (some ⟨l,0,none⟩),hdV h,.slice ad L.length cap] w fun e w'=>WrR g w w' s l h L e:=by
 obtain ⟨wb,hwb⟩:∃ wb,w.alloc (hdO h)=wb:=⟨_,rfl⟩
 have o0:Only [] w wb:=by rw [← hwb];exact (Only.refl [] w).alloc _
 have e0:wb.heap[w.heap.size]?=some (.cells #[.int .u32 (h.calls:Nat),.int .i64 (h.half:Nat),.int .i64 (h.used:Nat)] 131 (0,0)):=by rw [← hwb];exact heap_alloc_last w _
 have hmost:=hd.most.2;have HBK:Hid (Calls Tryz.prog 166 #[.slice ad L.length cap] wb fun e w'=>e = .returned (.string (bs (blkT L)))∧Only [] wb w'):=block_ok wb ad cap L (hT.only o0) hL (by omega);have hbl:=blkT_len L
 have HSN:Hid (∀ W,Calls Tryz.prog 167 #[.string (bs (blkT L))] W fun e w'=>e = .returned (.int .i64 (secsN (blkT L).length:Nat))∧w'=W):=fun W=>by
   have:=sectorsOf_ok W (bs (blkT L)) (by rw [bs_size];omega)
   rwa [bs_size] at this
 have HD0:Hid (Ds g wb s):=hd.keep o0;have HLG0:Hid (LogAt wb g l false):=hl.keep (Oth.of_only o0);have HE0:Hid (wb.heap[w.heap.size]?=some (.cells #[.int .u32 (h.calls:Nat),.int .i64 (h.half:Nat),.int .i64 (h.used:Nat)] 131 (0,0))):=e0;have HO0:Hid (Only [] w wb):=o0;have HOK:Hid h.Ok:=hk;have hus:=hk.used
 have hsn:secsN (blkT L).length≤4294967296:=by unfold secsN;omega
 obtain ⟨k,hkk⟩:∃ k,secsN (blkT L).length=k:=⟨_,rfl⟩
 have hadd:IntKind.i64.wrap ((h.used:Int)+(k:Int))=((h.used+k:Nat):Int):=by rw [IntKind.wrap_i64];omega
 have HKK:Hid (secsN (blkT L).length=k):=hkk;have HRM:Hid (h.used+k≤(s.sec.length - 2) / 2→h.first s.sec.length+h.used+secsN (blkT L).length≤s.sec.length):=fun e=>half_room h0 hN (by omega);have HWS:Hid (s.wt=[]):=hw;have HHB:Hid (h.half≤1):=h0;have HN8:Hid (8≤s.sec.length):=hN
 have HBL:Hid (h.used+k≤(s.sec.length - 2) / 2→(blkT L).length≤1000000):=fun e=>by rw [← hkk] at e;unfold secsN at e;omega
 rw [hkk] at HSN;clear hd hl hk h0 hw hT o0 e0 hkk hbl hsn hus hW;obtain ⟨BT,hBT⟩:∃ BT,bs (blkT L)=BT:=⟨_,rfl⟩;rw [hBT] at HBK HSN;have HBT:Hid (bs (blkT L)=BT):=hBT;clear hBT
 go_enter Tryz.func111,Tryz.ntmps111
 go_upto_region 2 with (go_at_call 166;refine HBK.out.mono ?_;rintro e w1 ⟨rfl,h1⟩;have HO:Hid (Only [] wb w1):=h1;clear h1)
 clear hwb HBK;have HD1:Hid (Ds g w1 s):=HD0.out.keep HO.out;have HLG1:Hid (LogAt w1 g l false):=HLG0.out.keep (Oth.of_only HO.out);have HOT:Hid (Oth w w1):=(Oth.of_only HO0.out).trans (Oth.of_only HO.out);have HB1:Hid (w1.heap[w.heap.size]?=some (.cells #[.int .u32 (h.calls:Nat),.int .i64 (h.half:Nat),.int .i64 (h.used:Nat)] 131 (0,0))):=kept3 HE0.out HO.out;clear HD0 HLG0 HE0 HO0 HO;obtain ⟨hb,ehb⟩:∃ hb,w.heap.size=hb:=⟨_,rfl⟩;rw [ehb] at HB1 ⊢;clear ehb;have HTH:Hid (∀ n,Calls Tryz.prog 126 #[.pointer (some ⟨g.t,0,none⟩)] (w1.drewN n) fun e w'=>e = .returned (.int .i64 ((s.sec.length - 2) / 2:Nat))∧w'=w1.drewN n):=fun n=>(HD1.out.keep (drewsD (Only.refl [] _) n)).half (by have:=HN8.out;omega);obtain ⟨z0,z1,z2,z4,z5⟩:=cells3 HB1.out;obtain ⟨l0,l1,l2,l3⟩:=HLG1.out.cells;have ce:w1.cell? ⟨9,0,none⟩=some (.iface 535 (.pointer (some (g.A 8)))):=HD1.out.err 8 (by simp);obtain ⟨M,hM⟩:∃ M,(s.sec.length - 2) / 2=M:=⟨_,rfl⟩;have HM:Hid ((s.sec.length - 2) / 2=M):=hM;rw [hM] at HTH HRM HBL;clear hM;obtain ⟨tk,htk⟩:∃ tk,h.used+k=tk:=⟨_,rfl⟩;have HTK:Hid (h.used+k=tk):=htk;rw [htk] at hadd HRM HBL;clear htk
 by_cases hf:M < tk
 · have d0:decide ((M:Int) < (tk:Int))=true:=decide_eq_true (by omega)
   go_quiet (first
     | (go_at_call 167;refine Calls.quiet_of_same (HSN.out _))
     | (go_at_call 126;refine Calls.quiet_of_same (HTH.out _)))
   have ho:Only [] w1 (w1.drewN nq):=drewsD (Only.refl [] _) nq
   go_wp2
   go_ret
   refine Or.inl ⟨by rw [HM.out,HKK.out,HTK.out];exact hf,rfl,HD1.out.keep ho,HLG1.out.keep (Oth.of_only ho),(HOT.out.trans (Oth.of_only ho)).toL⟩
 · have d0:decide ((M:Int) < (tk:Int))=false:=decide_eq_false (by omega)
   have hroom:=HRM.out (by omega);have hlen:=HBL.out (by omega)
   have HWf:Hid (h.used+secsN (blkT L).length≤(s.sec.length - 2) / 2):=by rw [HM.out,HKK.out,HTK.out];show _≤_;omega
   go_quiet (first
     | (go_at_call 167;refine Calls.quiet_of_same (HSN.out _))
     | (go_at_call 126;refine Calls.quiet_of_same (HTH.out _)))
   have ho:Only [] w1 (w1.drewN nq):=drewsD (Only.refl [] _) nq;have HD2:Hid (Ds g (w1.drewN nq) s):=HD1.out.keep ho;have HB2:=kept3 HB1.out ho;have HL2:Hid (LogAt (w1.drewN nq) g l false):=HLG1.out.keep (Oth.of_only ho);have HOT2:Hid (Oth w (w1.drewN nq)):=HOT.out.trans (Oth.of_only ho);clear HD1 HB1 HLG1 HOT HTH z0 z1 z2 z4 z5 l0 l1 l2 l3 ce HRM HBL ho d0;generalize w1.drewN nq=W2 at HD2 HB2 HL2 HOT2 ⊢;have HB3:Hid (W2.heap[hb]?=some (.cells #[.int .u32 (h.calls:Nat),.int .i64 (h.half:Nat),.int .i64 (h.used:Nat)] 131 (0,0))):=HB2;clear HB2
   haveI:Nonempty (OnlyBy W2):=⟨⟨_,Only.refl _ _⟩⟩
   have y0:∀ p:OnlyBy W2,p.w.cell? ⟨hb,0,none⟩=some (.int .u32 (h.calls:Nat)):=fun p=>(cells3 (kept3 HB3.out p.ho)).1;have y1:∀ p:OnlyBy W2,p.w.cell? ⟨hb,1,none⟩=some (.int .i64 (h.half:Nat)):=fun p=>(cells3 (kept3 HB3.out p.ho)).2.1;have y2:∀ p:OnlyBy W2,p.w.cell? ⟨hb,2,none⟩=some (.int .i64 (h.used:Nat)):=fun p=>(cells3 (kept3 HB3.out p.ho)).2.2.1;have y4:∀ p:OnlyBy W2,p.w.cell? ⟨l,0,none⟩=some (.pointer (some ⟨g.t,0,none⟩)):=fun p=>(HL2.out.keep (Oth.of_only p.ho)).cells.1
   have HCM:Hid (∀ p:OnlyBy W2,Calls Tryz.prog 168 #[hdV h,.pointer (some ⟨g.t,0,none⟩),.string BT] p.w fun e w'=>(e = .returned .nilIface∧∃ s',CommP s h (blkT L) 0 s'∧Ds g w' s'∧Oth p.w w')∨(e = .returned (.iface 535 (.pointer (some (g.A 14))))∧∃ s',CommP s h (blkT L) 15 s'∧Ds g w' s'∧Oth p.w w')):=fun p=>by
     have:=commit_ok (HD2.out.keep p.ho) h HOK.out HHB.out (by have:=HN8.out;omega) (blkT L) hlen hroom HWS.out;rw [HBT.out] at this;refine this.mono fun e w' q=>?_;obtain ⟨c,s',he,hP,h1,h2⟩:=q;rcases hP with hP | hP
     · obtain rfl:=hP.1
       exact Or.inr ⟨he,s',Or.inl hP,h1,h2⟩
     · obtain rfl:=hP.1
       exact Or.inl ⟨he,s',Or.inr hP,h1,h2⟩
   clear hroom hlen
   go_upto_region 4 with (fail)
   refine wp_region_any (by kernel_rfl) ?_
   change wpAny _ _ _ _ _ _ _ (World.drew _)
   refine wpAny_pre2 (w0:=W2) (k0:=0) 6 2 _ rfl (by decide) (by kernel_rfl) (by kernel_rfl) (by kernel_rfl) (by kernel_rfl) (Only.refl [] _).drew ?_;simp only [List.drop_zero,List.take_succ_cons,List.take_zero]
   repeat (first | go_big_quiet_skip | quiet_step (skip))
   refine wpQuiet_nil ?_;intro _ hw';obtain ⟨p2,hw2⟩:=hw';subst hw2;refine wpAny_ready (rs:=[6]) (by kernel_rfl) (by simp) ?_;refine AllReady.cons rfl (fun K hK=>?_) AllReady.nil
   go_simp
   refine (HCM.out p2).mono ?_;rintro e w3 (⟨rfl,s',hP,h1,h2⟩ | ⟨rfl,s',hP,h1,h2⟩)
   · have HL3:Hid (LogAt w3 g l false):=(HL2.out.keep (Oth.of_only p2.ho)).keep h2
     have HO3:Hid (Oth w w3):=(HOT2.out.trans (Oth.of_only p2.ho)).trans h2;have HD3:Hid (Ds g w3 s'):=h1;have HP:Hid (CommP s h (blkT L) 0 s'):=hP;clear h1 h2 hP y0 y1 y2 y4;refine hK _ _ ?_;clear hK K;refine wpAny_ready (rs:=[7]) (by kernel_rfl) (by simp) ?_;refine AllReady.cons rfl (fun K hK=>?_) AllReady.nil
     go_simp
     refine hK _ _ ?_;clear hK K;refine wpAny_done (by kernel_rfl) ?_ _;obtain ⟨l0,l1,l2,l3⟩:=HL3.out.cells
     go_wp2
     go_ret
     exact Or.inr ⟨HWf.out,0,s',rfl,HP.out,HD3.out.poke HL3.out.blk (by decide) (by decide) (by decide) HL3.out.ge _ _,HL3.out.set false,HO3.out.toL.trans (HL3.out.oth _ _)⟩
   · have HL3:Hid (LogAt w3 g l false):=(HL2.out.keep (Oth.of_only p2.ho)).keep h2
     have HO3:Hid (Oth w w3):=(HOT2.out.trans (Oth.of_only p2.ho)).trans h2;have HD3:Hid (Ds g w3 s'):=h1;have HP:Hid (CommP s h (blkT L) 15 s'):=hP;clear h1 h2 hP y0 y1 y2 y4;refine hK _ _ ?_;clear hK K;refine wpAny_ready (rs:=[7]) (by kernel_rfl) (by simp) ?_;refine AllReady.cons rfl (fun K hK=>?_) AllReady.nil
     go_simp
     refine hK _ _ ?_;clear hK K;refine wpAny_done (by kernel_rfl) ?_ _;obtain ⟨l0,l1,l2,l3⟩:=HL3.out.cells
     go_wp2
     go_ret
     exact Or.inr ⟨HWf.out,15,s',rfl,HP.out,HD3.out.poke HL3.out.blk (by decide) (by decide) (by decide) HL3.out.ge _ _,HL3.out.set true,HO3.out.toL.trans (HL3.out.oth _ _)⟩
end
end
end Go.Proofs.YtmnidbnaneagjaaGreatDoor
