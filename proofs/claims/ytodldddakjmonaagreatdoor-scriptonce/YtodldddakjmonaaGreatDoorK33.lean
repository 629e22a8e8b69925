import Derived.Test.YtodldddakjmonaaGreatDoorK30
import Derived.Test.YtodldddakjmonaaGreatDoorK32
set_option maxHeartbeats 8000000
namespace Go.Proofs.YtodldddakjmonaaGreatDoor
section
open Go Go.RowKit Go.Deep Go.Maps
theorem ClrAt.cells {w:World}{c:Nat}{a b t:ByteArray}{n:Int}(h:ClrAt w c a b n t):w.cell? ⟨c,0,none⟩=some (.string a)∧w.cell? ⟨c,1,none⟩=some (.string b)∧w.cell? ⟨c,2,none⟩=some (.int .i64 n)∧w.cell? ⟨c,3,none⟩=some (.string t)∧(∀ o,w.frozen? ⟨c,o,none⟩=false)∧c < w.heap.size :=
 ⟨cell_of_row _ _ 0 _ _ _ h,cell_of_row _ _ 1 _ _ _ h,cell_of_row _ _ 2 _ _ _ h,cell_of_row _ _ 3 _ _ _ h,fun _=>frozen_of_row _ _ _ _ _ h,(Array.getElem?_eq_some_iff.1 h).1⟩
theorem ClrAt.only {w w':World}{c:Nat}{a b t:ByteArray}{n:Int}{L:List Nat}(h:ClrAt w c a b n t)(ho:Only L w w')(hc:c∉L):ClrAt w' c a b n t:=(ho.block c (Array.getElem?_eq_some_iff.1 h).1 hc).trans h
theorem waits_is (w:World)(c:Nat)(a b t:ByteArray)(n:Int)(x:Bool)(h:ClrAt w c a b n t)(hx:(t.toList==[])=!x):Calls Tryz.prog 96 #[.pointer (some ⟨c,0,none⟩)] w fun e w'=>e = .returned (.bool x)∧w=w':=by
 obtain ⟨-,-,-,c3,-,-⟩:=h.cells;clear h
 cases x
 · have hx':(t.toList==[])=true:=hx
   clear hx
   go_enter Tryz.func96,Tryz.ntmps96
   go_wp2
   go_ret
   exact ⟨rfl,rfl⟩
 · have hx':(t.toList==[])=false:=hx
   clear hx
   go_enter Tryz.func96,Tryz.ntmps96
   go_wp2
   go_ret
   exact ⟨rfl,rfl⟩
variable {q1 q2 q3:Value}
def SentR (q1 q2 q3:Value)(w w':World)(base n:Nat)(v:Value)(l:List Msg)(x:Msg):Prop:=∃ v',QNet q1 q2 q3 w' base n v' (l++[x])∧Only (n::v.ownBlock.toList) w w'
theorem sent_ok (A:Nat→Addr)(w:World)(base n:Nat)(v:Value)(l:List Msg)(x:Msg)(hE:Errs w A)(h:QNet q1 q2 q3 w base n v l)(hl:l.length < 100)(hbs:base≤w.heap.size)(ha:OkN x.F)(hb:OkN x.T)(hx:x.X.size≤4000):
  Calls Tryz.prog 124 #[.pointer (some ⟨n,0,none⟩),.agg #[.string x.F,.string x.T,.string x.X]] w fun e w'=>e = .returned .nilIface∧SentR q1 q2 q3 w w' base n v l x :=
 (send_any A w base n v l x hE h (by omega) hbs).mono fun e w' q=>by
  obtain ⟨c,l',he,ho,v',h1,h2⟩:=q;rcases ho with ⟨h3,_⟩ | ⟨_,h3,_⟩ | ⟨_,_,h3,_⟩ | ⟨_,_,_,rfl,rfl⟩
  · exact absurd ⟨ha,hb⟩ h3
  · omega
  · omega
  · exact ⟨by rw [he];rfl,v',h1,h2⟩
theorem csend_ok (A:Nat→Addr)(w:World)(c base n:Nat)(v:Value)(l:List Msg)(a b s t:ByteArray)(k:Int)(hE:Errs w A)(h:QNet q1 q2 q3 w base n v l)(hl:l.length < 100)(hbs:base≤w.heap.size)(hc:ClrAt w c a b k t)(ha:OkN a)(hb:OkN b)(hx:s.size≤4000):
  Calls Tryz.prog 98 #[.pointer (some ⟨c,0,none⟩),.pointer (some ⟨n,0,none⟩),.string s] w fun e w'=>e = .returned .nilIface∧SentR q1 q2 q3 w w' base n v l ⟨a,b,s⟩:=by
 have HS:Hid (Calls Tryz.prog 124 #[.pointer (some ⟨n,0,none⟩),.agg #[.string a,.string b,.string s]] w.drew fun e w'=>e = .returned .nilIface∧SentR q1 q2 q3 w w' base n v l ⟨a,b,s⟩):=(sent_ok A w.drew base n v l ⟨a,b,s⟩ (hE.below ((Below.refl _ _).drew) (Nat.le_refl _)) (h.only (Only.refl [] w).drew (by simp) (fun _ _=>by simp)) hl hbs ha hb hx).mono fun e w' q=>⟨q.1,by
  obtain ⟨v',k1,k2⟩:=q.2
  exact ⟨v',k1,((Only.refl (n::v.ownBlock.toList) w).drew).trans k2 (fun k hk=>Or.inl hk)⟩⟩
 obtain ⟨c0,c1,-,-,-,-⟩:=hc.cells;have HS0:Hid (w.drew.cell? ⟨c,0,none⟩=some (.string a)∧w.drew.cell? ⟨c,1,none⟩=some (.string b)):=⟨c0,c1⟩
 haveI:Nonempty (OnlyBy w):=⟨⟨_,Only.refl _ _⟩⟩
 have y0:∀ p:OnlyBy w,p.w.cell? ⟨c,0,none⟩=some (.string a):=fun p=>(p.ho.cell (p:=⟨c,0,none⟩) (lt_of_cell c0) (by simp)).trans c0;have y1:∀ p:OnlyBy w,p.w.cell? ⟨c,1,none⟩=some (.string b):=fun p=>(p.ho.cell (p:=⟨c,1,none⟩) (lt_of_cell c1) (by simp)).trans c1
 have HSA:Hid (∀ p:OnlyBy w,Calls Tryz.prog 124 #[.pointer (some ⟨n,0,none⟩),.agg #[.string a,.string b,.string s]] p.w fun e w'=>e = .returned .nilIface∧SentR q1 q2 q3 w w' base n v l ⟨a,b,s⟩):=fun p=>(sent_ok A p.w base n v l ⟨a,b,s⟩ (hE.below (p.ho.to_below (Nat.le_refl _) (fun _ h=>by cases h)) (Nat.le_refl _)) (h.only p.ho (by simp) (fun _ _=>by simp)) hl (Nat.le_trans hbs p.ho.size) ha hb hx).mono fun e w' q=>⟨q.1,by
  obtain ⟨v',k1,k2⟩:=q.2
  exact ⟨v',k1,(p.ho.mono (L':=n::v.ownBlock.toList) (fun _ hk=>by cases hk)).trans k2 (fun k hk=>Or.inl hk)⟩⟩
 clear hE h hl hbs hc ha hb hx c0 c1 HS0 HS
 go_enter Tryz.func98,Tryz.ntmps98
 go_wp2
 refine wp_region_any (by kernel_rfl) ?_
 change wpAny _ _ _ _ _ _ _ (World.drew _)
 refine wpAny_pre2 (w0:=w) (k0:=0) 11 2 _ rfl (by decide) (by kernel_rfl) (by kernel_rfl) (by kernel_rfl) (by kernel_rfl) (Only.refl [] _).drew ?_;simp only [List.drop_zero,List.take_succ_cons,List.take_zero]
 repeat (first | go_big_quiet_skip | quiet_step (fail))
 refine wpQuiet_nil ?_;intro _ hw';obtain ⟨p,hw2⟩:=hw';subst hw2;refine wpAny_ready (rs:=[11]) (by kernel_rfl) (by simp) ?_;refine AllReady.cons rfl (fun K hK=>?_) AllReady.nil
 go_simp
 go_wp2_with (go_at_call 124;go_must (refine (HSA.out p).mono ?_);rintro e w1 ⟨rfl,hr⟩;have H1:Hid (SentR q1 q2 q3 w w1 base n v l ⟨a,b,s⟩):=hr;clear hr)
 refine wpAny_ready (rs:=[12]) (by kernel_rfl) (by simp) ?_;refine AllReady.cons rfl (fun K hK=>?_) AllReady.nil
 go_simp
 refine hK _ _ ?_;clear hK K;refine wpAny_done (by kernel_rfl) ?_ _
 go_wp2
 go_ret
 exact ⟨rfl,H1.out⟩
variable {q1 q2 q3:Value}
theorem ClrAt.put {w:World}{c:Nat}{a b t:ByteArray}{n:Int}(h:ClrAt w c a b n t)(n':Int)(t':ByteArray):ClrAt ((w.setCell ⟨c,2,none⟩ (.int .i64 n')).setCell ⟨c,3,none⟩ (.string t')) c a b n' t' :=
 heap_setCell_same _ c 3 _ _ _ (heap_setCell_same w c 2 _ _ _ h)
theorem ClrAt.hush {w:World}{c:Nat}{a b t:ByteArray}{n:Int}(h:ClrAt w c a b n t)(t':ByteArray):ClrAt (w.setCell ⟨c,3,none⟩ (.string t')) c a b n t':=heap_setCell_same w c 3 _ _ _ h
theorem clr_row {w:World}{c base k:Nat}{a b t:ByteArray}{n:Int}{v:Value}{l:List Msg}(h:ClrAt w c a b n t)(hm:RowM 184 w base v l)(hk:v.ownBlock=some k):k∉[c]:=by
 obtain ⟨_,_,cur,hc⟩:=own_at hm hk;intro e;rw [List.mem_singleton.1 e] at hc;have h':w.heap[c]?=_:=h;rw [h'] at hc;simp at hc
theorem reqS_full (n:Nat)(s:ByteArray):((reqS n s).toList==[])=false:=by
 rw [Lib.toList_data,beq_eq_false_iff_ne];intro e;have h1:=data_length (reqS n s);rw [e,reqS_size] at h1;simp at h1;omega
theorem call_ok (A:Nat→Addr)(w:World)(c base n:Nat)(v:Value)(l:List Msg)(a b t:ByteArray)(hE:Errs w A)(h:QNet q1 q2 q3 w base n v l)(hl:l.length < 100)(hbs:base≤w.heap.size)(hc:ClrAt w c a b 0 ⟨#[]⟩)(hcn:c∉n::v.ownBlock.toList)(ha:OkN a)(hb:OkN b)(ht:t.size≤400):
  Calls Tryz.prog 68 #[.pointer (some ⟨c,0,none⟩),.pointer (some ⟨n,0,none⟩),.string t] w fun e w'=>e = .returned (.tuple #[.int .i64 1,.nilIface])∧ClrAt w' c a b 1 (reqS 1 t)∧(∃ v',QNet q1 q2 q3 w' base n v' (l++[⟨a,b,reqS 1 t⟩]))∧Only (c::n::v.ownBlock.toList) w w':=by
 have HW:Hid (Calls Tryz.prog 96 #[.pointer (some ⟨c,0,none⟩)] w fun e w'=>e = .returned (.bool false)∧w=w'):=waits_is w c a b _ 0 false hc (by rw [Lib.toList_data];rfl)
 have hz:(reqS 1 t).size≤4000:=by rw [reqS_size];have:=fillN_lt t.size;omega
 have HEn:Hid (Calls Tryz.prog 97 #[.agg #[.int .i64 1,.string t]] w fun e w'=>e = .returned (.tuple #[.string (reqS 1 t),.nilIface])∧Only [] w w'):=(encode_ok A 1 t w hE (by decide) (by omega) hz).mono fun e w' q=>⟨q.1,Only.of_below q.2 _⟩;have HS:Hid (∀ W,Only [] w W→Calls Tryz.prog 98 #[.pointer (some ⟨c,0,none⟩),.pointer (some ⟨n,0,none⟩),.string (reqS 1 t)] W fun e w'=>e = .returned .nilIface∧SentR q1 q2 q3 W w' base n v l ⟨a,b,reqS 1 t⟩):=fun W ho=>csend_ok A W c base n v l a b (reqS 1 t) _ 0 (hE.below (ho.to_below (Nat.le_refl _) (fun _ h=>by cases h)) (Nat.le_refl _)) (h.only ho (by simp) (fun _ _=>by simp)) hl (Nat.le_trans hbs ho.size) (hc.only ho (by simp)) ha hb hz;have HC:Hid (ClrAt w c a b 0 ⟨#[]⟩∧c∉n::v.ownBlock.toList):=⟨hc,hcn⟩;obtain ⟨-,-,c2,-,-,-⟩:=hc.cells;clear hE h hl hbs hc hcn ha hb ht hz
 go_enter Tryz.func68,Tryz.ntmps68
 go_wp2_with (first
  | (go_at_call 96;go_must (refine HW.out.mono ?_);rintro e wz ⟨rfl,rfl⟩)
  | (go_at_call 97;go_must (refine HEn.out.mono ?_);rintro e w1 ⟨rfl,ho⟩;have H1:Hid (Only [] w w1):=ho;clear ho)
  | (go_at_call 98;go_must (refine (HS.out w1 H1.out).mono ?_);rintro e w2 ⟨rfl,v2,hq,ho⟩;have H2:Hid (QNet q1 q2 q3 w2 base n v2 (l++[⟨a,b,reqS 1 t⟩])):=hq;have HO2:Hid (Only (n::v.ownBlock.toList) w w2):=(H1.out.mono (L':=n::v.ownBlock.toList) (fun _ hk=>by cases hk)).trans ho (fun k hk=>Or.inl hk);have hcl:=HC.out.1.only HO2.out HC.out.2;have HC2:Hid (ClrAt w2 c a b 0 ⟨#[]⟩):=hcl;obtain ⟨-,-,d2,d3,df,-⟩:=hcl.cells;have f2:=df 2;have f3:=df 3;clear hq ho hcl df))
 go_ret2
 have hos:Only [c] w2 ((w2.setCell ⟨c,2,none⟩ (.int .i64 1)).setCell ⟨c,3,none⟩ (.string (reqS 1 t))):=((Only.refl [c] w2).setCell (p:=⟨c,2,none⟩) (Or.inl (by simp)) _).setCell (p:=⟨c,3,none⟩) (Or.inl (by simp)) _;refine ⟨rfl,HC2.out.put 1 _,⟨v2,H2.out.only hos (by have:=HC.out.2;simp at this ⊢;exact fun e=>this.1 e.symm) (fun k hk=>?_)⟩,((HO2.out.mono (L':=c::n::v.ownBlock.toList) (fun k hk=>Or.inl (List.mem_cons_of_mem _ hk))).trans hos (fun k hk=>Or.inl (by rw [List.mem_singleton.1 hk];exact List.mem_cons_self)))⟩;exact clr_row HC2.out H2.out.own hk
abbrev msW (w:World)(x:Msg):World:=w.alloc (.cells #[.string x.F,.string x.T,.string x.X] 184)
theorem ms_cells (w:World)(x:Msg)(p:OnlyBy (msW w x)):p.w.cell? ⟨w.heap.size,0,none⟩=some (.string x.F)∧p.w.cell? ⟨w.heap.size,1,none⟩=some (.string x.T)∧p.w.cell? ⟨w.heap.size,2,none⟩=some (.string x.X) :=
 ⟨(p.ho.cell (p:=⟨w.heap.size,0,none⟩) (by simp) (by simp)).trans (by simp),(p.ho.cell (p:=⟨w.heap.size,1,none⟩) (by simp) (by simp)).trans (by simp),(p.ho.cell (p:=⟨w.heap.size,2,none⟩) (by simp) (by simp)).trans (by simp)⟩
theorem hear_pass (w:World)(c:Nat)(x:Msg)(a b t:ByteArray)(n:Int)(hc:ClrAt w c a b n t)(hp:(t.toList==[])=true∨(t.toList==[])=false∧(x.F.toList==b.toList)=false):
   Calls Tryz.prog 118 #[.pointer (some ⟨c,0,none⟩),.agg #[.string x.F,.string x.T,.string x.X]] w fun e w'=>e = .returned (.tuple #[.string ⟨#[]⟩,.bool false])∧Only [] w w':=by
 have oA:Only [] w (msW w x):=(Only.refl [] w).alloc _;have q:=ms_cells w x;have y0:∀ p:OnlyBy (msW w x),p.w.cell? ⟨w.heap.size,0,none⟩=some (.string x.F):=fun p=>(q p).1;have y1:∀ p:OnlyBy (msW w x),p.w.cell? ⟨w.heap.size,1,none⟩=some (.string x.T):=fun p=>(q p).2.1;have hC:∀ p:OnlyBy (msW w x),ClrAt p.w c a b n t:=fun p=>(hc.only oA (by simp)).only p.ho (by simp);have y2:∀ p:OnlyBy (msW w x),p.w.cell? ⟨c,0,none⟩=some (.string a):=fun p=>(hC p).cells.1;have y3:∀ p:OnlyBy (msW w x),p.w.cell? ⟨c,1,none⟩=some (.string b):=fun p=>(hC p).cells.2.1;have HO:Hid (∀ p:OnlyBy (msW w x),Only [] w p.w):=fun p=>oA.trans p.ho (fun _ hk=>by cases hk)
 haveI:Nonempty (OnlyBy (msW w x)):=⟨⟨_,Only.refl _ _⟩⟩
 rcases hp with h0 | ⟨h0,h1⟩
 · have HW:Hid (∀ p:OnlyBy (msW w x),Calls Tryz.prog 96 #[.pointer (some ⟨c,0,none⟩)] p.w fun e w'=>e = .returned (.bool false)∧Only [] p.w w'):=fun p=>(waits_is p.w c a b t n false (hC p) h0).mono fun e w' q=>⟨q.1,q.2 ▸ Only.refl [] _⟩
   clear hc h0 q hC oA
   go_enter Tryz.func118,Tryz.ntmps118
   go_wp2
   refine wp_region_quiet_only (w0:=msW w x) (Only.refl [] _) (by kernel_rfl) (by kernel_rfl) ?_
   repeat (first | go_big_quiet_skip | quiet_step (first | (go_at_call 96;refine Calls.only_of (HW.out _))))
   refine wpQuiet_nil ?_;intro _ hw';obtain ⟨p,hw2⟩:=hw';subst hw2
   go_wp2
   go_ret2
   exact ⟨rfl,HO.out p⟩
 · have HW:Hid (∀ p:OnlyBy (msW w x),Calls Tryz.prog 96 #[.pointer (some ⟨c,0,none⟩)] p.w fun e w'=>e = .returned (.bool true)∧Only [] p.w w'):=fun p=>(waits_is p.w c a b t n true (hC p) h0).mono fun e w' q=>⟨q.1,q.2 ▸ Only.refl [] _⟩
   clear hc h0 q hC oA
   go_enter Tryz.func118,Tryz.ntmps118
   go_wp2
   refine wp_region_quiet_only (w0:=msW w x) (Only.refl [] _) (by kernel_rfl) (by kernel_rfl) ?_
   repeat (first | go_big_quiet_skip | quiet_step (first | (go_at_call 96;refine Calls.only_of (HW.out _))))
   refine wpQuiet_nil ?_;intro _ hw';obtain ⟨p,hw2⟩:=hw';subst hw2
   go_wp2
   go_ret2
   exact ⟨rfl,HO.out p⟩
theorem hear_reply (A:Nat→Addr)(w:World)(c m:Nat)(a b t u:ByteArray)(hE:Errs w A)(hc:ClrAt w c a b m t)(ht:(t.toList==[])=false)(hm:m < 9223372036854775808)(hu:u.size≤400):
  Calls Tryz.prog 118 #[.pointer (some ⟨c,0,none⟩),.agg #[.string b,.string a,.string (reqS m u)]] w fun e w'=>e = .returned (.tuple #[.string u,.bool true])∧ClrAt w' c a b m ⟨#[]⟩∧Only [c] w w':=by
 obtain ⟨T,hT⟩:∃ T,reqS m u=T:=⟨_,rfl⟩;have oA:Only [] w (msW w ⟨b,a,T⟩):=(Only.refl [] w).alloc _;have q:=ms_cells w ⟨b,a,T⟩;have y0:∀ p:OnlyBy (msW w ⟨b,a,T⟩),p.w.cell? ⟨w.heap.size,0,none⟩=some (.string b):=fun p=>(q p).1;have y1:∀ p:OnlyBy (msW w ⟨b,a,T⟩),p.w.cell? ⟨w.heap.size,1,none⟩=some (.string a):=fun p=>(q p).2.1;have y4:∀ p:OnlyBy (msW w ⟨b,a,T⟩),p.w.cell? ⟨w.heap.size,2,none⟩=some (.string T):=fun p=>(q p).2.2;have hC:∀ p:OnlyBy (msW w ⟨b,a,T⟩),ClrAt p.w c a b m t:=fun p=>(hc.only oA (by simp)).only p.ho (by simp);have y2:∀ p:OnlyBy (msW w ⟨b,a,T⟩),p.w.cell? ⟨c,0,none⟩=some (.string a):=fun p=>(hC p).cells.1;have y3:∀ p:OnlyBy (msW w ⟨b,a,T⟩),p.w.cell? ⟨c,1,none⟩=some (.string b):=fun p=>(hC p).cells.2.1;have HO:Hid (∀ p:OnlyBy (msW w ⟨b,a,T⟩),Only [] w p.w):=fun p=>oA.trans p.ho (fun _ hk=>by cases hk)
 haveI:Nonempty (OnlyBy (msW w ⟨b,a,T⟩)):=⟨⟨_,Only.refl _ _⟩⟩
 have HW:Hid (∀ p:OnlyBy (msW w ⟨b,a,T⟩),Calls Tryz.prog 96 #[.pointer (some ⟨c,0,none⟩)] p.w fun e w'=>e = .returned (.bool true)∧Only [] p.w w'):=fun p=>(waits_is p.w c a b t m true (hC p) ht).mono fun e w' q=>⟨q.1,q.2 ▸ Only.refl [] _⟩
 have HD:Hid (∀ W,Only [] w W→Calls Tryz.prog 121 #[.string T] W fun e w'=>e = .returned (.tuple #[.agg #[.int .i64 m,.string u],.nilIface])∧Only [] W w'):=fun W ho=>(decode_any A T W (hE.below (ho.to_below (Nat.le_refl _) (fun _ h=>by cases h)) (Nat.le_refl _)) (by rw [← hT,reqS_size];have:=fillN_lt u.size;omega)).mono fun e w' q=>by
  obtain ⟨b1,b2,b3⟩:=req_back m u hm (by omega);rw [hT] at b1 b2 b3;obtain ⟨⟨r,he,⟨_,hr⟩ | ⟨hn,_⟩⟩,hb'⟩:=q
  · rw [b2,b3] at hr
    exact ⟨by rw [he,hr],Only.of_below hb' _⟩
  · exact absurd b1 hn
 have HC:Hid (∀ W,Only [] w W→ClrAt W c a b m t):=fun W ho=>hc.only ho (by simp);rw [hT];clear hE hc ht hm hu q hC oA hT
 go_enter Tryz.func118,Tryz.ntmps118
 go_wp2
 refine wp_region_quiet_only (w0:=msW w ⟨b,a,T⟩) (Only.refl [] _) (by kernel_rfl) (by kernel_rfl) ?_
 repeat (first | go_big_quiet_skip | quiet_step (first | (go_at_call 96;refine Calls.only_of (HW.out _))))
 refine wpQuiet_nil ?_;intro _ hw';obtain ⟨p,hw2⟩:=hw';subst hw2;have H0:Hid (Only [] w p.w):=HO.out p;have x2:=y4 p;clear y0 y1 y2 y3 y4 HO HW;generalize p.w=wp at H0 x2 ⊢
 go_wp2_with (go_at_call 121;go_must (refine (HD.out wp H0.out).mono ?_);rintro e w1 ⟨rfl,ho⟩;have H1:Hid (Only [] w w1):=H0.out.trans ho (fun _ hk=>by cases hk);clear ho)
 have hcl:=HC.out w1 H1.out;have o1:Only [] w1 (w1.alloc (.cells #[.int .i64 m,.string u] 220)):=(Only.refl [] w1).alloc _;have z0:∀ p:OnlyBy (w1.alloc (.cells #[.int .i64 m,.string u] 220)),p.w.cell? ⟨w1.heap.size,0,none⟩=some (.int .i64 m):=fun p=>(p.ho.cell (p:=⟨w1.heap.size,0,none⟩) (by simp) (by simp)).trans (by simp);have z1:∀ p:OnlyBy (w1.alloc (.cells #[.int .i64 m,.string u] 220)),p.w.cell? ⟨w1.heap.size,1,none⟩=some (.string u):=fun p=>(p.ho.cell (p:=⟨w1.heap.size,1,none⟩) (by simp) (by simp)).trans (by simp);have hC1:∀ p:OnlyBy (w1.alloc (.cells #[.int .i64 m,.string u] 220)),ClrAt p.w c a b m t:=fun p=>(hcl.only o1 (by simp)).only p.ho (by simp);have z2:∀ p:OnlyBy (w1.alloc (.cells #[.int .i64 m,.string u] 220)),p.w.cell? ⟨c,2,none⟩=some (.int .i64 m):=fun p=>(hC1 p).cells.2.2.1;have hne:c≠w1.heap.size:=Nat.ne_of_lt hcl.cells.2.2.2.2.2;have HO1:Hid (∀ p:OnlyBy (w1.alloc (.cells #[.int .i64 m,.string u] 220)),Only [] w p.w):=fun p=>(H1.out.trans o1 (fun _ hk=>by cases hk)).trans p.ho (fun _ hk=>by cases hk)
 haveI:Nonempty (OnlyBy (w1.alloc (.cells #[.int .i64 m,.string u] 220))):=⟨⟨_,Only.refl _ _⟩⟩
 have HC1:Hid (∀ p:OnlyBy (w1.alloc (.cells #[.int .i64 m,.string u] 220)),ClrAt p.w c a b m t):=hC1;clear hcl o1 hC1 HC HD H0 x2;refine wp_region_quiet_only (w0:=w1.alloc (.cells #[.int .i64 m,.string u] 220)) (Only.refl [] _) (by kernel_rfl) (by kernel_rfl) ?_
 repeat (first | go_big_quiet_skip | quiet_step (skip))
 refine wpQuiet_nil ?_;intro _ hw';obtain ⟨p1,hw2⟩:=hw';subst hw2;have x1:=z1 p1;have HCL:Hid (ClrAt p1.w c a b m t):=HC1.out p1;have HO2:Hid (Only [] w p1.w):=HO1.out p1;obtain ⟨-,-,-,d3,df,dl⟩:=HCL.out.cells;have f3:=df 3;clear z0 z1 z2 df HO1 HC1;generalize p1.w=w2 at x1 HCL HO2 d3 dl f3 ⊢
 go_wp2
 go_ret2
 exact ⟨rfl,HCL.out.hush _,(HO2.out.mono (L':=[c]) (fun _ hk=>by cases hk)).setCell (p:=⟨c,3,none⟩) (Or.inl (by simp)) _⟩
theorem LsnAt.cells {w:World}{l c s:Nat}{a:ByteArray}(h:LsnAt w l c a s):w.cell? ⟨l,0,none⟩=some (.pointer (some ⟨c,0,none⟩))∧w.cell? ⟨l,1,none⟩=some (.string a)∧w.cell? ⟨l,2,none⟩=some (.pointer (some ⟨s,0,none⟩))∧l < w.heap.size :=
 ⟨cell_of_row _ _ 0 _ _ _ h,cell_of_row _ _ 1 _ _ _ h,cell_of_row _ _ 2 _ _ _ h,(Array.getElem?_eq_some_iff.1 h).1⟩
theorem LsnAt.kept {w w':World}{l c s:Nat}{a:ByteArray}{L:List Nat}(h:LsnAt w l c a s)(ho:Only L w w')(hc:l∉L):LsnAt w' l c a s:=(ho.block l (Array.getElem?_eq_some_iff.1 h).1 hc).trans h
theorem lhear_ok (A:Nat→Addr)(w:World)(l c s n k:Nat)(a b u r:ByteArray)(did:Bool)(LL:List Nat)(P Q:World→Prop)(hE:Errs w A)(hl:LsnAt w l c b s)(hlL:l∉LL)(hLw:∀ k∈LL,k < w.heap.size)(hk:k < 9223372036854775808)(hu:u.size≤400)
   (hO:∀ W,Only [] w W→Calls Tryz.prog 122 #[.agg #[.pointer (some ⟨c,0,none⟩)],.string a,.agg #[.int .i64 k,.string u],.func (.func 123) #[.pointer (some ⟨l,0,none⟩)] #[]] W fun e w'=>e = .returned (.tuple #[.string r,.bool did,.nilIface])∧P w'∧Only LL W w')
   (hS:∀ W W',P W→Only [] W W'→Calls Tryz.prog 124 #[.pointer (some ⟨n,0,none⟩),.agg #[.string b,.string a,.string r]] W' fun e w'=>e = .returned .nilIface∧Q w') :
   Calls Tryz.prog 79 #[.pointer (some ⟨l,0,none⟩),.pointer (some ⟨n,0,none⟩),.agg #[.string a,.string b,.string (reqS k u)]] w fun e w'=>e = .returned (.tuple #[.bool did,.nilIface])∧Q w':=by
 obtain ⟨T,hT⟩:∃ T,reqS k u=T:=⟨_,rfl⟩;have oA:Only [] w (msW w ⟨a,b,T⟩):=(Only.refl [] w).alloc _;have q:=ms_cells w ⟨a,b,T⟩;have y1:∀ p:OnlyBy (msW w ⟨a,b,T⟩),p.w.cell? ⟨w.heap.size,1,none⟩=some (.string b):=fun p=>(q p).2.1;have y4:∀ p:OnlyBy (msW w ⟨a,b,T⟩),p.w.cell? ⟨w.heap.size,2,none⟩=some (.string T):=fun p=>(q p).2.2;have HM:Hid (∀ p:OnlyBy (msW w ⟨a,b,T⟩),p.w.cell? ⟨w.heap.size,0,none⟩=some (.string a)):=fun p=>(q p).1;have y2:∀ p:OnlyBy (msW w ⟨a,b,T⟩),p.w.cell? ⟨l,1,none⟩=some (.string b):=fun p=>((hl.kept oA (by simp)).kept p.ho (by simp)).cells.2.1;have HO:Hid (∀ p:OnlyBy (msW w ⟨a,b,T⟩),Only [] w p.w):=fun p=>oA.trans p.ho (fun _ hk=>by cases hk)
 haveI:Nonempty (OnlyBy (msW w ⟨a,b,T⟩)):=⟨⟨_,Only.refl _ _⟩⟩
 have HD:Hid (∀ W,Only [] w W→Calls Tryz.prog 121 #[.string T] W fun e w'=>e = .returned (.tuple #[.agg #[.int .i64 k,.string u],.nilIface])∧Only [] W w'):=fun W ho=>(decode_any A T W (hE.below (ho.to_below (Nat.le_refl _) (fun _ h=>by cases h)) (Nat.le_refl _)) (by rw [← hT,reqS_size];have:=fillN_lt u.size;omega)).mono fun e w' q=>by
   obtain ⟨b1,b2,b3⟩:=req_back k u hk (by omega);rw [hT] at b1 b2 b3;obtain ⟨⟨r,he,⟨_,hr⟩ | ⟨hn,_⟩⟩,hb'⟩:=q
   · rw [b2,b3] at hr
     exact ⟨by rw [he,hr],Only.of_below hb' _⟩
   · exact absurd b1 hn
 have HN:Hid (∀ W,Only [] w W→Calls Tryz.prog 122 #[.agg #[.pointer (some ⟨c,0,none⟩)],.string a,.agg #[.int .i64 k,.string u],.func (.func 123) #[.pointer (some ⟨l,0,none⟩)] #[]] W fun e w'=>e = .returned (.tuple #[.string r,.bool did,.nilIface])∧P w'∧Only LL W w'):=hO;have HS:Hid (∀ W W',P W→Only [] W W'→Calls Tryz.prog 124 #[.pointer (some ⟨n,0,none⟩),.agg #[.string b,.string a,.string r]] W' fun e w'=>e = .returned .nilIface∧Q w'):=hS;have HL:Hid (∀ W,Only LL w W→LsnAt W l c b s):=fun W ho=>hl.kept ho hlL
 have HX:Hid (∀ k,w.heap.size≤k→k∉LL):=fun k hk h=>by have:=hLw k h;omega
 rw [hT];clear hE hl hlL hLw hk hu q oA hT hO hS
 go_enter Tryz.func79,Tryz.ntmps79
 go_wp2
 refine wp_region_quiet_only (w0:=msW w ⟨a,b,T⟩) (Only.refl [] _) (by kernel_rfl) (by kernel_rfl) ?_
 repeat (first | go_big_quiet_skip | quiet_step (skip))
 refine wpQuiet_nil ?_;intro _ hw';obtain ⟨p,hw2⟩:=hw';subst hw2;have H0:Hid (Only [] w p.w):=HO.out p;have x2:=y4 p;have HM0:Hid (p.w.cell? ⟨w.heap.size,0,none⟩=some (.string a)):=HM.out p;clear y1 y2 y4 HO HM;generalize p.w=wp at H0 x2 HM0 ⊢
 go_wp2_with (go_at_call 121;go_must (refine (HD.out wp H0.out).mono ?_);rintro e w1 ⟨rfl,ho⟩;have H1:Hid (Only [] wp w1):=ho;clear ho)
 have o0:Only [] w w1:=H0.out.trans H1.out (fun _ hk=>by cases hk);have m1:w1.cell? ⟨w.heap.size,0,none⟩=some (.string a):=(H1.out.cell (p:=⟨w.heap.size,0,none⟩) (lt_of_cell HM0.out) (by simp)).trans HM0.out;have o1:Only [] w1 (w1.alloc (.cells #[.int .i64 k,.string u] 220)):=(Only.refl [] w1).alloc _;have oW:Only [] w (w1.alloc (.cells #[.int .i64 k,.string u] 220)):=o0.trans o1 (fun _ hk=>by cases hk);have z0:∀ p:OnlyBy (w1.alloc (.cells #[.int .i64 k,.string u] 220)),p.w.cell? ⟨w1.heap.size,0,none⟩=some (.int .i64 k):=fun p=>(p.ho.cell (p:=⟨w1.heap.size,0,none⟩) (by simp) (by simp)).trans (by simp);have z1:∀ p:OnlyBy (w1.alloc (.cells #[.int .i64 k,.string u] 220)),p.w.cell? ⟨w1.heap.size,1,none⟩=some (.string u):=fun p=>(p.ho.cell (p:=⟨w1.heap.size,1,none⟩) (by simp) (by simp)).trans (by simp);have z2:∀ p:OnlyBy (w1.alloc (.cells #[.int .i64 k,.string u] 220)),p.w.cell? ⟨w.heap.size,0,none⟩=some (.string a):=fun p=>((o1.trans p.ho (fun _ hk=>by cases hk)).cell (p:=⟨w.heap.size,0,none⟩) (lt_of_cell m1) (by simp)).trans m1;have z3:∀ p:OnlyBy (w1.alloc (.cells #[.int .i64 k,.string u] 220)),p.w.cell? ⟨l,0,none⟩=some (.pointer (some ⟨c,0,none⟩)):=fun p=>(HL.out p.w ((oW.trans p.ho (fun _ hk=>by cases hk)).mono (fun _ hk=>by cases hk))).cells.1;have HO1:Hid (∀ p:OnlyBy (w1.alloc (.cells #[.int .i64 k,.string u] 220)),Only [] w p.w):=fun p=>oW.trans p.ho (fun _ hk=>by cases hk);have HM1:Hid (∀ p:OnlyBy (w1.alloc (.cells #[.int .i64 k,.string u] 220)),p.w.cell? ⟨w.heap.size,0,none⟩=some (.string a)):=z2
 haveI:Nonempty (OnlyBy (w1.alloc (.cells #[.int .i64 k,.string u] 220))):=⟨⟨_,Only.refl _ _⟩⟩
 clear H0 x2 HM0 o0 m1 o1 oW HD H1;refine wp_region_any (by kernel_rfl) ?_
 change wpAny _ _ _ _ _ _ _ (World.drew _)
 refine wpAny_pre2 (w0:=w1.alloc (.cells #[.int .i64 k,.string u] 220)) (k0:=0) 9 8 _ rfl (by decide) (by kernel_rfl) (by kernel_rfl) (by kernel_rfl) (by kernel_rfl) (Only.refl [] _).drew ?_;simp only [List.drop_zero,List.take_succ_cons,List.take_zero]
 repeat (first | go_big_quiet_skip | quiet_step (fail))
 refine wpQuiet_nil ?_;intro _ hw';obtain ⟨p1,hw2⟩:=hw';subst hw2;have HP:Hid (Only [] w p1.w):=HO1.out p1;have HM2:Hid (p1.w.cell? ⟨w.heap.size,0,none⟩=some (.string a)):=HM1.out p1;clear z0 z1 z2 z3 HO1 HM1;generalize p1.w=w2 at HP HM2 ⊢;refine wpAny_ready (rs:=[9]) (by kernel_rfl) (by simp) ?_;refine AllReady.cons rfl (fun K hK=>?_) AllReady.nil
 go_simp
 go_wp2_with (go_at_call 122;go_must (refine (HN.out w2 HP.out).mono ?_);rintro e w3 ⟨rfl,hp,ho⟩;have HP3:Hid (P w3):=hp;have HO3:Hid (Only LL w2 w3):=ho;clear hp ho)
 refine wpAny_take (i:=10) (v:=?_) rfl (by kernel_rfl) (by kernel_rfl) (by kernel_rfl) (fun _ _ _ h=>h) (Or.inl ⟨by rfl,?_⟩) ?_
 rotate_left
 · intro w;go_simp;try with_reducible rfl
 refine wpAny_take (i:=11) (v:=?_) rfl (by kernel_rfl) (by kernel_rfl) (by kernel_rfl) (fun _ _ _ h=>h) (Or.inl ⟨by rfl,?_⟩) ?_
 rotate_left
 · intro w;go_simp;try with_reducible rfl
 refine wpAny_take (i:=12) (v:=?_) rfl (by kernel_rfl) (by kernel_rfl) (by kernel_rfl) (fun _ _ _ h=>h) (Or.inl ⟨by rfl,?_⟩) ?_
 rotate_left
 · intro w;go_simp;try with_reducible rfl
 refine wpAny_take (i:=13) (v:=?_) rfl (by kernel_rfl) (by kernel_rfl) (by kernel_rfl) (fun _ _ _ h=>h) (Or.inl ⟨by rfl,?_⟩) ?_
 rotate_left
 · intro w;go_simp;try with_reducible rfl
 refine wpAny_ready (rs:=[14]) (by kernel_rfl) (by simp) ?_;refine AllReady.cons rfl (fun K hK=>?_) AllReady.nil
 go_simp
 refine hK _ _ ?_;clear hK K;refine wpAny_ready (rs:=[15]) (by kernel_rfl) (by simp) ?_;refine AllReady.cons rfl (fun K hK=>?_) AllReady.nil
 go_simp
 refine hK _ _ ?_;clear hK K;refine wpAny_ready (rs:=[16]) (by kernel_rfl) (by simp) ?_;refine AllReady.cons rfl (fun K hK=>?_) AllReady.nil
 go_simp
 refine hK _ _ ?_;clear hK K;refine wpAny_done (by kernel_rfl) ?_ _;have hLS:=HL.out w3 ((HP.out.mono (L':=LL) (fun _ hk=>by cases hk)).trans HO3.out (fun k hk=>Or.inl hk));have m3:w3.cell? ⟨w.heap.size,0,none⟩=some (.string a):=(HO3.out.cell (p:=⟨w.heap.size,0,none⟩) (lt_of_cell HM2.out) (HX.out _ (Nat.le_refl _))).trans HM2.out;have y0:∀ p:OnlyBy w3,p.w.cell? ⟨w.heap.size,0,none⟩=some (.string a):=fun p=>(p.ho.cell (p:=⟨w.heap.size,0,none⟩) (lt_of_cell m3) (by simp)).trans m3;have y1:∀ p:OnlyBy w3,p.w.cell? ⟨l,1,none⟩=some (.string b):=fun p=>(hLS.kept p.ho (by simp)).cells.2.1
 haveI:Nonempty (OnlyBy w3):=⟨⟨_,Only.refl _ _⟩⟩
 have HSA:Hid (∀ p:OnlyBy w3,Calls Tryz.prog 124 #[.pointer (some ⟨n,0,none⟩),.agg #[.string b,.string a,.string r]] p.w fun e w'=>e = .returned .nilIface∧Q w'):=fun p=>HS.out w3 p.w HP3.out p.ho;clear HL m3 HX hLS HS HN HP HM2 HO3 HP3
 go_wp2
 refine wp_region_any (by kernel_rfl) ?_
 change wpAny _ _ _ _ _ _ _ (World.drew _)
 refine wpAny_pre2 (w0:=w3) (k0:=0) 9 2 _ rfl (by decide) (by kernel_rfl) (by kernel_rfl) (by kernel_rfl) (by kernel_rfl) (Only.refl [] _).drew ?_;simp only [List.drop_zero,List.take_succ_cons,List.take_zero]
 repeat (first | go_big_quiet_skip | quiet_step (fail))
 refine wpQuiet_nil ?_;intro _ hw';obtain ⟨p3,hw3⟩:=hw';subst hw3;refine wpAny_ready (rs:=[9]) (by kernel_rfl) (by simp) ?_;refine AllReady.cons rfl (fun K hK=>?_) AllReady.nil
 go_simp
 go_wp2_with (go_at_call 124;go_must (refine (HSA.out p3).mono ?_);rintro e w4 ⟨rfl,hr⟩;have H4:Hid (Q w4):=hr;clear hr)
 refine wpAny_ready (rs:=[10]) (by kernel_rfl) (by simp) ?_;refine AllReady.cons rfl (fun K hK=>?_) AllReady.nil
 go_simp
 refine hK _ _ ?_;clear hK K;refine wpAny_done (by kernel_rfl) ?_ _
 go_wp2
 go_ret2
 exact ⟨rfl,H4.out⟩
structure RootF (w:World)(tr:Nat)(T:Tr)(nm:ByteArray):Prop where
 at1:RootAt w tr T 1
 ds:∃ d,T.ds 0=some d∧d.l=[⟨nm.data.toList,1,0⟩]
 nd:∃ n,T.nd 1=some n∧n.K=1
 g1:T.g 1=0
theorem RootF.kept {w w':World}{tr:Nat}{T:Tr}{nm:ByteArray}{L:List Nat}(h:RootF w tr T nm)(ho:Only L w w')(hL:∀ k,FootT tr T k→k∉L):RootF w' tr T nm:=⟨h.at1.kept ho hL,h.ds,h.nd,h.g1⟩
def MadeF (tr N0:Nat)(nm:ByteArray)(W w':World):Prop:=∃ T,RootF w' tr T nm∧∀ k,FootT tr T k→k < N0∨W.heap.size≤k
theorem create_fresh3 (A:Nat→Addr)(w:World)(tr t:Nat)(p:Row)(b db B pb:Nat)(nm:ByteArray)(hE:Errs w A)(hT:TreeAt w tr (Tr.fresh t p 300 b db B pb))(hN:p.N=1)(hok:OkN nm)(N0:Nat)(hF:∀ k,FootT tr (Tr.fresh t p 300 b db B pb) k→k < N0):
   Calls Tryz.prog 307 #[.pointer (some ⟨tr,0,none⟩),.agg #[.int .i64 0,.int .i64 0],.string nm,.int .i64 1] w fun e w'=>e = .returned (.tuple #[.agg #[.int .i64 1,.int .i64 0],.nilIface])∧MadeF tr N0 nm w w'∧Only (B::b::t::p.a.toList) w w':=by
 have hcount:countTo (Tr.fresh t p 300 b db B pb).nd (Tr.fresh t p 300 b db B pb).p.N < (Tr.fresh t p 300 b db B pb).most:=by
   have:=countTo_le (Tr.fresh t p 300 b db B pb).nd (Tr.fresh t p 300 b db B pb).p.N;show _ < 300
   rw [show (Tr.fresh t p 300 b db B pb).p.N=1 from hN] at this ⊢
   omega
 have hsz:nm.size≤1000:=by have:=hok.2.1;omega
 have hcall:=create_file w tr (Tr.fresh t p 300 b db B pb) A 0 1 { newNod b 2 with Z:=0,L:=2 } ⟨B,[]⟩ nm hT hE rfl rfl rfl ⟨(show (0:Int)≤0 by decide),(show (0:Int)≤9000000000000000000 by decide)⟩ hok hsz rfl (by simp) (fun e he=>by cases he) (by decide) hcount rfl (fun j hj=>by obtain rfl:j=0:=(by omega);rfl);refine hcall.mono fun e w' hh=>?_;obtain ⟨he,p',b',hT0,hN',hb',hpa,ho⟩:=hh
 obtain ⟨T',ni,na',dd,⟨hdl,hT'⟩,t1,t2,t3,t4,t6,t7,t8,n1,n4,m1,m2,m4,m3⟩:∃ (T':Tr) (ni na':Nod) (dd:DirM),(dd.l=[⟨nm.data.toList,1,0⟩]∧TreeAt w' tr T')∧T'.t=t∧T'.db=db∧T'.pb=pb∧T'.g=(Tr.fresh t p 300 b db B pb).g∧T'.p=p'∧T'.ds=setN (Tr.fresh t p 300 b db B pb).ds 0 (some dd)∧T'.nd=setN (setN (Tr.fresh t p 300 b db B pb).nd 1 (some ni)) 0 (some na')∧ni.K=1∧(∀ k∈ni.foot,k=b')∧na'.K=2∧na'.C=1∧na'.Z=1∧(∀ k∈na'.foot,FootT tr (Tr.fresh t p 300 b db B pb) k)∧dd.b=B :=
   ⟨_,_,_,_,⟨rfl,hT0⟩,rfl,rfl,rfl,rfl,rfl,rfl,rfl,rfl,(fun k hk=>by simpa [newNod,Nod.foot,footD] using hk),rfl,rfl,rfl,(fun k hk=>foot_node (i:=0) (n:={ newNod b 2 with Z:=0,L:=2 }) rfl hk),rfl⟩
 have at0:T'.nd 0=some na':=by rw [t8,setN_same]
 refine ⟨he,⟨T',⟨⟨hT',⟨na',at0,m1,m4,m2⟩,by rw [t4];rfl,fun i n hn=>?_⟩,⟨dd,by rw [t7,setN_same],hdl⟩,⟨ni,by rw [t8,setN_other _ _ (by decide),setN_same],n1⟩,by rw [t4];rfl⟩,fun k hk=>?_⟩,ho⟩
 · rw [t8] at hn
   by_cases e0:i=0
   · subst e0
     rw [setN_same] at hn
     cases hn
     exact Or.inr ⟨m1,dd,by rw [t7,setN_same]⟩
   · rw [setN_other _ _ e0] at hn
     by_cases e1:i=1
     · subst e1
       rw [setN_same] at hn
       cases hn
       exact Or.inl ⟨n1,by rw [t7,setN_other _ _ e0];exact setN_other (fun _=>none) (some (⟨B,[]⟩:DirM)) e0⟩
     · rw [setN_other _ _ e1] at hn
       have hn3:setN (fun _=>none) 0 (some { newNod b 2 with Z:=0,L:=2 }) i=some n:=hn;rw [setN_other _ _ e0] at hn3
       cases hn3
 · rcases foot_step (T:=Tr.fresh t p 300 b db B pb) t1 t2 t3 hk with h1 | h1 | ⟨j,x,hx,hf⟩ | ⟨j,x,hx,hf⟩
   · exact Or.inl (hF k h1)
   · rw [t6] at h1
     rcases hpa k h1 with h2 | h2
     · exact Or.inl (hF k (foot_p h2))
     · exact Or.inr h2
   · rw [t8] at hx
     by_cases e0:j=0
     · subst e0
       rw [setN_same] at hx
       cases hx
       exact Or.inl (hF k (m3.1 k hf))
     · rw [setN_other _ _ e0] at hx
       by_cases e1:j=1
       · subst e1
         rw [setN_same] at hx
         cases hx
         rw [n4 k hf];exact Or.inr hb'
       · rw [setN_other _ _ e1] at hx
         exact Or.inl (hF k (foot_node hx hf))
   · rw [t7] at hx
     by_cases e0:j=0
     · subst e0
       rw [setN_same] at hx
       cases hx
       rw [hf,m3.2];exact Or.inl (hF _ (foot_dir (a:=0) (d:=⟨B,[]⟩) rfl rfl))
     · rw [setN_other _ _ e0] at hx
       rw [hf];exact Or.inl (hF _ (foot_dir hx rfl))
theorem compound_made3 (A:Nat→Addr)(w:World)(s tr t:Nat)(p:Row)(b db B pb g cap:Nat)(nm:ByteArray)(hE:Errs w A)(hs:w.cell? ⟨s,0,none⟩=some (.pointer (some ⟨tr,0,none⟩)))(hT:TreeAt w tr (Tr.fresh t p 300 b db B pb))(hN:p.N=1)(hok:OkN nm)(N0:Nat)(hF:∀ k,FootT tr (Tr.fresh t p 300 b db B pb) k→k < N0)
  (hr:Rws w w.heap.size opC 9 (some ⟨g,0,none⟩) [opR,opM nm]) (hg:g < w.heap.size) :
  Calls Tryz.prog 231 #[.pointer (some ⟨s,0,none⟩),.slice (some ⟨g,0,none⟩) 2 cap] w fun e w'=>TwoR w 0 (B::b::t::p.a.toList) (MadeF tr N0 nm) e w':=by
 have hlt:=lt_of_cell hs
 have hL:∀ k∈B::b::t::p.a.toList,k < w.heap.size:=fun k hk=>by
  rcases List.mem_cons.1 hk with e | hk
  · exact hT.foot_lt k (foot_dir (a:=0) (d:=⟨B,[]⟩) rfl e)
  · rcases List.mem_cons.1 hk with e | hk
    · rw [e];exact hT.foot_lt b (foot_node (i:=0) (n:={ newNod b 2 with Z:=0,L:=2 }) rfl (Nod.b_foot _))
    · rcases List.mem_cons.1 hk with e | hk
      · rw [e];exact hT.foot_lt t foot_t
      · exact hT.foot_lt k (foot_p (show p.a=some k by simpa using hk))
 refine compound_two w s tr g cap nm .nilIface 0 (MadeF tr N0 nm) (B::b::t::p.a.toList) hs hr hg hL ?_ (fun W _=>codedS_nil W 0);intro W c x ho hc hC hX
 have hcL:c∉B::b::t::p.a.toList:=fun h=>by have:=hL c h;omega
 refine (needCur_make W c s x 0 0 1 0 (opM nm) .nilIface w.heap.size hc (MadeF tr N0 nm) (B::b::t::p.a.toList) hC hX (fun k hk=>Nat.lt_of_lt_of_le (hL k hk) ho.size) ?_).mono fun e w' q=>⟨q.1,q.2.2.1,q.2.2.2⟩;intro W1 ho1;have ho2:=ho.trans ho1 (fun _ hk=>by cases hk);have hs1:W1.cell? ⟨s,0,none⟩=some (.pointer (some ⟨tr,0,none⟩)):=(ho2.cell (p:=⟨s,0,none⟩) hlt (by simp)).trans hs;refine make_ok W1 c s tr 0 0 (opM nm) 1 0 w.heap.size hc (MadeF tr N0 nm) (B::b::t::p.a.toList) (hC.only ho1 (by simp)) hs1 hcL (fun k hk=>Nat.lt_of_lt_of_le (hL k hk) ho2.size) (fun W2 ho3=>?_);have ho4:=ho2.trans ho3 (fun _ hk=>by cases hk);exact create_fresh3 A W2 tr t p b db B pb nm (hE.below (ho4.to_below (Nat.le_refl _) (fun _ h=>by cases h)) (Nat.le_refl _)) (hT.only ho4) hN hok N0 hF
end
end Go.Proofs.YtodldddakjmonaaGreatDoor
