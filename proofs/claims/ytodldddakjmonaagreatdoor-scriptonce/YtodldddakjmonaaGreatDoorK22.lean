import Derived.Test.YtodldddakjmonaaGreatDoorK21
set_option maxHeartbeats 8000000
namespace Go.Proofs.YtodldddakjmonaaGreatDoor
section
open Go Go.RowKit Go.Deep
def pAll {α:Type}(p:ParW α)(t:ByteArray):Option (List α):=match pList p t with
 | none=>none
 | some (l,t')=>if t'.size=0 then some l else none
theorem pAll_none {α:Type}{p:ParW α}{t:ByteArray}(h:pList p t=none):pAll p t=none:=by simp [pAll,h]
theorem pAll_more {α:Type}{p:ParW α}{t t':ByteArray}{l:List α}(h:pList p t=some (l,t'))(h0:t'.size≠0):pAll p t=none:=by simp [pAll,h,h0]
theorem pAll_some {α:Type}{p:ParW α}{t t':ByteArray}{l:List α}(h:pList p t=some (l,t'))(h0:t'.size=0):pAll p t=some l:=by simp [pAll,h,h0]
def OpsOwn (w:World)(base:Nat)(v:Value)(l:List OpV):Prop:=w.ownsRow base 163 9 v l.length (rowOf opC l)
def RpsOwn (w:World)(base:Nat)(v:Value)(l:List RpV):Prop:=∃ m:List (RpV×Value),m.map Prod.fst=l∧w.ownsRow base 169 9 v m.length (rowOf rpC m)∧∀ q∈m,EnOwn w base q.2 q.1.L
theorem OpsOwn.only {w w':World}{base:Nat}{v:Value}{l:List OpV}{L:List Nat}(h:OpsOwn w base v l)(ho:Only L w w')(hL:∀ k∈L,k < base):OpsOwn w' base v l:=ho.owns h (fun k hk hm=>absurd (hL k hm) (by have:=(own_at h hk).1;omega))
theorem RpsOwn.only {w w':World}{base:Nat}{v:Value}{l:List RpV}{L:List Nat}(h:RpsOwn w base v l)(ho:Only L w w')(hL:∀ k∈L,k < base):RpsOwn w' base v l:=by
 obtain ⟨m,h1,h2,h3⟩:=h;exact ⟨m,h1,ho.owns h2 (fun k hk hm=>absurd (hL k hm) (by have:=(own_at h2 hk).1;omega)),fun q hq=>(h3 q hq).only ho (fun k hk hm=>absurd (hL k hm) (by have:=(h3 q hq).at_ hk;omega))⟩
theorem OpsOwn.form {w:World}{base:Nat}{v:Value}{l:List OpV}(h:OpsOwn w base v l):∃ ad cap,v = .slice ad l.length cap:=by
 obtain ⟨ad,cap,e,_⟩:=own_rws (B:=w.heap.size) h opC_len (Nat.le_refl _);exact ⟨ad,cap,e⟩
theorem RpsOwn.form {w:World}{base:Nat}{v:Value}{l:List RpV}(h:RpsOwn w base v l):∃ ad cap,v = .slice ad l.length cap:=by
 obtain ⟨m,rfl,h2,_⟩:=h;obtain ⟨ad,cap,e,_⟩:=own_rws (B:=w.heap.size) h2 rpC_len (Nat.le_refl _);exact ⟨ad,cap,by rw [List.length_map];exact e⟩
theorem OpsOwn.low {w:World}{base b2:Nat}{v:Value}{l:List OpV}(h:OpsOwn w base v l)(hb:b2≤base):OpsOwn w b2 v l:=own_low h hb
theorem RpsOwn.low {w:World}{base b2:Nat}{v:Value}{l:List RpV}(h:RpsOwn w base v l)(hb:b2≤base):RpsOwn w b2 v l:=by
 obtain ⟨m,h1,h2,h3⟩:=h;exact ⟨m,h1,own_low h2 hb,fun q hq=>own_low (h3 q hq) hb⟩
def ROk {α:Type}(Own:World→Nat→Value→List α→Prop)(p:ParW α)(s:ByteArray)(xb pl:Nat)(W:World)(w':World):Prop:=∃ l v,pAll p s=some l∧w'.cell? ⟨pl,0,none⟩=some v∧Only [xb,pl] W w'∧Own w' W.heap.size v l
def RBad {α:Type}(A:Nat→Addr)(p:ParW α)(s:ByteArray)(xb pl:Nat)(W:World)(x:Value)(w':World):Prop:=x = .pointer (some (A 0))∧pAll p s=none∧Only [xb,pl] W w'
theorem keeps2 {w w':World}{b c:Nat}(h:Only [b,c] (w.alloc (.cells #[.nilIface] 27)) w')(hb:b < w.heap.size)(hc:c < w.heap.size):Keeps w w':=by
 have hn:w.heap.size∉[b,c]:=by simp;omega
 constructor
 · exact (h.cell (p:=⟨w.heap.size,0,none⟩) (by simp) hn).trans (by simp)
 · exact (h.frozen (p:=⟨w.heap.size,0,none⟩) (by simp) hn).trans (by simp)
theorem only_after2 {W4 w1:World}{b c:Nat}(v:Value)(h:Only [b,c] (W4.alloc (.cells #[.nilIface] 27)) w1):Only [b,c] W4 (w1.setCell ⟨W4.heap.size,0,none⟩ v) :=
 (((Only.refl [b,c] W4).alloc _).seq h).setCell (p:=⟨W4.heap.size,0,none⟩) (Or.inr (Nat.le_refl _)) v
theorem set_other {w1:World}{a b:Nat}{u:Value}(v:Value)(h:w1.cell? ⟨b,0,none⟩=some u)(hne:b≠a):(w1.setCell ⟨a,0,none⟩ v).cell? ⟨b,0,none⟩=some u:=by
 rw [World.cell?_setCell_other _ _ _ _ (by intro e;have:=congrArg Addr.block e;simp at this;omega)];exact h
theorem nil_of_size {t:ByteArray}(h:t.size=0):t=bs []:=by
 apply data_inj
 have:t.data.toList.length=0:=by simpa using h
 rw [List.eq_nil_of_length_eq_zero this];rfl
theorem yEnd (A:Nat→Addr)(rb xb:Nat)(t:ByteArray)(w:World)(h:RS w A rb xb t):Calls Tryz.prog 164 #[P0 xb] w fun e w'=>((t.size=0∧e = .returned .nilIface)∨(t.size≠0∧e = .returned (eVW A 0)))∧w=w':=by
 by_cases h0:t.size=0
 · exact (rEnd_none xb w (by rw [← nil_of_size h0];exact h.cell)).mono fun e w' q=>⟨Or.inl ⟨h0,q.1⟩,q.2⟩
 · exact (rEnd_some xb t _ w h.cell (h.err.cell 0 (by decide)) (by omega)).mono fun e w' q=>⟨Or.inr ⟨h0,q.1⟩,q.2⟩
theorem rOpsL (A:Nat→Addr)(rb xb:Nat)(t:ByteArray)(w:World)(h:RS w A rb xb t):Calls Tryz.prog 283 #[P0 rb,.func (.func 266) #[] #[]] w fun e w' =>
  (∃ l t' v,pList pOp t=some (l,t')∧e = .returned v∧Only [xb] w w'∧RS w' A rb xb t'∧OpsOwn w' w.heap.size v l)∨(pList pOp t=none∧e = .panicked (thrW (eVW A 0))∧Only [xb] w w') :=
 (rOps A rb xb t w h).mono fun _ _ h=>h
theorem r1Ops (A:Nat→Addr)(rb xb pr pe pl:Nat)(s:ByteArray)(W:World)(h:RS W A rb xb s)(c1:W.cell? ⟨pr,0,none⟩=some (P0 rb))(c2:W.cell? ⟨pe,0,none⟩=some (.func (.func 266) #[] #[]))(c3:W.cell? ⟨pl,0,none⟩=some (.slice none 0 0))(f3:W.frozen? ⟨pl,0,none⟩=false):
   Calls Tryz.prog 282 #[P0 pr,P0 pe,P0 pl] W (TEnd (ROk OpsOwn pOp s xb pl W) (RBad A pOp s xb pl W)):=by
 have H:Hid (∀ _:Unit,_):=fun _=>rOpsL A rb xb s W h;have KE:Hid (∀ t1 w1,RS w1 A rb xb t1→_):=fun t1 w1 k=>yEnd A rb xb t1 w1 k;have HH:Hid (RS W A rb xb s):=h
 have ne1:∀ b u,W.cell? ⟨b,0,none⟩=some u→(∀ q,u ≠ .string q)→b≠xb:=fun b u hb hu e=>by
   rw [e,h.cell] at hb;exact hu s (Option.some.inj hb).symm
 have np:pr≠xb:=ne1 _ _ c1 (by intro q hq;cases hq);have nl:pl≠xb:=ne1 _ _ c3 (by intro q hq;cases hq)
 have npl:pr≠pl:=fun e=>by rw [e,c3] at c1;cases c1
 have nrl:rb≠pl:=fun e=>by have:=h.ptr;rw [e,c3] at this;cases this
 have ngl:∀ k,(k=0∨k=1∨k=8)→gOf k≠pl:=fun k hk e=>by have:=h.err.cell k hk;rw [e,c3] at this;cases this
 have C1:Hid (W.cell? ⟨pr,0,none⟩=some (P0 rb)):=c1;have C3:Hid (W.cell? ⟨pl,0,none⟩=some (.slice none 0 0)):=c3;have F3:Hid (W.frozen? ⟨pl,0,none⟩=false):=f3;have NP:Hid (pr≠xb):=np;have NL:Hid (pl≠xb):=nl;have NPL:Hid (pr≠pl):=npl;have NRL:Hid (rb≠pl):=nrl;have NGL:Hid (∀ k,(k=0∨k=1∨k=8)→gOf k≠pl):=ngl;clear h c3 f3 ne1 np nl npl nrl ngl
 go_enter Tryz.func282,Tryz.ntmps282
 go_wp2_with fail
 clear c1 c2;refine (H.out ()).mono ?_;rintro e w1 (⟨l,t1,v,r,rfl,o,s1,hown⟩ | ⟨r,rfl,o⟩)
 rotate_left
 · exact ⟨rfl,Or.inr ⟨_,rfl,rfl,pAll_none r,o.mono (fun k hk=>Or.inl (by simp at hk;simp [hk]))⟩⟩
 obtain ⟨ad,cp,rfl⟩:=hown.form;have c3:=(o.cell (p:=⟨pl,0,none⟩) (lt_of_cell C3.out) (by simpa using NL.out)).trans C3.out;have f3:=(o.frozen (p:=⟨pl,0,none⟩) (lt_of_cell C3.out) (by simpa using NL.out)).trans F3.out;have hplt:pl < W.heap.size:=lt_of_cell C3.out;have o2:Only [pl] w1 (w1.setCell ⟨pl,0,none⟩ (.slice ad l.length cp)):=onlySet _ _ _;have HOWN:Hid (OpsOwn (w1.setCell ⟨pl,0,none⟩ (.slice ad l.length cp)) W.heap.size (.slice ad l.length cp) l):=hown.only o2 (by simpa using hplt)
 have HS2:Hid (RS (w1.setCell ⟨pl,0,none⟩ (.slice ad l.length cp)) A rb xb t1) :=
   ⟨(o2.cell (p:=⟨rb,0,none⟩) s1.ltr (by simpa using NRL.out)).trans s1.ptr,(o2.cell (p:=⟨xb,0,none⟩) s1.lt (by simpa using NL.out.symm)).trans s1.cell,(o2.frozen (p:=⟨xb,0,none⟩) s1.lt (by simpa using NL.out.symm)).trans s1.frz,s1.le,s1.err.only o2 (fun k hk=>by simpa using NGL.out k hk)⟩
 have HC3:Hid ((w1.setCell ⟨pl,0,none⟩ (.slice ad l.length cp)).cell? ⟨pl,0,none⟩=some (.slice ad l.length cp)):=World.cell?_setCell_same _ _ _ c3;have HC1:Hid ((w1.setCell ⟨pl,0,none⟩ (.slice ad l.length cp)).cell? ⟨pr,0,none⟩=some (P0 rb)):=set_other _ ((o.cell (p:=⟨pr,0,none⟩) (lt_of_cell C1.out) (by simpa using NP.out)).trans C1.out) NPL.out;have HO2:Hid (Only [xb,pl] W (w1.setCell ⟨pl,0,none⟩ (.slice ad l.length cp))):=(o.mono (L':=[xb,pl]) (fun k hk=>Or.inl (by simp at hk;simp [hk]))).seq (o2.mono (fun k hk=>Or.inl (by simp at hk;simp [hk])));have R:Hid (pList pOp s=some (l,t1)):=r;clear r o s1 hown o2;have c1:=HC1.out;have cx:=HS2.out.ptr
 go_wp2_with fail
 clear c1 cx c3 f3;refine (KE.out _ _ HS2.out).mono ?_;rintro e w2 ⟨⟨h0,rfl⟩ | ⟨h0,rfl⟩,rfl⟩
 · go_wp2_with (go_at_call 192;refine (must_nil _).mono ?_;rintro e w3 ⟨rfl,rfl⟩)
   go_end0
   exact Or.inl ⟨rfl,_,_,pAll_some R.out h0,HC3.out,HO2.out,HOWN.out⟩
 · go_wp2_with (go_at_call 192;refine (must_err _ _ _).mono ?_;rintro e w3 ⟨rfl,rfl⟩)
   exact ⟨rfl,Or.inr ⟨_,rfl,rfl,pAll_more R.out h0,HO2.out⟩⟩
def ReadOpsR (A:Nat→Addr)(s:ByteArray)(base:Nat)(w':World)(r:Value):Prop :=
 (pAll pOp s=none∧r = .tuple #[.slice none 0 0,eVW A 0])∨∃ l v,pAll pOp s=some l∧r = .tuple #[v,.nilIface]∧OpsOwn w' base v l
theorem readOps (A:Nat→Addr)(s:ByteArray)(w:World)(hE:Er3 w A)(hs:s.size≤5000):
   Calls Tryz.prog 265 #[.string s,.func (.func 266) #[] #[]] w fun e w'=>(∃ r,e = .returned r∧ReadOpsR A s w.heap.size w' r)∧Only [] w w':=by
 have hmf:∀ (fn:Fn) (first cap:Array Value) (w:World),(Instr.makeFunc fn first cap).run Tryz.prog w = .ok (.func fn first cap) w:=fun _ _ _ _=>rfl
 have KN:Hid (∀ W,_):=fun W=>newReader_any s W;obtain ⟨W4,hW4⟩:∃ W4,W4=((((w.alloc (.cells #[.func (.func 266) #[] #[]] 399)).alloc (.cells #[.string s] 284)).alloc (.cells #[.pointer (some ⟨w.heap.size+1,0,none⟩)] 355)).alloc (.cells #[.pointer (some ⟨w.heap.size+1+1,0,none⟩)] 298)).alloc (.cells #[.slice none 0 0] 158):=⟨_,rfl⟩;have HW4:Hid (W4=((((w.alloc (.cells #[.func (.func 266) #[] #[]] 399)).alloc (.cells #[.string s] 284)).alloc (.cells #[.pointer (some ⟨w.heap.size+1,0,none⟩)] 355)).alloc (.cells #[.pointer (some ⟨w.heap.size+1+1,0,none⟩)] 298)).alloc (.cells #[.slice none 0 0] 158)):=hW4;have ho:Only [] w W4:=hW4 ▸ (((((Only.refl [] w).alloc _).alloc _).alloc _).alloc _).alloc _
 have hsz:W4.heap.size=w.heap.size+5:=by rw [hW4];simp
 have c0:W4.cell? ⟨w.heap.size,0,none⟩=some (.func (.func 266) #[] #[]):=by rw [hW4];simp [go_sem]
 have c1:W4.cell? ⟨w.heap.size+1,0,none⟩=some (.string s):=by rw [hW4];simp [go_sem]
 have f1:W4.frozen? ⟨w.heap.size+1,0,none⟩=false:=by rw [hW4];simp [go_sem]
 have c2:W4.cell? ⟨w.heap.size+1+1,0,none⟩=some (P0 (w.heap.size+1)):=by rw [hW4];simp [go_sem]
 have c3:W4.cell? ⟨w.heap.size+1+1+1,0,none⟩=some (P0 (w.heap.size+1+1)):=by rw [hW4];simp [go_sem]
 have c4:W4.cell? ⟨w.heap.size+1+1+1+1,0,none⟩=some (.slice none 0 0):=by rw [hW4];simp [go_sem]
 have f4:W4.frozen? ⟨w.heap.size+1+1+1+1,0,none⟩=false:=by rw [hW4];simp [go_sem]
 have o5:Only [] W4 (W4.alloc (.cells #[.nilIface] 27)):=(Only.refl [] W4).alloc _;have kc:∀ b u,W4.cell? ⟨b,0,none⟩=some u→(W4.alloc (.cells #[.nilIface] 27)).cell? ⟨b,0,none⟩=some u:=fun b u h=>(o5.cell (p:=⟨b,0,none⟩) (lt_of_cell h) (by simp)).trans h
 have KC:Hid (∀ _u:Unit,_):=fun _=>caught_ro (P0 (w.heap.size+1+1+1)) (P0 w.heap.size) (P0 (w.heap.size+1+1+1+1)) W4 _ _
   (r1Ops A (w.heap.size+1+1) (w.heap.size+1) (w.heap.size+1+1+1) w.heap.size (w.heap.size+1+1+1+1) s _ ⟨kc _ _ c2,kc _ _ c1,(o5.frozen (p:=⟨w.heap.size+1,0,none⟩) (by show w.heap.size+1 < _;omega) (by simp)).trans f1,hs,(hE.later ho).later o5⟩ (kc _ _ c3) (kc _ _ c0) (kc _ _ c4) ((o5.frozen (p:=⟨w.heap.size+1+1+1+1,0,none⟩) (by show w.heap.size+1+1+1+1 < _;omega) (by simp)).trans f4))
   (fun w' k=>by obtain ⟨_,_,_,_,k2,_⟩:=k;exact keeps2 k2 (by omega) (by omega)) (fun x w' k=>by obtain ⟨_,_,k2⟩:=k;exact keeps2 k2 (by omega) (by omega))
 have HO:Hid (Only [] w W4):=ho;have HS:Hid (W4.heap.size=w.heap.size+5):=hsz;clear hW4 ho hsz c0 c1 f1 c2 c3 c4 f4 o5 kc hE hs
 go_enter Tryz.func265,Tryz.ntmps265
 go_wp2_with (go_at_call 113;refine (KN.out _).mono ?_;rintro e w1 ⟨rfl,rfl⟩)
 rw [← HW4.out];refine (KC.out ()).mono ?_;rintro e w1 (⟨rfl,w5,hok,rfl⟩ | ⟨x,rfl,w5,hbad,rfl⟩)
 · obtain ⟨l,v,r1,k1,ho5,hown⟩:=hok
   obtain ⟨ad,cp,rfl⟩:=hown.form;have k2:=set_other Value.nilIface k1 (a:=W4.heap.size) (by rw [HS.out];omega);have H5:Hid (Only [] w (w5.setCell ⟨W4.heap.size,0,none⟩ .nilIface)):=only_old HO.out (only_after2 _ ho5) (by simp;omega);have HR:Hid (pAll pOp s=some l):=r1
   have HOWN:Hid (OpsOwn (w5.setCell ⟨W4.heap.size,0,none⟩ .nilIface) (W4.heap.size+1) (.slice ad l.length cp) l):=by
    have h1:=hown;rw [World.size_alloc] at h1;exact h1.only (onlySet _ _ _) (by simp)
   have HB:Hid (w.heap.size≤W4.heap.size+1):=by show _≤_;rw [HS.out];omega
   clear r1 ho5 hown k1;generalize w5.setCell ⟨W4.heap.size,0,none⟩ .nilIface=w6 at k2 H5 HOWN ⊢
   go_wp2
   go_ret2
   exact ⟨⟨_,rfl,Or.inr ⟨_,_,HR.out,rfl,HOWN.out.low HB.out⟩⟩,H5.out⟩
 · obtain ⟨rfl,r1,ho5⟩:=hbad
   have H5:Hid (Only [] w (w5.setCell ⟨W4.heap.size,0,none⟩ (eVW A 0))):=only_old HO.out (only_after2 _ ho5) (by simp;omega);have HR:Hid (pAll pOp s=none):=r1;clear r1 ho5
   go_wp2
   go_ret2
   exact ⟨⟨_,rfl,Or.inl ⟨HR.out,rfl⟩⟩,H5.out⟩
theorem rRepliesL (A:Nat→Addr)(rb xb:Nat)(t:ByteArray)(w:World)(h:RS w A rb xb t):Calls Tryz.prog 218 #[P0 rb,.func (.func 167) #[] #[]] w fun e w' =>
  (∃ l t' v,pList pReply t=some (l,t')∧e = .returned v∧Only [xb] w w'∧RS w' A rb xb t'∧RpsOwn w' w.heap.size v l)∨(pList pReply t=none∧e = .panicked (thrW (eVW A 0))∧Only [xb] w w') :=
 (rReplies A rb xb t w h).mono fun _ _ h=>by
  rcases h with ⟨m,t',v,h1,h2,h3,h4,h5,h6⟩ | h
  · exact Or.inl ⟨_,t',v,h1,h2,h3,h4,m,rfl,h5,h6⟩
  · exact Or.inr h
theorem r1Reps (A:Nat→Addr)(rb xb pr pe pl:Nat)(s:ByteArray)(W:World)(h:RS W A rb xb s)(c1:W.cell? ⟨pr,0,none⟩=some (P0 rb))(c2:W.cell? ⟨pe,0,none⟩=some (.func (.func 167) #[] #[]))(c3:W.cell? ⟨pl,0,none⟩=some (.slice none 0 0))(f3:W.frozen? ⟨pl,0,none⟩=false):
   Calls Tryz.prog 217 #[P0 pr,P0 pe,P0 pl] W (TEnd (ROk RpsOwn pReply s xb pl W) (RBad A pReply s xb pl W)):=by
 have H:Hid (∀ _:Unit,_):=fun _=>rRepliesL A rb xb s W h;have KE:Hid (∀ t1 w1,RS w1 A rb xb t1→_):=fun t1 w1 k=>yEnd A rb xb t1 w1 k;have HH:Hid (RS W A rb xb s):=h
 have ne1:∀ b u,W.cell? ⟨b,0,none⟩=some u→(∀ q,u ≠ .string q)→b≠xb:=fun b u hb hu e=>by
   rw [e,h.cell] at hb;exact hu s (Option.some.inj hb).symm
 have np:pr≠xb:=ne1 _ _ c1 (by intro q hq;cases hq);have nl:pl≠xb:=ne1 _ _ c3 (by intro q hq;cases hq)
 have npl:pr≠pl:=fun e=>by rw [e,c3] at c1;cases c1
 have nrl:rb≠pl:=fun e=>by have:=h.ptr;rw [e,c3] at this;cases this
 have ngl:∀ k,(k=0∨k=1∨k=8)→gOf k≠pl:=fun k hk e=>by have:=h.err.cell k hk;rw [e,c3] at this;cases this
 have C1:Hid (W.cell? ⟨pr,0,none⟩=some (P0 rb)):=c1;have C3:Hid (W.cell? ⟨pl,0,none⟩=some (.slice none 0 0)):=c3;have F3:Hid (W.frozen? ⟨pl,0,none⟩=false):=f3;have NP:Hid (pr≠xb):=np;have NL:Hid (pl≠xb):=nl;have NPL:Hid (pr≠pl):=npl;have NRL:Hid (rb≠pl):=nrl;have NGL:Hid (∀ k,(k=0∨k=1∨k=8)→gOf k≠pl):=ngl;clear h c3 f3 ne1 np nl npl nrl ngl
 go_enter Tryz.func217,Tryz.ntmps217
 go_wp2_with fail
 clear c1 c2;refine (H.out ()).mono ?_;rintro e w1 (⟨l,t1,v,r,rfl,o,s1,hown⟩ | ⟨r,rfl,o⟩)
 rotate_left
 · exact ⟨rfl,Or.inr ⟨_,rfl,rfl,pAll_none r,o.mono (fun k hk=>Or.inl (by simp at hk;simp [hk]))⟩⟩
 obtain ⟨ad,cp,rfl⟩:=hown.form;have c3:=(o.cell (p:=⟨pl,0,none⟩) (lt_of_cell C3.out) (by simpa using NL.out)).trans C3.out;have f3:=(o.frozen (p:=⟨pl,0,none⟩) (lt_of_cell C3.out) (by simpa using NL.out)).trans F3.out;have hplt:pl < W.heap.size:=lt_of_cell C3.out;have o2:Only [pl] w1 (w1.setCell ⟨pl,0,none⟩ (.slice ad l.length cp)):=onlySet _ _ _;have HOWN:Hid (RpsOwn (w1.setCell ⟨pl,0,none⟩ (.slice ad l.length cp)) W.heap.size (.slice ad l.length cp) l):=hown.only o2 (by simpa using hplt)
 have HS2:Hid (RS (w1.setCell ⟨pl,0,none⟩ (.slice ad l.length cp)) A rb xb t1) :=
   ⟨(o2.cell (p:=⟨rb,0,none⟩) s1.ltr (by simpa using NRL.out)).trans s1.ptr,(o2.cell (p:=⟨xb,0,none⟩) s1.lt (by simpa using NL.out.symm)).trans s1.cell,(o2.frozen (p:=⟨xb,0,none⟩) s1.lt (by simpa using NL.out.symm)).trans s1.frz,s1.le,s1.err.only o2 (fun k hk=>by simpa using NGL.out k hk)⟩
 have HC3:Hid ((w1.setCell ⟨pl,0,none⟩ (.slice ad l.length cp)).cell? ⟨pl,0,none⟩=some (.slice ad l.length cp)):=World.cell?_setCell_same _ _ _ c3;have HC1:Hid ((w1.setCell ⟨pl,0,none⟩ (.slice ad l.length cp)).cell? ⟨pr,0,none⟩=some (P0 rb)):=set_other _ ((o.cell (p:=⟨pr,0,none⟩) (lt_of_cell C1.out) (by simpa using NP.out)).trans C1.out) NPL.out;have HO2:Hid (Only [xb,pl] W (w1.setCell ⟨pl,0,none⟩ (.slice ad l.length cp))):=(o.mono (L':=[xb,pl]) (fun k hk=>Or.inl (by simp at hk;simp [hk]))).seq (o2.mono (fun k hk=>Or.inl (by simp at hk;simp [hk])));have R:Hid (pList pReply s=some (l,t1)):=r;clear r o s1 hown o2;have c1:=HC1.out;have cx:=HS2.out.ptr
 go_wp2_with fail
 clear c1 cx c3 f3;refine (KE.out _ _ HS2.out).mono ?_;rintro e w2 ⟨⟨h0,rfl⟩ | ⟨h0,rfl⟩,rfl⟩
 · go_wp2_with (go_at_call 192;refine (must_nil _).mono ?_;rintro e w3 ⟨rfl,rfl⟩)
   go_end0
   exact Or.inl ⟨rfl,_,_,pAll_some R.out h0,HC3.out,HO2.out,HOWN.out⟩
 · go_wp2_with (go_at_call 192;refine (must_err _ _ _).mono ?_;rintro e w3 ⟨rfl,rfl⟩)
   exact ⟨rfl,Or.inr ⟨_,rfl,rfl,pAll_more R.out h0,HO2.out⟩⟩
def ReadRepsR (A:Nat→Addr)(s:ByteArray)(base:Nat)(w':World)(r:Value):Prop :=
 (pAll pReply s=none∧r = .tuple #[.slice none 0 0,eVW A 0])∨∃ l v,pAll pReply s=some l∧r = .tuple #[v,.nilIface]∧RpsOwn w' base v l
theorem readReps (A:Nat→Addr)(s:ByteArray)(w:World)(hE:Er3 w A)(hs:s.size≤5000):
   Calls Tryz.prog 166 #[.string s,.func (.func 167) #[] #[]] w fun e w'=>(∃ r,e = .returned r∧ReadRepsR A s w.heap.size w' r)∧Only [] w w':=by
 have hmf:∀ (fn:Fn) (first cap:Array Value) (w:World),(Instr.makeFunc fn first cap).run Tryz.prog w = .ok (.func fn first cap) w:=fun _ _ _ _=>rfl
 have KN:Hid (∀ W,_):=fun W=>newReader_any s W;obtain ⟨W4,hW4⟩:∃ W4,W4=((((w.alloc (.cells #[.func (.func 167) #[] #[]] 296)).alloc (.cells #[.string s] 284)).alloc (.cells #[.pointer (some ⟨w.heap.size+1,0,none⟩)] 355)).alloc (.cells #[.pointer (some ⟨w.heap.size+1+1,0,none⟩)] 298)).alloc (.cells #[.slice none 0 0] 243):=⟨_,rfl⟩;have HW4:Hid (W4=((((w.alloc (.cells #[.func (.func 167) #[] #[]] 296)).alloc (.cells #[.string s] 284)).alloc (.cells #[.pointer (some ⟨w.heap.size+1,0,none⟩)] 355)).alloc (.cells #[.pointer (some ⟨w.heap.size+1+1,0,none⟩)] 298)).alloc (.cells #[.slice none 0 0] 243)):=hW4;have ho:Only [] w W4:=hW4 ▸ (((((Only.refl [] w).alloc _).alloc _).alloc _).alloc _).alloc _
 have hsz:W4.heap.size=w.heap.size+5:=by rw [hW4];simp
 have c0:W4.cell? ⟨w.heap.size,0,none⟩=some (.func (.func 167) #[] #[]):=by rw [hW4];simp [go_sem]
 have c1:W4.cell? ⟨w.heap.size+1,0,none⟩=some (.string s):=by rw [hW4];simp [go_sem]
 have f1:W4.frozen? ⟨w.heap.size+1,0,none⟩=false:=by rw [hW4];simp [go_sem]
 have c2:W4.cell? ⟨w.heap.size+1+1,0,none⟩=some (P0 (w.heap.size+1)):=by rw [hW4];simp [go_sem]
 have c3:W4.cell? ⟨w.heap.size+1+1+1,0,none⟩=some (P0 (w.heap.size+1+1)):=by rw [hW4];simp [go_sem]
 have c4:W4.cell? ⟨w.heap.size+1+1+1+1,0,none⟩=some (.slice none 0 0):=by rw [hW4];simp [go_sem]
 have f4:W4.frozen? ⟨w.heap.size+1+1+1+1,0,none⟩=false:=by rw [hW4];simp [go_sem]
 have o5:Only [] W4 (W4.alloc (.cells #[.nilIface] 27)):=(Only.refl [] W4).alloc _;have kc:∀ b u,W4.cell? ⟨b,0,none⟩=some u→(W4.alloc (.cells #[.nilIface] 27)).cell? ⟨b,0,none⟩=some u:=fun b u h=>(o5.cell (p:=⟨b,0,none⟩) (lt_of_cell h) (by simp)).trans h
 have KC:Hid (∀ _u:Unit,_):=fun _=>caught_rr (P0 (w.heap.size+1+1+1)) (P0 w.heap.size) (P0 (w.heap.size+1+1+1+1)) W4 _ _
   (r1Reps A (w.heap.size+1+1) (w.heap.size+1) (w.heap.size+1+1+1) w.heap.size (w.heap.size+1+1+1+1) s _ ⟨kc _ _ c2,kc _ _ c1,(o5.frozen (p:=⟨w.heap.size+1,0,none⟩) (by show w.heap.size+1 < _;omega) (by simp)).trans f1,hs,(hE.later ho).later o5⟩ (kc _ _ c3) (kc _ _ c0) (kc _ _ c4) ((o5.frozen (p:=⟨w.heap.size+1+1+1+1,0,none⟩) (by show w.heap.size+1+1+1+1 < _;omega) (by simp)).trans f4))
   (fun w' k=>by obtain ⟨_,_,_,_,k2,_⟩:=k;exact keeps2 k2 (by omega) (by omega)) (fun x w' k=>by obtain ⟨_,_,k2⟩:=k;exact keeps2 k2 (by omega) (by omega))
 have HO:Hid (Only [] w W4):=ho;have HS:Hid (W4.heap.size=w.heap.size+5):=hsz;clear hW4 ho hsz c0 c1 f1 c2 c3 c4 f4 o5 kc hE hs
 go_enter Tryz.func166,Tryz.ntmps166
 go_wp2_with (go_at_call 113;refine (KN.out _).mono ?_;rintro e w1 ⟨rfl,rfl⟩)
 rw [← HW4.out];refine (KC.out ()).mono ?_;rintro e w1 (⟨rfl,w5,hok,rfl⟩ | ⟨x,rfl,w5,hbad,rfl⟩)
 · obtain ⟨l,v,r1,k1,ho5,hown⟩:=hok
   obtain ⟨ad,cp,rfl⟩:=hown.form;have k2:=set_other Value.nilIface k1 (a:=W4.heap.size) (by rw [HS.out];omega);have H5:Hid (Only [] w (w5.setCell ⟨W4.heap.size,0,none⟩ .nilIface)):=only_old HO.out (only_after2 _ ho5) (by simp;omega);have HR:Hid (pAll pReply s=some l):=r1
   have HOWN:Hid (RpsOwn (w5.setCell ⟨W4.heap.size,0,none⟩ .nilIface) (W4.heap.size+1) (.slice ad l.length cp) l):=by
    have h1:=hown;rw [World.size_alloc] at h1;exact h1.only (onlySet _ _ _) (by simp)
   have HB:Hid (w.heap.size≤W4.heap.size+1):=by show _≤_;rw [HS.out];omega
   clear r1 ho5 hown k1;generalize w5.setCell ⟨W4.heap.size,0,none⟩ .nilIface=w6 at k2 H5 HOWN ⊢
   go_wp2
   go_ret2
   exact ⟨⟨_,rfl,Or.inr ⟨_,_,HR.out,rfl,HOWN.out.low HB.out⟩⟩,H5.out⟩
 · obtain ⟨rfl,r1,ho5⟩:=hbad
   have H5:Hid (Only [] w (w5.setCell ⟨W4.heap.size,0,none⟩ (eVW A 0))):=only_old HO.out (only_after2 _ ho5) (by simp;omega);have HR:Hid (pAll pReply s=none):=r1;clear r1 ho5
   go_wp2
   go_ret2
   exact ⟨⟨_,rfl,Or.inl ⟨HR.out,rfl⟩⟩,H5.out⟩
theorem wireReadReps (A:Nat→Addr)(s:ByteArray)(w:World)(hE:Er3 w A)(hs:s.size≤5000):
   Calls Tryz.prog 119 #[.string s] w fun e w'=>(∃ r,e = .returned r∧ReadRepsR A s w.heap.size w' r)∧Only [] w w':=by
 have H:Hid (∀ _u:Unit,_):=fun _=>readReps A s w hE hs;clear hE hs
 go_enter Tryz.func119,Tryz.ntmps119
 go_wp2_with fail
 refine (H.out ()).mono ?_;rintro e w1 ⟨⟨r,rfl,hr⟩,ho⟩;rcases hr with ⟨h1,rfl⟩ | ⟨l,v,h1,rfl,h2⟩
 · go_wp2
   go_ret2
   exact ⟨⟨_,rfl,Or.inl ⟨h1,rfl⟩⟩,ho⟩
 · go_wp2
   go_ret2
   exact ⟨⟨_,rfl,Or.inr ⟨l,v,h1,rfl,h2⟩⟩,ho⟩
def WireOpsR (A:Nat→Addr)(s:ByteArray)(base:Nat)(w':World)(r:Value):Prop :=
 (pAll pOp s=none∧r = .tuple #[.slice none 0 0,eVW A 0])∨(∃ l,pAll pOp s=some l∧16 < l.length∧r = .tuple #[.slice none 0 0,eVW A 1])∨∃ l v,pAll pOp s=some l∧l.length≤16∧r = .tuple #[v,.nilIface]∧OpsOwn w' base v l
theorem wireReadOps (A:Nat→Addr)(s:ByteArray)(w:World)(hE:Er3 w A)(hs:s.size≤5000):
   Calls Tryz.prog 230 #[.string s] w fun e w'=>(∃ r,e = .returned r∧WireOpsR A s w.heap.size w' r)∧Only [] w w':=by
 have H:Hid (∀ _u:Unit,_):=fun _=>readOps A s w hE hs;have HE:Hid (Er3 w A):=hE;clear hE hs
 go_enter Tryz.func230,Tryz.ntmps230
 go_wp2_with fail
 refine (H.out ()).mono ?_;rintro e w1 ⟨⟨r,rfl,hr⟩,ho⟩;rcases hr with ⟨h1,rfl⟩ | ⟨l,v,h1,rfl,h2⟩
 · go_wp2
   go_ret2
   exact ⟨⟨_,rfl,Or.inl ⟨h1,rfl⟩⟩,ho⟩
 · obtain ⟨ad,cp,rfl⟩:=h2.form
   have hb:w1.cell? ⟨0,0,none⟩=some (eVW A 1):=(HE.out.later ho).cell 1 (by decide);obtain ⟨n,hn⟩:∃ n,l.length=n:=⟨_,rfl⟩;have HN:Hid (l.length=n):=hn;have H2:Hid (OpsOwn w1 w.heap.size (.slice ad n cp) l):=hn ▸ h2;have HO:Hid (Only [] w w1):=ho;have H1:Hid (pAll pOp s=some l):=h1;rw [hn];clear hn h1 h2 ho H HE
   by_cases h16:16 < n
   · go_wp2_with fail
     go_region
     all_goals
      go_wp2
      go_ret2
      exact ⟨⟨_,rfl,Or.inr (Or.inl ⟨l,H1.out,by rw [HN.out];exact h16,rfl⟩)⟩,HO.out.drew⟩
   · clear hb
     go_wp2
     go_ret2
     exact ⟨⟨_,rfl,Or.inr (Or.inr ⟨l,_,H1.out,by rw [HN.out];omega,rfl,H2.out⟩)⟩,HO.out⟩
end
end Go.Proofs.YtodldddakjmonaaGreatDoor
