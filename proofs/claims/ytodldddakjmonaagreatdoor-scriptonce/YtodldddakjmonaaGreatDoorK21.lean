import Derived.Test.YtodldddakjmonaaGreatDoorK20
set_option maxRecDepth 100000
set_option maxHeartbeats 8000000
namespace Go.Proofs.YtodldddakjmonaaGreatDoor
section
open Go Go.RowKit Go.Deep
abbrev ParW (α:Type):=ByteArray→Option (α×ByteArray)
def bindPW {α β:Type}(p:ParW α)(f:α→ParW β):ParW β:=fun t=>match p t with
 | none=>none
 | some (a,t')=>f a t'
def retPW {α:Type}(a:α):ParW α:=fun t=>some (a,t)
theorem bindP_someW {α β:Type}{p:ParW α}{f:α→ParW β}{t t':ByteArray}{a:α}(h:p t=some (a,t')):bindPW p f t=f a t':=by simp [bindPW,h]
theorem bindP_noneW {α β:Type}{p:ParW α}{f:α→ParW β}{t:ByteArray}(h:p t=none):bindPW p f t=none:=by simp [bindPW,h]
def pInt:ParW Nat:=fun t=>if 4≤t.size then some (numAt t 4,cutAt t 4) else none
def pLong:ParW Nat:=fun t=>if 8≤t.size∧numAt t 8≤9223372036854775807 then some (numAt t 8,cutAt t 8) else none
def pFlag:ParW Bool:=fun t=>if 4≤t.size∧numAt t 4≤1 then some ((numAt t 4:Int)==1,cutAt t 4) else none
def itemB (s:ByteArray):Bool:=decide (4≤s.size)&&(decide ((numAt s 4:Int)≤4000)&&(decide (4+numAt s 4+fillN (numAt s 4)≤s.size)&&zerosB (s.extract (4+numAt s 4) (4+numAt s 4+fillN (numAt s 4)))))
theorem itemB_iff (s:ByteArray):itemB s=true↔ItemOk s 4000:=by simp [itemB,ItemOk]
def pBytes:ParW ByteArray:=fun t=>if itemB t=true then some (t.extract 4 (4+numAt t 4),cutAt t (4+numAt t 4+fillN (numAt t 4))) else none
def pNumber:ParW Int:=bindPW pFlag fun f=>bindPW pLong fun n=>fun t=>if (f&&n==0)=true then none else some (if f=true then -(n:Int) else (n:Int),t)
def pTwo:ParW (Int×Int):=bindPW pNumber fun x=>bindPW pNumber fun y=>retPW (x,y)
def pEntry:ParW EnV:=bindPW pBytes fun n=>bindPW pTwo fun p=>retPW ⟨n,p.1,p.2⟩
def pOp:ParW OpV:=bindPW pBytes fun K=>bindPW pBytes fun N=>bindPW pBytes fun T=>bindPW pNumber fun x1=>bindPW pNumber fun x2=>bindPW pNumber fun x3=>bindPW pNumber fun x4=>bindPW pTwo fun p=>retPW ⟨K,N,T,x1,x2,x3,x4,p.1,p.2⟩
def pTimesW {α:Type}(p:ParW α):Nat→ParW (List α)
 | 0=>retPW []
 | n+1=>bindPW p fun a=>bindPW (pTimesW p n) fun l=>retPW (a::l)
def pList {α:Type}(p:ParW α):ParW (List α):=bindPW pInt (pTimesW p)
def pReply:ParW RpV:=bindPW pNumber fun c=>bindPW pBytes fun T=>bindPW pTwo fun h=>bindPW pTwo fun s=>bindPW (pList pEntry) fun L=>bindPW pNumber fun n=>bindPW pFlag fun e=>retPW ⟨c,T,h.1,h.2,s.1,s.2,L,n,e⟩
theorem cut_leW (t:ByteArray)(k:Nat):(cutAt t k).size≤t.size:=by rw [cutAt_size];omega
structure RS (w:World)(A:Nat→Addr)(rb xb:Nat)(t:ByteArray):Prop where
 ptr:w.cell? ⟨rb,0,none⟩=some (P0 xb)
 cell:w.cell? ⟨xb,0,none⟩=some (.string t)
 frz:w.frozen? ⟨xb,0,none⟩=false
 le:t.size≤5000
 err:Er3 w A
theorem RS.lt {w:World}{A:Nat→Addr}{rb xb:Nat}{t:ByteArray}(h:RS w A rb xb t):xb < w.heap.size:=lt_of_cell h.cell
theorem RS.ltr {w:World}{A:Nat→Addr}{rb xb:Nat}{t:ByteArray}(h:RS w A rb xb t):rb < w.heap.size:=lt_of_cell h.ptr
theorem RS.ne {w:World}{A:Nat→Addr}{rb xb:Nat}{t:ByteArray}(h:RS w A rb xb t)(k:Nat)(hk:k=0∨k=1∨k=8):gOf k≠xb:=by
 intro e;have h1:=h.err.cell k hk;rw [e,h.cell] at h1
 cases h1
theorem RS.nr {w:World}{A:Nat→Addr}{rb xb:Nat}{t:ByteArray}(h:RS w A rb xb t):rb≠xb:=by
 intro e;have h1:=h.ptr;rw [e,h.cell] at h1
 cases h1
theorem RS.only {w w':World}{A:Nat→Addr}{rb xb:Nat}{t:ByteArray}{L:List Nat}(h:RS w A rb xb t)(ho:Only L w w')(hL:∀ k,k < w.heap.size→k∉L):RS w' A rb xb t :=
 ⟨(ho.cell (p:=⟨rb,0,none⟩) h.ltr (hL _ h.ltr)).trans h.ptr,(ho.cell (p:=⟨xb,0,none⟩) h.lt (hL _ h.lt)).trans h.cell,(ho.frozen (p:=⟨xb,0,none⟩) h.lt (hL _ h.lt)).trans h.frz,h.le,h.err.only ho (fun k hk=>hL _ (lt_of_cell (h.err.cell k hk)))⟩
theorem RS.later {w w':World}{A:Nat→Addr}{rb xb:Nat}{t:ByteArray}(h:RS w A rb xb t)(ho:Only [] w w'):RS w' A rb xb t:=h.only ho (fun _ _=>by simp)
theorem RS.put {w:World}{A:Nat→Addr}{rb xb:Nat}{t t':ByteArray}(h:RS w A rb xb t)(hl:t'.size≤t.size):RS (w.setCell ⟨xb,0,none⟩ (.string t')) A rb xb t':=by
 have o:=onlySet w xb (.string t');exact ⟨(o.cell (p:=⟨rb,0,none⟩) h.ltr (by simpa using h.nr)).trans h.ptr,World.cell?_setCell_same _ _ _ h.cell,by simpa using h.frz,Nat.le_trans hl h.le,h.err.only o (fun k hk=>by simpa using h.ne k hk)⟩
def YEnd {α:Type}(A:Nat→Addr)(rb xb:Nat)(w:World)(t:ByteArray)(p:ParW α)(v:α→Value)(z:Value)(e:Ending)(w':World):Prop :=
 (∃ a t',p t=some (a,t')∧e = .returned (.tuple #[v a,.nilIface])∧Only [xb] w w'∧RS w' A rb xb t')∨(p t=none∧e = .returned (.tuple #[z,eVW A 0])∧Only [xb] w w')
def REndW {α:Type}(A:Nat→Addr)(rb xb:Nat)(w:World)(t:ByteArray)(p:ParW α)(v:α→Value)(e:Ending)(w':World):Prop :=
 (∃ a t',p t=some (a,t')∧e = .returned (v a)∧Only [xb] w w'∧RS w' A rb xb t')∨(p t=none∧e = .panicked (thrW (eVW A 0))∧Only [xb] w w')
theorem yInt (A:Nat→Addr)(rb xb:Nat)(t:ByteArray)(w:World)(h:RS w A rb xb t):Calls Tryz.prog 114 #[P0 xb] w (YEnd A rb xb w t pInt (fun n => .int .i64 (n:Nat)) (.int .i64 0)):=by
 by_cases h4:4≤t.size
 · refine (rInt_ok xb t w h.cell h.frz h4 (by have:=h.le;omega)).mono fun e w' q=>?_
   obtain ⟨rfl,rfl⟩:=q;exact Or.inl ⟨_,_,if_pos h4,rfl,onlySet _ _ _,h.put (cut_leW _ _)⟩
 · refine (rInt_short xb t _ _ w h.cell (h.err.cell 0 (by decide)) (by omega)).mono fun e w' q=>?_
   obtain ⟨rfl,hb⟩:=q;exact Or.inr ⟨if_neg h4,rfl,Only.of_below hb _⟩
theorem yLong (A:Nat→Addr)(rb xb:Nat)(t:ByteArray)(w:World)(h:RS w A rb xb t):Calls Tryz.prog 169 #[P0 xb] w (YEnd A rb xb w t pLong (fun n => .int .i64 (n:Nat)) (.int .i64 0)):=by
 by_cases h4:8≤t.size
 · by_cases hg:numAt t 8≤9223372036854775807
   · refine (rLong_ok xb t w h.cell h.frz h4 (by have:=h.le;omega) hg).mono fun e w' q=>?_
     obtain ⟨rfl,rfl⟩:=q;exact Or.inl ⟨_,_,if_pos ⟨h4,hg⟩,rfl,onlySet _ _ _,h.put (cut_leW _ _)⟩
   · refine (rLong_great xb t _ _ w h.cell (h.err.cell 0 (by decide)) h4 (by have:=h.le;omega) (by omega)).mono fun e w' q=>?_
     obtain ⟨rfl,hb⟩:=q;exact Or.inr ⟨if_neg (fun k=>hg k.2),rfl,Only.of_below hb _⟩
 · refine (rLong_short xb t _ _ w h.cell (h.err.cell 0 (by decide)) (by omega)).mono fun e w' q=>?_
   obtain ⟨rfl,hb⟩:=q;exact Or.inr ⟨if_neg (fun k=>h4 k.1),rfl,Only.of_below hb _⟩
theorem yBool (A:Nat→Addr)(rb xb:Nat)(t:ByteArray)(w:World)(h:RS w A rb xb t):Calls Tryz.prog 260 #[P0 xb] w (YEnd A rb xb w t pFlag (fun b => .bool b) (.bool false)):=by
 by_cases h4:4≤t.size
 · by_cases hg:numAt t 4≤1
   · refine (rBool_ok xb t w h.cell h.frz h4 (by have:=h.le;omega) hg).mono fun e w' q=>?_
     obtain ⟨rfl,rfl⟩:=q;exact Or.inl ⟨_,_,if_pos ⟨h4,hg⟩,rfl,onlySet _ _ _,h.put (cut_leW _ _)⟩
   · refine (rBool_great xb t _ _ w h.cell (h.err.cell 0 (by decide)) h4 (by have:=h.le;omega) (by omega)).mono fun e w' q=>?_
     obtain ⟨rfl,hb⟩:=q;exact Or.inr ⟨if_neg (fun k=>hg k.2),rfl,Only.of_below hb _⟩
 · refine (rBool_short xb t _ _ w h.cell (h.err.cell 0 (by decide)) (by omega)).mono fun e w' q=>?_
   obtain ⟨rfl,hb⟩:=q;exact Or.inr ⟨if_neg (fun k=>h4 k.1),rfl,Only.of_below hb _⟩
theorem yBytes (A:Nat→Addr)(rb xb:Nat)(t:ByteArray)(w:World)(h:RS w A rb xb t):Calls Tryz.prog 170 #[P0 xb,.int .i64 4000] w (YEnd A rb xb w t pBytes (fun b => .string b) (.string (bs []))):=by
 refine (rBytes_ends xb t 4000 _ _ w h.cell h.frz (h.err.cell 0 (by decide)) (by have:=h.le;omega)).mono fun e w' q=>?_;rcases q with ⟨hi,rfl,rfl⟩ | ⟨hi,rfl,hb⟩
 · exact Or.inl ⟨_,_,if_pos ((itemB_iff t).2 hi),rfl,onlySet _ _ _,h.put (cut_leW _ _)⟩
 · exact Or.inr ⟨if_neg (fun k=>hi ((itemB_iff t).1 k)),rfl,Only.of_below hb _⟩
theorem rFlag (A:Nat→Addr)(rb xb:Nat)(t:ByteArray)(w:World)(h:RS w A rb xb t):Calls Tryz.prog 225 #[P0 rb] w (REndW A rb xb w t pFlag (fun b => .bool b)):=by
 have H:Hid (∀ _u:Unit,_):=fun _=>yBool A rb xb t w h;have c0:=h.ptr;clear h
 go_enter Tryz.func225,Tryz.ntmps225
 go_wp2_with fail
 refine (H.out ()).mono ?_;rintro e w1 (⟨a,t1,r,rfl,o,s⟩ | ⟨r,rfl,o⟩)
 · go_wp2_with (go_at_call 192;refine (must_nil _).mono ?_;rintro e w2 ⟨rfl,rfl⟩)
   go_ret
   exact Or.inl ⟨_,_,r,rfl,o,s⟩
 · go_wp2_with (go_at_call 192;refine (must_err _ _ _).mono ?_;rintro e w2 ⟨rfl,rfl⟩)
   exact ⟨rfl,Or.inr ⟨r,rfl,o⟩⟩
theorem rText (A:Nat→Addr)(rb xb:Nat)(t:ByteArray)(w:World)(h:RS w A rb xb t):Calls Tryz.prog 220 #[P0 rb] w (REndW A rb xb w t pBytes (fun b => .string b)):=by
 have H:Hid (∀ _u:Unit,_):=fun _=>yBytes A rb xb t w h;have c0:=h.ptr;clear h
 go_enter Tryz.func220,Tryz.ntmps220
 go_wp2_with fail
 refine (H.out ()).mono ?_;rintro e w1 (⟨a,t1,r,rfl,o,s⟩ | ⟨r,rfl,o⟩)
 · go_wp2_with (go_at_call 192;refine (must_nil _).mono ?_;rintro e w2 ⟨rfl,rfl⟩)
   go_ret
   exact Or.inl ⟨_,_,r,rfl,o,s⟩
 · go_wp2_with (go_at_call 192;refine (must_err _ _ _).mono ?_;rintro e w2 ⟨rfl,rfl⟩)
   exact ⟨rfl,Or.inr ⟨r,rfl,o⟩⟩
theorem rNumber (A:Nat→Addr)(rb xb:Nat)(t:ByteArray)(w:World)(h:RS w A rb xb t):Calls Tryz.prog 219 #[P0 rb] w (REndW A rb xb w t pNumber (fun n => .int .i64 n)):=by
 have H:Hid (∀ _u:Unit,_):=fun _=>rFlag A rb xb t w h;have H2:Hid (∀ t1 w1,RS w1 A rb xb t1→_):=fun t1 w1 k=>yLong A rb xb t1 w1 k;clear h
 go_enter Tryz.func219,Tryz.ntmps219
 go_wp2_with fail
 refine (H.out ()).mono ?_;rintro e w1 (⟨f,t1,r1,rfl,o1,s1⟩ | ⟨r1,rfl,o1⟩)
 rotate_left
 · exact ⟨rfl,Or.inr ⟨bindP_noneW r1,rfl,o1⟩⟩
 have c1:=s1.ptr;have R1:Hid (pFlag t=some (f,t1)):=r1;have O1:Hid (Only [xb] w w1):=o1;have S1:Hid (RS w1 A rb xb t1):=s1;clear r1 o1 s1
 go_wp2_with fail
 clear c1;refine (H2.out _ _ S1.out).mono ?_;rintro e w2 (⟨n,t2,r2,rfl,o2,s2⟩ | ⟨r2,rfl,o2⟩)
 rotate_left
 · go_wp2_with (go_at_call 192;refine (must_err _ _ _).mono ?_;rintro e w3 ⟨rfl,rfl⟩)
   exact ⟨rfl,Or.inr ⟨(bindP_someW R1.out).trans (bindP_noneW r2),rfl,O1.out.seq o2⟩⟩
 have hn:n≤9223372036854775807:=by
   unfold pLong at r2
   split at r2
   · rename_i hh
     cases r2
     exact hh.2
   · cases r2
 have R2:Hid (pNumber t=if (f&&n==0)=true then none else some (if f=true then -(n:Int) else (n:Int),t2)):=(bindP_someW R1.out).trans (bindP_someW r2);have O2:Hid (Only [xb] w w2):=O1.out.seq o2;have S2:Hid (RS w2 A rb xb t2):=s2;have hE:w2.cell? ⟨1,0,none⟩=some (eVW A 0):=s2.err.cell 0 (by decide);clear r2 o2 s2 H H2 R1 O1 S1
 cases f
 · go_wp2_with (go_at_call 192;refine (must_nil _).mono ?_;rintro e w3 ⟨rfl,rfl⟩)
   go_ret
   exact Or.inl ⟨_,_,R2.out,rfl,O2.out,S2.out⟩
 · by_cases h0:n=0
   · subst h0
     go_wp2_with (first | (go_at_call 192;refine (must_nil _).mono ?_;rintro e w3 ⟨rfl,rfl⟩) | (go_at_call 194;refine (throw_any _ _ _).mono ?_;rintro e w3 ⟨rfl,rfl⟩))
     exact ⟨rfl,Or.inr ⟨R2.out,rfl,O2.out⟩⟩
   · have hb:((n:Int)==0)=false:=beq_eq_false_iff_ne.2 (by omega)
     have hn0:0 < n:=by omega
     have R3:Hid (pNumber t=some (-(n:Int),t2)):=by
      have:=R2.out;rw [if_neg (by simp [h0]),if_pos rfl] at this;exact this
     clear R2 h0
     go_wp2_with (go_at_call 192;refine (must_nil _).mono ?_;rintro e w3 ⟨rfl,rfl⟩)
     go_ret
     exact Or.inl ⟨_,_,R3.out,rfl,O2.out,S2.out⟩
theorem RS.over {w0 w w':World}{A:Nat→Addr}{rb xb:Nat}{t0 t:ByteArray}{L:List Nat}(h0:RS w0 A rb xb t0)(h:RS w A rb xb t)(ho:Only L w w')(hL:∀ k∈L,w0.heap.size≤k):RS w' A rb xb t:=by
 have key:∀ k,k < w0.heap.size→k∉L:=fun k hk hm=>absurd (hL k hm) (by omega);exact ⟨(ho.cell (p:=⟨rb,0,none⟩) h.ltr (key _ h0.ltr)).trans h.ptr,(ho.cell (p:=⟨xb,0,none⟩) h.lt (key _ h0.lt)).trans h.cell,(ho.frozen (p:=⟨xb,0,none⟩) h.lt (key _ h0.lt)).trans h.frz,h.le,h.err.only ho (fun k hk=>key _ (lt_of_cell (h0.err.cell k hk)))⟩
def Var (w:World)(p:Nat)(cs:List Value):Prop:=Cells w p cs∧∀ j,w.frozen? ⟨p,j,none⟩=false
theorem Var.new (w:World)(cs:List Value)(T:TypeId):Var (w.alloc (.cells cs.toArray T)) w.heap.size cs:=⟨Cells.boxed w cs T,fun j=>by simp⟩
theorem Var.only {w w':World}{p:Nat}{cs:List Value}{L:List Nat}(h:Var w p cs)(ho:Only L w w')(hlt:p < w.heap.size)(hn:p∉L):Var w' p cs:=⟨h.1.only ho hn,fun j=>(ho.frozen (p:=⟨p,j,none⟩) hlt hn).trans (h.2 j)⟩
theorem rState (A:Nat→Addr)(rb xb:Nat)(t:ByteArray)(w:World)(h:RS w A rb xb t):Calls Tryz.prog 222 #[P0 rb] w (REndW A rb xb w t pTwo (fun p => .agg #[.int .i64 p.1,.int .i64 p.2])):=by
 have HH:Hid (RS w A rb xb t):=h;have hlt:=h.lt
 have HN:Hid (w.heap.size∉[xb]):=by show _∉_;simp;omega
 have V0:Hid (Var (w.alloc (.cells #[.int .i64 0,.int .i64 0] 161)) w.heap.size [.int .i64 0,.int .i64 0]):=Var.new w [.int .i64 0,.int .i64 0] 161;have S0:Hid (RS (w.alloc (.cells #[.int .i64 0,.int .i64 0] 161)) A rb xb t):=h.later ((Only.refl [] w).alloc _);have O0:Hid (Only [xb] w (w.alloc (.cells #[.int .i64 0,.int .i64 0] 161))):=(Only.refl [xb] w).alloc _
 have L0:Hid (w.heap.size < (w.alloc (.cells #[.int .i64 0,.int .i64 0] 161)).heap.size):=by show _ < _;simp
 obtain ⟨pr,hpr⟩:∃ pr,pTwo t=pr:=⟨_,rfl⟩;have HP:Hid (pTwo t=pr):=hpr;have R0:Hid (pr=pTwo t):=hpr.symm;have K0:Hid (∀ t1 w1,RS w1 A rb xb t1→_):=fun t1 w1 k=>rNumber A rb xb t1 w1 k;have K1:Hid (∀ t1 w1,RS w1 A rb xb t1→_):=fun t1 w1 k=>rNumber A rb xb t1 w1 k;clear h hlt hpr
 go_enter Tryz.func222,Tryz.ntmps222
 go_wp2_with fail
 refine (K0.out _ _ S0.out).mono ?_;rintro e w1 (⟨a0,t1,r,rfl,o,s⟩ | ⟨r,rfl,o⟩)
 rotate_left
 · exact ⟨rfl,Or.inr ⟨HP.out.trans (R0.out.trans (bindP_noneW r)),rfl,O0.out.seq o⟩⟩
 have R1:Hid (pr=_):=R0.out.trans (bindP_someW r);have O1:Hid (Only [xb] w w1):=O0.out.seq o;have S1:Hid (RS w1 A rb xb t1):=s;have V1:Hid (Var w1 w.heap.size [.int .i64 0,.int .i64 0]):=V0.out.only o L0.out HN.out;have L1:Hid (w.heap.size < w1.heap.size):=Nat.lt_of_lt_of_le L0.out o.size;clear r o s R0 O0 S0 V0 L0 K0
 go_wp2_with fail
 refine (K1.out _ _ S1.out).mono ?_;rintro e w2 (⟨a1,t2,r,rfl,o,s⟩ | ⟨r,rfl,o⟩)
 rotate_left
 · exact ⟨rfl,Or.inr ⟨HP.out.trans (R1.out.trans (bindP_noneW r)),rfl,O1.out.seq o⟩⟩
 have R2:Hid (pr=_):=R1.out.trans (bindP_someW r);have O2:Hid (Only [xb] w w2):=O1.out.seq o;have S2:Hid (RS w2 A rb xb t2):=s;have V2:Hid (Var w2 w.heap.size [.int .i64 0,.int .i64 0]):=V1.out.only o L1.out HN.out;have L2:Hid (w.heap.size < w2.heap.size):=Nat.lt_of_lt_of_le L1.out o.size;clear r o s R1 O1 S1 V1 L1 K1;have c0:=V2.out.1 0 _ rfl;have f0:=V2.out.2 0;have c1:=V2.out.1 1 _ rfl;have f1:=V2.out.2 1;have HO:Hid (Only [w.heap.size] w2 ((w2.setCell ⟨w.heap.size,0,none⟩ (.int .i64 a0)).setCell ⟨w.heap.size,1,none⟩ (.int .i64 a1))):=(((Only.refl [w.heap.size] _).setCell (p:=⟨w.heap.size,0,none⟩) (Or.inl (List.mem_cons_self ..)) _).setCell (p:=⟨w.heap.size,1,none⟩) (Or.inl (List.mem_cons_self ..)) _)
 go_wp2_with fail
 refine bodyPost_ret (v := .agg #[.int .i64 a0,.int .i64 a1]) (by simp [results,Tryz.results222,go_sem,c0,c1]) rfl ?_;exact Or.inl ⟨_,_,HP.out.trans R2.out,rfl,O2.out.trans HO.out (fun k hk=>Or.inr (by rw [List.mem_singleton.1 hk];exact Nat.le_refl _)),HH.out.over S2.out HO.out (fun k hk=>by rw [List.mem_singleton.1 hk];exact Nat.le_refl _)⟩
theorem rHandle (A:Nat→Addr)(rb xb:Nat)(t:ByteArray)(w:World)(h:RS w A rb xb t):Calls Tryz.prog 221 #[P0 rb] w (REndW A rb xb w t pTwo (fun p => .agg #[.int .i64 p.1,.int .i64 p.2])):=by
 have HH:Hid (RS w A rb xb t):=h;have hlt:=h.lt
 have HN:Hid (w.heap.size∉[xb]):=by show _∉_;simp;omega
 have V0:Hid (Var (w.alloc (.cells #[.int .i64 0,.int .i64 0] 116)) w.heap.size [.int .i64 0,.int .i64 0]):=Var.new w [.int .i64 0,.int .i64 0] 116;have S0:Hid (RS (w.alloc (.cells #[.int .i64 0,.int .i64 0] 116)) A rb xb t):=h.later ((Only.refl [] w).alloc _);have O0:Hid (Only [xb] w (w.alloc (.cells #[.int .i64 0,.int .i64 0] 116))):=(Only.refl [xb] w).alloc _
 have L0:Hid (w.heap.size < (w.alloc (.cells #[.int .i64 0,.int .i64 0] 116)).heap.size):=by show _ < _;simp
 obtain ⟨pr,hpr⟩:∃ pr,pTwo t=pr:=⟨_,rfl⟩;have HP:Hid (pTwo t=pr):=hpr;have R0:Hid (pr=pTwo t):=hpr.symm;have K0:Hid (∀ t1 w1,RS w1 A rb xb t1→_):=fun t1 w1 k=>rNumber A rb xb t1 w1 k;have K1:Hid (∀ t1 w1,RS w1 A rb xb t1→_):=fun t1 w1 k=>rNumber A rb xb t1 w1 k;clear h hlt hpr
 go_enter Tryz.func221,Tryz.ntmps221
 go_wp2_with fail
 refine (K0.out _ _ S0.out).mono ?_;rintro e w1 (⟨a0,t1,r,rfl,o,s⟩ | ⟨r,rfl,o⟩)
 rotate_left
 · exact ⟨rfl,Or.inr ⟨HP.out.trans (R0.out.trans (bindP_noneW r)),rfl,O0.out.seq o⟩⟩
 have R1:Hid (pr=_):=R0.out.trans (bindP_someW r);have O1:Hid (Only [xb] w w1):=O0.out.seq o;have S1:Hid (RS w1 A rb xb t1):=s;have V1:Hid (Var w1 w.heap.size [.int .i64 0,.int .i64 0]):=V0.out.only o L0.out HN.out;have L1:Hid (w.heap.size < w1.heap.size):=Nat.lt_of_lt_of_le L0.out o.size;clear r o s R0 O0 S0 V0 L0 K0
 go_wp2_with fail
 refine (K1.out _ _ S1.out).mono ?_;rintro e w2 (⟨a1,t2,r,rfl,o,s⟩ | ⟨r,rfl,o⟩)
 rotate_left
 · exact ⟨rfl,Or.inr ⟨HP.out.trans (R1.out.trans (bindP_noneW r)),rfl,O1.out.seq o⟩⟩
 have R2:Hid (pr=_):=R1.out.trans (bindP_someW r);have O2:Hid (Only [xb] w w2):=O1.out.seq o;have S2:Hid (RS w2 A rb xb t2):=s;have V2:Hid (Var w2 w.heap.size [.int .i64 0,.int .i64 0]):=V1.out.only o L1.out HN.out;have L2:Hid (w.heap.size < w2.heap.size):=Nat.lt_of_lt_of_le L1.out o.size;clear r o s R1 O1 S1 V1 L1 K1;have c0:=V2.out.1 0 _ rfl;have f0:=V2.out.2 0;have c1:=V2.out.1 1 _ rfl;have f1:=V2.out.2 1;have HO:Hid (Only [w.heap.size] w2 ((w2.setCell ⟨w.heap.size,0,none⟩ (.int .i64 a0)).setCell ⟨w.heap.size,1,none⟩ (.int .i64 a1))):=(((Only.refl [w.heap.size] _).setCell (p:=⟨w.heap.size,0,none⟩) (Or.inl (List.mem_cons_self ..)) _).setCell (p:=⟨w.heap.size,1,none⟩) (Or.inl (List.mem_cons_self ..)) _)
 go_wp2_with fail
 refine bodyPost_ret (v := .agg #[.int .i64 a0,.int .i64 a1]) (by simp [results,Tryz.results221,go_sem,c0,c1]) rfl ?_;exact Or.inl ⟨_,_,HP.out.trans R2.out,rfl,O2.out.trans HO.out (fun k hk=>Or.inr (by rw [List.mem_singleton.1 hk];exact Nat.le_refl _)),HH.out.over S2.out HO.out (fun k hk=>by rw [List.mem_singleton.1 hk];exact Nat.le_refl _)⟩
theorem rEntry (A:Nat→Addr)(rb xb:Nat)(t:ByteArray)(w:World)(h:RS w A rb xb t):Calls Tryz.prog 224 #[P0 rb] w (REndW A rb xb w t pEntry (fun o => .agg #[.string o.n,.int .i64 o.x,.int .i64 o.y])):=by
 have HH:Hid (RS w A rb xb t):=h;have hlt:=h.lt
 have HN:Hid (w.heap.size∉[xb]):=by show _∉_;simp;omega
 have V0:Hid (Var (w.alloc (.cells #[.string ⟨#[]⟩,.int .i64 0,.int .i64 0] 176)) w.heap.size [.string ⟨#[]⟩,.int .i64 0,.int .i64 0]):=Var.new w [.string ⟨#[]⟩,.int .i64 0,.int .i64 0] 176;have S0:Hid (RS (w.alloc (.cells #[.string ⟨#[]⟩,.int .i64 0,.int .i64 0] 176)) A rb xb t):=h.later ((Only.refl [] w).alloc _);have O0:Hid (Only [xb] w (w.alloc (.cells #[.string ⟨#[]⟩,.int .i64 0,.int .i64 0] 176))):=(Only.refl [xb] w).alloc _
 have L0:Hid (w.heap.size < (w.alloc (.cells #[.string ⟨#[]⟩,.int .i64 0,.int .i64 0] 176)).heap.size):=by show _ < _;simp
 obtain ⟨pr,hpr⟩:∃ pr,pEntry t=pr:=⟨_,rfl⟩;have HP:Hid (pEntry t=pr):=hpr;have R0:Hid (pr=pEntry t):=hpr.symm;have K0:Hid (∀ t1 w1,RS w1 A rb xb t1→_):=fun t1 w1 k=>rText A rb xb t1 w1 k;have K1:Hid (∀ t1 w1,RS w1 A rb xb t1→_):=fun t1 w1 k=>rHandle A rb xb t1 w1 k;clear h hlt hpr
 go_enter Tryz.func224,Tryz.ntmps224
 go_wp2_with fail
 refine (K0.out _ _ S0.out).mono ?_;rintro e w1 (⟨a0,t1,r,rfl,o,s⟩ | ⟨r,rfl,o⟩)
 rotate_left
 · exact ⟨rfl,Or.inr ⟨HP.out.trans (R0.out.trans (bindP_noneW r)),rfl,O0.out.seq o⟩⟩
 have R1:Hid (pr=_):=R0.out.trans (bindP_someW r);have O1:Hid (Only [xb] w w1):=O0.out.seq o;have S1:Hid (RS w1 A rb xb t1):=s;have V1:Hid (Var w1 w.heap.size [.string ⟨#[]⟩,.int .i64 0,.int .i64 0]):=V0.out.only o L0.out HN.out;have L1:Hid (w.heap.size < w1.heap.size):=Nat.lt_of_lt_of_le L0.out o.size;clear r o s R0 O0 S0 V0 L0 K0
 go_wp2_with fail
 refine (K1.out _ _ S1.out).mono ?_;rintro e w2 (⟨a1,t2,r,rfl,o,s⟩ | ⟨r,rfl,o⟩)
 rotate_left
 · exact ⟨rfl,Or.inr ⟨HP.out.trans (R1.out.trans (bindP_noneW r)),rfl,O1.out.seq o⟩⟩
 have R2:Hid (pr=_):=R1.out.trans (bindP_someW r);have O2:Hid (Only [xb] w w2):=O1.out.seq o;have S2:Hid (RS w2 A rb xb t2):=s;have V2:Hid (Var w2 w.heap.size [.string ⟨#[]⟩,.int .i64 0,.int .i64 0]):=V1.out.only o L1.out HN.out;have L2:Hid (w.heap.size < w2.heap.size):=Nat.lt_of_lt_of_le L1.out o.size;clear r o s R1 O1 S1 V1 L1 K1;have c0:=V2.out.1 0 _ rfl;have f0:=V2.out.2 0;have c1:=V2.out.1 1 _ rfl;have f1:=V2.out.2 1;have c2:=V2.out.1 2 _ rfl;have f2:=V2.out.2 2;have HO:Hid (Only [w.heap.size] w2 (((w2.setCell ⟨w.heap.size,0,none⟩ (.string a0)).setCell ⟨w.heap.size,1,none⟩ (.int .i64 a1.1)).setCell ⟨w.heap.size,2,none⟩ (.int .i64 a1.2))):=((((Only.refl [w.heap.size] _).setCell (p:=⟨w.heap.size,0,none⟩) (Or.inl (List.mem_cons_self ..)) _).setCell (p:=⟨w.heap.size,1,none⟩) (Or.inl (List.mem_cons_self ..)) _).setCell (p:=⟨w.heap.size,2,none⟩) (Or.inl (List.mem_cons_self ..)) _)
 go_wp2_with fail
 refine bodyPost_ret (v := .agg #[.string a0,.int .i64 a1.1,.int .i64 a1.2]) (by simp [results,Tryz.results224,go_sem,c0,c1,c2]) rfl ?_;exact Or.inl ⟨_,_,HP.out.trans R2.out,rfl,O2.out.trans HO.out (fun k hk=>Or.inr (by rw [List.mem_singleton.1 hk];exact Nat.le_refl _)),HH.out.over S2.out HO.out (fun k hk=>by rw [List.mem_singleton.1 hk];exact Nat.le_refl _)⟩
theorem rOp (A:Nat→Addr)(rb xb:Nat)(t:ByteArray)(w:World)(h:RS w A rb xb t):Calls Tryz.prog 266 #[P0 rb] w (REndW A rb xb w t pOp (fun o => .agg #[.string o.K,.string o.N,.string o.T,.int .i64 o.x1,.int .i64 o.x2,.int .i64 o.x3,.int .i64 o.x4,.int .i64 o.x5,.int .i64 o.x6])):=by
 have HH:Hid (RS w A rb xb t):=h;have hlt:=h.lt
 have HN:Hid (w.heap.size∉[xb]):=by show _∉_;simp;omega
 have V0:Hid (Var (w.alloc (.cells #[.string ⟨#[]⟩,.string ⟨#[]⟩,.string ⟨#[]⟩,.int .i64 0,.int .i64 0,.int .i64 0,.int .i64 0,.int .i64 0,.int .i64 0] 163)) w.heap.size [.string ⟨#[]⟩,.string ⟨#[]⟩,.string ⟨#[]⟩,.int .i64 0,.int .i64 0,.int .i64 0,.int .i64 0,.int .i64 0,.int .i64 0]):=Var.new w [.string ⟨#[]⟩,.string ⟨#[]⟩,.string ⟨#[]⟩,.int .i64 0,.int .i64 0,.int .i64 0,.int .i64 0,.int .i64 0,.int .i64 0] 163;have S0:Hid (RS (w.alloc (.cells #[.string ⟨#[]⟩,.string ⟨#[]⟩,.string ⟨#[]⟩,.int .i64 0,.int .i64 0,.int .i64 0,.int .i64 0,.int .i64 0,.int .i64 0] 163)) A rb xb t):=h.later ((Only.refl [] w).alloc _);have O0:Hid (Only [xb] w (w.alloc (.cells #[.string ⟨#[]⟩,.string ⟨#[]⟩,.string ⟨#[]⟩,.int .i64 0,.int .i64 0,.int .i64 0,.int .i64 0,.int .i64 0,.int .i64 0] 163))):=(Only.refl [xb] w).alloc _
 have L0:Hid (w.heap.size < (w.alloc (.cells #[.string ⟨#[]⟩,.string ⟨#[]⟩,.string ⟨#[]⟩,.int .i64 0,.int .i64 0,.int .i64 0,.int .i64 0,.int .i64 0,.int .i64 0] 163)).heap.size):=by show _ < _;simp
 obtain ⟨pr,hpr⟩:∃ pr,pOp t=pr:=⟨_,rfl⟩;have HP:Hid (pOp t=pr):=hpr;have R0:Hid (pr=pOp t):=hpr.symm;have K0:Hid (∀ t1 w1,RS w1 A rb xb t1→_):=fun t1 w1 k=>rText A rb xb t1 w1 k;have K1:Hid (∀ t1 w1,RS w1 A rb xb t1→_):=fun t1 w1 k=>rText A rb xb t1 w1 k;have K2:Hid (∀ t1 w1,RS w1 A rb xb t1→_):=fun t1 w1 k=>rText A rb xb t1 w1 k;have K3:Hid (∀ t1 w1,RS w1 A rb xb t1→_):=fun t1 w1 k=>rNumber A rb xb t1 w1 k;have K4:Hid (∀ t1 w1,RS w1 A rb xb t1→_):=fun t1 w1 k=>rNumber A rb xb t1 w1 k;have K5:Hid (∀ t1 w1,RS w1 A rb xb t1→_):=fun t1 w1 k=>rNumber A rb xb t1 w1 k;have K6:Hid (∀ t1 w1,RS w1 A rb xb t1→_):=fun t1 w1 k=>rNumber A rb xb t1 w1 k;have K7:Hid (∀ t1 w1,RS w1 A rb xb t1→_):=fun t1 w1 k=>rState A rb xb t1 w1 k;clear h hlt hpr
 go_enter Tryz.func266,Tryz.ntmps266
 go_wp2_with fail
 refine (K0.out _ _ S0.out).mono ?_;rintro e w1 (⟨a0,t1,r,rfl,o,s⟩ | ⟨r,rfl,o⟩)
 rotate_left
 · exact ⟨rfl,Or.inr ⟨HP.out.trans (R0.out.trans (bindP_noneW r)),rfl,O0.out.seq o⟩⟩
 have R1:Hid (pr=_):=R0.out.trans (bindP_someW r);have O1:Hid (Only [xb] w w1):=O0.out.seq o;have S1:Hid (RS w1 A rb xb t1):=s;have V1:Hid (Var w1 w.heap.size [.string ⟨#[]⟩,.string ⟨#[]⟩,.string ⟨#[]⟩,.int .i64 0,.int .i64 0,.int .i64 0,.int .i64 0,.int .i64 0,.int .i64 0]):=V0.out.only o L0.out HN.out;have L1:Hid (w.heap.size < w1.heap.size):=Nat.lt_of_lt_of_le L0.out o.size;clear r o s R0 O0 S0 V0 L0 K0
 go_wp2_with fail
 refine (K1.out _ _ S1.out).mono ?_;rintro e w2 (⟨a1,t2,r,rfl,o,s⟩ | ⟨r,rfl,o⟩)
 rotate_left
 · exact ⟨rfl,Or.inr ⟨HP.out.trans (R1.out.trans (bindP_noneW r)),rfl,O1.out.seq o⟩⟩
 have R2:Hid (pr=_):=R1.out.trans (bindP_someW r);have O2:Hid (Only [xb] w w2):=O1.out.seq o;have S2:Hid (RS w2 A rb xb t2):=s;have V2:Hid (Var w2 w.heap.size [.string ⟨#[]⟩,.string ⟨#[]⟩,.string ⟨#[]⟩,.int .i64 0,.int .i64 0,.int .i64 0,.int .i64 0,.int .i64 0,.int .i64 0]):=V1.out.only o L1.out HN.out;have L2:Hid (w.heap.size < w2.heap.size):=Nat.lt_of_lt_of_le L1.out o.size;clear r o s R1 O1 S1 V1 L1 K1
 go_wp2_with fail
 refine (K2.out _ _ S2.out).mono ?_;rintro e w3 (⟨a2,t3,r,rfl,o,s⟩ | ⟨r,rfl,o⟩)
 rotate_left
 · exact ⟨rfl,Or.inr ⟨HP.out.trans (R2.out.trans (bindP_noneW r)),rfl,O2.out.seq o⟩⟩
 have R3:Hid (pr=_):=R2.out.trans (bindP_someW r);have O3:Hid (Only [xb] w w3):=O2.out.seq o;have S3:Hid (RS w3 A rb xb t3):=s;have V3:Hid (Var w3 w.heap.size [.string ⟨#[]⟩,.string ⟨#[]⟩,.string ⟨#[]⟩,.int .i64 0,.int .i64 0,.int .i64 0,.int .i64 0,.int .i64 0,.int .i64 0]):=V2.out.only o L2.out HN.out;have L3:Hid (w.heap.size < w3.heap.size):=Nat.lt_of_lt_of_le L2.out o.size;clear r o s R2 O2 S2 V2 L2 K2
 go_wp2_with fail
 refine (K3.out _ _ S3.out).mono ?_;rintro e w4 (⟨a3,t4,r,rfl,o,s⟩ | ⟨r,rfl,o⟩)
 rotate_left
 · exact ⟨rfl,Or.inr ⟨HP.out.trans (R3.out.trans (bindP_noneW r)),rfl,O3.out.seq o⟩⟩
 have R4:Hid (pr=_):=R3.out.trans (bindP_someW r);have O4:Hid (Only [xb] w w4):=O3.out.seq o;have S4:Hid (RS w4 A rb xb t4):=s;have V4:Hid (Var w4 w.heap.size [.string ⟨#[]⟩,.string ⟨#[]⟩,.string ⟨#[]⟩,.int .i64 0,.int .i64 0,.int .i64 0,.int .i64 0,.int .i64 0,.int .i64 0]):=V3.out.only o L3.out HN.out;have L4:Hid (w.heap.size < w4.heap.size):=Nat.lt_of_lt_of_le L3.out o.size;clear r o s R3 O3 S3 V3 L3 K3
 go_wp2_with fail
 refine (K4.out _ _ S4.out).mono ?_;rintro e w5 (⟨a4,t5,r,rfl,o,s⟩ | ⟨r,rfl,o⟩)
 rotate_left
 · exact ⟨rfl,Or.inr ⟨HP.out.trans (R4.out.trans (bindP_noneW r)),rfl,O4.out.seq o⟩⟩
 have R5:Hid (pr=_):=R4.out.trans (bindP_someW r);have O5:Hid (Only [xb] w w5):=O4.out.seq o;have S5:Hid (RS w5 A rb xb t5):=s;have V5:Hid (Var w5 w.heap.size [.string ⟨#[]⟩,.string ⟨#[]⟩,.string ⟨#[]⟩,.int .i64 0,.int .i64 0,.int .i64 0,.int .i64 0,.int .i64 0,.int .i64 0]):=V4.out.only o L4.out HN.out;have L5:Hid (w.heap.size < w5.heap.size):=Nat.lt_of_lt_of_le L4.out o.size;clear r o s R4 O4 S4 V4 L4 K4
 go_wp2_with fail
 refine (K5.out _ _ S5.out).mono ?_;rintro e w6 (⟨a5,t6,r,rfl,o,s⟩ | ⟨r,rfl,o⟩)
 rotate_left
 · exact ⟨rfl,Or.inr ⟨HP.out.trans (R5.out.trans (bindP_noneW r)),rfl,O5.out.seq o⟩⟩
 have R6:Hid (pr=_):=R5.out.trans (bindP_someW r);have O6:Hid (Only [xb] w w6):=O5.out.seq o;have S6:Hid (RS w6 A rb xb t6):=s;have V6:Hid (Var w6 w.heap.size [.string ⟨#[]⟩,.string ⟨#[]⟩,.string ⟨#[]⟩,.int .i64 0,.int .i64 0,.int .i64 0,.int .i64 0,.int .i64 0,.int .i64 0]):=V5.out.only o L5.out HN.out;have L6:Hid (w.heap.size < w6.heap.size):=Nat.lt_of_lt_of_le L5.out o.size;clear r o s R5 O5 S5 V5 L5 K5
 go_wp2_with fail
 refine (K6.out _ _ S6.out).mono ?_;rintro e w7 (⟨a6,t7,r,rfl,o,s⟩ | ⟨r,rfl,o⟩)
 rotate_left
 · exact ⟨rfl,Or.inr ⟨HP.out.trans (R6.out.trans (bindP_noneW r)),rfl,O6.out.seq o⟩⟩
 have R7:Hid (pr=_):=R6.out.trans (bindP_someW r);have O7:Hid (Only [xb] w w7):=O6.out.seq o;have S7:Hid (RS w7 A rb xb t7):=s;have V7:Hid (Var w7 w.heap.size [.string ⟨#[]⟩,.string ⟨#[]⟩,.string ⟨#[]⟩,.int .i64 0,.int .i64 0,.int .i64 0,.int .i64 0,.int .i64 0,.int .i64 0]):=V6.out.only o L6.out HN.out;have L7:Hid (w.heap.size < w7.heap.size):=Nat.lt_of_lt_of_le L6.out o.size;clear r o s R6 O6 S6 V6 L6 K6
 go_wp2_with fail
 refine (K7.out _ _ S7.out).mono ?_;rintro e w8 (⟨a7,t8,r,rfl,o,s⟩ | ⟨r,rfl,o⟩)
 rotate_left
 · exact ⟨rfl,Or.inr ⟨HP.out.trans (R7.out.trans (bindP_noneW r)),rfl,O7.out.seq o⟩⟩
 have R8:Hid (pr=_):=R7.out.trans (bindP_someW r);have O8:Hid (Only [xb] w w8):=O7.out.seq o;have S8:Hid (RS w8 A rb xb t8):=s;have V8:Hid (Var w8 w.heap.size [.string ⟨#[]⟩,.string ⟨#[]⟩,.string ⟨#[]⟩,.int .i64 0,.int .i64 0,.int .i64 0,.int .i64 0,.int .i64 0,.int .i64 0]):=V7.out.only o L7.out HN.out;have L8:Hid (w.heap.size < w8.heap.size):=Nat.lt_of_lt_of_le L7.out o.size;clear r o s R7 O7 S7 V7 L7 K7;have c0:=V8.out.1 0 _ rfl;have f0:=V8.out.2 0;have c1:=V8.out.1 1 _ rfl;have f1:=V8.out.2 1;have c2:=V8.out.1 2 _ rfl;have f2:=V8.out.2 2;have c3:=V8.out.1 3 _ rfl;have f3:=V8.out.2 3;have c4:=V8.out.1 4 _ rfl;have f4:=V8.out.2 4;have c5:=V8.out.1 5 _ rfl;have f5:=V8.out.2 5;have c6:=V8.out.1 6 _ rfl;have f6:=V8.out.2 6;have c7:=V8.out.1 7 _ rfl;have f7:=V8.out.2 7;have c8:=V8.out.1 8 _ rfl;have f8:=V8.out.2 8;have HO:Hid (Only [w.heap.size] w8 (((((((((w8.setCell ⟨w.heap.size,0,none⟩ (.string a0)).setCell ⟨w.heap.size,1,none⟩ (.string a1)).setCell ⟨w.heap.size,2,none⟩ (.string a2)).setCell ⟨w.heap.size,3,none⟩ (.int .i64 a3)).setCell ⟨w.heap.size,4,none⟩ (.int .i64 a4)).setCell ⟨w.heap.size,5,none⟩ (.int .i64 a5)).setCell ⟨w.heap.size,6,none⟩ (.int .i64 a6)).setCell ⟨w.heap.size,7,none⟩ (.int .i64 a7.1)).setCell ⟨w.heap.size,8,none⟩ (.int .i64 a7.2))):=((((((((((Only.refl [w.heap.size] _).setCell (p:=⟨w.heap.size,0,none⟩) (Or.inl (List.mem_cons_self ..)) _).setCell (p:=⟨w.heap.size,1,none⟩) (Or.inl (List.mem_cons_self ..)) _).setCell (p:=⟨w.heap.size,2,none⟩) (Or.inl (List.mem_cons_self ..)) _).setCell (p:=⟨w.heap.size,3,none⟩) (Or.inl (List.mem_cons_self ..)) _).setCell (p:=⟨w.heap.size,4,none⟩) (Or.inl (List.mem_cons_self ..)) _).setCell (p:=⟨w.heap.size,5,none⟩) (Or.inl (List.mem_cons_self ..)) _).setCell (p:=⟨w.heap.size,6,none⟩) (Or.inl (List.mem_cons_self ..)) _).setCell (p:=⟨w.heap.size,7,none⟩) (Or.inl (List.mem_cons_self ..)) _).setCell (p:=⟨w.heap.size,8,none⟩) (Or.inl (List.mem_cons_self ..)) _)
 go_wp2_with fail
 refine bodyPost_ret (v := .agg #[.string a0,.string a1,.string a2,.int .i64 a3,.int .i64 a4,.int .i64 a5,.int .i64 a6,.int .i64 a7.1,.int .i64 a7.2]) (by simp [results,Tryz.results266,go_sem,c0,c1,c2,c3,c4,c5,c6,c7,c8]) rfl ?_;exact Or.inl ⟨_,_,HP.out.trans R8.out,rfl,O8.out.trans HO.out (fun k hk=>Or.inr (by rw [List.mem_singleton.1 hk];exact Nat.le_refl _)),HH.out.over S8.out HO.out (fun k hk=>by rw [List.mem_singleton.1 hk];exact Nat.le_refl _)⟩
def contP {α:Type}(l:List α)(o:Option (List α×ByteArray)):Option (List α×ByteArray):=o.map fun p=>(l++p.1,p.2)
theorem contP_none {α:Type}{p:ParW α}{l:List α}{m:Nat}{t:ByteArray}(h:p t=none):contP l (pTimesW p (m+1) t)=none:=by simp [contP,pTimesW,bindP_noneW h]
theorem contP_some {α:Type}{p:ParW α}{l:List α}{m:Nat}{t t':ByteArray}{a:α}(h:p t=some (a,t')):contP l (pTimesW p (m+1) t)=contP (l++[a]) (pTimesW p m t'):=by
 simp only [pTimesW,bindP_someW h]
 cases hm:pTimesW p m t' with
 | none=>simp [contP,bindP_noneW hm]
 | some q=>simp [contP,bindP_someW hm,retPW]
theorem contP_end {α:Type}(p:ParW α)(l:List α)(t:ByteArray):contP l (pTimesW p 0 t)=some (l,t):=by simp [contP,pTimesW,retPW]
theorem contP_start {α:Type}(o:Option (List α×ByteArray)):contP [] o=o:=by
 cases o<;>simp [contP]
theorem grown_only {w w':World}{v:Value}{L:List Nat}{o:Obj}(h:(w.alloc o).grownBy w' v.ownBlock)(hL:∀ b,v.ownBlock=some b→b∈L∨w.heap.size≤b):Only L w w':=((Only.refl _ w).alloc _).grown h hL
theorem own_at {w:World}{base e k n b:Nat}{v:Value}{xs:List Value}(h:w.ownsRow base e k v n xs)(hb:v.ownBlock=some b):base≤b∧b < w.heap.size∧∃ cur,w.heap[b]?=some (.cells cur e (0,0)):=by
 rcases h.2 with ⟨rfl,_⟩ | ⟨g,cap,cur,rfl,h1,h2,_⟩
 · cases hb
 · cases hb
   exact ⟨h1,(Array.getElem?_eq_some_iff.1 h2).1,cur,h2⟩
theorem own_low {w:World}{base b2 e k n:Nat}{v:Value}{xs:List Value}(h:w.ownsRow base e k v n xs)(hb:b2≤base):w.ownsRow b2 e k v n xs:=⟨h.1,by
 rcases h.2 with e | ⟨g,cp,cur,h1,h2,h3⟩
 · exact Or.inl e
 · exact Or.inr ⟨g,cp,cur,h1,Nat.le_trans hb h2,h3⟩⟩
theorem own_rws {α:Type}{w:World}{base e k B:Nat}{v:Value}{c:α→List Value}{l:List α}(h:w.ownsRow base e k v l.length (rowOf c l))(hc:∀ a,(c a).length=k)(hB:w.heap.size≤B):∃ ad cap,v = .slice ad l.length cap∧Rws w B c k ad l:=by
 rcases h.2 with ⟨rfl,hz⟩ | ⟨g,cap,cur,rfl,h1,h2,h3⟩
 · have:=List.eq_nil_of_length_eq_zero hz
   subst this;exact ⟨none,0,rfl,Rws.nil _ _ _ _ _⟩
 · refine ⟨_,_,rfl,⟨fun i x hx=>⟨g,rfl,Nat.lt_of_lt_of_le (Array.getElem?_eq_some_iff.1 h2).1 hB,fun j u hu=>?_⟩⟩⟩
   have hlt:i < l.length:=(List.getElem?_eq_some_iff.1 hx).1
   have hj:j < k:=by rw [← hc x];exact (List.getElem?_eq_some_iff.1 hu).1
   rw [World.ownsRow.cellAt h _ (by
    have:i*k+k≤l.length*k:=by rw [← Nat.succ_mul];exact Nat.mul_le_mul_right _ hlt
    omega),rowOf_get hc l i j x hj hx]
   exact hu
theorem row_snoc {α:Type}{w:World}{base e k n:Nat}{v:Value}{c:α→List Value}{l:List α}{x:α}(hn:l.length=n)(h:w.ownsRow base e k v (n+1) (rowOf c l++c x)):w.ownsRow base e k v (l++[x]).length (rowOf c (l++[x])):=by
 rw [rowOf_append,List.length_append,List.length_singleton,hn,show rowOf c [x]=c x by simp [rowOf]];exact h
def LEndW {α:Type}(A:Nat→Addr)(rb xb:Nat)(w:World)(t:ByteArray)(p:ParW α)(T k:Nat)(c:α→List Value)(e:Ending)(w':World):Prop :=
 (∃ l t' v,pList p t=some (l,t')∧e = .returned v∧Only [xb] w w'∧RS w' A rb xb t'∧w'.ownsRow w.heap.size T k v l.length (rowOf c l))∨(pList p t=none∧e = .panicked (thrW (eVW A 0))∧Only [xb] w w')
theorem opC_len (x:OpV):(opC x).length=9:=rfl
theorem opC_one (x:OpV):∀ v∈opC x,v.oneCell'=true:=by
 intro v hv;simp only [opC,List.mem_cons,List.not_mem_nil,or_false] at hv;rcases hv with rfl | rfl | rfl | rfl | rfl | rfl | rfl | rfl | rfl<;>rfl
theorem opInfo:∃ i,Tryz.prog.info? 163=some i∧i.zero=some (.agg #[.string ⟨#[]⟩,.string ⟨#[]⟩,.string ⟨#[]⟩,.int .i64 0,.int .i64 0,.int .i64 0,.int .i64 0,.int .i64 0,.int .i64 0])∧i.size=9∧i.bytes=96:=by
 have h:(Tryz.prog.info? 163).map (fun i=>(i.zero,i.size,i.bytes))=some (some (.agg #[.string ⟨#[]⟩,.string ⟨#[]⟩,.string ⟨#[]⟩,.int .i64 0,.int .i64 0,.int .i64 0,.int .i64 0,.int .i64 0,.int .i64 0]),9,96):=by kernel_rfl
 obtain ⟨i,hi,hz⟩:=Option.map_eq_some_iff.1 h;simp only [Prod.mk.injEq] at hz;exact ⟨i,hi,hz⟩
theorem opsUnd:Tryz.prog.underlying 158=some (.slice 163):=by kernel_rfl
theorem op_news {w:World}(x:OpV)(ty:TypeId):∀ (r:Nat) (q:Value),(opC x)[r]?=some q→(w.alloc (.cells #[.string x.K,.string x.N,.string x.T,.int .i64 x.x1,.int .i64 x.x2,.int .i64 x.x3,.int .i64 x.x4,.int .i64 x.x5,.int .i64 x.x6] ty)).cell? ((⟨w.heap.size,0,none⟩:Addr).add r)=some q:=World.news_of_block (w:=w.alloc (.cells #[.string x.K,.string x.N,.string x.T,.int .i64 x.x1,.int .i64 x.x2,.int .i64 x.x3,.int .i64 x.x4,.int .i64 x.x5,.int .i64 x.x6] ty)) (heap_alloc_last w _)
theorem enC_len (x:EnV):(enC x).length=3:=rfl
theorem enC_one (x:EnV):∀ v∈enC x,v.oneCell'=true:=by
 intro v hv;simp only [enC,List.mem_cons,List.not_mem_nil,or_false] at hv;rcases hv with rfl | rfl | rfl<;>rfl
theorem enInfo:∃ i,Tryz.prog.info? 176=some i∧i.zero=some (.agg #[.string ⟨#[]⟩,.int .i64 0,.int .i64 0])∧i.size=3∧i.bytes=32:=by
 have h:(Tryz.prog.info? 176).map (fun i=>(i.zero,i.size,i.bytes))=some (some (.agg #[.string ⟨#[]⟩,.int .i64 0,.int .i64 0]),3,32):=by kernel_rfl
 obtain ⟨i,hi,hz⟩:=Option.map_eq_some_iff.1 h;simp only [Prod.mk.injEq] at hz;exact ⟨i,hi,hz⟩
theorem ensUnd:Tryz.prog.underlying 167=some (.slice 176):=by kernel_rfl
theorem en_news {w:World}(x:EnV)(ty:TypeId):∀ (r:Nat) (q:Value),(enC x)[r]?=some q→(w.alloc (.cells #[.string x.n,.int .i64 x.x,.int .i64 x.y] ty)).cell? ((⟨w.heap.size,0,none⟩:Addr).add r)=some q:=World.news_of_block (w:=w.alloc (.cells #[.string x.n,.int .i64 x.x,.int .i64 x.y] ty)) (heap_alloc_last w _)
theorem rOps (A:Nat→Addr)(rb xb:Nat)(t:ByteArray)(w:World)(h:RS w A rb xb t):Calls Tryz.prog 283 #[P0 rb,.func (.func 266) #[] #[]] w (LEndW A rb xb w t pOp 163 9 opC):=by
 obtain ⟨i0,hi0,hz0,hz1,hz2⟩:=opInfo;have K0:Hid (∀ _:Unit,_):=fun _=>yInt A rb xb t w h;have HX:Hid (xb < w.heap.size):=h.lt;have KX:Hid (∀ t1 w1,RS w1 A rb xb t1→_):=fun t1 w1 k=>rOp A rb xb t1 w1 k;have HH:Hid (RS w A rb xb t):=h;obtain ⟨pr,hpr⟩:∃ pr,pList pOp t=pr:=⟨_,rfl⟩;have HP:Hid (pList pOp t=pr):=hpr;have R0:Hid (pr=pList pOp t):=hpr.symm;have c0:=h.ptr;clear h hpr
 go_enter Tryz.func283,Tryz.ntmps283
 go_wp2_with fail
 clear c0;refine (K0.out ()).mono ?_;rintro e w1 (⟨n,t1,r,rfl,o,s⟩ | ⟨r,rfl,o⟩)
 rotate_left
 · go_wp2_with (go_at_call 192;refine (must_err _ _ _).mono ?_;rintro e w2 ⟨rfl,rfl⟩)
   exact ⟨rfl,Or.inr ⟨HP.out.trans (R0.out.trans (bindP_noneW r)),rfl,o⟩⟩
 have hnb:n < 4294967296:=by
   unfold pInt at r
   split at r
   · cases r
     exact numAt_lt t 4
   · cases r
 have R1:Hid (pr=contP [] (pTimesW pOp n t1)):=(R0.out.trans (bindP_someW r)).trans (contP_start _).symm;have O1:Hid (Only [xb] w w1):=o;have S1:Hid (RS w1 A rb xb t1):=s;clear r o s R0 K0
 go_wp2_with (go_at_call 192;refine (must_nil _).mono ?_;rintro e w2 ⟨rfl,rfl⟩)
 go_loopw [7,19] (fun v i wr=>∃ (j:Nat) (tj:ByteArray) (l:List OpV),j≤n∧i = .int .i64 (j:Nat)∧l.length=j∧pr=contP l (pTimesW pOp (n - j) tj)∧Only [xb] w wr∧RS wr A rb xb tj∧wr.ownsRow w.heap.size 163 9 v l.length (rowOf opC l)) (fun _ i _=>n - (intOf i).toNat)
 case atStart=>exact ⟨0,t1,[],Nat.zero_le _,rfl,rfl,R1.out,O1.out,S1.out,World.ownsRow_nil _ _ _ _⟩
 case round =>
   obtain ⟨j,tj,l,hj,rfl,hlj,hr,ho,hs,hrow⟩:=hrel;have HL:Hid (l.length=j):=hlj;have R:Hid (pr=contP l (pTimesW pOp (n - j) tj)):=hr;have O:Hid (Only [xb] w wr):=ho;have S:Hid (RS wr A rb xb tj):=hs
   have HROW:Hid (wr.ownsRow w.heap.size 163 9 u7 j (rowOf opC l)):=by
     rw [hlj] at hrow;exact hrow
   clear hr ho hs hrow hlj
   by_cases hlt:j < n
   · have RX:Hid (pr=contP l (pTimesW pOp (n - (j+1)+1) tj)):=by
       have:=R.out;rw [show n - j=n - (j+1)+1 by omega] at this;exact this
     go_wp2_with fail
     refine (KX.out _ _ S.out).mono ?_;rintro e w2 (⟨a,t2,r2,rfl,o2,s2⟩ | ⟨r2,rfl,o2⟩)
     rotate_left
     · exact ⟨rfl,Or.inr ⟨HP.out.trans (RX.out.trans (contP_none r2)),rfl,O.out.seq o2⟩⟩
     have R2:Hid (pr=contP (l++[a]) (pTimesW pOp (n - (j+1)) t2)):=RX.out.trans (contP_some r2);have O2:Hid (Only [xb] w w2):=O.out.seq o2;have S2:Hid (RS w2 A rb xb t2):=s2;have HROW2:Hid (w2.ownsRow w.heap.size 163 9 u7 j (rowOf opC l)):=o2.owns HROW.out (fun b hb=>by have:=(own_at HROW.out hb).1;have:=HX.out;simp;omega);clear r2 o2 s2 RX R
     go_wp2_with (first
       | (at_builtin;refine wpList_append_lies _ rfl (.tmp 21) (.tmp 25) 158 rfl w.heap.size 163 i0 _ 9 96 opsUnd hi0 hz0 hz1 hz2 rfl (by decide) u7 j _ rfl (World.ownsRow.alloc HROW2.out _) ⟨w2.heap.size,0,none⟩ 1 1 (opC a) rfl rfl (op_news a _) (opC_one a) (by decide) (by unfold maxLen;omega) (by omega) (by rw [World.size_alloc];have:=O2.out.size;omega) (w2.heap.size+1) (by simp) ?_;intro g5 c5 w5 hown5 hgr5 hat5 hlt5;have HV5:Hid (w5.ownsRow w.heap.size 163 9 (.slice (some ⟨g5,0,none⟩) (j+1) c5) (l++[a]).length (rowOf opC (l++[a]))):=row_snoc HL.out hown5;have HG5:Hid ((w2.alloc (.cells #[.string a.K,.string a.N,.string a.T,.int .i64 a.x1,.int .i64 a.x2,.int .i64 a.x3,.int .i64 a.x4,.int .i64 a.x5,.int .i64 a.x6] 163)).grownBy w5 u7.ownBlock):=hgr5;clear hown5 hgr5 hat5 hlt5)
       | go_in)
     go_roundw
     case rel =>
       have hg:Only u7.ownBlock.toList w2 w5:=grown_only HG5.out (fun b hb=>Or.inl (by simp [hb]));have hge:∀ k∈u7.ownBlock.toList,w.heap.size≤k:=fun k hk=>(own_at HROW2.out (by simpa using hk)).1;exact ⟨j+1,t2,l++[a],by omega,by go_num,by rw [List.length_append,HL.out];rfl,R2.out,O2.out.trans hg (fun k hk=>Or.inr (hge k hk)),HH.out.over S2.out hg hge,HV5.out⟩
     case measure=>simp [intOf];omega
   · obtain rfl:n=j:=by omega
     have R2:Hid (pr=some (l,tj)):=by
       have:=R.out;rw [Nat.sub_self,contP_end] at this;exact this
     go_wp2
     go_ret
     exact Or.inl ⟨_,_,_,HP.out.trans R2.out,rfl,O.out,S.out,by rw [HL.out];exact HROW.out⟩
theorem rEntries (A:Nat→Addr)(rb xb:Nat)(t:ByteArray)(w:World)(h:RS w A rb xb t):Calls Tryz.prog 223 #[P0 rb,.func (.func 224) #[] #[]] w (LEndW A rb xb w t pEntry 176 3 enC):=by
 obtain ⟨i0,hi0,hz0,hz1,hz2⟩:=enInfo;have K0:Hid (∀ _:Unit,_):=fun _=>yInt A rb xb t w h;have HX:Hid (xb < w.heap.size):=h.lt;have KX:Hid (∀ t1 w1,RS w1 A rb xb t1→_):=fun t1 w1 k=>rEntry A rb xb t1 w1 k;have HH:Hid (RS w A rb xb t):=h;obtain ⟨pr,hpr⟩:∃ pr,pList pEntry t=pr:=⟨_,rfl⟩;have HP:Hid (pList pEntry t=pr):=hpr;have R0:Hid (pr=pList pEntry t):=hpr.symm;have c0:=h.ptr;clear h hpr
 go_enter Tryz.func223,Tryz.ntmps223
 go_wp2_with fail
 clear c0;refine (K0.out ()).mono ?_;rintro e w1 (⟨n,t1,r,rfl,o,s⟩ | ⟨r,rfl,o⟩)
 rotate_left
 · go_wp2_with (go_at_call 192;refine (must_err _ _ _).mono ?_;rintro e w2 ⟨rfl,rfl⟩)
   exact ⟨rfl,Or.inr ⟨HP.out.trans (R0.out.trans (bindP_noneW r)),rfl,o⟩⟩
 have hnb:n < 4294967296:=by
   unfold pInt at r
   split at r
   · cases r
     exact numAt_lt t 4
   · cases r
 have R1:Hid (pr=contP [] (pTimesW pEntry n t1)):=(R0.out.trans (bindP_someW r)).trans (contP_start _).symm;have O1:Hid (Only [xb] w w1):=o;have S1:Hid (RS w1 A rb xb t1):=s;clear r o s R0 K0
 go_wp2_with (go_at_call 192;refine (must_nil _).mono ?_;rintro e w2 ⟨rfl,rfl⟩)
 go_loopw [7,19] (fun v i wr=>∃ (j:Nat) (tj:ByteArray) (l:List EnV),j≤n∧i = .int .i64 (j:Nat)∧l.length=j∧pr=contP l (pTimesW pEntry (n - j) tj)∧Only [xb] w wr∧RS wr A rb xb tj∧wr.ownsRow w.heap.size 176 3 v l.length (rowOf enC l)) (fun _ i _=>n - (intOf i).toNat)
 case atStart=>exact ⟨0,t1,[],Nat.zero_le _,rfl,rfl,R1.out,O1.out,S1.out,World.ownsRow_nil _ _ _ _⟩
 case round =>
   obtain ⟨j,tj,l,hj,rfl,hlj,hr,ho,hs,hrow⟩:=hrel;have HL:Hid (l.length=j):=hlj;have R:Hid (pr=contP l (pTimesW pEntry (n - j) tj)):=hr;have O:Hid (Only [xb] w wr):=ho;have S:Hid (RS wr A rb xb tj):=hs
   have HROW:Hid (wr.ownsRow w.heap.size 176 3 u7 j (rowOf enC l)):=by
     rw [hlj] at hrow;exact hrow
   clear hr ho hs hrow hlj
   by_cases hlt:j < n
   · have RX:Hid (pr=contP l (pTimesW pEntry (n - (j+1)+1) tj)):=by
       have:=R.out;rw [show n - j=n - (j+1)+1 by omega] at this;exact this
     go_wp2_with fail
     refine (KX.out _ _ S.out).mono ?_;rintro e w2 (⟨a,t2,r2,rfl,o2,s2⟩ | ⟨r2,rfl,o2⟩)
     rotate_left
     · exact ⟨rfl,Or.inr ⟨HP.out.trans (RX.out.trans (contP_none r2)),rfl,O.out.seq o2⟩⟩
     have R2:Hid (pr=contP (l++[a]) (pTimesW pEntry (n - (j+1)) t2)):=RX.out.trans (contP_some r2);have O2:Hid (Only [xb] w w2):=O.out.seq o2;have S2:Hid (RS w2 A rb xb t2):=s2;have HROW2:Hid (w2.ownsRow w.heap.size 176 3 u7 j (rowOf enC l)):=o2.owns HROW.out (fun b hb=>by have:=(own_at HROW.out hb).1;have:=HX.out;simp;omega);clear r2 o2 s2 RX R
     go_wp2_with (first
       | (at_builtin;refine wpList_append_lies _ rfl (.tmp 21) (.tmp 25) 167 rfl w.heap.size 176 i0 _ 3 32 ensUnd hi0 hz0 hz1 hz2 rfl (by decide) u7 j _ rfl (World.ownsRow.alloc HROW2.out _) ⟨w2.heap.size,0,none⟩ 1 1 (enC a) rfl rfl (en_news a _) (enC_one a) (by decide) (by unfold maxLen;omega) (by omega) (by rw [World.size_alloc];have:=O2.out.size;omega) (w2.heap.size+1) (by simp) ?_;intro g5 c5 w5 hown5 hgr5 hat5 hlt5;have HV5:Hid (w5.ownsRow w.heap.size 176 3 (.slice (some ⟨g5,0,none⟩) (j+1) c5) (l++[a]).length (rowOf enC (l++[a]))):=row_snoc HL.out hown5;have HG5:Hid ((w2.alloc (.cells #[.string a.n,.int .i64 a.x,.int .i64 a.y] 176)).grownBy w5 u7.ownBlock):=hgr5;clear hown5 hgr5 hat5 hlt5)
       | go_in)
     go_roundw
     case rel =>
       have hg:Only u7.ownBlock.toList w2 w5:=grown_only HG5.out (fun b hb=>Or.inl (by simp [hb]));have hge:∀ k∈u7.ownBlock.toList,w.heap.size≤k:=fun k hk=>(own_at HROW2.out (by simpa using hk)).1;exact ⟨j+1,t2,l++[a],by omega,by go_num,by rw [List.length_append,HL.out];rfl,R2.out,O2.out.trans hg (fun k hk=>Or.inr (hge k hk)),HH.out.over S2.out hg hge,HV5.out⟩
     case measure=>simp [intOf];omega
   · obtain rfl:n=j:=by omega
     have R2:Hid (pr=some (l,tj)):=by
       have:=R.out;rw [Nat.sub_self,contP_end] at this;exact this
     go_wp2
     go_ret
     exact Or.inl ⟨_,_,_,HP.out.trans R2.out,rfl,O.out,S.out,by rw [HL.out];exact HROW.out⟩
theorem wReply (A:Nat→Addr)(b:Nat)(t:ByteArray)(c:Int)(T:ByteArray)(x1 x2 x3 x4:Int)(B:Nat)(ad:Option Addr)(cap:Nat)(L:List EnV)(n:Int)(z:Bool)(w:World)(h:WS w A b t)(hc:I64 c)(hx1:I64 x1)(hx2:I64 x2)(hx3:I64 x3)(hx4:I64 x4)(hn:I64 n)(hl:L.length≤4294967295)(hr:Rws w B enC 3 ad L)(hB:B≤b)(hL:∀ x∈L,x.ok)(M:List Step)(hM:M=sgn c++([some (itemS T)]++((sgn x1++sgn x2)++((sgn x3++sgn x4)++(listsW enW L++(sgn n++([some (bs (be 4 z.toNat))]))))))):Calls Tryz.prog 264 #[P0 b,.agg #[.int .i64 c,.string T,.int .i64 x1,.int .i64 x2,.int .i64 x3,.int .i64 x4,.slice ad L.length cap,.int .i64 n,.bool z]] w (WEnd A b w t M):=by
 have hlt:=h.lt
 have HN:Hid (w.heap.size∉[b]):=by show _∉_;simp;omega
 have C0:Hid (Cells (w.alloc (.cells #[.int .i64 c,.string T,.int .i64 x1,.int .i64 x2,.int .i64 x3,.int .i64 x4,.slice ad L.length cap,.int .i64 n,.bool z] 169)) w.heap.size [.int .i64 c,.string T,.int .i64 x1,.int .i64 x2,.int .i64 x3,.int .i64 x4,.slice ad L.length cap,.int .i64 n,.bool z]):=Cells.boxed w [.int .i64 c,.string T,.int .i64 x1,.int .i64 x2,.int .i64 x3,.int .i64 x4,.slice ad L.length cap,.int .i64 n,.bool z] 169;have S0:Hid (WS (w.alloc (.cells #[.int .i64 c,.string T,.int .i64 x1,.int .i64 x2,.int .i64 x3,.int .i64 x4,.slice ad L.length cap,.int .i64 n,.bool z] 169)) A b t):=h.later ((Only.refl [] w).alloc _);have O0:Hid (Only [b] w (w.alloc (.cells #[.int .i64 c,.string T,.int .i64 x1,.int .i64 x2,.int .i64 x3,.int .i64 x4,.slice ad L.length cap,.int .i64 n,.bool z] 169))):=(Only.refl [b] w).alloc _;obtain ⟨st,hst⟩:∃ st,st=runW (t,0) M:=⟨_,rfl⟩;have HST:Hid (st=runW (t,0) M):=hst;have R0:Hid (st=runW (t,0) (sgn c++([some (itemS T)]++((sgn x1++sgn x2)++((sgn x3++sgn x4)++(listsW enW L++(sgn n++([some (bs (be 4 z.toNat))])))))))):=hM ▸ hst;clear hst hM;have K0:Hid (∀ t1 w1,WS w1 A b t1→Only [b] w w1→_):=fun t1 w1 k ko=>wNumber A b t1 c w1 k hc;have K1:Hid (∀ t1 w1,WS w1 A b t1→Only [b] w w1→_):=fun t1 w1 k ko=>wBytes A b t1 T w1 k;have K2:Hid (∀ t1 w1,WS w1 A b t1→Only [b] w w1→_):=fun t1 w1 k ko=>wHandle A b t1 x1 x2 w1 k hx1 hx2;have K3:Hid (∀ t1 w1,WS w1 A b t1→Only [b] w w1→_):=fun t1 w1 k ko=>wState A b t1 x3 x4 w1 k hx3 hx4;have K4:Hid (∀ t1 w1,WS w1 A b t1→Only [b] w w1→_):=fun t1 w1 k ko=>wEntries A b B t1 ad cap L w1 k hl (hr.only ko (by simpa using hB)) hB hL;have K5:Hid (∀ t1 w1,WS w1 A b t1→Only [b] w w1→_):=fun t1 w1 k ko=>wNumber A b t1 n w1 k hn;have K6:Hid (∀ t1 w1,WS w1 A b t1→4+t1.size≤4000→Calls Tryz.prog 195 #[P0 b,.bool z] w1 fun e w'=>e = .returned .nilIface∧Only [b] w1 w'∧WS w' A b (t1++bs (be 4 z.toNat))):=fun t1 w1 k hf=>(bool_ok b t1 z w1 k.cell k.frz k.le hf).mono fun e w' q=>⟨q.1,onlyPut q.2,k.put q.2 (by rw [ByteArray.size_append,bs_size,be_length];omega)⟩;have K7:Hid (∀ t1 w1,WS w1 A b t1→4000 < 4+t1.size→Calls Tryz.prog 195 #[P0 b,.bool z] w1 fun e w'=>e = .returned (eVW A 8)∧w1=w'):=fun t1 w1 k hf=>bool_full b t1 z _ w1 k.cell k.le (k.err.cell 8 (by decide)) hf
 have hz:(bs (be 4 z.toNat)).size=4:=by rw [bs_size,be_length]
 have HZ:Hid ((bs (be 4 z.toNat)).size=4):=hz;clear h hlt hr hB hL hl hz hc hx1 hx2 hx3 hx4 hn
 go_enter Tryz.func264,Tryz.ntmps264
 have c0:=C0.out 0 _ rfl
 go_wp2_with fail
 clear c0;refine (K0.out _ _ S0.out O0.out).mono ?_;rintro e w1 (⟨t1,r,rfl,o,s⟩ | ⟨k,t1,r,hk,rfl,o⟩)
 rotate_left
 · go_wp2_with fail
   exact ⟨rfl,Or.inr ⟨_,_,HST.out.symm.trans (run_bad R0.out r),hk,rfl,O0.out.seq o⟩⟩
 have R1:Hid (st=runW (t1,0) ([some (itemS T)]++((sgn x1++sgn x2)++((sgn x3++sgn x4)++(listsW enW L++(sgn n++([some (bs (be 4 z.toNat))]))))))):=run_ok R0.out r;have O1:Hid (Only [b] w w1):=O0.out.seq o;have S1:Hid (WS w1 A b t1):=s;have C1:Hid (Cells w1 w.heap.size [.int .i64 c,.string T,.int .i64 x1,.int .i64 x2,.int .i64 x3,.int .i64 x4,.slice ad L.length cap,.int .i64 n,.bool z]):=C0.out.only o HN.out;clear r o s R0 O0 S0 C0 K0;have c1:=C1.out 1 _ rfl
 go_wp2_with fail
 clear c1;refine (K1.out _ _ S1.out O1.out).mono ?_;rintro e w2 (⟨t2,r,rfl,o,s⟩ | ⟨k,t2,r,hk,rfl,o⟩)
 rotate_left
 · go_wp2_with fail
   exact ⟨rfl,Or.inr ⟨_,_,HST.out.symm.trans (run_bad R1.out r),hk,rfl,O1.out.seq o⟩⟩
 have R2:Hid (st=runW (t2,0) ((sgn x1++sgn x2)++((sgn x3++sgn x4)++(listsW enW L++(sgn n++([some (bs (be 4 z.toNat))])))))):=run_ok R1.out r;have O2:Hid (Only [b] w w2):=O1.out.seq o;have S2:Hid (WS w2 A b t2):=s;have C2:Hid (Cells w2 w.heap.size [.int .i64 c,.string T,.int .i64 x1,.int .i64 x2,.int .i64 x3,.int .i64 x4,.slice ad L.length cap,.int .i64 n,.bool z]):=C1.out.only o HN.out;clear r o s R1 O1 S1 C1 K1;have c2:=C2.out 2 _ rfl;have c3:=C2.out 3 _ rfl
 go_wp2_with fail
 clear c2 c3;refine (K2.out _ _ S2.out O2.out).mono ?_;rintro e w3 (⟨t3,r,rfl,o,s⟩ | ⟨k,t3,r,hk,rfl,o⟩)
 rotate_left
 · go_wp2_with fail
   exact ⟨rfl,Or.inr ⟨_,_,HST.out.symm.trans (run_bad R2.out r),hk,rfl,O2.out.seq o⟩⟩
 have R3:Hid (st=runW (t3,0) ((sgn x3++sgn x4)++(listsW enW L++(sgn n++([some (bs (be 4 z.toNat))]))))):=run_ok R2.out r;have O3:Hid (Only [b] w w3):=O2.out.seq o;have S3:Hid (WS w3 A b t3):=s;have C3:Hid (Cells w3 w.heap.size [.int .i64 c,.string T,.int .i64 x1,.int .i64 x2,.int .i64 x3,.int .i64 x4,.slice ad L.length cap,.int .i64 n,.bool z]):=C2.out.only o HN.out;clear r o s R2 O2 S2 C2 K2;have c4:=C3.out 4 _ rfl;have c5:=C3.out 5 _ rfl
 go_wp2_with fail
 clear c4 c5;refine (K3.out _ _ S3.out O3.out).mono ?_;rintro e w4 (⟨t4,r,rfl,o,s⟩ | ⟨k,t4,r,hk,rfl,o⟩)
 rotate_left
 · go_wp2_with fail
   exact ⟨rfl,Or.inr ⟨_,_,HST.out.symm.trans (run_bad R3.out r),hk,rfl,O3.out.seq o⟩⟩
 have R4:Hid (st=runW (t4,0) (listsW enW L++(sgn n++([some (bs (be 4 z.toNat))])))):=run_ok R3.out r;have O4:Hid (Only [b] w w4):=O3.out.seq o;have S4:Hid (WS w4 A b t4):=s;have C4:Hid (Cells w4 w.heap.size [.int .i64 c,.string T,.int .i64 x1,.int .i64 x2,.int .i64 x3,.int .i64 x4,.slice ad L.length cap,.int .i64 n,.bool z]):=C3.out.only o HN.out;clear r o s R3 O3 S3 C3 K3;have c6:=C4.out 6 _ rfl
 go_wp2_with fail
 clear c6;refine (K4.out _ _ S4.out O4.out).mono ?_;rintro e w5 (⟨t5,r,rfl,o,s⟩ | ⟨k,t5,r,hk,rfl,o⟩)
 rotate_left
 · go_wp2_with fail
   exact ⟨rfl,Or.inr ⟨_,_,HST.out.symm.trans (run_bad R4.out r),hk,rfl,O4.out.seq o⟩⟩
 have R5:Hid (st=runW (t5,0) (sgn n++([some (bs (be 4 z.toNat))]))):=run_ok R4.out r;have O5:Hid (Only [b] w w5):=O4.out.seq o;have S5:Hid (WS w5 A b t5):=s;have C5:Hid (Cells w5 w.heap.size [.int .i64 c,.string T,.int .i64 x1,.int .i64 x2,.int .i64 x3,.int .i64 x4,.slice ad L.length cap,.int .i64 n,.bool z]):=C4.out.only o HN.out;clear r o s R4 O4 S4 C4 K4;have c7:=C5.out 7 _ rfl
 go_wp2_with fail
 clear c7;refine (K5.out _ _ S5.out O5.out).mono ?_;rintro e w6 (⟨t6,r,rfl,o,s⟩ | ⟨k,t6,r,hk,rfl,o⟩)
 rotate_left
 · go_wp2_with fail
   exact ⟨rfl,Or.inr ⟨_,_,HST.out.symm.trans (run_bad R5.out r),hk,rfl,O5.out.seq o⟩⟩
 have R6:Hid (st=runW (t6,0) ([some (bs (be 4 z.toNat))])):=run_ok R5.out r;have O6:Hid (Only [b] w w6):=O5.out.seq o;have S6:Hid (WS w6 A b t6):=s;have C6:Hid (Cells w6 w.heap.size [.int .i64 c,.string T,.int .i64 x1,.int .i64 x2,.int .i64 x3,.int .i64 x4,.slice ad L.length cap,.int .i64 n,.bool z]):=C5.out.only o HN.out;clear r o s R5 O5 S5 C5 K5;have c8:=C6.out 8 _ rfl
 by_cases hf:4+t6.size≤4000
 · have KB:Hid (∀ w1,Only [] w6 w1→_):=fun w1 k=>K6.out t6 w1 (S6.out.later k) hf
   have RB:Hid (st=(t6++bs (be 4 z.toNat),0)):=R6.out.trans (run_fits _ _ (by rw [HZ.out];exact hf));clear hf
   go_wp2_with fail
   go_region_with (first
     | (go_at_call 195;refine (KB.out _ (Only.refl [] w6).drew).mono ?_;rintro e w7 ⟨rfl,o7,s7⟩)
     | (go_at_call 192;refine (must_nil _).mono ?_;rintro e w8 ⟨rfl,rfl⟩))
   all_goals
     go_wp2
     go_end0
     exact Or.inl ⟨_,HST.out.symm.trans RB.out,rfl,O6.out.seq (((Only.refl [b] w6).drew).seq o7),s7⟩
 · have KB:Hid (∀ w1,Only [] w6 w1→_):=fun w1 k=>K7.out t6 w1 (S6.out.later k) (by omega)
   have RB:Hid (st=(t6,8+1)):=R6.out.trans (run_full _ _ (by rw [HZ.out];omega));clear hf
   go_wp2_with fail
   refine wp_region_any (by kernel_rfl) ?_
   change wpAny _ _ _ _ _ _ _ (World.drew _)
   refine wpAny_take (i:=0) (v:=?_) rfl (by kernel_rfl) (by kernel_rfl) (by kernel_rfl) (fun _ _ _ h=>h) (Or.inl ⟨by rfl,?_⟩) ?_
   rotate_left
   · intro w;go_simp;try with_reducible rfl
   refine wpAny_take (i:=1) (v:=?_) rfl (by kernel_rfl) (by kernel_rfl) (by kernel_rfl) (fun _ _ _ h=>h) (Or.inl ⟨by rfl,?_⟩) ?_
   rotate_left
   · intro w;go_simp;try with_reducible rfl
   refine wpAny_take (i:=2) (v:=?_) rfl (by kernel_rfl) (by kernel_rfl) (by kernel_rfl) (fun _ _ _ h=>h) (Or.inl ⟨by rfl,?_⟩) ?_
   rotate_left
   · intro w;go_simp;try with_reducible rfl
   refine wpAny_take (i:=3) (v:=?_) rfl (by kernel_rfl) (by kernel_rfl) (by kernel_rfl) (fun _ _ _ h=>h) (Or.inl ⟨by rfl,?_⟩) ?_
   rotate_left
   · intro w;go_simp;try with_reducible rfl
   refine wpAny_ready (rs:=[4]) (by kernel_rfl) (by simp) ?_;refine AllReady.cons rfl (fun K hK=>?_) AllReady.nil
   go_simp
   refine hK _ _ ?_;clear hK K;refine wpAny_ready (rs:=[5]) (by kernel_rfl) (by simp) ?_;refine AllReady.cons rfl (fun K hK=>?_) AllReady.nil
   go_simp
   go_wp2_with (go_at_call 195;refine (KB.out _ (Only.refl [] w6).drew).mono ?_;rintro e w7 ⟨rfl,rfl⟩)
   refine wpAny_ready (rs:=[6]) (by kernel_rfl) (by simp) ?_;refine AllReady.cons rfl (fun K hK=>?_) AllReady.nil
   go_simp
   go_wp2_with (go_at_call 192;refine (must_err _ _ _).mono ?_;rintro e w8 ⟨rfl,rfl⟩)
   exact ⟨rfl,Or.inr ⟨8,_,HST.out.symm.trans RB.out,Or.inr rfl,rfl,O6.out.seq ((Only.refl [b] w6).drew)⟩⟩
def RpIn (w:World)(B:Nat)(p:RpV×Value):Prop:=∃ ad cap,p.2 = .slice ad p.1.L.length cap∧Rws w B enC 3 ad p.1.L
theorem RpIn.only {w w':World}{B:Nat}{p:RpV×Value}{L:List Nat}(h:RpIn w B p)(ho:Only L w w')(hn:∀ k∈L,B≤k):RpIn w' B p:=by
 obtain ⟨ad,cap,h1,h2⟩:=h;exact ⟨ad,cap,h1,h2.only ho hn⟩
theorem wReplyV (A:Nat→Addr)(b B:Nat)(t:ByteArray)(r:RpV)(ad:Option Addr)(cap:Nat)(w:World)(h:WS w A b t)(hr:r.ok)(hin:Rws w B enC 3 ad r.L)(hB:B≤b):
  Calls Tryz.prog 264 #[P0 b,.agg #[.int .i64 r.c,.string r.T,.int .i64 r.x1,.int .i64 r.x2,.int .i64 r.x3,.int .i64 r.x4,.slice ad r.L.length cap,.int .i64 r.n,.bool r.e]] w (WEnd A b w t (rpW r)):=by
 obtain ⟨h1,h2,h3,h4,h5,h6,h7,h8⟩:=hr;exact wReply A b t r.c r.T r.x1 r.x2 r.x3 r.x4 B ad cap r.L r.n r.e w h h1 h2 h3 h4 h5 h6 h7 hin hB h8 (rpW r) rfl
theorem wReplies (A:Nat→Addr)(b B:Nat)(t:ByteArray)(ad:Option Addr)(cap:Nat)(l:List (RpV×Value))(w:World)(h:WS w A b t)(hl:l.length≤4294967295)(hr:Rws w B rpC 9 ad l)(hB:B≤b)(hk:∀ x∈l,x.1.ok)(hin:∀ x∈l,RpIn w B x):
   Calls Tryz.prog 278 #[P0 b,.slice ad l.length cap,.func (.func 264) #[] #[]] w (WEnd A b w t (listsW (fun p=>rpW p.1) l)):=by
 obtain ⟨st,hst⟩:∃ st,st=runW (t,0) (listsW (fun p=>rpW p.1) l):=⟨_,rfl⟩;have HST:Hid (st=runW (t,0) (listsW (fun p=>rpW p.1) l)):=hst;clear hst;have K0:Hid (∀ _:Unit,_):=fun _=>xInt A b l.length t w h hl;have HR:Hid (Rws w B rpC 9 ad l):=hr;have HK:Hid (∀ x∈l,x.1.ok):=hk;have HI:Hid (∀ x∈l,RpIn w B x):=hin;clear hin;clear h hr hk;obtain ⟨n,hn⟩:∃ n,l.length=n:=⟨_,rfl⟩;rw [hn];have HN:Hid (l.length=n):=hn;have hnb:n≤4294967295:=hn ▸ hl;rw [hn] at K0;clear hn hl
 go_enter Tryz.func278,Tryz.ntmps278
 go_wp2_with fail
 refine (K0.out ()).mono ?_;rintro e w1 (⟨t1,r,rfl,o,s⟩ | ⟨k,t1,r,hk,rfl,o⟩)
 rotate_left
 · go_wp2_with (go_at_call 192;refine (must_err _ _ _).mono ?_;rintro e w2 ⟨rfl,rfl⟩)
   rw [← HN.out] at r;exact ⟨rfl,Or.inr ⟨_,_,run_bad (HST.out ▸ HST.out.symm) r,hk,rfl,o⟩⟩
 have R1:Hid (st=runW (t1,0) (listW (fun p=>rpW p.1) l)):=by
   rw [← HN.out] at r;exact run_ok HST.out r
 have O1:Hid (Only [b] w w1):=o;have S1:Hid (WS w1 A b t1):=s;clear r o s K0
 go_wp2_with (go_at_call 192;refine (must_nil _).mono ?_;rintro e w2 ⟨rfl,rfl⟩)
 go_loopw [17] (fun i wr=>∃ j tj,j≤n∧i = .int .i64 (j:Nat)∧st=runW (tj,0) (listW (fun p=>rpW p.1) (l.drop j))∧Only [b] w wr∧WS wr A b tj) (fun i _=>n - (intOf i).toNat)
 case atStart=>exact ⟨0,t1,Nat.zero_le _,rfl,R1.out,O1.out,S1.out⟩
 case round =>
   obtain ⟨j,tj,hj,rfl,hr,ho,hs⟩:=hrel;have R:Hid _:=hr;have O:Hid (Only [b] w wr):=ho;have S:Hid (WS wr A b tj):=hs;clear hr ho hs
   by_cases hlt:j < n
   · obtain ⟨x,hx⟩:=at_lt l (j:=j) (by rw [HN.out];exact hlt)
     have hrx:=HR.out.only O.out (by simpa using hB);obtain ⟨g,rfl,hg,hc⟩:=hrx.at_ j x hx;have HX:Hid (l[j]?=some x):=hx;have hoks:=HK.out x (mem_at hx);have HOK:Hid (x.1.ok):=hoks;obtain ⟨a2,cp2,hu2,hin2⟩:=(HI.out x (mem_at hx)).only O.out (by simpa using hB);have HI2:Hid (Rws wr B enC 3 a2 x.1.L):=hin2;have c0:wr.cell? ⟨g,j*9,none⟩=some (.int .i64 x.1.c):=hc 0 _ rfl;have c1:wr.cell? ⟨g,j*9+1,none⟩=some (.string x.1.T):=hc 1 _ rfl;have c2:wr.cell? ⟨g,j*9+2,none⟩=some (.int .i64 x.1.x1):=hc 2 _ rfl;have c3:wr.cell? ⟨g,j*9+3,none⟩=some (.int .i64 x.1.x2):=hc 3 _ rfl;have c4:wr.cell? ⟨g,j*9+4,none⟩=some (.int .i64 x.1.x3):=hc 4 _ rfl;have c5:wr.cell? ⟨g,j*9+5,none⟩=some (.int .i64 x.1.x4):=hc 5 _ rfl;have c6:wr.cell? ⟨g,j*9+6,none⟩=some (.slice a2 x.1.L.length cp2):=(hc 6 _ rfl).trans (congrArg some hu2);have c7:wr.cell? ⟨g,j*9+7,none⟩=some (.int .i64 x.1.n):=hc 7 _ rfl;have c8:wr.cell? ⟨g,j*9+8,none⟩=some (.bool x.1.e):=hc 8 _ rfl;have KX:Hid (∀ w',Only [] wr w'→Calls Tryz.prog 264 #[P0 b,.agg #[.int .i64 x.1.c,.string x.1.T,.int .i64 x.1.x1,.int .i64 x.1.x2,.int .i64 x.1.x3,.int .i64 x.1.x4,.slice a2 x.1.L.length cp2,.int .i64 x.1.n,.bool x.1.e]] w' (WEnd A b w' tj (rpW x.1))):=fun w' k=>wReplyV A b B tj x.1 a2 cp2 w' (S.out.later k) HOK.out (HI2.out.only k (by simp)) hB
     have RX:Hid (st=runW (tj,0) (rpW x.1++listW (fun p=>rpW p.1) (l.drop (j+1)))):=by
       have:=R.out;rw [listW_drop _ HX.out] at this;exact this
     clear hrx hc hoks hx hu2 hin2
     go_wp2_with fail
     refine (KX.out _ ((Only.refl [] wr).alloc _)).mono ?_;rintro e w2 h2;rcases h2 with ⟨t2,r2,rfl,o2,s2⟩ | ⟨k,t2,r2,hk,rfl,o2⟩
     · have R2:Hid _:=run_ok RX.out r2
       have O2:Hid (Only [b] w w2):=O.out.seq (((Only.refl [b] wr).alloc _).seq o2);have S2:Hid (WS w2 A b t2):=s2;clear r2 o2 s2
       go_wp2
       go_roundw
       case rel=>exact ⟨j+1,t2,by omega,by go_num,R2.out,O2.out,S2.out⟩
       case measure=>simp [intOf];omega
     · exact ⟨rfl,Or.inr ⟨_,_,HST.out.symm.trans (run_bad RX.out r2),hk,rfl,O.out.seq (((Only.refl [b] wr).alloc _).seq o2)⟩⟩
   · obtain rfl:n=j:=by omega
     have R2:Hid (st=runW (tj,0) []):=by
       have:=R.out;rw [← HN.out,listW_end] at this;exact this
     go_wp2
     go_end0
     exact Or.inl ⟨_,HST.out.symm.trans R2.out,rfl,O.out,S.out⟩
def EnOwn (w:World)(base:Nat)(v:Value)(L:List EnV):Prop:=w.ownsRow base 176 3 v L.length (rowOf enC L)
theorem EnOwn.only {w w':World}{base:Nat}{v:Value}{L:List EnV}{K:List Nat}(h:EnOwn w base v L)(ho:Only K w w')(hn:∀ k,v.ownBlock=some k→k∉K):EnOwn w' base v L:=ho.owns h hn
theorem EnOwn.at_ {w:World}{base b:Nat}{v:Value}{L:List EnV}(h:EnOwn w base v L)(hb:v.ownBlock=some b):base≤b:=(own_at h hb).1
theorem EnOwn.form {w:World}{base:Nat}{v:Value}{L:List EnV}(h:EnOwn w base v L):∃ ad cap,v = .slice ad L.length cap:=by
 obtain ⟨ad,cap,e,_⟩:=own_rws (B:=w.heap.size) h enC_len (Nat.le_refl _);exact ⟨ad,cap,e⟩
def QEnd (A:Nat→Addr)(rb xb:Nat)(w:World)(t:ByteArray)(e:Ending)(w':World):Prop :=
 (∃ a t' v,pReply t=some (a,t')∧e = .returned (.agg #[.int .i64 a.c,.string a.T,.int .i64 a.x1,.int .i64 a.x2,.int .i64 a.x3,.int .i64 a.x4,v,.int .i64 a.n,.bool a.e])∧Only [xb] w w'∧RS w' A rb xb t'∧EnOwn w' w.heap.size v a.L)∨(pReply t=none∧e = .panicked (thrW (eVW A 0))∧Only [xb] w w')
theorem rReply (A:Nat→Addr)(rb xb:Nat)(t:ByteArray)(w:World)(h:RS w A rb xb t):Calls Tryz.prog 167 #[P0 rb] w (QEnd A rb xb w t):=by
 have HH:Hid (RS w A rb xb t):=h;have hlt:=h.lt;have HX:Hid (xb < w.heap.size):=hlt
 have HN:Hid (w.heap.size∉[xb]):=by show _∉_;simp;omega
 have V0:Hid (Var (w.alloc (.cells #[.int .i64 0,.string ⟨#[]⟩,.int .i64 0,.int .i64 0,.int .i64 0,.int .i64 0,.slice none 0 0,.int .i64 0,.bool false] 169)) w.heap.size [.int .i64 0,.string ⟨#[]⟩,.int .i64 0,.int .i64 0,.int .i64 0,.int .i64 0,.slice none 0 0,.int .i64 0,.bool false]):=Var.new w [.int .i64 0,.string ⟨#[]⟩,.int .i64 0,.int .i64 0,.int .i64 0,.int .i64 0,.slice none 0 0,.int .i64 0,.bool false] 169;have S0:Hid (RS (w.alloc (.cells #[.int .i64 0,.string ⟨#[]⟩,.int .i64 0,.int .i64 0,.int .i64 0,.int .i64 0,.slice none 0 0,.int .i64 0,.bool false] 169)) A rb xb t):=h.later ((Only.refl [] w).alloc _);have O0:Hid (Only [xb] w (w.alloc (.cells #[.int .i64 0,.string ⟨#[]⟩,.int .i64 0,.int .i64 0,.int .i64 0,.int .i64 0,.slice none 0 0,.int .i64 0,.bool false] 169))):=(Only.refl [xb] w).alloc _
 have L0:Hid (w.heap.size < (w.alloc (.cells #[.int .i64 0,.string ⟨#[]⟩,.int .i64 0,.int .i64 0,.int .i64 0,.int .i64 0,.slice none 0 0,.int .i64 0,.bool false] 169)).heap.size):=by show _ < _;simp
 obtain ⟨pr,hpr⟩:∃ pr,pReply t=pr:=⟨_,rfl⟩;have HP:Hid (pReply t=pr):=hpr;have R0:Hid (pr=pReply t):=hpr.symm;have K0:Hid (∀ t1 w1,RS w1 A rb xb t1→_):=fun t1 w1 k=>rNumber A rb xb t1 w1 k;have K1:Hid (∀ t1 w1,RS w1 A rb xb t1→_):=fun t1 w1 k=>rText A rb xb t1 w1 k;have K2:Hid (∀ t1 w1,RS w1 A rb xb t1→_):=fun t1 w1 k=>rHandle A rb xb t1 w1 k;have K3:Hid (∀ t1 w1,RS w1 A rb xb t1→_):=fun t1 w1 k=>rState A rb xb t1 w1 k;have K4:Hid (∀ t1 w1,RS w1 A rb xb t1→_):=fun t1 w1 k=>rEntries A rb xb t1 w1 k;have K5:Hid (∀ t1 w1,RS w1 A rb xb t1→_):=fun t1 w1 k=>rNumber A rb xb t1 w1 k;have K6:Hid (∀ t1 w1,RS w1 A rb xb t1→_):=fun t1 w1 k=>rFlag A rb xb t1 w1 k;clear h hlt hpr
 go_enter Tryz.func167,Tryz.ntmps167
 go_wp2_with fail
 refine (K0.out _ _ S0.out).mono ?_;rintro e w1 (⟨a0,t1,r,rfl,o,s⟩ | ⟨r,rfl,o⟩)
 rotate_left
 · exact ⟨rfl,Or.inr ⟨HP.out.trans (R0.out.trans (bindP_noneW r)),rfl,O0.out.seq o⟩⟩
 have R1:Hid (pr=_):=R0.out.trans (bindP_someW r);have O1:Hid (Only [xb] w w1):=O0.out.seq o;have S1:Hid (RS w1 A rb xb t1):=s;have V1:Hid (Var w1 w.heap.size [.int .i64 0,.string ⟨#[]⟩,.int .i64 0,.int .i64 0,.int .i64 0,.int .i64 0,.slice none 0 0,.int .i64 0,.bool false]):=V0.out.only o L0.out HN.out;have L1:Hid (w.heap.size < w1.heap.size):=Nat.lt_of_lt_of_le L0.out o.size;clear r o s R0 O0 S0 V0 L0 K0
 go_wp2_with fail
 refine (K1.out _ _ S1.out).mono ?_;rintro e w2 (⟨a1,t2,r,rfl,o,s⟩ | ⟨r,rfl,o⟩)
 rotate_left
 · exact ⟨rfl,Or.inr ⟨HP.out.trans (R1.out.trans (bindP_noneW r)),rfl,O1.out.seq o⟩⟩
 have R2:Hid (pr=_):=R1.out.trans (bindP_someW r);have O2:Hid (Only [xb] w w2):=O1.out.seq o;have S2:Hid (RS w2 A rb xb t2):=s;have V2:Hid (Var w2 w.heap.size [.int .i64 0,.string ⟨#[]⟩,.int .i64 0,.int .i64 0,.int .i64 0,.int .i64 0,.slice none 0 0,.int .i64 0,.bool false]):=V1.out.only o L1.out HN.out;have L2:Hid (w.heap.size < w2.heap.size):=Nat.lt_of_lt_of_le L1.out o.size;clear r o s R1 O1 S1 V1 L1 K1
 go_wp2_with fail
 refine (K2.out _ _ S2.out).mono ?_;rintro e w3 (⟨a2,t3,r,rfl,o,s⟩ | ⟨r,rfl,o⟩)
 rotate_left
 · exact ⟨rfl,Or.inr ⟨HP.out.trans (R2.out.trans (bindP_noneW r)),rfl,O2.out.seq o⟩⟩
 have R3:Hid (pr=_):=R2.out.trans (bindP_someW r);have O3:Hid (Only [xb] w w3):=O2.out.seq o;have S3:Hid (RS w3 A rb xb t3):=s;have V3:Hid (Var w3 w.heap.size [.int .i64 0,.string ⟨#[]⟩,.int .i64 0,.int .i64 0,.int .i64 0,.int .i64 0,.slice none 0 0,.int .i64 0,.bool false]):=V2.out.only o L2.out HN.out;have L3:Hid (w.heap.size < w3.heap.size):=Nat.lt_of_lt_of_le L2.out o.size;clear r o s R2 O2 S2 V2 L2 K2
 go_wp2_with fail
 refine (K3.out _ _ S3.out).mono ?_;rintro e w4 (⟨a3,t4,r,rfl,o,s⟩ | ⟨r,rfl,o⟩)
 rotate_left
 · exact ⟨rfl,Or.inr ⟨HP.out.trans (R3.out.trans (bindP_noneW r)),rfl,O3.out.seq o⟩⟩
 have R4:Hid (pr=_):=R3.out.trans (bindP_someW r);have O4:Hid (Only [xb] w w4):=O3.out.seq o;have S4:Hid (RS w4 A rb xb t4):=s;have V4:Hid (Var w4 w.heap.size [.int .i64 0,.string ⟨#[]⟩,.int .i64 0,.int .i64 0,.int .i64 0,.int .i64 0,.slice none 0 0,.int .i64 0,.bool false]):=V3.out.only o L3.out HN.out;have L4:Hid (w.heap.size < w4.heap.size):=Nat.lt_of_lt_of_le L3.out o.size;clear r o s R3 O3 S3 V3 L3 K3
 go_wp2_with fail
 refine (K4.out _ _ S4.out).mono ?_;rintro e w5 (⟨a4,t5,v,r,rfl,o,s,hen⟩ | ⟨r,rfl,o⟩)
 rotate_left
 · exact ⟨rfl,Or.inr ⟨HP.out.trans (R4.out.trans (bindP_noneW r)),rfl,O4.out.seq o⟩⟩
 have hen2:EnOwn w5 w4.heap.size v a4:=hen;obtain ⟨ad,cp,rfl⟩:=hen2.form;have E5:Hid (EnOwn w5 w4.heap.size (.slice ad a4.length cp) a4):=hen2;have HL4:Hid (w.heap.size < w4.heap.size):=L4.out;clear hen hen2;have R5:Hid (pr=_):=R4.out.trans (bindP_someW r);have O5:Hid (Only [xb] w w5):=O4.out.seq o;have S5:Hid (RS w5 A rb xb t5):=s;have V5:Hid (Var w5 w.heap.size [.int .i64 0,.string ⟨#[]⟩,.int .i64 0,.int .i64 0,.int .i64 0,.int .i64 0,.slice none 0 0,.int .i64 0,.bool false]):=V4.out.only o L4.out HN.out;have L5:Hid (w.heap.size < w5.heap.size):=Nat.lt_of_lt_of_le L4.out o.size;clear r o s R4 O4 S4 V4 L4 K4
 go_wp2_with fail
 refine (K5.out _ _ S5.out).mono ?_;rintro e w6 (⟨a5,t6,r,rfl,o,s⟩ | ⟨r,rfl,o⟩)
 rotate_left
 · exact ⟨rfl,Or.inr ⟨HP.out.trans (R5.out.trans (bindP_noneW r)),rfl,O5.out.seq o⟩⟩
 have R6:Hid (pr=_):=R5.out.trans (bindP_someW r);have O6:Hid (Only [xb] w w6):=O5.out.seq o;have S6:Hid (RS w6 A rb xb t6):=s;have V6:Hid (Var w6 w.heap.size [.int .i64 0,.string ⟨#[]⟩,.int .i64 0,.int .i64 0,.int .i64 0,.int .i64 0,.slice none 0 0,.int .i64 0,.bool false]):=V5.out.only o L5.out HN.out;have L6:Hid (w.heap.size < w6.heap.size):=Nat.lt_of_lt_of_le L5.out o.size;have E6:Hid (EnOwn w6 w4.heap.size (.slice ad a4.length cp) a4):=E5.out.only o (fun b hb=>by have:=E5.out.at_ hb;have:=HL4.out;have:=HX.out;simp;omega);clear r o s E5 R5 O5 S5 V5 L5 K5
 go_wp2_with fail
 refine (K6.out _ _ S6.out).mono ?_;rintro e w7 (⟨a6,t7,r,rfl,o,s⟩ | ⟨r,rfl,o⟩)
 rotate_left
 · exact ⟨rfl,Or.inr ⟨HP.out.trans (R6.out.trans (bindP_noneW r)),rfl,O6.out.seq o⟩⟩
 have R7:Hid (pr=_):=R6.out.trans (bindP_someW r);have O7:Hid (Only [xb] w w7):=O6.out.seq o;have S7:Hid (RS w7 A rb xb t7):=s;have V7:Hid (Var w7 w.heap.size [.int .i64 0,.string ⟨#[]⟩,.int .i64 0,.int .i64 0,.int .i64 0,.int .i64 0,.slice none 0 0,.int .i64 0,.bool false]):=V6.out.only o L6.out HN.out;have L7:Hid (w.heap.size < w7.heap.size):=Nat.lt_of_lt_of_le L6.out o.size;have E7:Hid (EnOwn w7 w4.heap.size (.slice ad a4.length cp) a4):=E6.out.only o (fun b hb=>by have:=E6.out.at_ hb;have:=HL4.out;have:=HX.out;simp;omega);clear r o s E6 R6 O6 S6 V6 L6 K6;have c0:=V7.out.1 0 _ rfl;have f0:=V7.out.2 0;have c1:=V7.out.1 1 _ rfl;have f1:=V7.out.2 1;have c2:=V7.out.1 2 _ rfl;have f2:=V7.out.2 2;have c3:=V7.out.1 3 _ rfl;have f3:=V7.out.2 3;have c4:=V7.out.1 4 _ rfl;have f4:=V7.out.2 4;have c5:=V7.out.1 5 _ rfl;have f5:=V7.out.2 5;have c6:=V7.out.1 6 _ rfl;have f6:=V7.out.2 6;have c7:=V7.out.1 7 _ rfl;have f7:=V7.out.2 7;have c8:=V7.out.1 8 _ rfl;have f8:=V7.out.2 8;have HO:Hid (Only [w.heap.size] w7 (((((((((w7.setCell ⟨w.heap.size,0,none⟩ (.int .i64 a0)).setCell ⟨w.heap.size,1,none⟩ (.string a1)).setCell ⟨w.heap.size,2,none⟩ (.int .i64 a2.1)).setCell ⟨w.heap.size,3,none⟩ (.int .i64 a2.2)).setCell ⟨w.heap.size,4,none⟩ (.int .i64 a3.1)).setCell ⟨w.heap.size,5,none⟩ (.int .i64 a3.2)).setCell ⟨w.heap.size,6,none⟩ (.slice ad a4.length cp)).setCell ⟨w.heap.size,7,none⟩ (.int .i64 a5)).setCell ⟨w.heap.size,8,none⟩ (.bool a6))):=((((((((((Only.refl [w.heap.size] _).setCell (p:=⟨w.heap.size,0,none⟩) (Or.inl (List.mem_cons_self ..)) _).setCell (p:=⟨w.heap.size,1,none⟩) (Or.inl (List.mem_cons_self ..)) _).setCell (p:=⟨w.heap.size,2,none⟩) (Or.inl (List.mem_cons_self ..)) _).setCell (p:=⟨w.heap.size,3,none⟩) (Or.inl (List.mem_cons_self ..)) _).setCell (p:=⟨w.heap.size,4,none⟩) (Or.inl (List.mem_cons_self ..)) _).setCell (p:=⟨w.heap.size,5,none⟩) (Or.inl (List.mem_cons_self ..)) _).setCell (p:=⟨w.heap.size,6,none⟩) (Or.inl (List.mem_cons_self ..)) _).setCell (p:=⟨w.heap.size,7,none⟩) (Or.inl (List.mem_cons_self ..)) _).setCell (p:=⟨w.heap.size,8,none⟩) (Or.inl (List.mem_cons_self ..)) _)
 go_wp2_with fail
 refine bodyPost_ret (v := .agg #[.int .i64 a0,.string a1,.int .i64 a2.1,.int .i64 a2.2,.int .i64 a3.1,.int .i64 a3.2,.slice ad a4.length cp,.int .i64 a5,.bool a6]) (by simp [results,Tryz.results167,go_sem,c0,c1,c2,c3,c4,c5,c6,c7,c8]) rfl ?_
 have hle:∀ k∈[w.heap.size],w.heap.size≤k:=fun k hk=>by rw [List.mem_singleton.1 hk];exact Nat.le_refl _
 have E8:EnOwn _ w4.heap.size (.slice ad a4.length cp) a4:=E7.out.only HO.out (fun b hb=>by have:=E7.out.at_ hb;have:=HL4.out;simp;omega);exact Or.inl ⟨⟨a0,a1,a2.1,a2.2,a3.1,a3.2,a4,a5,a6⟩,_,_,HP.out.trans R7.out,rfl,O7.out.trans HO.out (fun k hk=>Or.inr (hle k hk)),HH.out.over S7.out HO.out hle,own_low E8 (Nat.le_of_lt HL4.out)⟩
theorem rpC_len (x:(RpV×Value)):(rpC x).length=9:=rfl
theorem rpC_one (x:(RpV×Value))(hx:x.2.oneCell'=true):∀ v∈rpC x,v.oneCell'=true:=by
 intro v hv;simp only [rpC,List.mem_cons,List.not_mem_nil,or_false] at hv;rcases hv with rfl | rfl | rfl | rfl | rfl | rfl | rfl | rfl | rfl<;>first | exact hx | rfl
theorem rpInfo:∃ i,Tryz.prog.info? 169=some i∧i.zero=some (.agg #[.int .i64 0,.string ⟨#[]⟩,.int .i64 0,.int .i64 0,.int .i64 0,.int .i64 0,.slice none 0 0,.int .i64 0,.bool false])∧i.size=9∧i.bytes=96:=by
 have h:(Tryz.prog.info? 169).map (fun i=>(i.zero,i.size,i.bytes))=some (some (.agg #[.int .i64 0,.string ⟨#[]⟩,.int .i64 0,.int .i64 0,.int .i64 0,.int .i64 0,.slice none 0 0,.int .i64 0,.bool false]),9,96):=by kernel_rfl
 obtain ⟨i,hi,hz⟩:=Option.map_eq_some_iff.1 h;simp only [Prod.mk.injEq] at hz;exact ⟨i,hi,hz⟩
theorem rpsUnd:Tryz.prog.underlying 243=some (.slice 169):=by kernel_rfl
theorem rp_news {w:World}(x:(RpV×Value))(ty:TypeId):∀ (r:Nat) (q:Value),(rpC x)[r]?=some q→(w.alloc (.cells #[.int .i64 x.1.c,.string x.1.T,.int .i64 x.1.x1,.int .i64 x.1.x2,.int .i64 x.1.x3,.int .i64 x.1.x4,x.2,.int .i64 x.1.n,.bool x.1.e] ty)).cell? ((⟨w.heap.size,0,none⟩:Addr).add r)=some q:=World.news_of_block (w:=w.alloc (.cells #[.int .i64 x.1.c,.string x.1.T,.int .i64 x.1.x1,.int .i64 x.1.x2,.int .i64 x.1.x3,.int .i64 x.1.x4,x.2,.int .i64 x.1.n,.bool x.1.e] ty)) (heap_alloc_last w _)
theorem rp_news2 {w:World}(a:RpV)(u:Value)(ty:TypeId):∀ (r:Nat) (q:Value),(rpC (a,u))[r]?=some q→(w.alloc (.cells #[.int .i64 a.c,.string a.T,.int .i64 a.x1,.int .i64 a.x2,.int .i64 a.x3,.int .i64 a.x4,u,.int .i64 a.n,.bool a.e] ty)).cell? ((⟨w.heap.size,0,none⟩:Addr).add r)=some q:=rp_news (a,u) ty
theorem rpC_one2 (a:RpV)(ad:Option Addr)(n cp:Nat):∀ v∈rpC (a,.slice ad n cp),v.oneCell'=true:=rpC_one (a,.slice ad n cp) rfl
def GEnd (A:Nat→Addr)(rb xb:Nat)(w:World)(t:ByteArray)(e:Ending)(w':World):Prop :=
 (∃ (l:List (RpV×Value)) (t':ByteArray) (v:Value),pList pReply t=some (l.map Prod.fst,t')∧e = .returned v∧Only [xb] w w'∧RS w' A rb xb t'∧w'.ownsRow w.heap.size 169 9 v l.length (rowOf rpC l)∧∀ q∈l,EnOwn w' w.heap.size q.2 q.1.L)∨(pList pReply t=none∧e = .panicked (thrW (eVW A 0))∧Only [xb] w w')
theorem rReplies (A:Nat→Addr)(rb xb:Nat)(t:ByteArray)(w:World)(h:RS w A rb xb t):Calls Tryz.prog 218 #[P0 rb,.func (.func 167) #[] #[]] w (GEnd A rb xb w t):=by
 obtain ⟨i0,hi0,hz0,hz1,hz2⟩:=rpInfo;have K0:Hid (∀ _:Unit,_):=fun _=>yInt A rb xb t w h;have HX:Hid (xb < w.heap.size):=h.lt;have KX:Hid (∀ t1 w1,RS w1 A rb xb t1→_):=fun t1 w1 k=>rReply A rb xb t1 w1 k;have HH:Hid (RS w A rb xb t):=h;obtain ⟨pr,hpr⟩:∃ pr,pList pReply t=pr:=⟨_,rfl⟩;have HP:Hid (pList pReply t=pr):=hpr;have R0:Hid (pr=pList pReply t):=hpr.symm;have c0:=h.ptr;clear h hpr
 go_enter Tryz.func218,Tryz.ntmps218
 go_wp2_with fail
 clear c0;refine (K0.out ()).mono ?_;rintro e w1 (⟨n,t1,r,rfl,o,s⟩ | ⟨r,rfl,o⟩)
 rotate_left
 · go_wp2_with (go_at_call 192;refine (must_err _ _ _).mono ?_;rintro e w2 ⟨rfl,rfl⟩)
   exact ⟨rfl,Or.inr ⟨HP.out.trans (R0.out.trans (bindP_noneW r)),rfl,o⟩⟩
 have hnb:n < 4294967296:=by
   unfold pInt at r
   split at r
   · cases r
     exact numAt_lt t 4
   · cases r
 have R1:Hid (pr=contP [] (pTimesW pReply n t1)):=(R0.out.trans (bindP_someW r)).trans (contP_start _).symm;have O1:Hid (Only [xb] w w1):=o;have S1:Hid (RS w1 A rb xb t1):=s;clear r o s R0 K0
 go_wp2_with (go_at_call 192;refine (must_nil _).mono ?_;rintro e w2 ⟨rfl,rfl⟩)
 go_loopw [7,19] (fun v i wr=>∃ (j:Nat) (tj:ByteArray) (l:List (RpV×Value)),j≤n∧i = .int .i64 (j:Nat)∧l.length=j∧pr=contP (l.map Prod.fst) (pTimesW pReply (n - j) tj)∧Only [xb] w wr∧RS wr A rb xb tj∧wr.ownsRow w.heap.size 169 9 v l.length (rowOf rpC l)∧∀ q∈l,EnOwn wr w.heap.size q.2 q.1.L) (fun _ i _=>n - (intOf i).toNat)
 case atStart=>exact ⟨0,t1,[],Nat.zero_le _,rfl,rfl,R1.out,O1.out,S1.out,World.ownsRow_nil _ _ _ _,fun q hq=>by cases hq⟩
 case round =>
   obtain ⟨j,tj,l,hj,rfl,hlj,hr,ho,hs,hrow,hens⟩:=hrel;have HENS:Hid (∀ q∈l,EnOwn wr w.heap.size q.2 q.1.L):=hens;have HL:Hid (l.length=j):=hlj;have R:Hid (pr=contP (l.map Prod.fst) (pTimesW pReply (n - j) tj)):=hr;have O:Hid (Only [xb] w wr):=ho;have S:Hid (RS wr A rb xb tj):=hs
   have HROW:Hid (wr.ownsRow w.heap.size 169 9 u7 j (rowOf rpC l)):=by
     rw [hlj] at hrow;exact hrow
   clear hr ho hs hrow hlj hens
   by_cases hlt:j < n
   · have RX:Hid (pr=contP (l.map Prod.fst) (pTimesW pReply (n - (j+1)+1) tj)):=by
       have:=R.out;rw [show n - j=n - (j+1)+1 by omega] at this;exact this
     go_wp2_with fail
     refine (KX.out _ _ S.out).mono ?_;rintro e w2 (⟨a,t2,v2,r2,rfl,o2,s2,hen2⟩ | ⟨r2,rfl,o2⟩)
     rotate_left
     · exact ⟨rfl,Or.inr ⟨HP.out.trans (RX.out.trans (contP_none r2)),rfl,O.out.seq o2⟩⟩
     obtain ⟨ad,cp,rfl⟩:=hen2.form;have HEN2:Hid (EnOwn w2 w.heap.size (.slice ad a.L.length cp) a.L):=own_low hen2 O.out.size;have HENS2:Hid (∀ q∈l,EnOwn w2 w.heap.size q.2 q.1.L):=fun q hq=>(HENS.out q hq).only o2 (fun b hb=>by have:=(HENS.out q hq).at_ hb;have:=HX.out;simp;omega);clear hen2;have R2:Hid (pr=contP (l.map Prod.fst++[a]) (pTimesW pReply (n - (j+1)) t2)):=RX.out.trans (contP_some r2);have O2:Hid (Only [xb] w w2):=O.out.seq o2;have S2:Hid (RS w2 A rb xb t2):=s2;have HROW2:Hid (w2.ownsRow w.heap.size 169 9 u7 j (rowOf rpC l)):=o2.owns HROW.out (fun b hb=>by have:=(own_at HROW.out hb).1;have:=HX.out;simp;omega);clear r2 o2 s2 RX R
     go_wp2_with (first
       | (at_builtin;refine wpList_append_lies _ rfl (.tmp 21) (.tmp 25) 243 rfl w.heap.size 169 i0 _ 9 96 rpsUnd hi0 hz0 hz1 hz2 rfl (by decide) u7 j _ rfl (World.ownsRow.alloc HROW2.out _) ⟨w2.heap.size,0,none⟩ 1 1 (rpC (a,Value.slice ad a.L.length cp)) rfl rfl (rp_news2 a (.slice ad a.L.length cp) _) (rpC_one2 a ad a.L.length cp) (by decide) (by unfold maxLen;omega) (by omega) (by rw [World.size_alloc];have:=O2.out.size;omega) (w2.heap.size+1) (by simp) ?_;intro g5 c5 w5 hown5 hgr5 hat5 hlt5;have HV5:Hid (w5.ownsRow w.heap.size 169 9 (.slice (some ⟨g5,0,none⟩) (j+1) c5) (l++[(a,Value.slice ad a.L.length cp)]).length (rowOf rpC (l++[(a,Value.slice ad a.L.length cp)]))):=row_snoc HL.out hown5;have HG5:Hid ((w2.alloc (.cells #[.int .i64 a.c,.string a.T,.int .i64 a.x1,.int .i64 a.x2,.int .i64 a.x3,.int .i64 a.x4,.slice ad a.L.length cp,.int .i64 a.n,.bool a.e] 169)).grownBy w5 u7.ownBlock):=hgr5;clear hown5 hgr5 hat5 hlt5)
       | go_in)
     go_roundw
     case rel =>
       have hg:Only u7.ownBlock.toList w2 w5:=grown_only HG5.out (fun b hb=>Or.inl (by simp [hb]));have hge:∀ k∈u7.ownBlock.toList,w.heap.size≤k:=fun k hk=>(own_at HROW2.out (by simpa using hk)).1
       have hne:∀ (v:Value) (L:List EnV),EnOwn w2 w.heap.size v L→∀ b,v.ownBlock=some b→b∉u7.ownBlock.toList:=fun v L he b hb hm=>by
        obtain ⟨_,_,_,h1⟩:=own_at he hb;obtain ⟨_,_,_,h2⟩:=own_at HROW2.out (by simpa using hm);rw [h1] at h2;simp at h2
       have hens5:∀ q∈l++[(a,Value.slice ad a.L.length cp)],EnOwn w5 w.heap.size q.2 q.1.L:=fun q hq=>by
        rcases List.mem_append.1 hq with hq | hq
        ·  exact (HENS2.out q hq).only hg (hne _ _ (HENS2.out q hq))
        ·  rw [List.mem_singleton.1 hq]
           exact HEN2.out.only hg (hne _ _ HEN2.out)
       exact ⟨j+1,t2,l++[(a,Value.slice ad a.L.length cp)],by omega,by go_num,by rw [List.length_append,HL.out];rfl,by rw [List.map_append];exact R2.out,O2.out.trans hg (fun k hk=>Or.inr (hge k hk)),HH.out.over S2.out hg hge,HV5.out,hens5⟩
     case measure=>simp [intOf];omega
   · obtain rfl:n=j:=by omega
     have R2:Hid (pr=some (l.map Prod.fst,tj)):=by
       have:=R.out;rw [Nat.sub_self,contP_end] at this;exact this
     go_wp2
     go_ret
     exact Or.inl ⟨_,_,_,HP.out.trans R2.out,rfl,O.out,S.out,by rw [HL.out];exact HROW.out,HENS.out⟩
abbrev S0:ByteArray:=⟨#[]⟩
def WrRW (A:Nat→Addr)(n:Nat)(M:List Step)(r:Value):Prop :=
 (16 < n∧r = .tuple #[.string S0,eVW A 1])∨(n≤16∧∃ t,runW (S0,0) M=(t,0)∧r = .tuple #[.string t,.nilIface])∨(n≤16∧∃ k t,runW (S0,0) M=(t,k+1)∧(k=1∨k=8)∧r = .tuple #[.string S0,eVW A k])
def WOk (A:Nat→Addr)(b:Nat)(W:World)(M:List Step)(w':World):Prop:=∃ t',runW (S0,0) M=(t',0)∧Only [b] W w'∧WS w' A b t'
def WBad (A:Nat→Addr)(b:Nat)(W:World)(M:List Step)(x:Value)(w':World):Prop:=∃ k t',x = .pointer (some (A k))∧runW (S0,0) M=(t',k+1)∧(k=1∨k=8)∧Only [b] W w'
theorem keeps_of {w w':World}{b:Nat}(h:Only [b] (w.alloc (.cells #[.nilIface] 27)) w')(hb:b < w.heap.size):Keeps w w':=by
 have hn:w.heap.size∉[b]:=by simp;omega
 constructor
 · exact (h.cell (p:=⟨w.heap.size,0,none⟩) (by simp) hn).trans (by simp)
 · exact (h.frozen (p:=⟨w.heap.size,0,none⟩) (by simp) hn).trans (by simp)
theorem Rws.in_ {α:Type}{w:World}{B n:Nat}{c:α→List Value}{ad:Option Addr}{l:List α}(h:Rws w B c n ad l){w':World}(ho:Only [] w w'):Rws w' B c n ad l:=h.only ho (fun _ k=>by cases k)
theorem only_old {w w1 w2:World}{L:List Nat}(h1:Only [] w w1)(h2:Only L w1 w2)(hL:∀ k∈L,w.heap.size≤k):Only [] w w2:=h1.trans h2 (fun k hk=>Or.inr (hL k hk))
theorem set_after {W4 w1:World}{b pw:Nat}{u:Value}(v:Value)(h:Only [b] (W4.alloc (.cells #[.nilIface] 27)) w1)(hpw:W4.cell? ⟨pw,0,none⟩=some u)(hne:pw≠b):
  (w1.setCell ⟨W4.heap.size,0,none⟩ v).cell? ⟨pw,0,none⟩=some u:=by
 have hlt:=lt_of_cell hpw;rw [World.cell?_setCell_other _ _ _ _ (by intro e;have:=congrArg Addr.block e;simp at this;simp at hlt;omega)];refine (h.cell (p:=⟨pw,0,none⟩) (by rw [World.size_alloc];simp at hlt;show pw < _;omega) (by simpa using hne)).trans ?_;rw [World.cell?_alloc_lt _ _ ⟨pw,0,none⟩ hlt];exact hpw
theorem only_after {W4 w1:World}{b:Nat}(v:Value)(h:Only [b] (W4.alloc (.cells #[.nilIface] 27)) w1):Only [b] W4 (w1.setCell ⟨W4.heap.size,0,none⟩ v) :=
 (((Only.refl [b] W4).alloc _).seq h).setCell (p:=⟨W4.heap.size,0,none⟩) (Or.inr (Nat.le_refl _)) v
theorem WOk.after {A:Nat→Addr}{b:Nat}{W4 w1:World}{M:List Step}(h:WOk A b (W4.alloc (.cells #[.nilIface] 27)) M w1)(hb:b < W4.heap.size)(v:Value):
  ∃ t',runW (S0,0) M=(t',0)∧(w1.setCell ⟨W4.heap.size,0,none⟩ v).cell? ⟨b,0,none⟩=some (.string t'):=by
 obtain ⟨t',h1,h2,h3⟩:=h;refine ⟨t',h1,?_⟩;rw [World.cell?_setCell_other _ _ _ _ (by intro e;have:=congrArg Addr.block e;simp at this;omega)];exact h3.cell
theorem w1Ops (A:Nat→Addr)(b pw pl pe B:Nat)(ad:Option Addr)(cap:Nat)(l:List OpV)(W:World)(h:WS W A b S0)(hl:l.length≤4294967295)(hr:Rws W B opC 9 ad l)(hB:B≤b)(hk:∀ x∈l,x.ok)
   (c1:W.cell? ⟨pw,0,none⟩=some (P0 b)) (c2:W.cell? ⟨pl,0,none⟩=some (.slice ad l.length cap)) (c3:W.cell? ⟨pe,0,none⟩=some (.func (.func 95) #[] #[])) :
   Calls Tryz.prog 142 #[P0 pw,P0 pl,P0 pe] W (TEnd (WOk A b W (listsW opW l)) (WBad A b W (listsW opW l))):=by
 have H:Hid (∀ _:Unit,_):=fun _=>wOps A b B S0 ad cap l W h hl hr hB hk;clear h hl hr hB hk
 go_enter Tryz.func142,Tryz.ntmps142
 go_wp2_with fail
 refine (H.out ()).mono ?_;rintro e w1 (⟨t1,r,rfl,o,s⟩ | ⟨k,t1,r,hk,rfl,o⟩)
 · go_wp2_with fail
   go_end0
   exact Or.inl ⟨rfl,_,r,o,s⟩
 · go_wp2_with fail
   exact ⟨rfl,Or.inr ⟨_,rfl,_,_,rfl,r,hk,o⟩⟩
theorem writeOps (A:Nat→Addr)(ad:Option Addr)(cap:Nat)(l:List OpV)(w:World)(hE:Er3 w A)(hl:l.length≤4294967295)(hr:Rws w w.heap.size opC 9 ad l)(hk:∀ x∈l,x.ok):
   Calls Tryz.prog 94 #[.slice ad l.length cap,.func (.func 95) #[] #[]] w fun e w'=>(∃ r,e = .returned r∧WrRW A l.length (listsW opW l) r)∧Only [] w w':=by
 have hmf:∀ (fn:Fn) (first cap:Array Value) (w:World),(Instr.makeFunc fn first cap).run Tryz.prog w = .ok (.func fn first cap) w:=fun _ _ _ _=>rfl
 have HW:Hid (∀ W,Only [] w W→∀ b pw pl pe,w.heap.size≤b→W.cell? ⟨b,0,none⟩=some (.string S0)→W.frozen? ⟨b,0,none⟩=false→W.cell? ⟨pw,0,none⟩=some (P0 b)→W.cell? ⟨pl,0,none⟩=some (.slice ad l.length cap)→W.cell? ⟨pe,0,none⟩=some (.func (.func 95) #[] #[]) →
     Calls Tryz.prog 142 #[P0 pw,P0 pl,P0 pe] W (TEnd (WOk A b W (listsW opW l)) (WBad A b W (listsW opW l)))):=fun W ho b pw pl pe hb k1 k2 k3 k4 k5 =>
   w1Ops A b pw pl pe w.heap.size ad cap l W ⟨k1,k2,by decide,hE.later ho⟩ hl (hr.in_ ho) hb hk k3 k4 k5
 have hE1:w.cell? ⟨0,0,none⟩=some (eVW A 1):=hE.cell 1 (by decide);obtain ⟨n,hn⟩:∃ n,l.length=n:=⟨_,rfl⟩;have hnb:n≤4294967295:=hn ▸ hl;rw [hn] at HW ⊢;have hlt:=lt_of_cell hE1;have HLT:Hid (0 < w.heap.size):=hlt;clear hE hr hk hl hn hlt;generalize listsW opW l=M at HW ⊢
 by_cases h16:16 < n
 · have hE2:((w.alloc (.cells #[.slice ad n cap] 158)).alloc (.cells #[.func (.func 95) #[] #[]] 215)).cell? ⟨0,0,none⟩=some (eVW A 1):=by
     rw [World.cell?_alloc_lt _ _ ⟨0,0,none⟩ (by rw [World.size_alloc];have:=HLT.out;show 0 < _;omega),World.cell?_alloc_lt _ _ ⟨0,0,none⟩ HLT.out];exact hE1
   clear hE1
   go_enter Tryz.func94,Tryz.ntmps94
   go_wp2_with fail
   go_region
   all_goals
     go_wp2
     go_ret2
     exact ⟨⟨_,rfl,Or.inl ⟨h16,rfl⟩⟩,(((Only.refl [] w).alloc _).alloc _).drew⟩
 · clear hE1 HLT
   obtain ⟨W4,hW4⟩:∃ W4,W4=((((w.alloc (.cells #[.slice ad n cap] 158)).alloc (.cells #[.func (.func 95) #[] #[]] 215)).alloc (.cells #[.string ⟨#[]⟩] 274)).alloc (.cells #[.pointer (some ⟨w.heap.size+1+1,0,none⟩)] 217)):=⟨_,rfl⟩;have HW4:Hid (W4=((((w.alloc (.cells #[.slice ad n cap] 158)).alloc (.cells #[.func (.func 95) #[] #[]] 215)).alloc (.cells #[.string ⟨#[]⟩] 274)).alloc (.cells #[.pointer (some ⟨w.heap.size+1+1,0,none⟩)] 217))):=hW4;have ho:Only [] w W4:=hW4 ▸ ((((Only.refl [] w).alloc _).alloc _).alloc _).alloc _
   have hsz:W4.heap.size=w.heap.size+4:=by rw [hW4];simp [go_sem]
   have c0:W4.cell? ⟨w.heap.size,0,none⟩=some (.slice ad n cap):=by rw [hW4];simp [go_sem]
   have c1:W4.cell? ⟨w.heap.size+1,0,none⟩=some (.func (.func 95) #[] #[]):=by rw [hW4];simp [go_sem]
   have c2:W4.cell? ⟨w.heap.size+1+1,0,none⟩=some (.string S0):=by rw [hW4];simp [go_sem]
   have f2:W4.frozen? ⟨w.heap.size+1+1,0,none⟩=false:=by rw [hW4];simp [go_sem]
   have c3:W4.cell? ⟨w.heap.size+1+1+1,0,none⟩=some (P0 (w.heap.size+1+1)):=by rw [hW4];simp [go_sem]
   have o5:Only [] W4 (W4.alloc (.cells #[.nilIface] 27)):=(Only.refl [] W4).alloc _;have kc:∀ b u,b < W4.heap.size→W4.cell? ⟨b,0,none⟩=some u→(W4.alloc (.cells #[.nilIface] 27)).cell? ⟨b,0,none⟩=some u:=fun b u hb h=>(o5.cell (p:=⟨b,0,none⟩) hb (by simp)).trans h
   have KC:Hid (∀ _u:Unit,_):=fun _=>caught_wo (P0 (w.heap.size+1+1+1)) (P0 w.heap.size) (P0 (w.heap.size+1)) W4 _ _
     (HW.out _ (only_old ho o5 (fun _ k=>by cases k)) (w.heap.size+1+1) (w.heap.size+1+1+1) w.heap.size (w.heap.size+1) (by omega) (kc _ _ (by omega) c2) ((o5.frozen (p:=⟨w.heap.size+1+1,0,none⟩) (by show w.heap.size+1+1 < _;omega) (by simp)).trans f2) (kc _ _ (by omega) c3) (kc _ _ (by omega) c0) (kc _ _ (by omega) c1))
     (fun w' k=>by obtain ⟨_,_,k2,_⟩:=k;exact keeps_of k2 (by omega)) (fun x w' k=>by obtain ⟨_,_,_,_,_,k2⟩:=k;exact keeps_of k2 (by omega))
   have HO:Hid (Only [] w W4):=ho;have HS:Hid (W4.heap.size=w.heap.size+4):=hsz;have C3:Hid (W4.cell? ⟨w.heap.size+1+1+1,0,none⟩=some (P0 (w.heap.size+1+1))):=c3;clear hW4 ho hsz c0 c1 c2 f2 c3 o5 kc HW
   go_enter Tryz.func94,Tryz.ntmps94
   go_wp2_with fail
   rw [← HW4.out];refine (KC.out ()).mono ?_;rintro e w1 (⟨rfl,w5,hok,rfl⟩ | ⟨x,rfl,w5,hbad,rfl⟩)
   · obtain ⟨t1,r1,k1⟩:=hok.after (by rw [HS.out];omega) Value.nilIface
     obtain ⟨_,_,ho5,_⟩:=hok;have k2:=set_after Value.nilIface ho5 C3.out (by omega);have H5:Hid (Only [] w (w5.setCell ⟨W4.heap.size,0,none⟩ .nilIface)):=only_old HO.out (only_after _ ho5) (by simp;omega);have HR:Hid (runW (S0,0) M=(t1,0)):=r1;clear r1 ho5;generalize w5.setCell ⟨W4.heap.size,0,none⟩ .nilIface=w6 at k1 k2 H5 ⊢
     go_wp2_with (go_at_call 144;refine (text_any _ t1 _ k1).mono ?_;rintro e w7 ⟨rfl,rfl⟩)
     go_ret2
     exact ⟨⟨_,rfl,Or.inr (Or.inl ⟨by omega,_,HR.out,rfl⟩)⟩,H5.out⟩
   · obtain ⟨k,t1,rfl,r1,hk,ho5⟩:=hbad
     have H5:Hid (Only [] w (w5.setCell ⟨W4.heap.size,0,none⟩ (eVW A k))):=only_old HO.out (only_after _ ho5) (by simp;omega);have HR:Hid (runW (S0,0) M=(t1,k+1)):=r1;have HKK:Hid (k=1∨k=8):=hk;clear r1 ho5 hk
     go_wp2
     go_ret2
     exact ⟨⟨_,rfl,Or.inr (Or.inr ⟨by omega,_,_,HR.out,HKK.out,rfl⟩)⟩,H5.out⟩
theorem wireOps (A:Nat→Addr)(ad:Option Addr)(cap:Nat)(l:List OpV)(w:World)(hE:Er3 w A)(hl:l.length≤4294967295)(hr:Rws w w.heap.size opC 9 ad l)(hk:∀ x∈l,x.ok):
   Calls Tryz.prog 66 #[.slice ad l.length cap] w fun e w'=>(∃ r,e = .returned r∧WrRW A l.length (listsW opW l) r)∧Only [] w w':=by
 have H:Hid (∀ _u:Unit,_):=fun _=>writeOps A ad cap l w hE hl hr hk;clear hE hl hr hk;generalize listsW opW l=M at H ⊢;generalize l.length=n at H ⊢
 go_enter Tryz.func66,Tryz.ntmps66
 go_wp2_with fail
 refine (H.out ()).mono ?_;rintro e w1 ⟨⟨r,rfl,hr⟩,ho⟩;rcases hr with ⟨h1,rfl⟩ | ⟨h1,t,h2,rfl⟩ | ⟨h1,k,t,h2,hk,rfl⟩
 · go_wp2
   go_ret2
   exact ⟨⟨_,rfl,Or.inl ⟨h1,rfl⟩⟩,ho⟩
 · go_wp2
   go_ret2
   exact ⟨⟨_,rfl,Or.inr (Or.inl ⟨h1,_,h2,rfl⟩)⟩,ho⟩
 · go_wp2
   go_ret2
   exact ⟨⟨_,rfl,Or.inr (Or.inr ⟨h1,_,_,h2,hk,rfl⟩)⟩,ho⟩
theorem w1Reps (A:Nat→Addr)(b pw pl pe B:Nat)(ad:Option Addr)(cap:Nat)(l:List (RpV×Value))(W:World)(h:WS W A b S0)(hl:l.length≤4294967295)(hr:Rws W B rpC 9 ad l)(hB:B≤b)(hk:∀ x∈l,x.1.ok)(hin:∀ x∈l,RpIn W B x)
   (c1:W.cell? ⟨pw,0,none⟩=some (P0 b)) (c2:W.cell? ⟨pl,0,none⟩=some (.slice ad l.length cap)) (c3:W.cell? ⟨pe,0,none⟩=some (.func (.func 264) #[] #[])) :
   Calls Tryz.prog 277 #[P0 pw,P0 pl,P0 pe] W (TEnd (WOk A b W (listsW (fun p=>rpW p.1) l)) (WBad A b W (listsW (fun p=>rpW p.1) l))):=by
 have H:Hid (∀ _:Unit,_):=fun _=>wReplies A b B S0 ad cap l W h hl hr hB hk hin;clear h hl hr hB hk hin
 go_enter Tryz.func277,Tryz.ntmps277
 go_wp2_with fail
 refine (H.out ()).mono ?_;rintro e w1 (⟨t1,r,rfl,o,s⟩ | ⟨k,t1,r,hk,rfl,o⟩)
 · go_wp2_with fail
   go_end0
   exact Or.inl ⟨rfl,_,r,o,s⟩
 · go_wp2_with fail
   exact ⟨rfl,Or.inr ⟨_,rfl,_,_,rfl,r,hk,o⟩⟩
theorem writeReps (A:Nat→Addr)(ad:Option Addr)(cap:Nat)(l:List (RpV×Value))(w:World)(hE:Er3 w A)(hl:l.length≤4294967295)(hr:Rws w w.heap.size rpC 9 ad l)(hk:∀ x∈l,x.1.ok)(hin:∀ x∈l,RpIn w w.heap.size x):
   Calls Tryz.prog 263 #[.slice ad l.length cap,.func (.func 264) #[] #[]] w fun e w'=>(∃ r,e = .returned r∧WrRW A l.length (listsW (fun p=>rpW p.1) l) r)∧Only [] w w':=by
 have hmf:∀ (fn:Fn) (first cap:Array Value) (w:World),(Instr.makeFunc fn first cap).run Tryz.prog w = .ok (.func fn first cap) w:=fun _ _ _ _=>rfl
 have HW:Hid (∀ W,Only [] w W→∀ b pw pl pe,w.heap.size≤b→W.cell? ⟨b,0,none⟩=some (.string S0)→W.frozen? ⟨b,0,none⟩=false→W.cell? ⟨pw,0,none⟩=some (P0 b)→W.cell? ⟨pl,0,none⟩=some (.slice ad l.length cap)→W.cell? ⟨pe,0,none⟩=some (.func (.func 264) #[] #[]) →
     Calls Tryz.prog 277 #[P0 pw,P0 pl,P0 pe] W (TEnd (WOk A b W (listsW (fun p=>rpW p.1) l)) (WBad A b W (listsW (fun p=>rpW p.1) l)))):=fun W ho b pw pl pe hb k1 k2 k3 k4 k5 =>
   w1Reps A b pw pl pe w.heap.size ad cap l W ⟨k1,k2,by decide,hE.later ho⟩ hl (hr.in_ ho) hb hk (fun x hx=>(hin x hx).only ho (fun _ k=>by cases k)) k3 k4 k5
 have hE1:w.cell? ⟨0,0,none⟩=some (eVW A 1):=hE.cell 1 (by decide);obtain ⟨n,hn⟩:∃ n,l.length=n:=⟨_,rfl⟩;have hnb:n≤4294967295:=hn ▸ hl;rw [hn] at HW ⊢;have hlt:=lt_of_cell hE1;have HLT:Hid (0 < w.heap.size):=hlt;clear hE hr hk hl hn hlt hin;generalize listsW (fun p=>rpW p.1) l=M at HW ⊢
 by_cases h16:16 < n
 · have hE2:((w.alloc (.cells #[.slice ad n cap] 243)).alloc (.cells #[.func (.func 264) #[] #[]] 396)).cell? ⟨0,0,none⟩=some (eVW A 1):=by
     rw [World.cell?_alloc_lt _ _ ⟨0,0,none⟩ (by rw [World.size_alloc];have:=HLT.out;show 0 < _;omega),World.cell?_alloc_lt _ _ ⟨0,0,none⟩ HLT.out];exact hE1
   clear hE1
   go_enter Tryz.func263,Tryz.ntmps263
   go_wp2_with fail
   go_region
   all_goals
     go_wp2
     go_ret2
     exact ⟨⟨_,rfl,Or.inl ⟨h16,rfl⟩⟩,(((Only.refl [] w).alloc _).alloc _).drew⟩
 · clear hE1 HLT
   obtain ⟨W4,hW4⟩:∃ W4,W4=((((w.alloc (.cells #[.slice ad n cap] 243)).alloc (.cells #[.func (.func 264) #[] #[]] 396)).alloc (.cells #[.string ⟨#[]⟩] 274)).alloc (.cells #[.pointer (some ⟨w.heap.size+1+1,0,none⟩)] 217)):=⟨_,rfl⟩;have HW4:Hid (W4=((((w.alloc (.cells #[.slice ad n cap] 243)).alloc (.cells #[.func (.func 264) #[] #[]] 396)).alloc (.cells #[.string ⟨#[]⟩] 274)).alloc (.cells #[.pointer (some ⟨w.heap.size+1+1,0,none⟩)] 217))):=hW4;have ho:Only [] w W4:=hW4 ▸ ((((Only.refl [] w).alloc _).alloc _).alloc _).alloc _
   have hsz:W4.heap.size=w.heap.size+4:=by rw [hW4];simp [go_sem]
   have c0:W4.cell? ⟨w.heap.size,0,none⟩=some (.slice ad n cap):=by rw [hW4];simp [go_sem]
   have c1:W4.cell? ⟨w.heap.size+1,0,none⟩=some (.func (.func 264) #[] #[]):=by rw [hW4];simp [go_sem]
   have c2:W4.cell? ⟨w.heap.size+1+1,0,none⟩=some (.string S0):=by rw [hW4];simp [go_sem]
   have f2:W4.frozen? ⟨w.heap.size+1+1,0,none⟩=false:=by rw [hW4];simp [go_sem]
   have c3:W4.cell? ⟨w.heap.size+1+1+1,0,none⟩=some (P0 (w.heap.size+1+1)):=by rw [hW4];simp [go_sem]
   have o5:Only [] W4 (W4.alloc (.cells #[.nilIface] 27)):=(Only.refl [] W4).alloc _;have kc:∀ b u,b < W4.heap.size→W4.cell? ⟨b,0,none⟩=some u→(W4.alloc (.cells #[.nilIface] 27)).cell? ⟨b,0,none⟩=some u:=fun b u hb h=>(o5.cell (p:=⟨b,0,none⟩) hb (by simp)).trans h
   have KC:Hid (∀ _u:Unit,_):=fun _=>caught_wr (P0 (w.heap.size+1+1+1)) (P0 w.heap.size) (P0 (w.heap.size+1)) W4 _ _
     (HW.out _ (only_old ho o5 (fun _ k=>by cases k)) (w.heap.size+1+1) (w.heap.size+1+1+1) w.heap.size (w.heap.size+1) (by omega) (kc _ _ (by omega) c2) ((o5.frozen (p:=⟨w.heap.size+1+1,0,none⟩) (by show w.heap.size+1+1 < _;omega) (by simp)).trans f2) (kc _ _ (by omega) c3) (kc _ _ (by omega) c0) (kc _ _ (by omega) c1))
     (fun w' k=>by obtain ⟨_,_,k2,_⟩:=k;exact keeps_of k2 (by omega)) (fun x w' k=>by obtain ⟨_,_,_,_,_,k2⟩:=k;exact keeps_of k2 (by omega))
   have HO:Hid (Only [] w W4):=ho;have HS:Hid (W4.heap.size=w.heap.size+4):=hsz;have C3:Hid (W4.cell? ⟨w.heap.size+1+1+1,0,none⟩=some (P0 (w.heap.size+1+1))):=c3;clear hW4 ho hsz c0 c1 c2 f2 c3 o5 kc HW
   go_enter Tryz.func263,Tryz.ntmps263
   go_wp2_with fail
   rw [← HW4.out];refine (KC.out ()).mono ?_;rintro e w1 (⟨rfl,w5,hok,rfl⟩ | ⟨x,rfl,w5,hbad,rfl⟩)
   · obtain ⟨t1,r1,k1⟩:=hok.after (by rw [HS.out];omega) Value.nilIface
     obtain ⟨_,_,ho5,_⟩:=hok;have k2:=set_after Value.nilIface ho5 C3.out (by omega);have H5:Hid (Only [] w (w5.setCell ⟨W4.heap.size,0,none⟩ .nilIface)):=only_old HO.out (only_after _ ho5) (by simp;omega);have HR:Hid (runW (S0,0) M=(t1,0)):=r1;clear r1 ho5;generalize w5.setCell ⟨W4.heap.size,0,none⟩ .nilIface=w6 at k1 k2 H5 ⊢
     go_wp2_with (go_at_call 144;refine (text_any _ t1 _ k1).mono ?_;rintro e w7 ⟨rfl,rfl⟩)
     go_ret2
     exact ⟨⟨_,rfl,Or.inr (Or.inl ⟨by omega,_,HR.out,rfl⟩)⟩,H5.out⟩
   · obtain ⟨k,t1,rfl,r1,hk,ho5⟩:=hbad
     have H5:Hid (Only [] w (w5.setCell ⟨W4.heap.size,0,none⟩ (eVW A k))):=only_old HO.out (only_after _ ho5) (by simp;omega);have HR:Hid (runW (S0,0) M=(t1,k+1)):=r1;have HKK:Hid (k=1∨k=8):=hk;clear r1 ho5 hk
     go_wp2
     go_ret2
     exact ⟨⟨_,rfl,Or.inr (Or.inr ⟨by omega,_,_,HR.out,HKK.out,rfl⟩)⟩,H5.out⟩
theorem wireReps (A:Nat→Addr)(ad:Option Addr)(cap:Nat)(l:List (RpV×Value))(w:World)(hE:Er3 w A)(hl:l.length≤4294967295)(hr:Rws w w.heap.size rpC 9 ad l)(hk:∀ x∈l,x.1.ok)(hin:∀ x∈l,RpIn w w.heap.size x):
   Calls Tryz.prog 229 #[.slice ad l.length cap] w fun e w'=>(∃ r,e = .returned r∧WrRW A l.length (listsW (fun p=>rpW p.1) l) r)∧Only [] w w':=by
 have H:Hid (∀ _u:Unit,_):=fun _=>writeReps A ad cap l w hE hl hr hk hin;clear hE hl hr hk hin;generalize listsW (fun p=>rpW p.1) l=M at H ⊢;generalize l.length=n at H ⊢
 go_enter Tryz.func229,Tryz.ntmps229
 go_wp2_with fail
 refine (H.out ()).mono ?_;rintro e w1 ⟨⟨r,rfl,hr⟩,ho⟩;rcases hr with ⟨h1,rfl⟩ | ⟨h1,t,h2,rfl⟩ | ⟨h1,k,t,h2,hk,rfl⟩
 · go_wp2
   go_ret2
   exact ⟨⟨_,rfl,Or.inl ⟨h1,rfl⟩⟩,ho⟩
 · go_wp2
   go_ret2
   exact ⟨⟨_,rfl,Or.inr (Or.inl ⟨h1,_,h2,rfl⟩)⟩,ho⟩
 · go_wp2
   go_ret2
   exact ⟨⟨_,rfl,Or.inr (Or.inr ⟨h1,_,_,h2,hk,rfl⟩)⟩,ho⟩
end
end Go.Proofs.YtodldddakjmonaaGreatDoor
