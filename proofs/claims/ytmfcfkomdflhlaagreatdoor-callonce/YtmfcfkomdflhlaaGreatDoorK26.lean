import Derived.Test.YtmfcfkomdflhlaaGreatDoorK23
import Derived.Test.YtmfcfkomdflhlaaGreatDoorK25
set_option maxHeartbeats 8000000
namespace Go.Proofs.YtmfcfkomdflhlaaGreatDoor
section
open Go Go.RowKit Go.Deep
abbrev Par (α:Type):=ByteArray→Option (α×ByteArray)
def bindP {α β:Type}(p:Par α)(f:α→Par β):Par β:=fun t=>match p t with
 | none=>none
 | some (a,t')=>f a t'
def retP {α:Type}(a:α):Par α:=fun t=>some (a,t)
theorem bindP_some {α β:Type}{p:Par α}{f:α→Par β}{t t':ByteArray}{a:α}(h:p t=some (a,t')):bindP p f t=f a t':=by simp [bindP,h]
theorem bindP_none {α β:Type}{p:Par α}{f:α→Par β}{t:ByteArray}(h:p t=none):bindP p f t=none:=by simp [bindP,h]
def pInt:Par Nat:=fun t=>if 4≤t.size then some (numAt t 4,cutAt t 4) else none
def pLong:Par Nat:=fun t=>if 8≤t.size∧numAt t 8≤9223372036854775807 then some (numAt t 8,cutAt t 8) else none
def pFlag:Par Bool:=fun t=>if 4≤t.size∧numAt t 4≤1 then some ((numAt t 4:Int)==1,cutAt t 4) else none
def itemB (s:ByteArray):Bool:=decide (4≤s.size)&&(decide ((numAt s 4:Int)≤4000)&&(decide (4+numAt s 4+fillN (numAt s 4)≤s.size)&&zerosB (s.extract (4+numAt s 4) (4+numAt s 4+fillN (numAt s 4)))))
theorem itemB_iff (s:ByteArray):itemB s=true↔ItemOk s 4000:=by simp [itemB,ItemOk]
def pBytes:Par ByteArray:=fun t=>if itemB t=true then some (t.extract 4 (4+numAt t 4),cutAt t (4+numAt t 4+fillN (numAt t 4))) else none
def pNumber:Par Int:=bindP pFlag fun f=>bindP pLong fun n=>fun t=>if (f&&n==0)=true then none else some (if f=true then -(n:Int) else (n:Int),t)
def pTwo:Par (Int×Int):=bindP pNumber fun x=>bindP pNumber fun y=>retP (x,y)
def pOp:Par OpV:=bindP pBytes fun K=>bindP pBytes fun N=>bindP pBytes fun T=>bindP pNumber fun x1=>bindP pNumber fun x2=>bindP pNumber fun x3=>bindP pNumber fun x4=>bindP pTwo fun p=>retP ⟨K,N,T,x1,x2,x3,x4,p.1,p.2⟩
def pTimes {α:Type}(p:Par α):Nat→Par (List α)
 | 0=>retP []
 | n+1=>bindP p fun a=>bindP (pTimes p n) fun l=>retP (a::l)
def pList {α:Type}(p:Par α):Par (List α):=bindP pInt (pTimes p)
theorem cut_le (t:ByteArray)(k:Nat):(cutAt t k).size≤t.size:=by rw [cutAt_size];omega
structure RS (w:World)(A:Nat→Addr)(rb xb:Nat)(t:ByteArray):Prop where
 ptr:w.cell? ⟨rb,0,none⟩=some (P0 xb)
 cell:w.cell? ⟨xb,0,none⟩=some (.string t)
 frz:w.frozen? ⟨xb,0,none⟩=false
 le:t.size≤5000
 err:Er3 w A
theorem RS.lt {w:World}{A:Nat→Addr}{rb xb:Nat}{t:ByteArray}(h:RS w A rb xb t):xb < w.heap.size:=lt_of_cell h.cell
theorem RS.ltr {w:World}{A:Nat→Addr}{rb xb:Nat}{t:ByteArray}(h:RS w A rb xb t):rb < w.heap.size:=lt_of_cell h.ptr
theorem RS.ne {w:World}{A:Nat→Addr}{rb xb:Nat}{t:ByteArray}(h:RS w A rb xb t)(k:Nat)(hk:k=0∨k=1∨k=8):gOf k≠xb:=by
 intro e;have h1:=h.err.cell k hk;rw [e,h.cell] at h1
 cases h1
theorem RS.nr {w:World}{A:Nat→Addr}{rb xb:Nat}{t:ByteArray}(h:RS w A rb xb t):rb≠xb:=by
 intro e;have h1:=h.ptr;rw [e,h.cell] at h1
 cases h1
theorem RS.only {w w':World}{A:Nat→Addr}{rb xb:Nat}{t:ByteArray}{L:List Nat}(h:RS w A rb xb t)(ho:Only L w w')(hL:∀ k,k < w.heap.size→k∉L):RS w' A rb xb t :=
 ⟨(ho.cell (p:=⟨rb,0,none⟩) h.ltr (hL _ h.ltr)).trans h.ptr,(ho.cell (p:=⟨xb,0,none⟩) h.lt (hL _ h.lt)).trans h.cell,(ho.frozen (p:=⟨xb,0,none⟩) h.lt (hL _ h.lt)).trans h.frz,h.le,h.err.only ho (fun k hk=>hL _ (lt_of_cell (h.err.cell k hk)))⟩
theorem RS.later {w w':World}{A:Nat→Addr}{rb xb:Nat}{t:ByteArray}(h:RS w A rb xb t)(ho:Only [] w w'):RS w' A rb xb t:=h.only ho (fun _ _=>by simp)
theorem RS.put {w:World}{A:Nat→Addr}{rb xb:Nat}{t t':ByteArray}(h:RS w A rb xb t)(hl:t'.size≤t.size):RS (w.setCell ⟨xb,0,none⟩ (.string t')) A rb xb t':=by
 have o:=onlySet w xb (.string t');exact ⟨(o.cell (p:=⟨rb,0,none⟩) h.ltr (by simpa using h.nr)).trans h.ptr,World.cell?_setCell_same _ _ _ h.cell,by simpa using h.frz,Nat.le_trans hl h.le,h.err.only o (fun k hk=>by simpa using h.ne k hk)⟩
def YEnd {α:Type}(A:Nat→Addr)(rb xb:Nat)(w:World)(t:ByteArray)(p:Par α)(v:α→Value)(z:Value)(e:Ending)(w':World):Prop :=
 (∃ a t',p t=some (a,t')∧e = .returned (.tuple #[v a,.nilIface])∧Only [xb] w w'∧RS w' A rb xb t')∨(p t=none∧e = .returned (.tuple #[z,eV A 0])∧Only [xb] w w')
def REnd {α:Type}(A:Nat→Addr)(rb xb:Nat)(w:World)(t:ByteArray)(p:Par α)(v:α→Value)(e:Ending)(w':World):Prop :=
 (∃ a t',p t=some (a,t')∧e = .returned (v a)∧Only [xb] w w'∧RS w' A rb xb t')∨(p t=none∧e = .panicked (thr (eV A 0))∧Only [xb] w w')
theorem yInt (A:Nat→Addr)(rb xb:Nat)(t:ByteArray)(w:World)(h:RS w A rb xb t):Calls Tryz.prog 142 #[P0 xb] w (YEnd A rb xb w t pInt (fun n => .int .i64 (n:Nat)) (.int .i64 0)):=by
 by_cases h4:4≤t.size
 · refine (rInt_ok xb t w h.cell h.frz h4 (by have:=h.le;omega)).mono fun e w' q=>?_
   obtain ⟨rfl,rfl⟩:=q;exact Or.inl ⟨_,_,if_pos h4,rfl,onlySet _ _ _,h.put (cut_le _ _)⟩
 · refine (rInt_short xb t _ _ w h.cell (h.err.cell 0 (by decide)) (by omega)).mono fun e w' q=>?_
   obtain ⟨rfl,hb⟩:=q;exact Or.inr ⟨if_neg h4,rfl,Only.of_below hb _⟩
theorem yLong (A:Nat→Addr)(rb xb:Nat)(t:ByteArray)(w:World)(h:RS w A rb xb t):Calls Tryz.prog 52 #[P0 xb] w (YEnd A rb xb w t pLong (fun n => .int .i64 (n:Nat)) (.int .i64 0)):=by
 by_cases h4:8≤t.size
 · by_cases hg:numAt t 8≤9223372036854775807
   · refine (rLong_ok xb t w h.cell h.frz h4 (by have:=h.le;omega) hg).mono fun e w' q=>?_
     obtain ⟨rfl,rfl⟩:=q;exact Or.inl ⟨_,_,if_pos ⟨h4,hg⟩,rfl,onlySet _ _ _,h.put (cut_le _ _)⟩
   · refine (rLong_great xb t _ _ w h.cell (h.err.cell 0 (by decide)) h4 (by have:=h.le;omega) (by omega)).mono fun e w' q=>?_
     obtain ⟨rfl,hb⟩:=q;exact Or.inr ⟨if_neg (fun k=>hg k.2),rfl,Only.of_below hb _⟩
 · refine (rLong_short xb t _ _ w h.cell (h.err.cell 0 (by decide)) (by omega)).mono fun e w' q=>?_
   obtain ⟨rfl,hb⟩:=q;exact Or.inr ⟨if_neg (fun k=>h4 k.1),rfl,Only.of_below hb _⟩
theorem yBool (A:Nat→Addr)(rb xb:Nat)(t:ByteArray)(w:World)(h:RS w A rb xb t):Calls Tryz.prog 198 #[P0 xb] w (YEnd A rb xb w t pFlag (fun b => .bool b) (.bool false)):=by
 by_cases h4:4≤t.size
 · by_cases hg:numAt t 4≤1
   · refine (rBool_ok xb t w h.cell h.frz h4 (by have:=h.le;omega) hg).mono fun e w' q=>?_
     obtain ⟨rfl,rfl⟩:=q;exact Or.inl ⟨_,_,if_pos ⟨h4,hg⟩,rfl,onlySet _ _ _,h.put (cut_le _ _)⟩
   · refine (rBool_great xb t _ _ w h.cell (h.err.cell 0 (by decide)) h4 (by have:=h.le;omega) (by omega)).mono fun e w' q=>?_
     obtain ⟨rfl,hb⟩:=q;exact Or.inr ⟨if_neg (fun k=>hg k.2),rfl,Only.of_below hb _⟩
 · refine (rBool_short xb t _ _ w h.cell (h.err.cell 0 (by decide)) (by omega)).mono fun e w' q=>?_
   obtain ⟨rfl,hb⟩:=q;exact Or.inr ⟨if_neg (fun k=>h4 k.1),rfl,Only.of_below hb _⟩
theorem yBytes (A:Nat→Addr)(rb xb:Nat)(t:ByteArray)(w:World)(h:RS w A rb xb t):Calls Tryz.prog 53 #[P0 xb,.int .i64 4000] w (YEnd A rb xb w t pBytes (fun b => .string b) (.string (bs []))):=by
 refine (rBytes_ends xb t 4000 _ _ w h.cell h.frz (h.err.cell 0 (by decide)) (by have:=h.le;omega)).mono fun e w' q=>?_;rcases q with ⟨hi,rfl,rfl⟩ | ⟨hi,rfl,hb⟩
 · exact Or.inl ⟨_,_,if_pos ((itemB_iff t).2 hi),rfl,onlySet _ _ _,h.put (cut_le _ _)⟩
 · exact Or.inr ⟨if_neg (fun k=>hi ((itemB_iff t).1 k)),rfl,Only.of_below hb _⟩
theorem rFlag (A:Nat→Addr)(rb xb:Nat)(t:ByteArray)(w:World)(h:RS w A rb xb t):Calls Tryz.prog 143 #[P0 rb] w (REnd A rb xb w t pFlag (fun b => .bool b)):=by
 have H:Hid (∀ _u:Unit,_):=fun _=>yBool A rb xb t w h;have c0:=h.ptr;clear h
 go_enter Tryz.func143,Tryz.ntmps143
 go_wp2_with fail
 refine (H.out ()).mono ?_;rintro e w1 (⟨a,t1,r,rfl,o,s⟩ | ⟨r,rfl,o⟩)
 · go_wp2_with (go_at_call 73;refine (must_nil _).mono ?_;rintro e w2 ⟨rfl,rfl⟩)
   go_ret
   exact Or.inl ⟨_,_,r,rfl,o,s⟩
 · go_wp2_with (go_at_call 73;refine (must_err _ _ _).mono ?_;rintro e w2 ⟨rfl,rfl⟩)
   exact ⟨rfl,Or.inr ⟨r,rfl,o⟩⟩
theorem rText (A:Nat→Addr)(rb xb:Nat)(t:ByteArray)(w:World)(h:RS w A rb xb t):Calls Tryz.prog 119 #[P0 rb] w (REnd A rb xb w t pBytes (fun b => .string b)):=by
 have H:Hid (∀ _u:Unit,_):=fun _=>yBytes A rb xb t w h;have c0:=h.ptr;clear h
 go_enter Tryz.func119,Tryz.ntmps119
 go_wp2_with fail
 refine (H.out ()).mono ?_;rintro e w1 (⟨a,t1,r,rfl,o,s⟩ | ⟨r,rfl,o⟩)
 · go_wp2_with (go_at_call 73;refine (must_nil _).mono ?_;rintro e w2 ⟨rfl,rfl⟩)
   go_ret
   exact Or.inl ⟨_,_,r,rfl,o,s⟩
 · go_wp2_with (go_at_call 73;refine (must_err _ _ _).mono ?_;rintro e w2 ⟨rfl,rfl⟩)
   exact ⟨rfl,Or.inr ⟨r,rfl,o⟩⟩
theorem rNumber (A:Nat→Addr)(rb xb:Nat)(t:ByteArray)(w:World)(h:RS w A rb xb t):Calls Tryz.prog 120 #[P0 rb] w (REnd A rb xb w t pNumber (fun n => .int .i64 n)):=by
 have H:Hid (∀ _u:Unit,_):=fun _=>rFlag A rb xb t w h;have H2:Hid (∀ t1 w1,RS w1 A rb xb t1→_):=fun t1 w1 k=>yLong A rb xb t1 w1 k;clear h
 go_enter Tryz.func120,Tryz.ntmps120
 go_wp2_with fail
 refine (H.out ()).mono ?_;rintro e w1 (⟨f,t1,r1,rfl,o1,s1⟩ | ⟨r1,rfl,o1⟩)
 rotate_left
 · exact ⟨rfl,Or.inr ⟨bindP_none r1,rfl,o1⟩⟩
 have c1:=s1.ptr;have R1:Hid (pFlag t=some (f,t1)):=r1;have O1:Hid (Only [xb] w w1):=o1;have S1:Hid (RS w1 A rb xb t1):=s1;clear r1 o1 s1
 go_wp2_with fail
 clear c1;refine (H2.out _ _ S1.out).mono ?_;rintro e w2 (⟨n,t2,r2,rfl,o2,s2⟩ | ⟨r2,rfl,o2⟩)
 rotate_left
 · go_wp2_with (go_at_call 73;refine (must_err _ _ _).mono ?_;rintro e w3 ⟨rfl,rfl⟩)
   exact ⟨rfl,Or.inr ⟨(bindP_some R1.out).trans (bindP_none r2),rfl,O1.out.seq o2⟩⟩
 have hn:n≤9223372036854775807:=by
   unfold pLong at r2
   split at r2
   · rename_i hh
     cases r2
     exact hh.2
   · cases r2
 have R2:Hid (pNumber t=if (f&&n==0)=true then none else some (if f=true then -(n:Int) else (n:Int),t2)):=(bindP_some R1.out).trans (bindP_some r2);have O2:Hid (Only [xb] w w2):=O1.out.seq o2;have S2:Hid (RS w2 A rb xb t2):=s2;have hE:w2.cell? ⟨6,0,none⟩=some (eV A 0):=s2.err.cell 0 (by decide);clear r2 o2 s2 H H2 R1 O1 S1
 cases f
 · go_wp2_with (go_at_call 73;refine (must_nil _).mono ?_;rintro e w3 ⟨rfl,rfl⟩)
   go_ret
   exact Or.inl ⟨_,_,R2.out,rfl,O2.out,S2.out⟩
 · by_cases h0:n=0
   · subst h0
     go_wp2_with (first | (go_at_call 73;refine (must_nil _).mono ?_;rintro e w3 ⟨rfl,rfl⟩) | (go_at_call 75;refine (throw_any _ _ _).mono ?_;rintro e w3 ⟨rfl,rfl⟩))
     exact ⟨rfl,Or.inr ⟨R2.out,rfl,O2.out⟩⟩
   · have hb:((n:Int)==0)=false:=beq_eq_false_iff_ne.2 (by omega)
     have hn0:0 < n:=by omega
     have R3:Hid (pNumber t=some (-(n:Int),t2)):=by
      have:=R2.out;rw [if_neg (by simp [h0]),if_pos rfl] at this;exact this
     clear R2 h0
     go_wp2_with (go_at_call 73;refine (must_nil _).mono ?_;rintro e w3 ⟨rfl,rfl⟩)
     go_ret
     exact Or.inl ⟨_,_,R3.out,rfl,O2.out,S2.out⟩
theorem RS.over {w0 w w':World}{A:Nat→Addr}{rb xb:Nat}{t0 t:ByteArray}{L:List Nat}(h0:RS w0 A rb xb t0)(h:RS w A rb xb t)(ho:Only L w w')(hL:∀ k∈L,w0.heap.size≤k):RS w' A rb xb t:=by
 have key:∀ k,k < w0.heap.size→k∉L:=fun k hk hm=>absurd (hL k hm) (by omega);exact ⟨(ho.cell (p:=⟨rb,0,none⟩) h.ltr (key _ h0.ltr)).trans h.ptr,(ho.cell (p:=⟨xb,0,none⟩) h.lt (key _ h0.lt)).trans h.cell,(ho.frozen (p:=⟨xb,0,none⟩) h.lt (key _ h0.lt)).trans h.frz,h.le,h.err.only ho (fun k hk=>key _ (lt_of_cell (h0.err.cell k hk)))⟩
def Var (w:World)(p:Nat)(cs:List Value):Prop:=Cells w p cs∧∀ j,w.frozen? ⟨p,j,none⟩=false
theorem Var.new (w:World)(cs:List Value)(T:TypeId):Var (w.alloc (.cells cs.toArray T)) w.heap.size cs:=⟨Cells.boxed w cs T,fun j=>by simp⟩
theorem Var.only {w w':World}{p:Nat}{cs:List Value}{L:List Nat}(h:Var w p cs)(ho:Only L w w')(hlt:p < w.heap.size)(hn:p∉L):Var w' p cs:=⟨h.1.only ho hn,fun j=>(ho.frozen (p:=⟨p,j,none⟩) hlt hn).trans (h.2 j)⟩
theorem rState (A:Nat→Addr)(rb xb:Nat)(t:ByteArray)(w:World)(h:RS w A rb xb t):Calls Tryz.prog 121 #[P0 rb] w (REnd A rb xb w t pTwo (fun p => .agg #[.int .i64 p.1,.int .i64 p.2])):=by
 have HH:Hid (RS w A rb xb t):=h;have hlt:=h.lt
 have HN:Hid (w.heap.size∉[xb]):=by show _∉_;simp;omega
 have V0:Hid (Var (w.alloc (.cells #[.int .i64 0,.int .i64 0] 32)) w.heap.size [.int .i64 0,.int .i64 0]):=Var.new w [.int .i64 0,.int .i64 0] 32;have S0:Hid (RS (w.alloc (.cells #[.int .i64 0,.int .i64 0] 32)) A rb xb t):=h.later ((Only.refl [] w).alloc _);have O0:Hid (Only [xb] w (w.alloc (.cells #[.int .i64 0,.int .i64 0] 32))):=(Only.refl [xb] w).alloc _
 have L0:Hid (w.heap.size < (w.alloc (.cells #[.int .i64 0,.int .i64 0] 32)).heap.size):=by show _ < _;simp
 obtain ⟨pr,hpr⟩:∃ pr,pTwo t=pr:=⟨_,rfl⟩;have HP:Hid (pTwo t=pr):=hpr;have R0:Hid (pr=pTwo t):=hpr.symm;have K0:Hid (∀ t1 w1,RS w1 A rb xb t1→_):=fun t1 w1 k=>rNumber A rb xb t1 w1 k;have K1:Hid (∀ t1 w1,RS w1 A rb xb t1→_):=fun t1 w1 k=>rNumber A rb xb t1 w1 k;clear h hlt hpr
 go_enter Tryz.func121,Tryz.ntmps121
 go_wp2_with fail
 refine (K0.out _ _ S0.out).mono ?_;rintro e w1 (⟨a0,t1,r,rfl,o,s⟩ | ⟨r,rfl,o⟩)
 rotate_left
 · exact ⟨rfl,Or.inr ⟨HP.out.trans (R0.out.trans (bindP_none r)),rfl,O0.out.seq o⟩⟩
 have R1:Hid (pr=_):=R0.out.trans (bindP_some r);have O1:Hid (Only [xb] w w1):=O0.out.seq o;have S1:Hid (RS w1 A rb xb t1):=s;have V1:Hid (Var w1 w.heap.size [.int .i64 0,.int .i64 0]):=V0.out.only o L0.out HN.out;have L1:Hid (w.heap.size < w1.heap.size):=Nat.lt_of_lt_of_le L0.out o.size;clear r o s R0 O0 S0 V0 L0 K0
 go_wp2_with fail
 refine (K1.out _ _ S1.out).mono ?_;rintro e w2 (⟨a1,t2,r,rfl,o,s⟩ | ⟨r,rfl,o⟩)
 rotate_left
 · exact ⟨rfl,Or.inr ⟨HP.out.trans (R1.out.trans (bindP_none r)),rfl,O1.out.seq o⟩⟩
 have R2:Hid (pr=_):=R1.out.trans (bindP_some r);have O2:Hid (Only [xb] w w2):=O1.out.seq o;have S2:Hid (RS w2 A rb xb t2):=s;have V2:Hid (Var w2 w.heap.size [.int .i64 0,.int .i64 0]):=V1.out.only o L1.out HN.out;have L2:Hid (w.heap.size < w2.heap.size):=Nat.lt_of_lt_of_le L1.out o.size;clear r o s R1 O1 S1 V1 L1 K1;have c0:=V2.out.1 0 _ rfl;have f0:=V2.out.2 0;have c1:=V2.out.1 1 _ rfl;have f1:=V2.out.2 1;have HO:Hid (Only [w.heap.size] w2 ((w2.setCell ⟨w.heap.size,0,none⟩ (.int .i64 a0)).setCell ⟨w.heap.size,1,none⟩ (.int .i64 a1))):=(((Only.refl [w.heap.size] _).setCell (p:=⟨w.heap.size,0,none⟩) (Or.inl (List.mem_cons_self ..)) _).setCell (p:=⟨w.heap.size,1,none⟩) (Or.inl (List.mem_cons_self ..)) _)
 go_wp2_with fail
 refine bodyPost_ret (v := .agg #[.int .i64 a0,.int .i64 a1]) (by simp [results,Tryz.results121,go_sem,c0,c1]) rfl ?_;exact Or.inl ⟨_,_,HP.out.trans R2.out,rfl,O2.out.trans HO.out (fun k hk=>Or.inr (by rw [List.mem_singleton.1 hk];exact Nat.le_refl _)),HH.out.over S2.out HO.out (fun k hk=>by rw [List.mem_singleton.1 hk];exact Nat.le_refl _)⟩
theorem rOp (A:Nat→Addr)(rb xb:Nat)(t:ByteArray)(w:World)(h:RS w A rb xb t):Calls Tryz.prog 101 #[P0 rb] w (REnd A rb xb w t pOp (fun o => .agg #[.string o.K,.string o.N,.string o.T,.int .i64 o.x1,.int .i64 o.x2,.int .i64 o.x3,.int .i64 o.x4,.int .i64 o.x5,.int .i64 o.x6])):=by
 have HH:Hid (RS w A rb xb t):=h;have hlt:=h.lt
 have HN:Hid (w.heap.size∉[xb]):=by show _∉_;simp;omega
 have V0:Hid (Var (w.alloc (.cells #[.string ⟨#[]⟩,.string ⟨#[]⟩,.string ⟨#[]⟩,.int .i64 0,.int .i64 0,.int .i64 0,.int .i64 0,.int .i64 0,.int .i64 0] 34)) w.heap.size [.string ⟨#[]⟩,.string ⟨#[]⟩,.string ⟨#[]⟩,.int .i64 0,.int .i64 0,.int .i64 0,.int .i64 0,.int .i64 0,.int .i64 0]):=Var.new w [.string ⟨#[]⟩,.string ⟨#[]⟩,.string ⟨#[]⟩,.int .i64 0,.int .i64 0,.int .i64 0,.int .i64 0,.int .i64 0,.int .i64 0] 34;have S0:Hid (RS (w.alloc (.cells #[.string ⟨#[]⟩,.string ⟨#[]⟩,.string ⟨#[]⟩,.int .i64 0,.int .i64 0,.int .i64 0,.int .i64 0,.int .i64 0,.int .i64 0] 34)) A rb xb t):=h.later ((Only.refl [] w).alloc _);have O0:Hid (Only [xb] w (w.alloc (.cells #[.string ⟨#[]⟩,.string ⟨#[]⟩,.string ⟨#[]⟩,.int .i64 0,.int .i64 0,.int .i64 0,.int .i64 0,.int .i64 0,.int .i64 0] 34))):=(Only.refl [xb] w).alloc _
 have L0:Hid (w.heap.size < (w.alloc (.cells #[.string ⟨#[]⟩,.string ⟨#[]⟩,.string ⟨#[]⟩,.int .i64 0,.int .i64 0,.int .i64 0,.int .i64 0,.int .i64 0,.int .i64 0] 34)).heap.size):=by show _ < _;simp
 obtain ⟨pr,hpr⟩:∃ pr,pOp t=pr:=⟨_,rfl⟩;have HP:Hid (pOp t=pr):=hpr;have R0:Hid (pr=pOp t):=hpr.symm;have K0:Hid (∀ t1 w1,RS w1 A rb xb t1→_):=fun t1 w1 k=>rText A rb xb t1 w1 k;have K1:Hid (∀ t1 w1,RS w1 A rb xb t1→_):=fun t1 w1 k=>rText A rb xb t1 w1 k;have K2:Hid (∀ t1 w1,RS w1 A rb xb t1→_):=fun t1 w1 k=>rText A rb xb t1 w1 k;have K3:Hid (∀ t1 w1,RS w1 A rb xb t1→_):=fun t1 w1 k=>rNumber A rb xb t1 w1 k;have K4:Hid (∀ t1 w1,RS w1 A rb xb t1→_):=fun t1 w1 k=>rNumber A rb xb t1 w1 k;have K5:Hid (∀ t1 w1,RS w1 A rb xb t1→_):=fun t1 w1 k=>rNumber A rb xb t1 w1 k;have K6:Hid (∀ t1 w1,RS w1 A rb xb t1→_):=fun t1 w1 k=>rNumber A rb xb t1 w1 k;have K7:Hid (∀ t1 w1,RS w1 A rb xb t1→_):=fun t1 w1 k=>rState A rb xb t1 w1 k;clear h hlt hpr
 go_enter Tryz.func101,Tryz.ntmps101
 go_wp2_with fail
 refine (K0.out _ _ S0.out).mono ?_;rintro e w1 (⟨a0,t1,r,rfl,o,s⟩ | ⟨r,rfl,o⟩)
 rotate_left
 · exact ⟨rfl,Or.inr ⟨HP.out.trans (R0.out.trans (bindP_none r)),rfl,O0.out.seq o⟩⟩
 have R1:Hid (pr=_):=R0.out.trans (bindP_some r);have O1:Hid (Only [xb] w w1):=O0.out.seq o;have S1:Hid (RS w1 A rb xb t1):=s;have V1:Hid (Var w1 w.heap.size [.string ⟨#[]⟩,.string ⟨#[]⟩,.string ⟨#[]⟩,.int .i64 0,.int .i64 0,.int .i64 0,.int .i64 0,.int .i64 0,.int .i64 0]):=V0.out.only o L0.out HN.out;have L1:Hid (w.heap.size < w1.heap.size):=Nat.lt_of_lt_of_le L0.out o.size;clear r o s R0 O0 S0 V0 L0 K0
 go_wp2_with fail
 refine (K1.out _ _ S1.out).mono ?_;rintro e w2 (⟨a1,t2,r,rfl,o,s⟩ | ⟨r,rfl,o⟩)
 rotate_left
 · exact ⟨rfl,Or.inr ⟨HP.out.trans (R1.out.trans (bindP_none r)),rfl,O1.out.seq o⟩⟩
 have R2:Hid (pr=_):=R1.out.trans (bindP_some r);have O2:Hid (Only [xb] w w2):=O1.out.seq o;have S2:Hid (RS w2 A rb xb t2):=s;have V2:Hid (Var w2 w.heap.size [.string ⟨#[]⟩,.string ⟨#[]⟩,.string ⟨#[]⟩,.int .i64 0,.int .i64 0,.int .i64 0,.int .i64 0,.int .i64 0,.int .i64 0]):=V1.out.only o L1.out HN.out;have L2:Hid (w.heap.size < w2.heap.size):=Nat.lt_of_lt_of_le L1.out o.size;clear r o s R1 O1 S1 V1 L1 K1
 go_wp2_with fail
 refine (K2.out _ _ S2.out).mono ?_;rintro e w3 (⟨a2,t3,r,rfl,o,s⟩ | ⟨r,rfl,o⟩)
 rotate_left
 · exact ⟨rfl,Or.inr ⟨HP.out.trans (R2.out.trans (bindP_none r)),rfl,O2.out.seq o⟩⟩
 have R3:Hid (pr=_):=R2.out.trans (bindP_some r);have O3:Hid (Only [xb] w w3):=O2.out.seq o;have S3:Hid (RS w3 A rb xb t3):=s;have V3:Hid (Var w3 w.heap.size [.string ⟨#[]⟩,.string ⟨#[]⟩,.string ⟨#[]⟩,.int .i64 0,.int .i64 0,.int .i64 0,.int .i64 0,.int .i64 0,.int .i64 0]):=V2.out.only o L2.out HN.out;have L3:Hid (w.heap.size < w3.heap.size):=Nat.lt_of_lt_of_le L2.out o.size;clear r o s R2 O2 S2 V2 L2 K2
 go_wp2_with fail
 refine (K3.out _ _ S3.out).mono ?_;rintro e w4 (⟨a3,t4,r,rfl,o,s⟩ | ⟨r,rfl,o⟩)
 rotate_left
 · exact ⟨rfl,Or.inr ⟨HP.out.trans (R3.out.trans (bindP_none r)),rfl,O3.out.seq o⟩⟩
 have R4:Hid (pr=_):=R3.out.trans (bindP_some r);have O4:Hid (Only [xb] w w4):=O3.out.seq o;have S4:Hid (RS w4 A rb xb t4):=s;have V4:Hid (Var w4 w.heap.size [.string ⟨#[]⟩,.string ⟨#[]⟩,.string ⟨#[]⟩,.int .i64 0,.int .i64 0,.int .i64 0,.int .i64 0,.int .i64 0,.int .i64 0]):=V3.out.only o L3.out HN.out;have L4:Hid (w.heap.size < w4.heap.size):=Nat.lt_of_lt_of_le L3.out o.size;clear r o s R3 O3 S3 V3 L3 K3
 go_wp2_with fail
 refine (K4.out _ _ S4.out).mono ?_;rintro e w5 (⟨a4,t5,r,rfl,o,s⟩ | ⟨r,rfl,o⟩)
 rotate_left
 · exact ⟨rfl,Or.inr ⟨HP.out.trans (R4.out.trans (bindP_none r)),rfl,O4.out.seq o⟩⟩
 have R5:Hid (pr=_):=R4.out.trans (bindP_some r);have O5:Hid (Only [xb] w w5):=O4.out.seq o;have S5:Hid (RS w5 A rb xb t5):=s;have V5:Hid (Var w5 w.heap.size [.string ⟨#[]⟩,.string ⟨#[]⟩,.string ⟨#[]⟩,.int .i64 0,.int .i64 0,.int .i64 0,.int .i64 0,.int .i64 0,.int .i64 0]):=V4.out.only o L4.out HN.out;have L5:Hid (w.heap.size < w5.heap.size):=Nat.lt_of_lt_of_le L4.out o.size;clear r o s R4 O4 S4 V4 L4 K4
 go_wp2_with fail
 refine (K5.out _ _ S5.out).mono ?_;rintro e w6 (⟨a5,t6,r,rfl,o,s⟩ | ⟨r,rfl,o⟩)
 rotate_left
 · exact ⟨rfl,Or.inr ⟨HP.out.trans (R5.out.trans (bindP_none r)),rfl,O5.out.seq o⟩⟩
 have R6:Hid (pr=_):=R5.out.trans (bindP_some r);have O6:Hid (Only [xb] w w6):=O5.out.seq o;have S6:Hid (RS w6 A rb xb t6):=s;have V6:Hid (Var w6 w.heap.size [.string ⟨#[]⟩,.string ⟨#[]⟩,.string ⟨#[]⟩,.int .i64 0,.int .i64 0,.int .i64 0,.int .i64 0,.int .i64 0,.int .i64 0]):=V5.out.only o L5.out HN.out;have L6:Hid (w.heap.size < w6.heap.size):=Nat.lt_of_lt_of_le L5.out o.size;clear r o s R5 O5 S5 V5 L5 K5
 go_wp2_with fail
 refine (K6.out _ _ S6.out).mono ?_;rintro e w7 (⟨a6,t7,r,rfl,o,s⟩ | ⟨r,rfl,o⟩)
 rotate_left
 · exact ⟨rfl,Or.inr ⟨HP.out.trans (R6.out.trans (bindP_none r)),rfl,O6.out.seq o⟩⟩
 have R7:Hid (pr=_):=R6.out.trans (bindP_some r);have O7:Hid (Only [xb] w w7):=O6.out.seq o;have S7:Hid (RS w7 A rb xb t7):=s;have V7:Hid (Var w7 w.heap.size [.string ⟨#[]⟩,.string ⟨#[]⟩,.string ⟨#[]⟩,.int .i64 0,.int .i64 0,.int .i64 0,.int .i64 0,.int .i64 0,.int .i64 0]):=V6.out.only o L6.out HN.out;have L7:Hid (w.heap.size < w7.heap.size):=Nat.lt_of_lt_of_le L6.out o.size;clear r o s R6 O6 S6 V6 L6 K6
 go_wp2_with fail
 refine (K7.out _ _ S7.out).mono ?_;rintro e w8 (⟨a7,t8,r,rfl,o,s⟩ | ⟨r,rfl,o⟩)
 rotate_left
 · exact ⟨rfl,Or.inr ⟨HP.out.trans (R7.out.trans (bindP_none r)),rfl,O7.out.seq o⟩⟩
 have R8:Hid (pr=_):=R7.out.trans (bindP_some r);have O8:Hid (Only [xb] w w8):=O7.out.seq o;have S8:Hid (RS w8 A rb xb t8):=s;have V8:Hid (Var w8 w.heap.size [.string ⟨#[]⟩,.string ⟨#[]⟩,.string ⟨#[]⟩,.int .i64 0,.int .i64 0,.int .i64 0,.int .i64 0,.int .i64 0,.int .i64 0]):=V7.out.only o L7.out HN.out;have L8:Hid (w.heap.size < w8.heap.size):=Nat.lt_of_lt_of_le L7.out o.size;clear r o s R7 O7 S7 V7 L7 K7;have c0:=V8.out.1 0 _ rfl;have f0:=V8.out.2 0;have c1:=V8.out.1 1 _ rfl;have f1:=V8.out.2 1;have c2:=V8.out.1 2 _ rfl;have f2:=V8.out.2 2;have c3:=V8.out.1 3 _ rfl;have f3:=V8.out.2 3;have c4:=V8.out.1 4 _ rfl;have f4:=V8.out.2 4;have c5:=V8.out.1 5 _ rfl;have f5:=V8.out.2 5;have c6:=V8.out.1 6 _ rfl;have f6:=V8.out.2 6;have c7:=V8.out.1 7 _ rfl;have f7:=V8.out.2 7;have c8:=V8.out.1 8 _ rfl;have f8:=V8.out.2 8;have HO:Hid (Only [w.heap.size] w8 (((((((((w8.setCell ⟨w.heap.size,0,none⟩ (.string a0)).setCell ⟨w.heap.size,1,none⟩ (.string a1)).setCell ⟨w.heap.size,2,none⟩ (.string a2)).setCell ⟨w.heap.size,3,none⟩ (.int .i64 a3)).setCell ⟨w.heap.size,4,none⟩ (.int .i64 a4)).setCell ⟨w.heap.size,5,none⟩ (.int .i64 a5)).setCell ⟨w.heap.size,6,none⟩ (.int .i64 a6)).setCell ⟨w.heap.size,7,none⟩ (.int .i64 a7.1)).setCell ⟨w.heap.size,8,none⟩ (.int .i64 a7.2))):=((((((((((Only.refl [w.heap.size] _).setCell (p:=⟨w.heap.size,0,none⟩) (Or.inl (List.mem_cons_self ..)) _).setCell (p:=⟨w.heap.size,1,none⟩) (Or.inl (List.mem_cons_self ..)) _).setCell (p:=⟨w.heap.size,2,none⟩) (Or.inl (List.mem_cons_self ..)) _).setCell (p:=⟨w.heap.size,3,none⟩) (Or.inl (List.mem_cons_self ..)) _).setCell (p:=⟨w.heap.size,4,none⟩) (Or.inl (List.mem_cons_self ..)) _).setCell (p:=⟨w.heap.size,5,none⟩) (Or.inl (List.mem_cons_self ..)) _).setCell (p:=⟨w.heap.size,6,none⟩) (Or.inl (List.mem_cons_self ..)) _).setCell (p:=⟨w.heap.size,7,none⟩) (Or.inl (List.mem_cons_self ..)) _).setCell (p:=⟨w.heap.size,8,none⟩) (Or.inl (List.mem_cons_self ..)) _)
 go_wp2_with fail
 refine bodyPost_ret (v := .agg #[.string a0,.string a1,.string a2,.int .i64 a3,.int .i64 a4,.int .i64 a5,.int .i64 a6,.int .i64 a7.1,.int .i64 a7.2]) (by simp [results,Tryz.results101,go_sem,c0,c1,c2,c3,c4,c5,c6,c7,c8]) rfl ?_;exact Or.inl ⟨_,_,HP.out.trans R8.out,rfl,O8.out.trans HO.out (fun k hk=>Or.inr (by rw [List.mem_singleton.1 hk];exact Nat.le_refl _)),HH.out.over S8.out HO.out (fun k hk=>by rw [List.mem_singleton.1 hk];exact Nat.le_refl _)⟩
def contP {α:Type}(l:List α)(o:Option (List α×ByteArray)):Option (List α×ByteArray):=o.map fun p=>(l++p.1,p.2)
theorem contP_none {α:Type}{p:Par α}{l:List α}{m:Nat}{t:ByteArray}(h:p t=none):contP l (pTimes p (m+1) t)=none:=by simp [contP,pTimes,bindP_none h]
theorem contP_some {α:Type}{p:Par α}{l:List α}{m:Nat}{t t':ByteArray}{a:α}(h:p t=some (a,t')):contP l (pTimes p (m+1) t)=contP (l++[a]) (pTimes p m t'):=by
 simp only [pTimes,bindP_some h]
 cases hm:pTimes p m t' with
 | none=>simp [contP,bindP_none hm]
 | some q=>simp [contP,bindP_some hm,retP]
theorem contP_end {α:Type}(p:Par α)(l:List α)(t:ByteArray):contP l (pTimes p 0 t)=some (l,t):=by simp [contP,pTimes,retP]
theorem contP_start {α:Type}(o:Option (List α×ByteArray)):contP [] o=o:=by
 cases o<;>simp [contP]
theorem grown_only {w w':World}{v:Value}{L:List Nat}{o:Obj}(h:(w.alloc o).grownBy w' v.ownBlock)(hL:∀ b,v.ownBlock=some b→b∈L∨w.heap.size≤b):Only L w w':=((Only.refl _ w).alloc _).grown h hL
theorem own_at {w:World}{base e k n b:Nat}{v:Value}{xs:List Value}(h:w.ownsRow base e k v n xs)(hb:v.ownBlock=some b):base≤b∧b < w.heap.size∧∃ cur,w.heap[b]?=some (.cells cur e (0,0)):=by
 rcases h.2 with ⟨rfl,_⟩ | ⟨g,cap,cur,rfl,h1,h2,_⟩
 · cases hb
 · cases hb
   exact ⟨h1,(Array.getElem?_eq_some_iff.1 h2).1,cur,h2⟩
theorem own_low {w:World}{base b2 e k n:Nat}{v:Value}{xs:List Value}(h:w.ownsRow base e k v n xs)(hb:b2≤base):w.ownsRow b2 e k v n xs:=⟨h.1,by
 rcases h.2 with e | ⟨g,cp,cur,h1,h2,h3⟩
 · exact Or.inl e
 · exact Or.inr ⟨g,cp,cur,h1,Nat.le_trans hb h2,h3⟩⟩
theorem own_rws {α:Type}{w:World}{base e k B:Nat}{v:Value}{c:α→List Value}{l:List α}(h:w.ownsRow base e k v l.length (rowOf c l))(hc:∀ a,(c a).length=k)(hB:w.heap.size≤B):∃ ad cap,v = .slice ad l.length cap∧Rws w B c k ad l:=by
 rcases h.2 with ⟨rfl,hz⟩ | ⟨g,cap,cur,rfl,h1,h2,h3⟩
 · have:=List.eq_nil_of_length_eq_zero hz
   subst this;exact ⟨none,0,rfl,Rws.nil _ _ _ _ _⟩
 · refine ⟨_,_,rfl,⟨fun i x hx=>⟨g,rfl,Nat.lt_of_lt_of_le (Array.getElem?_eq_some_iff.1 h2).1 hB,fun j u hu=>?_⟩⟩⟩
   have hlt:i < l.length:=(List.getElem?_eq_some_iff.1 hx).1
   have hj:j < k:=by rw [← hc x];exact (List.getElem?_eq_some_iff.1 hu).1
   rw [World.ownsRow.cellAt h _ (by
    have:i*k+k≤l.length*k:=by rw [← Nat.succ_mul];exact Nat.mul_le_mul_right _ hlt
    omega),rowOf_get hc l i j x hj hx]
   exact hu
theorem row_snoc {α:Type}{w:World}{base e k n:Nat}{v:Value}{c:α→List Value}{l:List α}{x:α}(hn:l.length=n)(h:w.ownsRow base e k v (n+1) (rowOf c l++c x)):w.ownsRow base e k v (l++[x]).length (rowOf c (l++[x])):=by
 rw [rowOf_append,List.length_append,List.length_singleton,hn,show rowOf c [x]=c x by simp [rowOf]];exact h
def LEnd {α:Type}(A:Nat→Addr)(rb xb:Nat)(w:World)(t:ByteArray)(p:Par α)(T k:Nat)(c:α→List Value)(e:Ending)(w':World):Prop :=
 (∃ l t' v,pList p t=some (l,t')∧e = .returned v∧Only [xb] w w'∧RS w' A rb xb t'∧w'.ownsRow w.heap.size T k v l.length (rowOf c l))∨(pList p t=none∧e = .panicked (thr (eV A 0))∧Only [xb] w w')
theorem opC_len (x:OpV):(opC x).length=9:=rfl
theorem opC_one (x:OpV):∀ v∈opC x,v.oneCell'=true:=by
 intro v hv;simp only [opC,List.mem_cons,List.not_mem_nil,or_false] at hv;rcases hv with rfl | rfl | rfl | rfl | rfl | rfl | rfl | rfl | rfl<;>rfl
theorem opInfo:∃ i,Tryz.prog.info? 34=some i∧i.zero=some (.agg #[.string ⟨#[]⟩,.string ⟨#[]⟩,.string ⟨#[]⟩,.int .i64 0,.int .i64 0,.int .i64 0,.int .i64 0,.int .i64 0,.int .i64 0])∧i.size=9∧i.bytes=96:=by
 have h:(Tryz.prog.info? 34).map (fun i=>(i.zero,i.size,i.bytes))=some (some (.agg #[.string ⟨#[]⟩,.string ⟨#[]⟩,.string ⟨#[]⟩,.int .i64 0,.int .i64 0,.int .i64 0,.int .i64 0,.int .i64 0,.int .i64 0]),9,96):=by kernel_rfl
 obtain ⟨i,hi,hz⟩:=Option.map_eq_some_iff.1 h;simp only [Prod.mk.injEq] at hz;exact ⟨i,hi,hz⟩
theorem opsUnd:Tryz.prog.underlying 35=some (.slice 34):=by kernel_rfl
theorem op_news {w:World}(x:OpV)(ty:TypeId):∀ (r:Nat) (q:Value),(opC x)[r]?=some q→(w.alloc (.cells #[.string x.K,.string x.N,.string x.T,.int .i64 x.x1,.int .i64 x.x2,.int .i64 x.x3,.int .i64 x.x4,.int .i64 x.x5,.int .i64 x.x6] ty)).cell? ((⟨w.heap.size,0,none⟩:Addr).add r)=some q:=World.news_of_block (w:=w.alloc (.cells #[.string x.K,.string x.N,.string x.T,.int .i64 x.x1,.int .i64 x.x2,.int .i64 x.x3,.int .i64 x.x4,.int .i64 x.x5,.int .i64 x.x6] ty)) (heap_alloc_last w _)
theorem rOps (A:Nat→Addr)(rb xb:Nat)(t:ByteArray)(w:World)(h:RS w A rb xb t):Calls Tryz.prog 118 #[P0 rb,.func (.func 101) #[] #[]] w (LEnd A rb xb w t pOp 34 9 opC):=by
 obtain ⟨i0,hi0,hz0,hz1,hz2⟩:=opInfo;have K0:Hid (∀ _:Unit,_):=fun _=>yInt A rb xb t w h;have HX:Hid (xb < w.heap.size):=h.lt;have KX:Hid (∀ t1 w1,RS w1 A rb xb t1→_):=fun t1 w1 k=>rOp A rb xb t1 w1 k;have HH:Hid (RS w A rb xb t):=h;obtain ⟨pr,hpr⟩:∃ pr,pList pOp t=pr:=⟨_,rfl⟩;have HP:Hid (pList pOp t=pr):=hpr;have R0:Hid (pr=pList pOp t):=hpr.symm;have c0:=h.ptr;clear h hpr
 go_enter Tryz.func118,Tryz.ntmps118
 go_wp2_with fail
 clear c0;refine (K0.out ()).mono ?_;rintro e w1 (⟨n,t1,r,rfl,o,s⟩ | ⟨r,rfl,o⟩)
 rotate_left
 · go_wp2_with (go_at_call 73;refine (must_err _ _ _).mono ?_;rintro e w2 ⟨rfl,rfl⟩)
   exact ⟨rfl,Or.inr ⟨HP.out.trans (R0.out.trans (bindP_none r)),rfl,o⟩⟩
 have hnb:n < 4294967296:=by
   unfold pInt at r
   split at r
   · cases r
     exact numAt_lt t 4
   · cases r
 have R1:Hid (pr=contP [] (pTimes pOp n t1)):=(R0.out.trans (bindP_some r)).trans (contP_start _).symm;have O1:Hid (Only [xb] w w1):=o;have S1:Hid (RS w1 A rb xb t1):=s;clear r o s R0 K0
 go_wp2_with (go_at_call 73;refine (must_nil _).mono ?_;rintro e w2 ⟨rfl,rfl⟩)
 go_loopw [7,19] (fun v i wr=>∃ (j:Nat) (tj:ByteArray) (l:List OpV),j≤n∧i = .int .i64 (j:Nat)∧l.length=j∧pr=contP l (pTimes pOp (n - j) tj)∧Only [xb] w wr∧RS wr A rb xb tj∧wr.ownsRow w.heap.size 34 9 v l.length (rowOf opC l)) (fun _ i _=>n - (intOf i).toNat)
 case atStart=>exact ⟨0,t1,[],Nat.zero_le _,rfl,rfl,R1.out,O1.out,S1.out,World.ownsRow_nil _ _ _ _⟩
 case round =>
   obtain ⟨j,tj,l,hj,rfl,hlj,hr,ho,hs,hrow⟩:=hrel;have HL:Hid (l.length=j):=hlj;have R:Hid (pr=contP l (pTimes pOp (n - j) tj)):=hr;have O:Hid (Only [xb] w wr):=ho;have S:Hid (RS wr A rb xb tj):=hs
   have HROW:Hid (wr.ownsRow w.heap.size 34 9 u7 j (rowOf opC l)):=by
     rw [hlj] at hrow;exact hrow
   clear hr ho hs hrow hlj
   by_cases hlt:j < n
   · have RX:Hid (pr=contP l (pTimes pOp (n - (j+1)+1) tj)):=by
       have:=R.out;rw [show n - j=n - (j+1)+1 by omega] at this;exact this
     go_wp2_with fail
     refine (KX.out _ _ S.out).mono ?_;rintro e w2 (⟨a,t2,r2,rfl,o2,s2⟩ | ⟨r2,rfl,o2⟩)
     rotate_left
     · exact ⟨rfl,Or.inr ⟨HP.out.trans (RX.out.trans (contP_none r2)),rfl,O.out.seq o2⟩⟩
     have R2:Hid (pr=contP (l++[a]) (pTimes pOp (n - (j+1)) t2)):=RX.out.trans (contP_some r2);have O2:Hid (Only [xb] w w2):=O.out.seq o2;have S2:Hid (RS w2 A rb xb t2):=s2;have HROW2:Hid (w2.ownsRow w.heap.size 34 9 u7 j (rowOf opC l)):=o2.owns HROW.out (fun b hb=>by have:=(own_at HROW.out hb).1;have:=HX.out;simp;omega);clear r2 o2 s2 RX R
     go_wp2_with (first
       | (at_builtin;refine wpList_append_lies _ rfl (.tmp 21) (.tmp 25) 35 rfl w.heap.size 34 i0 _ 9 96 opsUnd hi0 hz0 hz1 hz2 rfl (by decide) u7 j _ rfl (World.ownsRow.alloc HROW2.out _) ⟨w2.heap.size,0,none⟩ 1 1 (opC a) rfl rfl (op_news a _) (opC_one a) (by decide) (by unfold maxLen;omega) (by omega) (by rw [World.size_alloc];have:=O2.out.size;omega) (w2.heap.size+1) (by simp) ?_;intro g5 c5 w5 hown5 hgr5 hat5 hlt5;have HV5:Hid (w5.ownsRow w.heap.size 34 9 (.slice (some ⟨g5,0,none⟩) (j+1) c5) (l++[a]).length (rowOf opC (l++[a]))):=row_snoc HL.out hown5;have HG5:Hid ((w2.alloc (.cells #[.string a.K,.string a.N,.string a.T,.int .i64 a.x1,.int .i64 a.x2,.int .i64 a.x3,.int .i64 a.x4,.int .i64 a.x5,.int .i64 a.x6] 34)).grownBy w5 u7.ownBlock):=hgr5;clear hown5 hgr5 hat5 hlt5)
       | go_in)
     go_roundw
     case rel =>
       have hg:Only u7.ownBlock.toList w2 w5:=grown_only HG5.out (fun b hb=>Or.inl (by simp [hb]));have hge:∀ k∈u7.ownBlock.toList,w.heap.size≤k:=fun k hk=>(own_at HROW2.out (by simpa using hk)).1;exact ⟨j+1,t2,l++[a],by omega,by go_num,by rw [List.length_append,HL.out];rfl,R2.out,O2.out.trans hg (fun k hk=>Or.inr (hge k hk)),HH.out.over S2.out hg hge,HV5.out⟩
     case measure=>simp [intOf];omega
   · obtain rfl:n=j:=by omega
     have R2:Hid (pr=some (l,tj)):=by
       have:=R.out;rw [Nat.sub_self,contP_end] at this;exact this
     go_wp2
     go_ret
     exact Or.inl ⟨_,_,_,HP.out.trans R2.out,rfl,O.out,S.out,by rw [HL.out];exact HROW.out⟩
end
end Go.Proofs.YtmfcfkomdflhlaaGreatDoor
