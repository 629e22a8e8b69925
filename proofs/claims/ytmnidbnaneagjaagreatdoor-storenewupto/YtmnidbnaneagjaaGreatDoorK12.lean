import Derived.Test.YtmnidbnaneagjaaGreatDoorK11
set_option maxHeartbeats 8000000
namespace Go.Proofs.YtmnidbnaneagjaaGreatDoor
section
open Go Go.RowKit Go.Deep Go.Maps
section
variable (w:World)(t:Nat)(p:Row)(most:Nat)(g:Nat→Nat)(nd:Nat→Option Nod)
theorem find_yes (i:Nat)(n:Nod)(h:TabAt w t p most g nd)(hn:nd i=some n)(w1:World)(ho:Only [] w w1):
  Calls Tryz.prog 244 #[.pointer (some ⟨t,0,none⟩),.agg #[.int .i64 i,.int .i64 (g i:Nat)]] w1 fun e w'=>e = .returned (.tuple #[.pointer (some ⟨n.b,0,none⟩),.nilIface])∧Only [] w1 w' :=
 find_ok w1 t p most i g nd n (h.kept ho (fun _ _=>by simp)) hn
end
theorem own_six {w w2:World}{B:Nat}{a b c d e f:Value}{ty:TypeId}(h:Only [] (w.alloc (.cells #[a,b,c,d,e,f] ty)) w2)(hB:w.heap.size=B):
  w2.cell? ⟨B,0,none⟩=some a∧w2.cell? ⟨B,1,none⟩=some b∧w2.cell? ⟨B,2,none⟩=some c∧w2.cell? ⟨B,3,none⟩=some d∧w2.cell? ⟨B,4,none⟩=some e∧w2.cell? ⟨B,5,none⟩=some f∧(∀ o,w2.frozen? ⟨B,o,none⟩=false)∧B < w2.heap.size:=by
 subst hB;have hh:=heap_alloc_last w (.cells #[a,b,c,d,e,f] ty)
 have hlt:w.heap.size < (w.alloc (.cells #[a,b,c,d,e,f] ty)).heap.size:=by simp
 refine ⟨(h.cell (p:=⟨w.heap.size,0,none⟩) hlt (by simp)).trans (cell_of_row _ _ 0 _ _ _ hh),(h.cell (p:=⟨w.heap.size,1,none⟩) hlt (by simp)).trans (cell_of_row _ _ 1 _ _ _ hh),(h.cell (p:=⟨w.heap.size,2,none⟩) hlt (by simp)).trans (cell_of_row _ _ 2 _ _ _ hh),
  (h.cell (p:=⟨w.heap.size,3,none⟩) hlt (by simp)).trans (cell_of_row _ _ 3 _ _ _ hh),(h.cell (p:=⟨w.heap.size,4,none⟩) hlt (by simp)).trans (cell_of_row _ _ 4 _ _ _ hh),(h.cell (p:=⟨w.heap.size,5,none⟩) hlt (by simp)).trans (cell_of_row _ _ 5 _ _ _ hh),fun o=>?_,Nat.lt_of_lt_of_le hlt h.size⟩
 rw [h.frozen (p:=⟨w.heap.size,o,none⟩) hlt (by simp)];unfold World.frozen?;rw [hh];simp
theorem own_pairB {w w2:World}{B:Nat}{a b:Int}{ty:TypeId}(h:Only [] (w.alloc (.cells #[.int .i64 a,.int .i64 b] ty)) w2)(hB:w.heap.size=B):
  w2.cell? ⟨B,0,none⟩=some (.int .i64 a)∧w2.cell? ⟨B,1,none⟩=some (.int .i64 b)∧(∀ o,w2.frozen? ⟨B,o,none⟩=false)∧B < w2.heap.size:=by
 subst hB;exact own_pair h
def attrV (K Z L C UN UG:Int):Value := .agg #[.int .i64 K,.int .i64 Z,.int .i64 L,.int .i64 C,.int .i64 UN,.int .i64 UG]
def errV (a:Addr):Value := .iface 535 (.pointer (some a))
theorem tdata_ok (w:World)(t:Nat)(p:Row)(most i:Nat)(g:Nat→Nat)(nd:Nat→Option Nod)(n:Nod)(h:TabAt w t p most g nd)(hn:nd i=some n)(hK:n.K=1):
  Calls Tryz.prog 154 #[.pointer (some ⟨t,0,none⟩),.agg #[.int .i64 i,.int .i64 (g i:Nat)]] w fun e w'=>e = .returned (.tuple #[.pointer (some ⟨n.b,6,none⟩),.nilIface])∧Only [] w w':=by
 have HC:Hid (∀ w1,Only [] w w1→_):=find_yes w t p most g nd i n h hn;have ck:=(h.node i n hn).c0;have HK:Hid (w.cell? ⟨n.b,0,none⟩=some (.int .i64 n.K)):=ck;have hbl:n.b < w.heap.size:=lt_of_cell ck;clear h hn ck;generalize n.b=nb at HC HK hbl ⊢
 go_enter Tryz.func154,Tryz.ntmps154
 go_wp2_with (go_at_call 244;go_must (refine (HC.out _ ((Only.refl _ _).alloc _)).mono ?_);rintro e w2 ⟨rfl,ho2⟩;have HO:Hid (Only [] w w2):=((Only.refl _ _).alloc _).trans ho2 (fun _ hk=>by cases hk);have c0:=(HO.out.cell (p:=⟨nb,0,none⟩) hbl (by simp)).trans HK.out;rw [hK] at c0)
 exact bodyPost_ret (v := .tuple #[.pointer (some ⟨nb,6,none⟩),.nilIface]) (by simp [results,Tryz.results154,go_sem]) rfl ⟨rfl,HO.out⟩
theorem tattr_ok (w:World)(t:Nat)(p:Row)(most i:Nat)(g:Nat→Nat)(nd:Nat→Option Nod)(n:Nod)(z:Int)(h:TabAt w t p most g nd)(hn:nd i=some n)(hz:n.K=1∧z=(n.S.size:Int)∨n.K=2∧z=n.Z):
   Calls Tryz.prog 239 #[.pointer (some ⟨t,0,none⟩),.agg #[.int .i64 i,.int .i64 (g i:Nat)]] w fun e w'=>e = .returned (.tuple #[attrV n.K z n.L n.C n.UN n.UG,.nilIface])∧Only [] w w':=by
 have HC:Hid (∀ w1,Only [] w w1→_):=find_yes w t p most g nd i n h hn;have hN:=h.node i n hn;have HN:Hid (NodAt w n):=hN;have hbl:n.b < w.heap.size:=lt_of_cell hN.c0;clear h hn hN;obtain ⟨nb,K,Z,L,C,UN,UG,S,H,m⟩:=n;simp only at HC hbl hz ⊢;have hle:w.heap.size≤w.heap.size+1:=Nat.le_succ _;rcases hz with ⟨rfl,hz⟩ | ⟨rfl,hz⟩
 all_goals rw [hz]
 all_goals clear hz
 · go_enter Tryz.func239,Tryz.ntmps239
   go_wp2_with (first
    | (go_at_call 244;go_must (refine (HC.out _ (((Only.refl _ _).alloc _).alloc _)).mono ?_);rintro e w2 ⟨rfl,ho2⟩;have HO:Hid (Only [] w w2):=(((Only.refl _ _).alloc _).alloc _).trans ho2 (fun _ hk=>by cases hk);obtain ⟨r0,r1,r2,r3,r4,r5,f0,hl0⟩:=own_six (B:=w.heap.size+1) ho2 (by simp);have HN2:Hid (NodAt w2 ⟨nb,1,Z,L,C,UN,UG,S,H,m⟩):=HN.out.kept HO.out (fun _ _=>by simp);obtain ⟨c0,c1,c2,c3,c4,c5,_⟩:=HN2.out;have hb2:nb < w2.heap.size:=lt_of_cell c0)
    | (go_at_call 155;go_must (refine (dsizeO _ nb 6 S H m (HN2.out.d.kept ((Only.refl [] _).alloc _) (fun _ _=>by simp))).mono ?_);rintro e w3 ⟨rfl,rfl⟩)
    | go_in)
   refine bodyPost_ret (v := .tuple #[attrV 1 (S.size:Nat) L C UN UG,.nilIface]) (by simp [results,Tryz.results239,go_sem,r0,r1,r2,r3,r4,r5,hl0,attrV]) rfl ⟨rfl,?_⟩;exact ((((((HO.out.setCell (Or.inr hle) _).setCell (Or.inr hle) _).setCell (Or.inr hle) _).setCell (Or.inr hle) _).setCell (Or.inr hle) _).setCell (Or.inr hle) _).alloc _
 · go_enter Tryz.func239,Tryz.ntmps239
   go_wp2_with (first
    | (go_at_call 244;go_must (refine (HC.out _ (((Only.refl _ _).alloc _).alloc _)).mono ?_);rintro e w2 ⟨rfl,ho2⟩;have HO:Hid (Only [] w w2):=(((Only.refl _ _).alloc _).alloc _).trans ho2 (fun _ hk=>by cases hk);obtain ⟨r0,r1,r2,r3,r4,r5,f0,hl0⟩:=own_six (B:=w.heap.size+1) ho2 (by simp);have HN2:Hid (NodAt w2 ⟨nb,2,Z,L,C,UN,UG,S,H,m⟩):=HN.out.kept HO.out (fun _ _=>by simp);obtain ⟨c0,c1,c2,c3,c4,c5,_⟩:=HN2.out;have hb2:nb < w2.heap.size:=lt_of_cell c0)
    | go_in)
   refine bodyPost_ret (v := .tuple #[attrV 2 Z L C UN UG,.nilIface]) (by simp [results,Tryz.results239,go_sem,r0,r1,r2,r3,r4,r5,hl0,attrV]) rfl ⟨rfl,?_⟩;exact ((((((HO.out.setCell (Or.inr hle) _).setCell (Or.inr hle) _).setCell (Or.inr hle) _).setCell (Or.inr hle) _).setCell (Or.inr hle) _).setCell (Or.inr hle) _).alloc _
theorem DataO.put {w:World}{g o k:Nat}{S:ByteArray}{H:List Bool}{m:Option Nat}(h:DataO w g o S H m)(h0:k≠o)(h1:k≠o+1)(v:Value):DataO (w.setCell ⟨g,k,none⟩ v) g o S H m:=by
 obtain ⟨f,hs,hm⟩:=h.holds;refine ⟨?_,?_,fun j=>?_,h.ty.set _ _,f,hs,?_⟩
 · rw [World.cell?_setCell_other _ _ _ _ (by simp)];exact h.size
 · rw [World.cell?_setCell_other _ _ _ _ (by simp)];exact h.map
 · rw [World.frozen?_setCell];exact h.fz j
 · cases m with
   | none=>exact hm
   | some b =>
    obtain ⟨D,d1,d2⟩:=hm;exact ⟨D,d1.setCell (own_ne d1 h.size) _,d2⟩
theorem NodAt.putZ {w:World}{n:Nod}(h:NodAt w n)(z:Int):NodAt (w.setCell ⟨n.b,1,none⟩ (.int .i64 z)) { n with Z:=z }:=⟨(World.cell?_setCell_other _ _ _ _ (by simp)).trans h.c0,World.cell?_setCell_same _ _ _ h.c1,(World.cell?_setCell_other _ _ _ _ (by simp)).trans h.c2,(World.cell?_setCell_other _ _ _ _ (by simp)).trans h.c3,(World.cell?_setCell_other _ _ _ _ (by simp)).trans h.c4,(World.cell?_setCell_other _ _ _ _ (by simp)).trans h.c5,h.d.put (by omega) (by omega) _⟩
theorem NodAt.putL {w:World}{n:Nod}(h:NodAt w n)(z:Int):NodAt (w.setCell ⟨n.b,2,none⟩ (.int .i64 z)) { n with L:=z }:=⟨(World.cell?_setCell_other _ _ _ _ (by simp)).trans h.c0,(World.cell?_setCell_other _ _ _ _ (by simp)).trans h.c1,World.cell?_setCell_same _ _ _ h.c2,(World.cell?_setCell_other _ _ _ _ (by simp)).trans h.c3,(World.cell?_setCell_other _ _ _ _ (by simp)).trans h.c4,(World.cell?_setCell_other _ _ _ _ (by simp)).trans h.c5,h.d.put (by omega) (by omega) _⟩
theorem NodAt.putC {w:World}{n:Nod}(h:NodAt w n)(z:Int):NodAt (w.setCell ⟨n.b,3,none⟩ (.int .i64 z)) { n with C:=z }:=⟨(World.cell?_setCell_other _ _ _ _ (by simp)).trans h.c0,(World.cell?_setCell_other _ _ _ _ (by simp)).trans h.c1,(World.cell?_setCell_other _ _ _ _ (by simp)).trans h.c2,World.cell?_setCell_same _ _ _ h.c3,(World.cell?_setCell_other _ _ _ _ (by simp)).trans h.c4,(World.cell?_setCell_other _ _ _ _ (by simp)).trans h.c5,h.d.put (by omega) (by omega) _⟩
theorem NodAt.putUN {w:World}{n:Nod}(h:NodAt w n)(z:Int):NodAt (w.setCell ⟨n.b,4,none⟩ (.int .i64 z)) { n with UN:=z }:=⟨(World.cell?_setCell_other _ _ _ _ (by simp)).trans h.c0,(World.cell?_setCell_other _ _ _ _ (by simp)).trans h.c1,(World.cell?_setCell_other _ _ _ _ (by simp)).trans h.c2,(World.cell?_setCell_other _ _ _ _ (by simp)).trans h.c3,World.cell?_setCell_same _ _ _ h.c4,(World.cell?_setCell_other _ _ _ _ (by simp)).trans h.c5,h.d.put (by omega) (by omega) _⟩
theorem NodAt.putUG {w:World}{n:Nod}(h:NodAt w n)(z:Int):NodAt (w.setCell ⟨n.b,5,none⟩ (.int .i64 z)) { n with UG:=z }:=⟨(World.cell?_setCell_other _ _ _ _ (by simp)).trans h.c0,(World.cell?_setCell_other _ _ _ _ (by simp)).trans h.c1,(World.cell?_setCell_other _ _ _ _ (by simp)).trans h.c2,(World.cell?_setCell_other _ _ _ _ (by simp)).trans h.c3,(World.cell?_setCell_other _ _ _ _ (by simp)).trans h.c4,World.cell?_setCell_same _ _ _ h.c5,h.d.put (by omega) (by omega) _⟩
theorem TabAt.put {w w2 w':World}{t most i:Nat}{p:Row}{g:Nat→Nat}{nd:Nat→Option Nod}{n n':Nod}(h:TabAt w t p most g nd)(ho:Only [] w w2)(hn:nd i=some n)(hb:n'.b=n.b)(hm:n'.m=n.m)(hN:NodAt w' n')(hw:Only [n.b] w2 w'):
  TabAt w' t p most g (setN nd i (some n'))∧Only [n.b] w w':=by
 have o:Only [n.b] w w':=(ho.mono (L':=[n.b]) (by simp)).trans hw (fun i hi=>Or.inl hi);refine ⟨h.turn hn hb hN (o.mono (fun k hk=>Or.inl (by simp at hk;subst hk;exact n.b_foot))) (fun k hk=>Or.inl ?_),o⟩;unfold Nod.foot at hk ⊢;rw [hb,hm] at hk;exact hk
theorem ttouch_ok (w:World)(t:Nat)(p:Row)(most i:Nat)(g:Nat→Nat)(nd:Nat→Option Nod)(n:Nod)(h:TabAt w t p most g nd)(hn:nd i=some n)(hC:0≤n.C∧n.C≤9000000000000000000):
  Calls Tryz.prog 344 #[.pointer (some ⟨t,0,none⟩),.agg #[.int .i64 i,.int .i64 (g i:Nat)]] w fun e w'=>e = .returned .nilIface∧TabAt w' t p most g (setN nd i (some { n with C:=n.C+1 }))∧Only [n.b] w w':=by
 have HC:Hid (∀ w1,Only [] w w1→_):=find_yes w t p most g nd i n h hn;have HN:Hid (NodAt w n):=h.node i n hn;have HT:Hid (TabAt w t p most g nd):=h;have HI:Hid (nd i=some n):=hn;clear h hn;obtain ⟨hC0,hC1⟩:=hC
 go_enter Tryz.func344,Tryz.ntmps344
 go_wp2_with (go_at_call 244;go_must (refine (HC.out _ ((Only.refl _ _).alloc _)).mono ?_);rintro e w2 ⟨rfl,ho2⟩;have HO:Hid (Only [] w w2):=((Only.refl _ _).alloc _).trans ho2 (fun _ hk=>by cases hk);have HN2:Hid (NodAt w2 n):=HN.out.kept HO.out (fun _ _=>by simp);have c3:=HN2.out.c3;have f3:=HN2.out.d.fz 3)
 go_ret
 exact ⟨rfl,HT.out.put HO.out HI.out rfl rfl (HN2.out.putC _) ((Only.refl _ _).setCell (Or.inl (by simp)) _)⟩
theorem tadj_file (w:World)(t:Nat)(p:Row)(most i:Nat)(g:Nat→Nat)(nd:Nat→Option Nod)(n:Nod)(a b c d:Int)(h:TabAt w t p most g nd)(hn:nd i=some n)(hab:0≤a∧0≤b)(hK:n.K=1):
  Calls Tryz.prog 311 #[.pointer (some ⟨t,0,none⟩),.agg #[.int .i64 i,.int .i64 (g i:Nat)],.int .i64 a,.int .i64 b,.agg #[.int .i64 c,.int .i64 d]] w fun e w'=>e = .returned .nilIface∧TabAt w' t p most g (setN nd i (some { n with L:=b }))∧Only [n.b] w w':=by
 have HC:Hid (∀ w1,Only [] w w1→_):=find_yes w t p most g nd i n h hn;have HN:Hid (NodAt w n):=h.node i n hn;have HT:Hid (TabAt w t p most g nd):=h;have HI:Hid (nd i=some n):=hn;clear h hn;have hd1:decide (a < 0)=false:=decide_eq_false (by omega);have hd2:decide (b < 0)=false:=decide_eq_false (by omega)
 go_enter Tryz.func311,Tryz.ntmps311
 go_wp2_with (go_at_call 244;go_must (refine (HC.out _ (((Only.refl _ _).alloc _).alloc _)).mono ?_);rintro e w2 ⟨rfl,ho2⟩;have HO:Hid (Only [] w w2):=(((Only.refl _ _).alloc _).alloc _).trans ho2 (fun _ hk=>by cases hk);have HN2:Hid (NodAt w2 n):=HN.out.kept HO.out (fun _ _=>by simp);have c0:=HN2.out.c0;rw [hK] at c0;have c2:=HN2.out.c2;have f3:=HN2.out.d.fz)
 go_ret
 exact ⟨rfl,HT.out.put HO.out HI.out rfl rfl (HN2.out.putL b) ((Only.refl _ _).setCell (Or.inl (by simp)) _)⟩
theorem tadj_dir (w:World)(t:Nat)(p:Row)(most i:Nat)(g:Nat→Nat)(nd:Nat→Option Nod)(n:Nod)(a b c d:Int)(h:TabAt w t p most g nd)(hn:nd i=some n)(hab:0≤a∧0≤b)(hK:n.K=2):
  Calls Tryz.prog 311 #[.pointer (some ⟨t,0,none⟩),.agg #[.int .i64 i,.int .i64 (g i:Nat)],.int .i64 a,.int .i64 b,.agg #[.int .i64 c,.int .i64 d]] w fun e w'=>e = .returned .nilIface∧TabAt w' t p most g (setN nd i (some { n with Z:=a,UN:=c,UG:=d,L:=b }))∧Only [n.b] w w':=by
 have HC:Hid (∀ w1,Only [] w w1→_):=find_yes w t p most g nd i n h hn;have HN:Hid (NodAt w n):=h.node i n hn;have HT:Hid (TabAt w t p most g nd):=h;have HI:Hid (nd i=some n):=hn;clear h hn;have hd1:decide (a < 0)=false:=decide_eq_false (by omega);have hd2:decide (b < 0)=false:=decide_eq_false (by omega)
 go_enter Tryz.func311,Tryz.ntmps311
 go_wp2_with (go_at_call 244;go_must (refine (HC.out _ (((Only.refl _ _).alloc _).alloc _)).mono ?_);rintro e w2 ⟨rfl,ho2⟩;have HO:Hid (Only [] w w2):=(((Only.refl _ _).alloc _).alloc _).trans ho2 (fun _ hk=>by cases hk);have HN2:Hid (NodAt w2 n):=HN.out.kept HO.out (fun _ _=>by simp);have c0:=HN2.out.c0;rw [hK] at c0;have c1:=HN2.out.c1;have c2:=HN2.out.c2;have c4:=HN2.out.c4;have c5:=HN2.out.c5;have f3:=HN2.out.d.fz;obtain ⟨u0,u1,fu,hlu⟩:=own_pairB (B:=w.heap.size+1) ho2 (by simp);have hbl:=lt_of_cell c0;have hbw:=lt_of_cell HN.out.c0)
 go_region
 go_wp2
 go_ret
 have o5:Only [n.b] w2 ((((w2.setCell ⟨n.b,1,none⟩ (.int .i64 a)).setCell ⟨n.b,4,none⟩ (.int .i64 c)).setCell ⟨n.b,5,none⟩ (.int .i64 d)).setCell ⟨n.b,2,none⟩ (.int .i64 b)) :=
  ((((Only.refl [n.b] w2).setCell (Or.inl (by simp)) _).setCell (Or.inl (by simp)) _).setCell (Or.inl (by simp)) _).setCell (Or.inl (by simp)) _
 have hN5:=(((HN2.out.putZ a).putUN c).putUG d).putL b;exact ⟨rfl,HT.out.put (n':={ n with Z:=a,UN:=c,UG:=d,L:=b }) HO.out HI.out rfl rfl (hN5.kept ((Only.refl [] _).drew) (fun _ _=>by simp)) o5.drew⟩
theorem setN_again {α:Type}(f:Nat→α)(i:Nat)(a b:α):setN (setN f i a) i b=setN f i b:=by
 funext j
 by_cases h:j=i
 · subst h;rw [setN_same,setN_same]
 · rw [setN_other _ _ h,setN_other _ _ h,setN_other _ _ h]
structure DirM where
 b:Nat
 l:List Ent
structure Tr where
 t:Nat
 p:Row
 most:Nat
 g:Nat→Nat
 nd:Nat→Option Nod
 db:Nat
 ds:Nat→Option DirM
 pb:Nat
 pn:Nat→Nat
def Tr.dirsF (T:Tr)(k:Nat×Nat):Option Nat:=if k.2=T.g k.1 then (T.ds k.1).map (·.b) else none
def Tr.pinsF (T:Tr)(k:Nat×Nat):Option Nat:=if k.2=T.g k.1∧0 < T.pn k.1 then some (T.pn k.1) else none
def numD (n:Nat):DataW Unit := .lit (.int .i64 n)
def DirsAt (w:World)(T:Tr):Prop:=∃ D n,w.ownsMap Tryz.prog 94 mapElem T.db n D∧n≤1000000∧Reads hkey numD D T.dirsF
def PinsAt (w:World)(T:Tr):Prop:=∃ D n,w.ownsMap Tryz.prog 94 (plainElem Tryz.prog 3) T.pb n D∧n≤1000000∧Reads hkey numD D T.pinsF
def DirAt (w:World)(d:DirM):Prop:=w.ownsMap Tryz.prog 9 handElem d.b d.l.length (entD d.l)
structure Small (T:Tr):Prop where
 N:T.p.N≤1000
 g:∀ i,T.g i≤5000000000000000000
structure TreeAt (w:World)(tr:Nat)(T:Tr):Prop where
 c0:w.cell? ⟨tr,0,none⟩=some (.pointer (some ⟨T.t,0,none⟩))
 c1:w.cell? ⟨tr,1,none⟩=some (.map (some T.db))
 c2:w.cell? ⟨tr,2,none⟩=some (.map (some T.pb))
 tab:TabAt w T.t T.p T.most T.g T.nd
 dirs:DirsAt w T
 dir:∀ i d,T.ds i=some d→DirAt w d
 pins:PinsAt w T
 one:∀ i j d d',T.ds i=some d→T.ds j=some d'→d.b=d'.b→i=j
 small:Small T
 ftr:¬ InFoot T.t T.p T.most T.nd tr
 fdb:¬ InFoot T.t T.p T.most T.nd T.db
 fpb:¬ InFoot T.t T.p T.most T.nd T.pb
 fdir:∀ i d,T.ds i=some d→¬ InFoot T.t T.p T.most T.nd d.b∧d.b≠T.db∧d.b≠T.pb
 dp:T.db≠T.pb
 dlt:∀ i d,T.ds i=some d→i < T.p.N
 plt:∀ i,0 < T.pn i→i < T.p.N
def FootT (tr:Nat)(T:Tr)(k:Nat):Prop:=k=tr∨k=T.db∨k=T.pb∨(∃ i d,T.ds i=some d∧k=d.b)∨InFoot T.t T.p T.most T.nd k
section
variable {w w':World}{tr:Nat}{T:Tr}
theorem own_only {K:TypeId}{R:Value→Option (DataW Unit×List MemPlace)}{b n:Nat}{D:DataW Unit}{L:List Nat}(h:w.ownsMap Tryz.prog K R b n D)(ho:Only L w w')(hb:b∉L):w'.ownsMap Tryz.prog K R b n D:=by
 have hlt:=h.lt;obtain ⟨es,clock,h1,r⟩:=h;exact ⟨es,clock,(ho.block b hlt hb).trans h1,r⟩
theorem own_sized {K:TypeId}{R:Value→Option (DataW Unit×List MemPlace)}{b n:Nat}{D:DataW Unit}(h:w.ownsMap Tryz.prog K R b n D):w.ownsMap Tryz.prog K R b (Maps.size D) D:=by
 obtain ⟨es,clock,hb,F,_,rfl⟩:=h;exact ⟨es,clock,hb,F,by simp [Maps.size,length_sorted],rfl⟩
theorem own_ne_cell {K:TypeId}{R:Value→Option (DataW Unit×List MemPlace)}{b n g o:Nat}{D:DataW Unit}{v:Value}(h:w.ownsMap Tryz.prog K R b n D)(hc:w.cell? ⟨g,o,none⟩=some v):b≠g:=by
 obtain ⟨es,clock,hb,_⟩:=h;intro e;subst e;simp [World.cell?,hb] at hc
theorem TreeAt.foot_lt (h:TreeAt w tr T):∀ k,FootT tr T k→k < w.heap.size:=by
 rintro k (rfl | rfl | rfl | ⟨i,d,hd,rfl⟩ | hk)
 · exact lt_of_cell h.c0
 · obtain ⟨D,n,h1,_⟩:=h.dirs;exact h1.lt
 · obtain ⟨D,n,h1,_⟩:=h.pins;exact h1.lt
 · exact World.ownsMap.lt (h.dir i d hd)
 · exact h.tab.foot_lt k hk
theorem TreeAt.kept {L:List Nat}(h:TreeAt w tr T)(ho:Only L w w')(hd:∀ k,FootT tr T k→k∉L):TreeAt w' tr T:=by
 have htr:tr < w.heap.size:=lt_of_cell h.c0;have hl:=hd tr (Or.inl rfl);obtain ⟨D,n,d1,d2,d3⟩:=h.dirs;obtain ⟨P,m,p1,p2,p3⟩:=h.pins
 exact ⟨(ho.cell (p:=⟨tr,0,none⟩) htr hl).trans h.c0,(ho.cell (p:=⟨tr,1,none⟩) htr hl).trans h.c1,(ho.cell (p:=⟨tr,2,none⟩) htr hl).trans h.c2,
  h.tab.kept ho (fun k hk=>hd k (Or.inr (Or.inr (Or.inr (Or.inr hk))))),⟨D,n,own_only d1 ho (hd _ (Or.inr (Or.inl rfl))),d2,d3⟩,fun i d e=>own_only (h.dir i d e) ho (hd _ (Or.inr (Or.inr (Or.inr (Or.inl ⟨i,d,e,rfl⟩))))),
  ⟨P,m,own_only p1 ho (hd _ (Or.inr (Or.inr (Or.inl rfl)))),p2,p3⟩,h.one,h.small,h.ftr,h.fdb,h.fpb,h.fdir,h.dp,h.dlt,h.plt⟩
theorem TreeAt.only (h:TreeAt w tr T)(ho:Only [] w w'):TreeAt w' tr T:=h.kept ho (fun _ _=>by simp)
theorem TreeAt.table {p':Row}{g':Nat→Nat}{nd':Nat→Option Nod}{L:List Nat}(h:TreeAt w tr T)(ht:TabAt w' T.t p' T.most g' nd')(ho:Only L w w')(hL:∀ k∈L,InFoot T.t T.p T.most T.nd k)
  (hf:∀ k,InFoot T.t p' T.most nd' k→InFoot T.t T.p T.most T.nd k∨w.heap.size≤k) (hs:Small { T with p:=p',g:=g',nd:=nd' }) (hN:T.p.N≤p'.N) (hd:∀ k,Tr.dirsF { T with p:=p',g:=g',nd:=nd' } k=T.dirsF k) (hp:∀ k,Tr.pinsF { T with p:=p',g:=g',nd:=nd' } k=T.pinsF k) :
  TreeAt w' tr { T with p:=p',g:=g',nd:=nd' }:=by
 have htr:tr < w.heap.size:=lt_of_cell h.c0;have hl:tr∉L:=fun hm=>h.ftr (hL tr hm);obtain ⟨D,n,d1,d2,d3⟩:=h.dirs;obtain ⟨P,m,p1,p2,p3⟩:=h.pins
 have away:∀ k,k < w.heap.size→¬ InFoot T.t T.p T.most T.nd k→¬ InFoot T.t p' T.most nd' k:=fun k hk hn hm=>by
  rcases hf k hm with h1 | h1
  · exact hn h1
  · omega
 refine ⟨(ho.cell (p:=⟨tr,0,none⟩) htr hl).trans h.c0,(ho.cell (p:=⟨tr,1,none⟩) htr hl).trans h.c1,(ho.cell (p:=⟨tr,2,none⟩) htr hl).trans h.c2,ht,
  ⟨D,n,own_only d1 ho (fun hm=>h.fdb (hL _ hm)),d2,d3.congr hd⟩,fun i d e=>own_only (h.dir i d e) ho (fun hm=>(h.fdir i d e).1 (hL _ hm)),⟨P,m,own_only p1 ho (fun hm=>h.fpb (hL _ hm)),p2,p3.congr hp⟩,h.one,hs,
  away _ htr h.ftr,away _ d1.lt h.fdb,away _ p1.lt h.fpb,fun i d e=>⟨away _ (World.ownsMap.lt (h.dir i d e)) (h.fdir i d e).1,(h.fdir i d e).2⟩,h.dp,fun i d e=>Nat.lt_of_lt_of_le (h.dlt i d e) hN,fun i e=>Nat.lt_of_lt_of_le (h.plt i e) hN⟩
theorem TreeAt.node {i:Nat}{n n':Nod}(h:TreeAt w tr T)(hn:T.nd i=some n)(hb:n'.b=n.b)(hm:n'.m=n.m)(ht:TabAt w' T.t T.p T.most T.g (setN T.nd i (some n')))(ho:Only [n.b] w w'):TreeAt w' tr { T with nd:=setN T.nd i (some n') } :=
 h.table (p':=T.p) (g':=T.g) ht ho (fun k hk=>by simp at hk;subst hk;exact .node hn n.b_foot) (fun k hk=>Or.inl (by
  rcases hk with h1 | h1 | ⟨j,m,hj,hk⟩
  · exact Or.inl h1
  · exact Or.inr (Or.inl h1)
  · by_cases e:j=i
    · subst e
      rw [setN_same] at hj
      cases hj
      refine .node hn ?_;unfold Nod.foot at hk ⊢;rw [hb,hm] at hk;exact hk
    · rw [setN_other _ _ e] at hj
      exact .node hj hk)) ⟨h.small.N,h.small.g⟩ (Nat.le_refl _) (fun _=>rfl) (fun _=>rfl)
theorem hkey_inj {i c j e:Nat}(hi:i < 9223372036854775808)(hc:c < 9223372036854775808)(hj:j < 9223372036854775808)(he:e < 9223372036854775808)(h:hkey (i,c)=hkey (j,e)):i=j∧c=e:=by
 have h1:=keyOf_handle hi hc;rw [h] at h1;exact handV_inj (lawH.inj h1 (keyOf_handle hj he))
theorem hkey_only {i c:Nat}(hi:i < 9223372036854775808)(hc:c < 9223372036854775808)(j:Nat×Nat)(h:hkey j=hkey (i,c)):j=(i,c):=by
 obtain ⟨j1,j2⟩:=j
 by_cases hj:j1 < 9223372036854775808∧j2 < 9223372036854775808
 · obtain ⟨rfl,rfl⟩:=hkey_inj hj.1 hj.2 hi hc h
   rfl
 · unfold hkey at h
   rw [if_neg hj,if_pos ⟨hi,hc⟩] at h
   cases h
theorem reads_size {val:Nat→DataW Unit}{D:DataW Unit}{f:Nat×Nat→Option Nat}{g:Nat→Nat}{N:Nat}(ht:Tidy D)(hK:∀ es,D = .map es→∀ p∈es,WideAt.IsKeyLit p.1)(hr:Reads hkey val D f)(hk:∀ i c,f (i,c)≠none→c=g i∧i < N)(hN:N≤1000)(hg:∀ i,g i≤5000000000000000000):Maps.size D≤N:=by
 obtain ⟨es,rfl,hp⟩:=ht
 have n1:(es.map Prod.fst).Nodup:=by
  unfold List.Nodup;rw [List.pairwise_map];exact hp
 have n2:(((List.range N).filter (fun i=>(f (i,g i)).isSome)).map (fun i=>hkey (i,g i))).Nodup:=by
  unfold List.Nodup;rw [List.pairwise_map];refine (List.Pairwise.filter _ (List.nodup_range (n:=N))).imp_of_mem fun {i j} hi hj hne e=>?_;have h1:=List.mem_range.1 (List.mem_filter.1 hi).1;have h2:=List.mem_range.1 (List.mem_filter.1 hj).1;have h3:=hg i;have h4:=hg j;exact hne (hkey_inj (by omega) (by omega) (by omega) (by omega) e).1
 have hm:(es.map Prod.fst).Perm (((List.range N).filter (fun i=>(f (i,g i)).isSome)).map (fun i=>hkey (i,g i))):=by
  rw [List.perm_ext_iff_of_nodup n1 n2];intro kl
  constructor
  · intro hkl
    obtain ⟨p,hp1,rfl⟩:=List.mem_map.1 hkl;have hh:has (.map es) p.1=true:=List.any_eq_true.2 ⟨p,hp1,WideAt.sameKey_self (hK es rfl p hp1)⟩;obtain ⟨⟨i,c⟩,v,e,hf⟩:=hr.keys _ hh;obtain ⟨rfl,h2⟩:=hk i c (by rw [hf];simp);exact List.mem_map.2 ⟨i,List.mem_filter.2 ⟨List.mem_range.2 h2,by rw [hf];rfl⟩,e.symm⟩
  · intro hkl
    obtain ⟨i,hi,rfl⟩:=List.mem_map.1 hkl;have hs:=(List.mem_filter.1 hi).2;rw [← hr.isSome] at hs;obtain ⟨p,hp1,hp2⟩:=List.any_eq_true.1 hs;exact List.mem_map.2 ⟨p,hp1,WideAt.sameKey_eq hp2⟩
 have h1:=hm.length_eq;have h2:=List.length_filter_le (fun i=>(f (i,g i)).isSome) (List.range N);simp only [List.length_map,List.length_range] at h1 h2;show es.length≤N;omega
theorem own_keys {R:Value→Option (DataW Unit×List MemPlace)}{b n:Nat}{D:DataW Unit}(h:w.ownsMap Tryz.prog 94 R b n D):∀ es,D = .map es→∀ p∈es,WideAt.IsKeyLit p.1:=fun es e p hp=>by
 obtain ⟨es',e',_,hk⟩:=h.entries lawH;rw [e] at e'
 cases e'
 exact hk p hp
theorem dirsF_key (T:Tr)(hd:∀ i d,T.ds i=some d→i < T.p.N)(i c:Nat)(h:T.dirsF (i,c)≠none):c=T.g i∧i < T.p.N:=by
 unfold Tr.dirsF at h
 by_cases e:c=T.g i
 · refine ⟨e,?_⟩
   cases hx:T.ds i with
   | none=>simp [hx] at h
   | some d=>exact hd i d hx
 · simp [e] at h
theorem dirs_put {n:Nat}{D:DataW Unit}{T':Tr}(h1:w'.ownsMap Tryz.prog 94 mapElem T'.db n D)(h2:Reads hkey numD D T'.dirsF)(h3:∀ i d,T'.ds i=some d→i < T'.p.N)(hs:Small T'):DirsAt w' T' :=
 ⟨D,_,own_sized h1,by have:=reads_size (h1.tidy lawH) (own_keys h1) h2 (dirsF_key T' h3) hs.N hs.g;have:=hs.N;omega,h2⟩
theorem TreeAt.key (h:TreeAt w tr T){i:Nat}(hi:i < T.p.N):keyOf Tryz.prog 94 (handV i (T.g i))=some (hkey (i,T.g i)) :=
 keyOf_handle (by have:=h.small.N;omega) (by have:=h.small.g i;omega)
end
theorem own_six_drew {w w2:World}{B:Nat}{a b c d e f:Value}{ty:TypeId}(h:Only [] (w.alloc (.cells #[a,b,c,d,e,f] ty)).drew w2)(hB:w.heap.size=B):
 w2.cell? ⟨B,0,none⟩=some a∧w2.cell? ⟨B,1,none⟩=some b∧w2.cell? ⟨B,2,none⟩=some c∧w2.cell? ⟨B,3,none⟩=some d∧w2.cell? ⟨B,4,none⟩=some e∧w2.cell? ⟨B,5,none⟩=some f∧(∀ o,w2.frozen? ⟨B,o,none⟩=false)∧B < w2.heap.size:=own_six h.of_drew hB
def Held (tr t B:Nat)(i gi:Nat)(W:World):Prop:=W.cell? ⟨tr,0,none⟩=some (.pointer (some ⟨t,0,none⟩))∧W.cell? ⟨B,0,none⟩=some (.int .i64 i)∧W.cell? ⟨B,1,none⟩=some (.int .i64 (gi:Nat))
theorem Held.only {w W:World}{tr t B i gi:Nat}{L:List Nat}(h:Held tr t B i gi w)(ho:Only L w W)(h1:tr∉L)(h2:B∉L):Held tr t B i gi W :=
 ⟨(ho.cell (p:=⟨tr,0,none⟩) (lt_of_cell h.1) h1).trans h.1,(ho.cell (p:=⟨B,0,none⟩) (lt_of_cell h.2.1) h2).trans h.2.1,(ho.cell (p:=⟨B,1,none⟩) (lt_of_cell h.2.2) h2).trans h.2.2⟩
theorem Held.first {w:World}{tr t i gi:Nat}{ty:TypeId}(ct:w.cell? ⟨tr,0,none⟩=some (.pointer (some ⟨t,0,none⟩))):Held tr t w.heap.size i gi (w.alloc (.cells #[.int .i64 i,.int .i64 (gi:Nat)] ty)):=by
 have hh:=heap_alloc_last w (.cells #[.int .i64 i,.int .i64 (gi:Nat)] ty);exact ⟨(((Only.refl [] w).alloc _).cell (p:=⟨tr,0,none⟩) (lt_of_cell ct) (by simp)).trans ct,cell_of_row _ _ 0 _ _ _ hh,cell_of_row _ _ 1 _ _ _ hh⟩
theorem isDir_any (w:World)(tr:Nat)(T:Tr)(i:Nat)(h:TreeAt w tr T)(hi:i < T.p.N):
  Calls Tryz.prog 310 #[.pointer (some ⟨tr,0,none⟩),.agg #[.int .i64 i,.int .i64 (T.g i:Nat)]] w fun e w'=>e = .returned (.bool (T.ds i).isSome)∧Only [] w w':=by
 have ct:=h.c1;have htl:tr < w.heap.size:=lt_of_cell ct;obtain ⟨D,n,d1,_,d3⟩:=h.dirs;have d1':=own_only d1 (((Only.refl [] w).alloc (.cells #[.int .i64 i,.int .i64 (T.g i:Nat)] 94)).drew) (by simp)
 have hhas:has D (hkey (i,T.g i))=(T.ds i).isSome:=by
  rw [d3.isSome];unfold Tr.dirsF;rw [if_pos rfl]
  cases T.ds i<;>rfl
 obtain ⟨v,ps,hrun,_⟩:=d1'.look_ok lawH undDirs (zeroDir _) (zd := .lit (.int .i64 (-1))) (zp:=[]) rfl (h.key hi);rw [hhas] at hrun;unfold handV at hrun;clear h d1 d1' d3 hhas;generalize T.db=db at ct hrun;generalize T.g i=gi at hrun ⊢;generalize (T.ds i).isSome=x at hrun ⊢
 go_enter Tryz.func310,Tryz.ntmps310
 go_wp2
 go_region
 go_wp2
 go_ret
 exact ⟨rfl,((Only.refl _ _).alloc _).drew⟩
theorem touch_ok (w:World)(tr:Nat)(T:Tr)(i:Nat)(n:Nod)(h:TreeAt w tr T)(hn:T.nd i=some n)(hC:0≤n.C∧n.C≤9000000000000000000):
  Calls Tryz.prog 268 #[.pointer (some ⟨tr,0,none⟩),.agg #[.int .i64 i,.int .i64 (T.g i:Nat)]] w fun e w'=>e = .returned (.tuple #[])∧TreeAt w' tr { T with nd:=setN T.nd i (some { n with C:=n.C+1 }) }∧Only [n.b] w w':=by
 have HC:Hid (∀ w1,Only [] w w1→_):=fun w1 (ho:Only [] w w1)=>ttouch_ok w1 T.t T.p T.most i T.g T.nd n (h.tab.kept ho (fun _ _=>by simp)) hn hC;have H:Hid (TreeAt w tr T):=h;have HN:Hid (T.nd i=some n):=hn;have ct:=h.c0;have htl:tr < w.heap.size:=lt_of_cell ct;clear h hn hC;have HS0:Hid (Held tr T.t w.heap.size i (T.g i) (w.alloc (.cells #[.int .i64 i,.int .i64 (T.g i:Nat)] 94)).drew):=(Held.first ct).only ((Only.refl [] _).drew) (by simp) (by simp);have hnb:n.b < w.heap.size:=lt_of_cell (H.out.tab.node i n HN.out).c0
 have HNB:Hid (w.heap.size∉[n.b]):=show w.heap.size∉[n.b] from (fun hm=>by have e:w.heap.size=n.b:=(by simpa using hm);omega)
 have HNT:Hid (tr∉[n.b]):=show tr∉[n.b] from (fun hm=>by have e:tr=n.b:=(by simpa using hm);exact H.out.ftr (by rw [e];exact .node HN.out n.b_foot))
 clear ct;have HW1:Hid (Only [] w (w.alloc (.cells #[.int .i64 i,.int .i64 (T.g i:Nat)] 94)).drew):=((Only.refl [] _).alloc _).drew
 go_enter Tryz.func268,Tryz.ntmps268
 go_wp2
 go_region_held3 (fun W=>W.cell? ⟨tr,0,none⟩=some (.pointer (some ⟨T.t,0,none⟩))∧W.cell? ⟨w.heap.size,0,none⟩=some (.int .i64 i)∧W.cell? ⟨w.heap.size,1,none⟩=some (.int .i64 (T.g i:Nat))) (first | exact HS0.out | exact hS2)
  (first | (go_at_call 344;refine (HC.out _ HW1.out).mono ?_;rintro e w2 ⟨rfl,hT2,ho2⟩;have HT2:Hid (TabAt w2 T.t T.p T.most T.g (setN T.nd i (some { n with C:=n.C+1 }))):=hT2;have HO2:Hid (Only [n.b] (w.alloc (.cells #[.int .i64 i,.int .i64 (T.g i:Nat)] 94)).drew w2):=ho2;have hS2:Held tr T.t w.heap.size i (T.g i) w2:=HS0.out.only ho2 HNT.out HNB.out;clear hT2 ho2))
 all_goals go_wp2
 all_goals go_end0
 all_goals
  have ho:Only [n.b] w w2:=((Only.refl [n.b] w).alloc _).drew.trans HO2.out (fun _ hk=>Or.inl hk);exact ⟨rfl,H.out.node HN.out rfl rfl HT2.out ho,ho⟩
theorem keep_set {W:World}{tr t B blk o:Nat}{i gi:Nat}{u:Value}(h:W.cell? ⟨tr,0,none⟩=some (.pointer (some ⟨t,0,none⟩))∧W.cell? ⟨B,0,none⟩=some (.int .i64 i)∧W.cell? ⟨B,1,none⟩=some (.int .i64 (gi:Nat)))(h1:tr≠blk)(h2:B≠blk):(W.setCell ⟨blk,o,none⟩ u).cell? ⟨tr,0,none⟩=some (.pointer (some ⟨t,0,none⟩))∧(W.setCell ⟨blk,o,none⟩ u).cell? ⟨B,0,none⟩=some (.int .i64 i)∧(W.setCell ⟨blk,o,none⟩ u).cell? ⟨B,1,none⟩=some (.int .i64 (gi:Nat)) :=
 Held.only (t:=t) (i:=i) (gi:=gi) h ((Only.refl [blk] W).setCell (Or.inl (by simp)) _) (by simpa using h1) (by simpa using h2)
theorem Only.six {a w:World}(h:Only [] a w){b:Nat}(hb:a.heap.size≤b){v0 v1 v2 v3 v4 v5:Value}:Only [] a ((((((w.setCell ⟨b,0,none⟩ v0).setCell ⟨b,1,none⟩ v1).setCell ⟨b,2,none⟩ v2).setCell ⟨b,3,none⟩ v3).setCell ⟨b,4,none⟩ v4).setCell ⟨b,5,none⟩ v5) :=
 (((((h.setCell (Or.inr hb) _).setCell (Or.inr hb) _).setCell (Or.inr hb) _).setCell (Or.inr hb) _).setCell (Or.inr hb) _).setCell (Or.inr hb) _
theorem keep_alloc {W:World}{tr t B:Nat}{i gi:Nat}{o:Obj}(h:W.cell? ⟨tr,0,none⟩=some (.pointer (some ⟨t,0,none⟩))∧W.cell? ⟨B,0,none⟩=some (.int .i64 i)∧W.cell? ⟨B,1,none⟩=some (.int .i64 (gi:Nat))):(W.alloc o).cell? ⟨tr,0,none⟩=some (.pointer (some ⟨t,0,none⟩))∧(W.alloc o).cell? ⟨B,0,none⟩=some (.int .i64 i)∧(W.alloc o).cell? ⟨B,1,none⟩=some (.int .i64 (gi:Nat)) :=
 Held.only (t:=t) (i:=i) (gi:=gi) h ((Only.refl [] W).alloc _) (by simp) (by simp)
theorem told_ok (w:World)(tr:Nat)(T:Tr)(i:Nat)(n:Nod)(z:Int)(h:TreeAt w tr T)(hn:T.nd i=some n)(hz:n.K=1∧z=(n.S.size:Int)∨n.K=2∧z=n.Z):
   Calls Tryz.prog 148 #[.pointer (some ⟨tr,0,none⟩),.agg #[.int .i64 i,.int .i64 (T.g i:Nat)]] w fun e w'=>e = .returned (attrV n.K z n.L n.C n.UN n.UG)∧Only [] w w':=by
 have HC:Hid (∀ w1,Only [] w w1→_):=fun w1 (ho:Only [] w w1)=>tattr_ok w1 T.t T.p T.most i T.g T.nd n z (h.tab.kept ho (fun _ _=>by simp)) hn hz;have ct:=h.c0;have htl:tr < w.heap.size:=lt_of_cell ct;clear h hn hz;generalize T.t=t at HC ct;generalize T.g i=gi at HC ⊢;unfold attrV at HC ⊢;generalize n.K=K at HC ⊢;generalize n.L=L at HC ⊢;generalize n.C=C at HC ⊢;generalize n.UN=UN at HC ⊢;generalize n.UG=UG at HC ⊢;have H1:Hid (Held tr t w.heap.size i gi (w.alloc (.cells #[.int .i64 i,.int .i64 (gi:Nat)] 94))):=Held.first ct;have HW1:Hid (Only [] (w.alloc (.cells #[.int .i64 i,.int .i64 (gi:Nat)] 94)) ((w.alloc (.cells #[.int .i64 i,.int .i64 (gi:Nat)] 94)).alloc (.cells #[.int .i64 0,.int .i64 0,.int .i64 0,.int .i64 0,.int .i64 0,.int .i64 0] 293)).drew):=((Only.refl [] _).alloc _).drew;have HW2:Hid (Only [] (w.alloc (.cells #[.int .i64 i,.int .i64 (gi:Nat)] 94)) (((w.alloc (.cells #[.int .i64 i,.int .i64 (gi:Nat)] 94)).alloc (.cells #[.int .i64 0,.int .i64 0,.int .i64 0,.int .i64 0,.int .i64 0,.int .i64 0] 293)).alloc (.cells #[.int .i64 0,.int .i64 0,.int .i64 0,.int .i64 0,.int .i64 0,.int .i64 0] 293)).drew):=(((Only.refl [] _).alloc _).alloc _).drew;have HW3:Hid (Only [] ((w.alloc (.cells #[.int .i64 i,.int .i64 (gi:Nat)] 94)).alloc (.cells #[.int .i64 0,.int .i64 0,.int .i64 0,.int .i64 0,.int .i64 0,.int .i64 0] 293)) (((w.alloc (.cells #[.int .i64 i,.int .i64 (gi:Nat)] 94)).alloc (.cells #[.int .i64 0,.int .i64 0,.int .i64 0,.int .i64 0,.int .i64 0,.int .i64 0] 293)).alloc (.cells #[.int .i64 0,.int .i64 0,.int .i64 0,.int .i64 0,.int .i64 0,.int .i64 0] 293)).drew):=((Only.refl [] _).alloc _).drew;have HV1:Hid (Only [] w ((w.alloc (.cells #[.int .i64 i,.int .i64 (gi:Nat)] 94)).alloc (.cells #[.int .i64 0,.int .i64 0,.int .i64 0,.int .i64 0,.int .i64 0,.int .i64 0] 293)).drew):=(((Only.refl [] _).alloc _).alloc _).drew;have HV2:Hid (Only [] w (((w.alloc (.cells #[.int .i64 i,.int .i64 (gi:Nat)] 94)).alloc (.cells #[.int .i64 0,.int .i64 0,.int .i64 0,.int .i64 0,.int .i64 0,.int .i64 0] 293)).alloc (.cells #[.int .i64 0,.int .i64 0,.int .i64 0,.int .i64 0,.int .i64 0,.int .i64 0] 293)).drew):=((((Only.refl [] _).alloc _).alloc _).alloc _).drew;have K1:Hid (((w.alloc (.cells #[.int .i64 i,.int .i64 (gi:Nat)] 94)).alloc (.cells #[.int .i64 0,.int .i64 0,.int .i64 0,.int .i64 0,.int .i64 0,.int .i64 0] 293)).drew.cell? ⟨tr,0,none⟩=some (.pointer (some ⟨t,0,none⟩))∧((w.alloc (.cells #[.int .i64 i,.int .i64 (gi:Nat)] 94)).alloc (.cells #[.int .i64 0,.int .i64 0,.int .i64 0,.int .i64 0,.int .i64 0,.int .i64 0] 293)).drew.cell? ⟨w.heap.size,0,none⟩=some (.int .i64 i)∧((w.alloc (.cells #[.int .i64 i,.int .i64 (gi:Nat)] 94)).alloc (.cells #[.int .i64 0,.int .i64 0,.int .i64 0,.int .i64 0,.int .i64 0,.int .i64 0] 293)).drew.cell? ⟨w.heap.size,1,none⟩=some (.int .i64 (gi:Nat))):=H1.out.only HW1.out (by simp) (by simp);have K2:Hid ((((w.alloc (.cells #[.int .i64 i,.int .i64 (gi:Nat)] 94)).alloc (.cells #[.int .i64 0,.int .i64 0,.int .i64 0,.int .i64 0,.int .i64 0,.int .i64 0] 293)).alloc (.cells #[.int .i64 0,.int .i64 0,.int .i64 0,.int .i64 0,.int .i64 0,.int .i64 0] 293)).drew.cell? ⟨tr,0,none⟩=some (.pointer (some ⟨t,0,none⟩))∧(((w.alloc (.cells #[.int .i64 i,.int .i64 (gi:Nat)] 94)).alloc (.cells #[.int .i64 0,.int .i64 0,.int .i64 0,.int .i64 0,.int .i64 0,.int .i64 0] 293)).alloc (.cells #[.int .i64 0,.int .i64 0,.int .i64 0,.int .i64 0,.int .i64 0,.int .i64 0] 293)).drew.cell? ⟨w.heap.size,0,none⟩=some (.int .i64 i)∧(((w.alloc (.cells #[.int .i64 i,.int .i64 (gi:Nat)] 94)).alloc (.cells #[.int .i64 0,.int .i64 0,.int .i64 0,.int .i64 0,.int .i64 0,.int .i64 0] 293)).alloc (.cells #[.int .i64 0,.int .i64 0,.int .i64 0,.int .i64 0,.int .i64 0,.int .i64 0] 293)).drew.cell? ⟨w.heap.size,1,none⟩=some (.int .i64 (gi:Nat))):=H1.out.only HW2.out (by simp) (by simp)
 have HN2:Hid (tr≠w.heap.size+2):=show tr≠w.heap.size+2 from by omega
 have HB2:Hid (w.heap.size≠w.heap.size+2):=show w.heap.size≠w.heap.size+2 from by omega
 go_enter Tryz.func148,Tryz.ntmps148
 go_wp2
 go_region_held3 (fun W=>W.cell? ⟨tr,0,none⟩=some (.pointer (some ⟨t,0,none⟩))∧W.cell? ⟨w.heap.size,0,none⟩=some (.int .i64 i)∧W.cell? ⟨w.heap.size,1,none⟩=some (.int .i64 (gi:Nat)))
   (with_reducible first
    | exact K1.out
    | exact K2.out
    | exact HS2.out
    | exact keep_alloc HS2.out
    | exact keep_set (keep_set (keep_set (keep_set (keep_set (keep_set (HS2.out) HN2.out HB2.out) HN2.out HB2.out) HN2.out HB2.out) HN2.out HB2.out) HN2.out HB2.out) HN2.out HB2.out)
   (first
    | (go_at_call 239;refine (HC.out _ HV1.out).mono ?_;rintro e w2 ⟨rfl,ho2⟩;have HO2:Hid (Only [] (w.alloc (.cells #[.int .i64 i,.int .i64 (gi:Nat)] 94)) w2):=HW1.out.trans ho2 (fun _ hk=>by cases hk);have HS2:Hid (w2.cell? ⟨tr,0,none⟩=some (.pointer (some ⟨t,0,none⟩))∧w2.cell? ⟨w.heap.size,0,none⟩=some (.int .i64 i)∧w2.cell? ⟨w.heap.size,1,none⟩=some (.int .i64 (gi:Nat))):=H1.out.only HO2.out (by simp) (by simp);have HR:Hid (Only [] ((w.alloc (.cells #[.int .i64 i,.int .i64 (gi:Nat)] 94)).alloc (.cells #[.int .i64 0,.int .i64 0,.int .i64 0,.int .i64 0,.int .i64 0,.int .i64 0] 293)) w2):=ho2.of_drew;clear ho2)
    | (go_at_call 239;refine (HC.out _ HV2.out).mono ?_;rintro e w2 ⟨rfl,ho2⟩;have HO2:Hid (Only [] (w.alloc (.cells #[.int .i64 i,.int .i64 (gi:Nat)] 94)) w2):=HW2.out.trans ho2 (fun _ hk=>by cases hk);have HS2:Hid (w2.cell? ⟨tr,0,none⟩=some (.pointer (some ⟨t,0,none⟩))∧w2.cell? ⟨w.heap.size,0,none⟩=some (.int .i64 i)∧w2.cell? ⟨w.heap.size,1,none⟩=some (.int .i64 (gi:Nat))):=H1.out.only HO2.out (by simp) (by simp);obtain ⟨q0,q1,q2,q3,q4,q5,f1,hl1⟩:=own_six_drew (B:=w.heap.size+2) ho2 (by simp);have HR:Hid (Only [] ((w.alloc (.cells #[.int .i64 i,.int .i64 (gi:Nat)] 94)).alloc (.cells #[.int .i64 0,.int .i64 0,.int .i64 0,.int .i64 0,.int .i64 0,.int .i64 0] 293)) w2):=HW3.out.trans ho2 (fun _ hk=>by cases hk);clear ho2))
 all_goals obtain ⟨r0,r1,r2,r3,r4,r5,f0,hl0⟩:=own_six (B:=w.heap.size+1) HR.out (by simp)
 all_goals have hO:Only [] w w2:=((Only.refl [] w).alloc _).trans HO2.out (fun _ hk=>by cases hk)
 all_goals have HO:Hid (Only [] w w2):=hO
 all_goals clear hO
 all_goals go_wp2
 all_goals have hle1:w.heap.size≤w.heap.size+1:=Nat.le_succ _
 all_goals have hle2:w.heap.size≤w.heap.size+1+1:=by omega
 all_goals refine bodyPost_ret (v := .agg #[.int .i64 K,.int .i64 z,.int .i64 L,.int .i64 C,.int .i64 UN,.int .i64 UG]) (by simp [results,Tryz.results148,go_sem,r0,r1,r2,r3,r4,r5,hl0]) rfl ⟨rfl,?_⟩
 · exact (HO.out.six hle1).alloc _
 · exact (HO.out.six hle2).six hle1
end
end Go.Proofs.YtmnidbnaneagjaaGreatDoor
