import Derived.Test.YtkcabopgajlmdaaGreatDoorK2
import Derived.DeepKeys5
import Derived.Maps.OwnOps
import Derived.Maps.RangeWalk
set_option maxRecDepth 100000
set_option maxHeartbeats 8000000
namespace Go.Proofs.YtkcabopgajlmdaaGreatDoor
section
open Go Go.RowKit Go.Deep Go.Maps
section
variable (w:World)(t:Nat)(p:Row)(most:Nat)(g:Nat→Nat)(nd:Nat→Option Nod)
theorem find_no (N G:Int)(E:Value)(h:TabAt w t p most g nd)(hE:w.cell? ⟨10,0,none⟩=some E)(hs:Stale0 g nd N G)(w1:World)(ho:zQ w w1):
  zO 82 #[zP t,zG N G] w1 (.tuple #[.pointer none,E]) :=
 find_stale w1 t p most g nd N G E (h.kept ho (fun _ _=>by simp)) ((ho.cell (p:=⟨10,0,none⟩) (zv hE) (by simp)).trans hE) hs
theorem find_yes (i:Nat)(n:Nod)(h:TabAt w t p most g nd)(hn:nd i=some n)(w1:World)(ho:zQ w w1):
  zO 82 #[zP t,zG i (g i:Nat)] w1 (.tuple #[zP n.b,.nilIface]) :=
 find_ok w1 t p most i g nd n (h.kept ho (fun _ _=>by simp)) hn
end
theorem own_six {w w2:World}{B:Nat}{a b c d e f:Value}{ty:TypeId}(h:zQ (w.alloc (.cells #[a,b,c,d,e,f] ty)) w2)(hB:w.heap.size=B):
  w2.cell? (zA B 0)=some a∧w2.cell? (zA B 1)=some b∧w2.cell? (zA B 2)=some c∧w2.cell? (zA B 3)=some d∧w2.cell? (zA B 4)=some e∧w2.cell? (zA B 5)=some f∧(∀ o,w2.frozen? ⟨B,o,none⟩=false)∧B < w2.heap.size:=by
 subst hB;have hh:=zh w (.cells #[a,b,c,d,e,f] ty)
 have hlt:w.heap.size < (w.alloc (.cells #[a,b,c,d,e,f] ty)).heap.size:=by simp
 refine ⟨(h.cell (p:=⟨w.heap.size,0,none⟩) hlt (by simp)).trans (cell_of_row _ _ 0 _ _ _ hh),(h.cell (p:=⟨w.heap.size,1,none⟩) hlt (by simp)).trans (cell_of_row _ _ 1 _ _ _ hh),(h.cell (p:=⟨w.heap.size,2,none⟩) hlt (by simp)).trans (cell_of_row _ _ 2 _ _ _ hh),
  (h.cell (p:=⟨w.heap.size,3,none⟩) hlt (by simp)).trans (cell_of_row _ _ 3 _ _ _ hh),(h.cell (p:=⟨w.heap.size,4,none⟩) hlt (by simp)).trans (cell_of_row _ _ 4 _ _ _ hh),(h.cell (p:=⟨w.heap.size,5,none⟩) hlt (by simp)).trans (cell_of_row _ _ 5 _ _ _ hh),fun o=>?_,Nat.lt_of_lt_of_le hlt h.size⟩
 rw [h.frozen (p:=⟨w.heap.size,o,none⟩) hlt (by simp)];unfold World.frozen?;rw [hh];simp
theorem own_pairB {w w2:World}{B:Nat}{a b:Int}{ty:TypeId}(h:zQ (w.alloc (.cells #[zI a,zI b] ty)) w2)(hB:w.heap.size=B):
  w2.cell? (zA B 0)=some (zI a)∧w2.cell? (zA B 1)=some (zI b)∧(∀ o,w2.frozen? ⟨B,o,none⟩=false)∧B < w2.heap.size:=by
 subst hB;exact own_pair h
def attrV (K Z L C UN UG:Int):Value := .agg #[zI K,zI Z,zI L,zI C,zI UN,zI UG]
def errV (a:Addr):Value := .iface 228 (.pointer (some a))
theorem tattr_stale (w:World)(t:Nat)(p:Row)(most:Nat)(g:Nat→Nat)(nd:Nat→Option Nod)(N G:Int)(ad:Addr)(h:TabAt w t p most g nd)(hE:w.cell? ⟨10,0,none⟩=some (errV ad))(hs:Stale0 g nd N G):
  zO 52 #[zP t,zG N G] w (.tuple #[attrV 0 0 0 0 0 0,errV ad]):=by
 have HC:Hid (∀ w1,zQ w w1→_):=find_no w t p most g nd N G (errV ad) h hE hs;clear h hE hs;unfold errV at HC ⊢
 go_enter Tryz.func52,Tryz.ntmps52
 go_wp2_with (go_at_call 82;go_must (refine (HC.out _ (((Only.refl _ _).alloc _).alloc _)).mono ?_);rintro e w2 ⟨rfl,ho2⟩;have HO:Hid (zQ w w2):=(((Only.refl _ _).alloc _).alloc _).trans ho2 (fun _ hk=>by cases hk);obtain ⟨r0,r1,r2,r3,r4,r5,f0,hl0⟩:=own_six (B:=w.heap.size+1) ho2 (by simp))
 have hle:w.heap.size≤w.heap.size+1:=Nat.le_succ _;refine bodyPost_ret (v := .tuple #[attrV 0 0 0 0 0 0,.iface 228 (.pointer (some ad))]) (by simp [results,Tryz.results52,go_sem,r0,r1,r2,r3,r4,r5,attrV]) rfl ⟨rfl,?_⟩;exact (((((HO.out.setCell (Or.inr hle) _).setCell (Or.inr hle) _).setCell (Or.inr hle) _).setCell (Or.inr hle) _).setCell (Or.inr hle) _).setCell (Or.inr hle) _
theorem tdata_stale (w:World)(t:Nat)(p:Row)(most:Nat)(g:Nat→Nat)(nd:Nat→Option Nod)(N G:Int)(ad:Addr)(h:TabAt w t p most g nd)(hE:w.cell? ⟨10,0,none⟩=some (errV ad))(hs:Stale0 g nd N G):
  zO 68 #[zP t,zG N G] w (.tuple #[.pointer none,errV ad]):=by
 have HC:Hid (∀ w1,zQ w w1→_):=find_no w t p most g nd N G (errV ad) h hE hs;clear h hE hs;unfold errV at HC ⊢
 go_enter Tryz.func68,Tryz.ntmps68
 go_wp2_with (go_at_call 82;go_must (refine (HC.out _ ((Only.refl _ _).alloc _)).mono ?_);rintro e w2 ⟨rfl,ho2⟩;have HO:Hid (zQ w w2):=((Only.refl _ _).alloc _).trans ho2 (fun _ hk=>by cases hk))
 exact bodyPost_ret (v := .tuple #[.pointer none,.iface 228 (.pointer (some ad))]) (by simp [results,Tryz.results68,go_sem]) rfl ⟨rfl,HO.out⟩
theorem tdata_dir (w:World)(t:Nat)(p:Row)(most i:Nat)(g:Nat→Nat)(nd:Nat→Option Nod)(n:Nod)(F:Value)(h:TabAt w t p most g nd)(hF:w.cell? ⟨3,0,none⟩=some F)(hn:nd i=some n)(hK:n.K=2):
  zO 68 #[zP t,zG i (g i:Nat)] w (.tuple #[.pointer none,F]):=by
 have HC:Hid (∀ w1,zQ w w1→_):=find_yes w t p most g nd i n h hn;have ck:=(h.node i n hn).c0;have HK:Hid (w.cell? (zA n.b 0)=some (zI n.K)):=ck;have HF:Hid (w.cell? ⟨3,0,none⟩=some F):=hF;have hbl:n.b < w.heap.size:=zv ck;have hFl:3 < w.heap.size:=zv hF;clear h hn hF ck;generalize n.b=nb at HC HK hbl ⊢
 go_enter Tryz.func68,Tryz.ntmps68
 go_wp2_with (go_at_call 82;go_must (refine (HC.out _ ((Only.refl _ _).alloc _)).mono ?_);rintro e w2 ⟨rfl,ho2⟩;have HO:Hid (zQ w w2):=((Only.refl _ _).alloc _).trans ho2 (fun _ hk=>by cases hk);have c0:=(HO.out.cell (p:=⟨nb,0,none⟩) hbl (by simp)).trans HK.out;rw [hK] at c0;have cF:=(HO.out.cell (p:=⟨3,0,none⟩) hFl (by simp)).trans HF.out)
 go_region
 go_wp2
 exact bodyPost_ret (v := .tuple #[.pointer none,F]) (by simp [results,Tryz.results68,go_sem]) rfl ⟨rfl,HO.out.drew⟩
theorem tdata_ok (w:World)(t:Nat)(p:Row)(most i:Nat)(g:Nat→Nat)(nd:Nat→Option Nod)(n:Nod)(h:TabAt w t p most g nd)(hn:nd i=some n)(hK:n.K=1):
  zO 68 #[zP t,zG i (g i:Nat)] w (.tuple #[.pointer (some ⟨n.b,6,none⟩),.nilIface]):=by
 have HC:Hid (∀ w1,zQ w w1→_):=find_yes w t p most g nd i n h hn;have ck:=(h.node i n hn).c0;have HK:Hid (w.cell? (zA n.b 0)=some (zI n.K)):=ck;have hbl:n.b < w.heap.size:=zv ck;clear h hn ck;generalize n.b=nb at HC HK hbl ⊢
 go_enter Tryz.func68,Tryz.ntmps68
 go_wp2_with (go_at_call 82;go_must (refine (HC.out _ ((Only.refl _ _).alloc _)).mono ?_);rintro e w2 ⟨rfl,ho2⟩;have HO:Hid (zQ w w2):=((Only.refl _ _).alloc _).trans ho2 (fun _ hk=>by cases hk);have c0:=(HO.out.cell (p:=⟨nb,0,none⟩) hbl (by simp)).trans HK.out;rw [hK] at c0)
 exact bodyPost_ret (v := .tuple #[.pointer (some ⟨nb,6,none⟩),.nilIface]) (by simp [results,Tryz.results68,go_sem]) rfl ⟨rfl,HO.out⟩
theorem tattr_ok (w:World)(t:Nat)(p:Row)(most i:Nat)(g:Nat→Nat)(nd:Nat→Option Nod)(n:Nod)(z:Int)(h:TabAt w t p most g nd)(hn:nd i=some n)(hz:n.K=1∧z=(n.S.size:Int)∨n.K=2∧z=n.Z):
   zO 52 #[zP t,zG i (g i:Nat)] w (.tuple #[attrV n.K z n.L n.C n.UN n.UG,.nilIface]):=by
 have HC:Hid (∀ w1,zQ w w1→_):=find_yes w t p most g nd i n h hn;have hN:=h.node i n hn;have HN:Hid (NodAt w n):=hN;have hbl:n.b < w.heap.size:=zv hN.c0;clear h hn hN;obtain ⟨nb,K,Z,L,C,UN,UG,S,H,m⟩:=n;simp only at HC hbl hz ⊢;have hle:w.heap.size≤w.heap.size+1:=Nat.le_succ _;rcases hz with ⟨rfl,hz⟩ | ⟨rfl,hz⟩
 all_goals rw [hz]
 all_goals clear hz
 · go_enter Tryz.func52,Tryz.ntmps52
   go_wp2_with (first
    | (go_at_call 82;go_must (refine (HC.out _ (((Only.refl _ _).alloc _).alloc _)).mono ?_);rintro e w2 ⟨rfl,ho2⟩;have HO:Hid (zQ w w2):=(((Only.refl _ _).alloc _).alloc _).trans ho2 (fun _ hk=>by cases hk);obtain ⟨r0,r1,r2,r3,r4,r5,f0,hl0⟩:=own_six (B:=w.heap.size+1) ho2 (by simp);have HN2:Hid (NodAt w2 ⟨nb,1,Z,L,C,UN,UG,S,H,m⟩):=HN.out.kept HO.out (fun _ _=>by simp);obtain ⟨c0,c1,c2,c3,c4,c5,_⟩:=HN2.out;have hb2:nb < w2.heap.size:=zv c0)
    | (go_at_call 83;go_must (refine (dsizeO _ nb 6 S H m (HN2.out.d.kept ((Only.refl [] _).alloc _) (fun _ _=>by simp))).mono ?_);rintro e w3 ⟨rfl,rfl⟩)
    | go_in)
   refine bodyPost_ret (v := .tuple #[attrV 1 (S.size:Nat) L C UN UG,.nilIface]) (by simp [results,Tryz.results52,go_sem,r0,r1,r2,r3,r4,r5,hl0,attrV]) rfl ⟨rfl,?_⟩;exact ((((((HO.out.setCell (Or.inr hle) _).setCell (Or.inr hle) _).setCell (Or.inr hle) _).setCell (Or.inr hle) _).setCell (Or.inr hle) _).setCell (Or.inr hle) _).alloc _
 · go_enter Tryz.func52,Tryz.ntmps52
   go_wp2_with (first
    | (go_at_call 82;go_must (refine (HC.out _ (((Only.refl _ _).alloc _).alloc _)).mono ?_);rintro e w2 ⟨rfl,ho2⟩;have HO:Hid (zQ w w2):=(((Only.refl _ _).alloc _).alloc _).trans ho2 (fun _ hk=>by cases hk);obtain ⟨r0,r1,r2,r3,r4,r5,f0,hl0⟩:=own_six (B:=w.heap.size+1) ho2 (by simp);have HN2:Hid (NodAt w2 ⟨nb,2,Z,L,C,UN,UG,S,H,m⟩):=HN.out.kept HO.out (fun _ _=>by simp);obtain ⟨c0,c1,c2,c3,c4,c5,_⟩:=HN2.out;have hb2:nb < w2.heap.size:=zv c0)
    | go_in)
   refine bodyPost_ret (v := .tuple #[attrV 2 Z L C UN UG,.nilIface]) (by simp [results,Tryz.results52,go_sem,r0,r1,r2,r3,r4,r5,hl0,attrV]) rfl ⟨rfl,?_⟩;exact ((((((HO.out.setCell (Or.inr hle) _).setCell (Or.inr hle) _).setCell (Or.inr hle) _).setCell (Or.inr hle) _).setCell (Or.inr hle) _).setCell (Or.inr hle) _).alloc _
theorem DataO.put {w:World}{g o k:Nat}{S:ByteArray}{H:List Bool}{m:Option Nat}(h:DataO w g o S H m)(h0:k≠o)(h1:k≠o+1)(v:Value):DataO (w.setCell ⟨g,k,none⟩ v) g o S H m:=by
 obtain ⟨f,hs,hm⟩:=h.holds;refine ⟨?_,?_,fun j=>?_,h.ty.set _ _,f,hs,?_⟩
 · rw [World.cell?_setCell_other _ _ _ _ (by simp)];exact h.size
 · rw [World.cell?_setCell_other _ _ _ _ (by simp)];exact h.map
 · rw [World.frozen?_setCell];exact h.fz j
 · cases m with
   | none=>exact hm
   | some b =>
    obtain ⟨D,d1,d2⟩:=hm;exact ⟨D,d1.setCell (own_ne d1 h.size) _,d2⟩
theorem NodAt.putZ {w:World}{n:Nod}(h:NodAt w n)(z:Int):NodAt (w.setCell (zA n.b 1) (zI z)) { n with Z:=z }:=⟨(World.cell?_setCell_other _ _ _ _ (by simp)).trans h.c0,World.cell?_setCell_same _ _ _ h.c1,(World.cell?_setCell_other _ _ _ _ (by simp)).trans h.c2,(World.cell?_setCell_other _ _ _ _ (by simp)).trans h.c3,(World.cell?_setCell_other _ _ _ _ (by simp)).trans h.c4,(World.cell?_setCell_other _ _ _ _ (by simp)).trans h.c5,h.d.put (by omega) (by omega) _⟩
theorem NodAt.putL {w:World}{n:Nod}(h:NodAt w n)(z:Int):NodAt (w.setCell (zA n.b 2) (zI z)) { n with L:=z }:=⟨(World.cell?_setCell_other _ _ _ _ (by simp)).trans h.c0,(World.cell?_setCell_other _ _ _ _ (by simp)).trans h.c1,World.cell?_setCell_same _ _ _ h.c2,(World.cell?_setCell_other _ _ _ _ (by simp)).trans h.c3,(World.cell?_setCell_other _ _ _ _ (by simp)).trans h.c4,(World.cell?_setCell_other _ _ _ _ (by simp)).trans h.c5,h.d.put (by omega) (by omega) _⟩
theorem NodAt.putC {w:World}{n:Nod}(h:NodAt w n)(z:Int):NodAt (w.setCell (zA n.b 3) (zI z)) { n with C:=z }:=⟨(World.cell?_setCell_other _ _ _ _ (by simp)).trans h.c0,(World.cell?_setCell_other _ _ _ _ (by simp)).trans h.c1,(World.cell?_setCell_other _ _ _ _ (by simp)).trans h.c2,World.cell?_setCell_same _ _ _ h.c3,(World.cell?_setCell_other _ _ _ _ (by simp)).trans h.c4,(World.cell?_setCell_other _ _ _ _ (by simp)).trans h.c5,h.d.put (by omega) (by omega) _⟩
theorem NodAt.putUN {w:World}{n:Nod}(h:NodAt w n)(z:Int):NodAt (w.setCell (zA n.b 4) (zI z)) { n with UN:=z }:=⟨(World.cell?_setCell_other _ _ _ _ (by simp)).trans h.c0,(World.cell?_setCell_other _ _ _ _ (by simp)).trans h.c1,(World.cell?_setCell_other _ _ _ _ (by simp)).trans h.c2,(World.cell?_setCell_other _ _ _ _ (by simp)).trans h.c3,World.cell?_setCell_same _ _ _ h.c4,(World.cell?_setCell_other _ _ _ _ (by simp)).trans h.c5,h.d.put (by omega) (by omega) _⟩
theorem NodAt.putUG {w:World}{n:Nod}(h:NodAt w n)(z:Int):NodAt (w.setCell (zA n.b 5) (zI z)) { n with UG:=z }:=⟨(World.cell?_setCell_other _ _ _ _ (by simp)).trans h.c0,(World.cell?_setCell_other _ _ _ _ (by simp)).trans h.c1,(World.cell?_setCell_other _ _ _ _ (by simp)).trans h.c2,(World.cell?_setCell_other _ _ _ _ (by simp)).trans h.c3,(World.cell?_setCell_other _ _ _ _ (by simp)).trans h.c4,World.cell?_setCell_same _ _ _ h.c5,h.d.put (by omega) (by omega) _⟩
theorem TabAt.put {w w2 w':World}{t most i:Nat}{p:Row}{g:Nat→Nat}{nd:Nat→Option Nod}{n n':Nod}(h:TabAt w t p most g nd)(ho:zQ w w2)(hn:nd i=some n)(hb:n'.b=n.b)(hm:n'.m=n.m)(hN:NodAt w' n')(hw:Only [n.b] w2 w'):
  TabAt w' t p most g (setN nd i (some n'))∧Only [n.b] w w':=by
 have o:Only [n.b] w w':=(ho.mono (L':=[n.b]) (by simp)).trans hw (fun i hi=>Or.inl hi);refine ⟨h.turn hn hb hN (o.mono (fun k hk=>Or.inl (by simp at hk;subst hk;exact n.b_foot))) (fun k hk=>Or.inl ?_),o⟩;unfold Nod.foot at hk ⊢;rw [hb,hm] at hk;exact hk
theorem ttouch_ok (w:World)(t:Nat)(p:Row)(most i:Nat)(g:Nat→Nat)(nd:Nat→Option Nod)(n:Nod)(h:TabAt w t p most g nd)(hn:nd i=some n)(hC:0≤n.C∧n.C≤9000000000000000000):
  zK 88 #[zP t,zG i (g i:Nat)] w fun e w'=>e = .returned .nilIface∧TabAt w' t p most g (setN nd i (some { n with C:=n.C+1 }))∧Only [n.b] w w':=by
 have HC:Hid (∀ w1,zQ w w1→_):=find_yes w t p most g nd i n h hn;have HN:Hid (NodAt w n):=h.node i n hn;have HT:Hid (TabAt w t p most g nd):=h;have HI:Hid (nd i=some n):=hn;clear h hn;obtain ⟨hC0,hC1⟩:=hC
 go_enter Tryz.func88,Tryz.ntmps88
 go_wp2_with (go_at_call 82;go_must (refine (HC.out _ ((Only.refl _ _).alloc _)).mono ?_);rintro e w2 ⟨rfl,ho2⟩;have HO:Hid (zQ w w2):=((Only.refl _ _).alloc _).trans ho2 (fun _ hk=>by cases hk);have HN2:Hid (NodAt w2 n):=HN.out.kept HO.out (fun _ _=>by simp);have c3:=HN2.out.c3;have f3:=HN2.out.d.fz 3)
 go_ret
 exact ⟨rfl,HT.out.put HO.out HI.out rfl rfl (HN2.out.putC _) ((Only.refl _ _).setCell (Or.inl (by simp)) _)⟩
theorem tadj_file (w:World)(t:Nat)(p:Row)(most i:Nat)(g:Nat→Nat)(nd:Nat→Option Nod)(n:Nod)(a b c d:Int)(h:TabAt w t p most g nd)(hn:nd i=some n)(hab:0≤a∧0≤b)(hK:n.K=1):
  zK 86 #[zP t,zG i (g i:Nat),zI a,zI b,zG c d] w fun e w'=>e = .returned .nilIface∧TabAt w' t p most g (setN nd i (some { n with L:=b }))∧Only [n.b] w w':=by
 have HC:Hid (∀ w1,zQ w w1→_):=find_yes w t p most g nd i n h hn;have HN:Hid (NodAt w n):=h.node i n hn;have HT:Hid (TabAt w t p most g nd):=h;have HI:Hid (nd i=some n):=hn;clear h hn;have hd1:decide (a < 0)=false:=decide_eq_false (by omega);have hd2:decide (b < 0)=false:=decide_eq_false (by omega)
 go_enter Tryz.func86,Tryz.ntmps86
 go_wp2_with (go_at_call 82;go_must (refine (HC.out _ (((Only.refl _ _).alloc _).alloc _)).mono ?_);rintro e w2 ⟨rfl,ho2⟩;have HO:Hid (zQ w w2):=(((Only.refl _ _).alloc _).alloc _).trans ho2 (fun _ hk=>by cases hk);have HN2:Hid (NodAt w2 n):=HN.out.kept HO.out (fun _ _=>by simp);have c0:=HN2.out.c0;rw [hK] at c0;have c2:=HN2.out.c2;have f3:=HN2.out.d.fz)
 go_ret
 exact ⟨rfl,HT.out.put HO.out HI.out rfl rfl (HN2.out.putL b) ((Only.refl _ _).setCell (Or.inl (by simp)) _)⟩
theorem tadj_dir (w:World)(t:Nat)(p:Row)(most i:Nat)(g:Nat→Nat)(nd:Nat→Option Nod)(n:Nod)(a b c d:Int)(h:TabAt w t p most g nd)(hn:nd i=some n)(hab:0≤a∧0≤b)(hK:n.K=2):
  zK 86 #[zP t,zG i (g i:Nat),zI a,zI b,zG c d] w fun e w'=>e = .returned .nilIface∧TabAt w' t p most g (setN nd i (some { n with Z:=a,UN:=c,UG:=d,L:=b }))∧Only [n.b] w w':=by
 have HC:Hid (∀ w1,zQ w w1→_):=find_yes w t p most g nd i n h hn;have HN:Hid (NodAt w n):=h.node i n hn;have HT:Hid (TabAt w t p most g nd):=h;have HI:Hid (nd i=some n):=hn;clear h hn;have hd1:decide (a < 0)=false:=decide_eq_false (by omega);have hd2:decide (b < 0)=false:=decide_eq_false (by omega)
 go_enter Tryz.func86,Tryz.ntmps86
 go_wp2_with (go_at_call 82;go_must (refine (HC.out _ (((Only.refl _ _).alloc _).alloc _)).mono ?_);rintro e w2 ⟨rfl,ho2⟩;have HO:Hid (zQ w w2):=(((Only.refl _ _).alloc _).alloc _).trans ho2 (fun _ hk=>by cases hk);have HN2:Hid (NodAt w2 n):=HN.out.kept HO.out (fun _ _=>by simp);have c0:=HN2.out.c0;rw [hK] at c0;have c1:=HN2.out.c1;have c2:=HN2.out.c2;have c4:=HN2.out.c4;have c5:=HN2.out.c5;have f3:=HN2.out.d.fz;obtain ⟨u0,u1,fu,hlu⟩:=own_pairB (B:=w.heap.size+1) ho2 (by simp);have hbl:=zv c0;have hbw:=zv HN.out.c0)
 go_region
 go_wp2
 go_ret
 have o5:Only [n.b] w2 ((((w2.setCell (zA n.b 1) (zI a)).setCell (zA n.b 4) (zI c)).setCell (zA n.b 5) (zI d)).setCell (zA n.b 2) (zI b)) :=
  ((((Only.refl [n.b] w2).setCell (Or.inl (by simp)) _).setCell (Or.inl (by simp)) _).setCell (Or.inl (by simp)) _).setCell (Or.inl (by simp)) _
 have hN5:=(((HN2.out.putZ a).putUN c).putUG d).putL b;exact ⟨rfl,HT.out.put (n':={ n with Z:=a,UN:=c,UG:=d,L:=b }) HO.out HI.out rfl rfl (hN5.kept ((Only.refl [] _).drew) (fun _ _=>by simp)) o5.drew⟩
theorem tfree_ok (w:World)(t:Nat)(p:Row)(most i:Nat)(g:Nat→Nat)(nd:Nat→Option Nod)(n:Nod)(h:TabAt w t p most g nd)(hn:nd i=some n)(hG:g i≤9000000000000000000):
   zK 91 #[zP t,zG i (g i:Nat)] w fun e w'=>e = .returned .nilIface∧TabAt w' t p most (setN g i (g i+1)) (setN nd i none)∧Only p.a.toList w w':=by
 have HC:Hid (∀ w1,zQ w w1→_):=find_yes w t p most g nd i n h hn;have HT:Hid (TabAt w t p most g nd):=h;have hi:=h.lt hn;obtain ⟨b,hb,_,_,_,hbl⟩:=h.place_at hi;have HB:Hid (p.a=some b):=hb
 have hv:p.v = .slice (some ⟨b,0,none⟩) p.N p.cap:=by simp [Row.v,hb]
 have HV:Hid (p.v = .slice (some ⟨b,0,none⟩) p.N p.cap):=hv;clear h hn hb hv
 go_enter Tryz.func91,Tryz.ntmps91
 go_wp2_with (go_at_call 82;go_must (refine (HC.out _ ((Only.refl _ _).alloc _)).mono ?_);rintro e w2 ⟨rfl,ho2⟩;have HO:Hid (zQ w w2):=((Only.refl _ _).alloc _).trans ho2 (fun _ hk=>by cases hk);have HT2:Hid (TabAt w2 t p most g nd):=HT.out.kept HO.out (fun _ _=>by simp);have c0:=HT2.out.tab;rw [HV.out] at c0;obtain ⟨b',hb',c1,c2,fp,hl2⟩:=HT2.out.place_at hi;obtain rfl:b=b':=Option.some.inj (HB.out.symm.trans hb');clear hb';obtain ⟨u0,u1,fu,hlu⟩:=own_pair ho2)
 go_region
 go_wp2
 go_ret
 have o2:Only p.a.toList w ((w2.setCell ⟨b,i*2,none⟩ (zI ((g i:Int)+1))).setCell ⟨b,i*2+1,none⟩ (.pointer none)).drew:=by
   rw [HB.out];exact (((HO.out.mono (L':=[b]) (by simp)).setCell (Or.inl (by simp)) _).setCell (Or.inl (by simp)) _).drew
 refine ⟨rfl,HT.out.place (i:=i) HB.out hi (by rw [HB.out] at o2;exact o2) ?_ (fun j hj=>setN_other _ _ hj) (fun j hj=>setN_other _ _ hj) (fun n hn=>?_),o2⟩
 · have hr:=HT2.out.row
   rw [HV.out] at hr ⊢;have h1:=(hr.stored (i*2) (zI ((g i:Int)+1))).1;have e1:=rowOf_set placeCells_len (places p.N g nd) i 0 (g i,nd i) (g i+1,nd i) (zI ((g i:Int)+1)) (by decide) (places_get g nd hi) (by simp [placeCells]);simp only [Nat.add_zero] at e1;rw [e1] at h1;have h2:=(h1.stored (i*2+1) (.pointer none)).1;have e2:=rowOf_set placeCells_len ((places p.N g nd).set i (g i+1,nd i)) i 1 (g i+1,nd i) (g i+1,none) (.pointer none) (by decide) (by rw [List.getElem?_set_self (by rw [places_len];exact hi)]) (by simp [placeCells]);rw [e2,List.set_set] at h2;rw [setN_same,setN_same];exact h2
 · rw [setN_same] at hn
   cases hn
theorem setN_again {α:Type}(f:Nat→α)(i:Nat)(a b:α):setN (setN f i a) i b=setN f i b:=by
 funext j
 by_cases h:j=i
 · subst h;rw [setN_same,setN_same]
 · rw [setN_other _ _ h,setN_other _ _ h,setN_other _ _ h]
end
section
open Go Go.RowKit Go.Maps
structure Ent where
 s:List UInt8
 i:Nat
 c:Nat
def entV (i c:Nat):DataW Unit := .agg [.lit (.int .i64 i),.lit (.int .i64 c)]
def entP (e:Ent):Lit×DataW Unit:=(.string e.s,entV e.i e.c)
def entD (l:List Ent):DataW Unit := .map (l.map entP)
def findE (l:List Ent)(s:List UInt8):Option Ent:=l.find? (fun e=>e.s==s)
def insE (x:Ent):List Ent→List Ent
 | []=>[x]
 | y::r=>if bytesBefore x.s y.s then x::y::r else y::insE x r
def dropE (l:List Ent)(s:List UInt8):List Ent:=l.filter (fun e=>!(e.s==s))
theorem has_entD (l:List Ent)(s:List UInt8):has (entD l) (.string s)=(findE l s).isSome:=by
 show (l.map entP).any _=_
 induction l with
 | nil=>rfl
 | cons x l ih =>
  rw [List.map_cons,List.any_cons,ih];unfold findE;rw [List.find?_cons];show (x.s==s || _)=_
  cases x.s==s<;>rfl
theorem at_entD (l:List Ent)(s:List UInt8)(z:DataW Unit):(entD l).atKey (.string s) z=match findE l s with | some e=>entV e.i e.c | none=>z:=by
 have h:(l.map entP).find? (fun p=>p.1.sameKey (.string s))=(findE l s).map entP:=by
  unfold findE;rw [List.find?_map];rfl
 unfold entD DataW.atKey;simp only [h]
 cases findE l s<;>rfl
theorem insE_map (x:Ent)(l:List Ent):DataW.insert (entP x) (l.map entP)=(insE x l).map entP:=by
 induction l with
 | nil=>rfl
 | cons y l ih =>
  show (if bytesBefore x.s y.s then _ else _)=_;unfold insE
  split
  · rfl
  · rw [List.map_cons,ih]
theorem dropE_map (l:List Ent)(s:List UInt8):(l.map entP).filter (fun p=>!p.1.sameKey (.string s))=(dropE l s).map entP:=by
 unfold dropE;rw [List.filter_map];rfl
theorem put_entD (l:List Ent)(x:Ent):(entD l).put (.string x.s) (entV x.i x.c)=entD (insE x (dropE l x.s)):=by
 show DataW.map (DataW.insert (entP x) ((l.map entP).filter _))=_;rw [dropE_map,insE_map];rfl
theorem del_entD (l:List Ent)(s:List UInt8):(entD l).del (.string s)=entD (dropE l s):=by
 show DataW.map ((l.map entP).filter _)=_;rw [dropE_map];rfl
theorem size_entD (l:List Ent):Maps.size (entD l)=l.length:=by
 show (l.map entP).length=_;simp
theorem dropE_none {l:List Ent}{s:List UInt8}(h:findE l s=none):dropE l s=l:=by
 unfold dropE;rw [List.filter_eq_self];intro e he;have:=List.find?_eq_none.1 h e he
 simpa using this
theorem length_insE (x:Ent)(l:List Ent):(insE x l).length=l.length+1:=by
 induction l with
 | nil=>rfl
 | cons y l ih =>
  unfold insE
  split
  · rfl
  · simp [ih]
theorem mem_insE {x y:Ent}{l:List Ent}:y∈insE x l↔y=x∨y∈l:=by
 induction l with
 | nil=>simp [insE]
 | cons z l ih =>
  unfold insE
  split
  · simp
  · rw [List.mem_cons,ih,List.mem_cons]
    constructor
    · rintro (h | h | h)
      · exact Or.inr (Or.inl h)
      · exact Or.inl h
      · exact Or.inr (Or.inr h)
    · rintro (h | h | h)
      · exact Or.inr (Or.inl h)
      · exact Or.inl h
      · exact Or.inr (Or.inr h)
structure Reads {K V:Type}(key:K→Lit)(val:V→DataW Unit)(D:DataW Unit)(f:K→Option V):Prop where
 keys:∀ kl,has D kl=true→∃ k v,kl=key k∧f k=some v
 gone:∀ k,f k=none→has D (key k)=false
 there:∀ k v,f k=some v→has D (key k)=true∧∀ z,D.atKey (key k) z=val v
section
variable {K V:Type}{key:K→Lit}{val:V→DataW Unit}{D:DataW Unit}{f f':K→Option V}
theorem Reads.empty:Reads key val (.map []) (fun _=>none):=⟨fun kl h=>by simp [has] at h,fun k _=>by simp [has],fun k v h=>by cases h⟩
theorem Reads.isSome (h:Reads key val D f)(k:K):has D (key k)=(f k).isSome:=by
 cases e:f k with
 | none=>rw [h.gone k e];rfl
 | some v=>rw [(h.there k v e).1];rfl
theorem Reads.look (h:Reads key val D f)(k:K)(z:DataW Unit):D.atKey (key k) z=match f k with | some v=>val v | none=>z:=by
 cases e:f k with
 | none=>exact atKey_of_not_has (h.gone k e) _
 | some v=>exact (h.there k v e).2 _
theorem Reads.put (h:Reads key val D f)(hD:IsMap D)(hk:∀ k,WideAt.IsKeyLit (key k)){k:K}{v:V}(hinj:∀ j,key j=key k→j=k)(h1:f' k=some v)(h2:∀ j,j≠k→f' j=f j):Reads key val (D.put (key k) (val v)) f':=by
 refine ⟨fun kl hh=>?_,fun j hj=>?_,fun j u hj=>?_⟩
 · by_cases e:kl=key k
   · exact ⟨k,v,e,h1⟩
   · rw [has_put_other e] at hh
     obtain ⟨j,u,rfl,hj⟩:=h.keys kl hh;exact ⟨j,u,rfl,by rw [h2 j (fun x=>e (by rw [x]))];exact hj⟩
 · have e:j≠k:=fun x=>by rw [x,h1] at hj;cases hj
   rw [has_put_other (fun x=>e (hinj _ x))];exact h.gone j (by rw [← h2 j e];exact hj)
 · by_cases e:j=k
   · subst e
     rw [h1] at hj
     cases hj
     exact ⟨has_put_same hD (hk j) _,fun z=>atKey_put_same hD (hk j) _ z⟩
   · rw [h2 j e] at hj
     obtain ⟨a,b⟩:=h.there j u hj;exact ⟨by rw [has_put_other (fun x=>e (hinj _ x))];exact a,fun z=>by rw [atKey_put_other (fun x=>e (hinj _ x))];exact b z⟩
theorem Reads.del (h:Reads key val D f){k:K}(hinj:∀ j,key j=key k→j=k)(h1:f' k=none)(h2:∀ j,j≠k→f' j=f j):Reads key val (D.del (key k)) f':=by
 refine ⟨fun kl hh=>?_,fun j hj=>?_,fun j u hj=>?_⟩
 · by_cases e:kl=key k
   · rw [e,has_del_same] at hh;cases hh
   · rw [has_del_other e] at hh
     obtain ⟨j,u,rfl,hj⟩:=h.keys kl hh;exact ⟨j,u,rfl,by rw [h2 j (fun x=>e (by rw [x]))];exact hj⟩
 · by_cases e:j=k
   · rw [e];exact has_del_same
   · rw [has_del_other (fun x=>e (hinj _ x))]
     exact h.gone j (by rw [← h2 j e];exact hj)
 · have e:j≠k:=fun x=>by rw [x,h1] at hj;cases hj
   rw [h2 j e] at hj;obtain ⟨a,b⟩:=h.there j u hj;exact ⟨by rw [has_del_other (fun x=>e (hinj _ x))];exact a,fun z=>by rw [atKey_del_other (fun x=>e (hinj _ x))];exact b z⟩
theorem Reads.congr (h:Reads key val D f)(e:∀ k,f' k=f k):Reads key val D f':=by
 have:f'=f:=funext e;rw [this];exact h
end
end
section
open Go Go.RowKit Go.Deep Go.Maps
theorem undHandle:(match Tryz.prog.underlying 35 with | some (.array _ _) | some (.struct _)=>true | _=>false)=true:=by kernel_rfl
theorem keyHandle:Tryz.prog.keyType 35=true:=by kernel_rfl
theorem laidOut:laidOutB Tryz.prog=true:=by kernel_rfl
theorem lawH:Keyed Tryz.prog 35:=Keyed.of_law (deep_law_gate laidOut (by decide +kernel) (by decide +kernel) keyHandle undHandle)
theorem lawS:Keyed Tryz.prog 9:=Keyed.of_law (WideMaps.string_law Tryz.underlying9)
def handV (i c:Nat):Value:=zG i c
def hkey (k:Nat×Nat):Lit:=if k.1 < 9223372036854775808∧k.2 < 9223372036854775808 then .string (keyBytes [.int .i64 (k.1:Nat),.int .i64 (k.2:Nat)]) else .bool false
theorem hkey_key (k:Nat×Nat):WideAt.IsKeyLit (hkey k):=by
 unfold hkey
 split<;>trivial
theorem cellsInt:Tryz.prog.cellsOf 3=1:=by kernel_rfl
theorem cellsHandle:Tryz.prog.cellsOf 35=2:=by kernel_rfl
theorem lits_int (d:Nat)(n:Nat)(h:n < 9223372036854775808):Tryz.prog.keyLits (d+1) 3 [.int .i64 n]=some [.int .i64 n]:=by
 have hw:=key_wf h;unfold Program.keyLits;rw [Tryz.underlying3];simp [hw]
theorem keyOf_handle {i c:Nat}(hi:i < 9223372036854775808)(hc:c < 9223372036854775808):keyOf Tryz.prog 35 (handV i c)=some (hkey (i,c)):=by
 have h0:0 < Tryz.prog.types.size:=by decide +kernel
 obtain ⟨m,hm⟩:∃ m,Tryz.prog.types.size=m+1:=⟨Tryz.prog.types.size - 1,by omega⟩
 have hf:(handV i c).formed Tryz.prog 35=true:=by
  unfold handV Value.formed;rw [Tryz.underlying35,cellsHandle];rfl
 have hl:Tryz.prog.keyLits (m+1+1) 35 (handV i c).cells.toList=some [.int .i64 i,.int .i64 c]:=by
  unfold Program.keyLits;rw [Tryz.underlying35,cellsHandle];simp [handV,Value.cells,cellsInt,lits_int m i hi,lits_int m c hc]
 have hkk:hkey (i,c) = .string (keyBytes [.int .i64 (i:Nat),.int .i64 (c:Nat)]):=if_pos (And.intro hi hc);rw [hkk];unfold keyOf;rw [Tryz.underlying35,keyHandle,hf,hm,hl];rfl
theorem handV_inj {i c j d:Nat}(h:handV i c=handV j d):i=j∧c=d:=by
 unfold handV at h;simp only [Value.agg.injEq,Array.mk.injEq,List.cons.injEq,Value.int.injEq,true_and,and_true] at h;omega
theorem undDirs:Tryz.prog.underlying 102=some (.map 35 101):=by kernel_rfl
theorem undNames:Tryz.prog.underlying 101=some (.map 9 35):=by kernel_rfl
theorem undPins:Tryz.prog.underlying 103=some (.map 35 3):=by kernel_rfl
theorem infoDir:(Tryz.prog.info? 101).map (fun i=>(i.zero,i.size))=some (some (.map none),1):=by kernel_rfl
theorem infoHand:(Tryz.prog.info? 35).map (fun i=>(i.zero,i.size))=some (some (zG 0 0),2):=by kernel_rfl
theorem zeroDir (w:World):(zeroValue 101).run Tryz.prog w = .ok (.map none) w:=(zero_of_info infoDir).1 w
theorem zeroHand (w:World):(zeroValue 35).run Tryz.prog w = .ok (zG 0 0) w:=(zero_of_info infoHand).1 w
def mapElem:Value→Option (DataW Unit×List MemPlace)
 | .map (some b)=>some (.lit (.int .i64 b),[])
 | .map none=>some (.lit (.int .i64 (-1)),[])
 | _=>none
def handElem:Value→Option (DataW Unit×List MemPlace)
 | .agg cs=>match cs.toList with
  | [.int .i64 a,.int .i64 b]=>some (.agg [.lit (.int .i64 a),.lit (.int .i64 b)],[])
  | _=>none
 | _=>none
theorem handElem_mk (i c:Nat):handElem (handV i c)=some (entV i c,[]):=rfl
theorem mapElem_inv {v:Value}{b:Nat}{ps:List MemPlace}(h:mapElem v=some (.lit (.int .i64 b),ps)):v = .map (some b):=by
 unfold mapElem at h
 split at h
 · simp only [Option.some.injEq,Prod.mk.injEq,DataW.lit.injEq,Lit.int.injEq,true_and] at h
   have:(_:Nat)=b:=Int.ofNat_inj.1 h.1;rw [this]
 · simp at h
 · cases h
theorem handElem_inv {v:Value}{i c:Nat}{ps:List MemPlace}(h:handElem v=some (entV i c,ps)):v=handV i c:=by
 unfold handElem at h
 split at h
 · rename_i cs
   split at h
   · rename_i a b e
     simp only [entV,Option.some.injEq,Prod.mk.injEq,DataW.agg.injEq,List.cons.injEq,DataW.lit.injEq,Lit.int.injEq,true_and,and_true] at h;obtain ⟨⟨h1,h2⟩,_⟩:=h;unfold handV;rw [← h1,← h2];congr 1;rw [← e]
   · cases h
 · cases h
structure DirM where
 b:Nat
 l:List Ent
structure Tr where
 t:Nat
 p:Row
 most:Nat
 g:Nat→Nat
 nd:Nat→Option Nod
 db:Nat
 ds:Nat→Option DirM
 pb:Nat
 pn:Nat→Nat
def Tr.dirsF (T:Tr)(k:Nat×Nat):Option Nat:=if k.2=T.g k.1 then (T.ds k.1).map (·.b) else none
def Tr.pinsF (T:Tr)(k:Nat×Nat):Option Nat:=if k.2=T.g k.1∧0 < T.pn k.1 then some (T.pn k.1) else none
def numD (n:Nat):DataW Unit := .lit (.int .i64 n)
def DirsAt (w:World)(T:Tr):Prop:=∃ D n,w.ownsMap Tryz.prog 35 mapElem T.db n D∧n≤1000000∧Reads hkey numD D T.dirsF
def PinsAt (w:World)(T:Tr):Prop:=∃ D n,w.ownsMap Tryz.prog 35 (plainElem Tryz.prog 3) T.pb n D∧n≤1000000∧Reads hkey numD D T.pinsF
def DirAt (w:World)(d:DirM):Prop:=w.ownsMap Tryz.prog 9 handElem d.b d.l.length (entD d.l)
structure Small (T:Tr):Prop where
 N:T.p.N≤1000
 g:∀ i,T.g i≤5000000000000000000
structure TreeAt (w:World)(tr:Nat)(T:Tr):Prop where
 c0:w.cell? (zA tr 0)=some (zP T.t)
 c1:w.cell? (zA tr 1)=some (.map (some T.db))
 c2:w.cell? (zA tr 2)=some (.map (some T.pb))
 tab:TabAt w T.t T.p T.most T.g T.nd
 dirs:DirsAt w T
 dir:∀ i d,T.ds i=some d→DirAt w d
 pins:PinsAt w T
 one:∀ i j d d',T.ds i=some d→T.ds j=some d'→d.b=d'.b→i=j
 small:Small T
 ftr:¬ InFoot T.t T.p T.most T.nd tr
 fdb:¬ InFoot T.t T.p T.most T.nd T.db
 fpb:¬ InFoot T.t T.p T.most T.nd T.pb
 fdir:∀ i d,T.ds i=some d→¬ InFoot T.t T.p T.most T.nd d.b∧d.b≠T.db∧d.b≠T.pb
 dp:T.db≠T.pb
 dlt:∀ i d,T.ds i=some d→i < T.p.N
 plt:∀ i,0 < T.pn i→i < T.p.N
def FootT (tr:Nat)(T:Tr)(k:Nat):Prop:=k=tr∨k=T.db∨k=T.pb∨(∃ i d,T.ds i=some d∧k=d.b)∨InFoot T.t T.p T.most T.nd k
section
variable {w w':World}{tr:Nat}{T:Tr}
theorem own_only {K:TypeId}{R:Value→Option (DataW Unit×List MemPlace)}{b n:Nat}{D:DataW Unit}{L:List Nat}(h:w.ownsMap Tryz.prog K R b n D)(ho:Only L w w')(hb:b∉L):w'.ownsMap Tryz.prog K R b n D:=by
 have hlt:=h.lt;obtain ⟨es,clock,h1,r⟩:=h;exact ⟨es,clock,(ho.block b hlt hb).trans h1,r⟩
theorem own_sized {K:TypeId}{R:Value→Option (DataW Unit×List MemPlace)}{b n:Nat}{D:DataW Unit}(h:w.ownsMap Tryz.prog K R b n D):w.ownsMap Tryz.prog K R b (Maps.size D) D:=by
 obtain ⟨es,clock,hb,F,_,rfl⟩:=h;exact ⟨es,clock,hb,F,by simp [Maps.size,length_sorted],rfl⟩
theorem own_ne_cell {K:TypeId}{R:Value→Option (DataW Unit×List MemPlace)}{b n g o:Nat}{D:DataW Unit}{v:Value}(h:w.ownsMap Tryz.prog K R b n D)(hc:w.cell? ⟨g,o,none⟩=some v):b≠g:=by
 obtain ⟨es,clock,hb,_⟩:=h;intro e;subst e;simp [World.cell?,hb] at hc
theorem TreeAt.foot_lt (h:TreeAt w tr T):∀ k,FootT tr T k→k < w.heap.size:=by
 rintro k (rfl | rfl | rfl | ⟨i,d,hd,rfl⟩ | hk)
 · exact zv h.c0
 · obtain ⟨D,n,h1,_⟩:=h.dirs;exact h1.lt
 · obtain ⟨D,n,h1,_⟩:=h.pins;exact h1.lt
 · exact World.ownsMap.lt (h.dir i d hd)
 · exact h.tab.foot_lt k hk
theorem TreeAt.kept {L:List Nat}(h:TreeAt w tr T)(ho:Only L w w')(hd:∀ k,FootT tr T k→k∉L):TreeAt w' tr T:=by
 have htr:tr < w.heap.size:=zv h.c0;have hl:=hd tr (Or.inl rfl);obtain ⟨D,n,d1,d2,d3⟩:=h.dirs;obtain ⟨P,m,p1,p2,p3⟩:=h.pins
 exact ⟨(ho.cell (p:=⟨tr,0,none⟩) htr hl).trans h.c0,(ho.cell (p:=⟨tr,1,none⟩) htr hl).trans h.c1,(ho.cell (p:=⟨tr,2,none⟩) htr hl).trans h.c2,
  h.tab.kept ho (fun k hk=>hd k (Or.inr (Or.inr (Or.inr (Or.inr hk))))),⟨D,n,own_only d1 ho (hd _ (Or.inr (Or.inl rfl))),d2,d3⟩,fun i d e=>own_only (h.dir i d e) ho (hd _ (Or.inr (Or.inr (Or.inr (Or.inl ⟨i,d,e,rfl⟩))))),
  ⟨P,m,own_only p1 ho (hd _ (Or.inr (Or.inr (Or.inl rfl)))),p2,p3⟩,h.one,h.small,h.ftr,h.fdb,h.fpb,h.fdir,h.dp,h.dlt,h.plt⟩
theorem TreeAt.only (h:TreeAt w tr T)(ho:zQ w w'):TreeAt w' tr T:=h.kept ho (fun _ _=>by simp)
theorem TreeAt.table {p':Row}{g':Nat→Nat}{nd':Nat→Option Nod}{L:List Nat}(h:TreeAt w tr T)(ht:TabAt w' T.t p' T.most g' nd')(ho:Only L w w')(hL:∀ k∈L,InFoot T.t T.p T.most T.nd k)
  (hf:∀ k,InFoot T.t p' T.most nd' k→InFoot T.t T.p T.most T.nd k∨w.heap.size≤k) (hs:Small { T with p:=p',g:=g',nd:=nd' }) (hN:T.p.N≤p'.N) (hd:∀ k,Tr.dirsF { T with p:=p',g:=g',nd:=nd' } k=T.dirsF k) (hp:∀ k,Tr.pinsF { T with p:=p',g:=g',nd:=nd' } k=T.pinsF k) :
  TreeAt w' tr { T with p:=p',g:=g',nd:=nd' }:=by
 have htr:tr < w.heap.size:=zv h.c0;have hl:tr∉L:=fun hm=>h.ftr (hL tr hm);obtain ⟨D,n,d1,d2,d3⟩:=h.dirs;obtain ⟨P,m,p1,p2,p3⟩:=h.pins
 have away:∀ k,k < w.heap.size→¬ InFoot T.t T.p T.most T.nd k→¬ InFoot T.t p' T.most nd' k:=fun k hk hn hm=>by
  rcases hf k hm with h1 | h1
  · exact hn h1
  · omega
 refine ⟨(ho.cell (p:=⟨tr,0,none⟩) htr hl).trans h.c0,(ho.cell (p:=⟨tr,1,none⟩) htr hl).trans h.c1,(ho.cell (p:=⟨tr,2,none⟩) htr hl).trans h.c2,ht,
  ⟨D,n,own_only d1 ho (fun hm=>h.fdb (hL _ hm)),d2,d3.congr hd⟩,fun i d e=>own_only (h.dir i d e) ho (fun hm=>(h.fdir i d e).1 (hL _ hm)),⟨P,m,own_only p1 ho (fun hm=>h.fpb (hL _ hm)),p2,p3.congr hp⟩,h.one,hs,
  away _ htr h.ftr,away _ d1.lt h.fdb,away _ p1.lt h.fpb,fun i d e=>⟨away _ (World.ownsMap.lt (h.dir i d e)) (h.fdir i d e).1,(h.fdir i d e).2⟩,h.dp,fun i d e=>Nat.lt_of_lt_of_le (h.dlt i d e) hN,fun i e=>Nat.lt_of_lt_of_le (h.plt i e) hN⟩
theorem TreeAt.node {i:Nat}{n n':Nod}(h:TreeAt w tr T)(hn:T.nd i=some n)(hb:n'.b=n.b)(hm:n'.m=n.m)(ht:TabAt w' T.t T.p T.most T.g (setN T.nd i (some n')))(ho:Only [n.b] w w'):TreeAt w' tr { T with nd:=setN T.nd i (some n') } :=
 h.table (p':=T.p) (g':=T.g) ht ho (fun k hk=>by simp at hk;subst hk;exact .node hn n.b_foot) (fun k hk=>Or.inl (by
  rcases hk with h1 | h1 | ⟨j,m,hj,hk⟩
  · exact Or.inl h1
  · exact Or.inr (Or.inl h1)
  · by_cases e:j=i
    · subst e
      rw [setN_same] at hj
      cases hj
      refine .node hn ?_;unfold Nod.foot at hk ⊢;rw [hb,hm] at hk;exact hk
    · rw [setN_other _ _ e] at hj
      exact .node hj hk)) ⟨h.small.N,h.small.g⟩ (Nat.le_refl _) (fun _=>rfl) (fun _=>rfl)
theorem hkey_inj {i c j e:Nat}(hi:i < 9223372036854775808)(hc:c < 9223372036854775808)(hj:j < 9223372036854775808)(he:e < 9223372036854775808)(h:hkey (i,c)=hkey (j,e)):i=j∧c=e:=by
 have h1:=keyOf_handle hi hc;rw [h] at h1;exact handV_inj (lawH.inj h1 (keyOf_handle hj he))
theorem hkey_only {i c:Nat}(hi:i < 9223372036854775808)(hc:c < 9223372036854775808)(j:Nat×Nat)(h:hkey j=hkey (i,c)):j=(i,c):=by
 obtain ⟨j1,j2⟩:=j
 by_cases hj:j1 < 9223372036854775808∧j2 < 9223372036854775808
 · obtain ⟨rfl,rfl⟩:=hkey_inj hj.1 hj.2 hi hc h
   rfl
 · unfold hkey at h
   rw [if_neg hj,if_pos ⟨hi,hc⟩] at h
   cases h
theorem reads_size {val:Nat→DataW Unit}{D:DataW Unit}{f:Nat×Nat→Option Nat}{g:Nat→Nat}{N:Nat}(ht:Tidy D)(hK:∀ es,D = .map es→∀ p∈es,WideAt.IsKeyLit p.1)(hr:Reads hkey val D f)(hk:∀ i c,f (i,c)≠none→c=g i∧i < N)(hN:N≤1000)(hg:∀ i,g i≤5000000000000000000):Maps.size D≤N:=by
 obtain ⟨es,rfl,hp⟩:=ht
 have n1:(es.map Prod.fst).Nodup:=by
  unfold List.Nodup;rw [List.pairwise_map];exact hp
 have n2:(((List.range N).filter (fun i=>(f (i,g i)).isSome)).map (fun i=>hkey (i,g i))).Nodup:=by
  unfold List.Nodup;rw [List.pairwise_map];refine (List.Pairwise.filter _ (List.nodup_range (n:=N))).imp_of_mem fun {i j} hi hj hne e=>?_;have h1:=List.mem_range.1 (List.mem_filter.1 hi).1;have h2:=List.mem_range.1 (List.mem_filter.1 hj).1;have h3:=hg i;have h4:=hg j;exact hne (hkey_inj (by omega) (by omega) (by omega) (by omega) e).1
 have hm:(es.map Prod.fst).Perm (((List.range N).filter (fun i=>(f (i,g i)).isSome)).map (fun i=>hkey (i,g i))):=by
  rw [List.perm_ext_iff_of_nodup n1 n2];intro kl
  constructor
  · intro hkl
    obtain ⟨p,hp1,rfl⟩:=List.mem_map.1 hkl;have hh:has (.map es) p.1=true:=List.any_eq_true.2 ⟨p,hp1,WideAt.sameKey_self (hK es rfl p hp1)⟩;obtain ⟨⟨i,c⟩,v,e,hf⟩:=hr.keys _ hh;obtain ⟨rfl,h2⟩:=hk i c (by rw [hf];simp);exact List.mem_map.2 ⟨i,List.mem_filter.2 ⟨List.mem_range.2 h2,by rw [hf];rfl⟩,e.symm⟩
  · intro hkl
    obtain ⟨i,hi,rfl⟩:=List.mem_map.1 hkl;have hs:=(List.mem_filter.1 hi).2;rw [← hr.isSome] at hs;obtain ⟨p,hp1,hp2⟩:=List.any_eq_true.1 hs;exact List.mem_map.2 ⟨p,hp1,WideAt.sameKey_eq hp2⟩
 have h1:=hm.length_eq;have h2:=List.length_filter_le (fun i=>(f (i,g i)).isSome) (List.range N);simp only [List.length_map,List.length_range] at h1 h2;show es.length≤N;omega
theorem own_keys {R:Value→Option (DataW Unit×List MemPlace)}{b n:Nat}{D:DataW Unit}(h:w.ownsMap Tryz.prog 35 R b n D):∀ es,D = .map es→∀ p∈es,WideAt.IsKeyLit p.1:=fun es e p hp=>by
 obtain ⟨es',e',_,hk⟩:=h.entries lawH;rw [e] at e'
 cases e'
 exact hk p hp
theorem dirsF_key (T:Tr)(hd:∀ i d,T.ds i=some d→i < T.p.N)(i c:Nat)(h:T.dirsF (i,c)≠none):c=T.g i∧i < T.p.N:=by
 unfold Tr.dirsF at h
 by_cases e:c=T.g i
 · refine ⟨e,?_⟩
   cases hx:T.ds i with
   | none=>simp [hx] at h
   | some d=>exact hd i d hx
 · simp [e] at h
theorem dirs_put {n:Nat}{D:DataW Unit}{T':Tr}(h1:w'.ownsMap Tryz.prog 35 mapElem T'.db n D)(h2:Reads hkey numD D T'.dirsF)(h3:∀ i d,T'.ds i=some d→i < T'.p.N)(hs:Small T'):DirsAt w' T' :=
 ⟨D,_,own_sized h1,by have:=reads_size (h1.tidy lawH) (own_keys h1) h2 (dirsF_key T' h3) hs.N hs.g;have:=hs.N;omega,h2⟩
theorem TreeAt.key (h:TreeAt w tr T){i:Nat}(hi:i < T.p.N):keyOf Tryz.prog 35 (handV i (T.g i))=some (hkey (i,T.g i)) :=
 keyOf_handle (by have:=h.small.N;omega) (by have:=h.small.g i;omega)
end
theorem own_six_drew {w w2:World}{B:Nat}{a b c d e f:Value}{ty:TypeId}(h:zQ (w.alloc (.cells #[a,b,c,d,e,f] ty)).drew w2)(hB:w.heap.size=B):
 w2.cell? (zA B 0)=some a∧w2.cell? (zA B 1)=some b∧w2.cell? (zA B 2)=some c∧w2.cell? (zA B 3)=some d∧w2.cell? (zA B 4)=some e∧w2.cell? (zA B 5)=some f∧(∀ o,w2.frozen? ⟨B,o,none⟩=false)∧B < w2.heap.size:=own_six h.of_drew hB
def Held (tr t B:Nat)(i gi:Nat)(W:World):Prop:=W.cell? (zA tr 0)=some (zP t)∧W.cell? (zA B 0)=some (zI i)∧W.cell? (zA B 1)=some (zI gi)
theorem Held.only {w W:World}{tr t B i gi:Nat}{L:List Nat}(h:Held tr t B i gi w)(ho:Only L w W)(h1:tr∉L)(h2:B∉L):Held tr t B i gi W :=
 ⟨(ho.cell (p:=⟨tr,0,none⟩) (zv h.1) h1).trans h.1,(ho.cell (p:=⟨B,0,none⟩) (zv h.2.1) h2).trans h.2.1,(ho.cell (p:=⟨B,1,none⟩) (zv h.2.2) h2).trans h.2.2⟩
theorem Held.first {w:World}{tr t i gi:Nat}{ty:TypeId}(ct:w.cell? (zA tr 0)=some (zP t)):Held tr t w.heap.size i gi (w.alloc (.cells #[zI i,zI gi] ty)):=by
 have hh:=zh w (.cells #[zI i,zI gi] ty);exact ⟨(((Only.refl [] w).alloc _).cell (p:=⟨tr,0,none⟩) (zv ct) (by simp)).trans ct,cell_of_row _ _ 0 _ _ _ hh,cell_of_row _ _ 1 _ _ _ hh⟩
theorem isDir_any (w:World)(tr:Nat)(T:Tr)(i:Nat)(h:TreeAt w tr T)(hi:i < T.p.N):
  zO 90 #[zP tr,zG i (T.g i:Nat)] w (.bool (T.ds i).isSome):=by
 have ct:=h.c1;have htl:tr < w.heap.size:=zv ct;obtain ⟨D,n,d1,_,d3⟩:=h.dirs;have d1':=own_only d1 (((Only.refl [] w).alloc (zH i (T.g i:Nat))).drew) (by simp)
 have hhas:has D (hkey (i,T.g i))=(T.ds i).isSome:=by
  rw [d3.isSome];unfold Tr.dirsF;rw [if_pos rfl]
  cases T.ds i<;>rfl
 obtain ⟨v,ps,hrun,_⟩:=d1'.look_ok lawH undDirs (zeroDir _) (zd := .lit (.int .i64 (-1))) (zp:=[]) rfl (h.key hi);rw [hhas] at hrun;unfold handV at hrun;clear h d1 d1' d3 hhas;generalize T.db=db at ct hrun;generalize T.g i=gi at hrun ⊢;generalize (T.ds i).isSome=x at hrun ⊢
 go_enter Tryz.func90,Tryz.ntmps90
 go_wp2
 go_region
 go_wp2
 go_ret
 exact ⟨rfl,((Only.refl _ _).alloc _).drew⟩
theorem touch_ok (w:World)(tr:Nat)(T:Tr)(i:Nat)(n:Nod)(h:TreeAt w tr T)(hn:T.nd i=some n)(hC:0≤n.C∧n.C≤9000000000000000000):
  zK 56 #[zP tr,zG i (T.g i:Nat)] w fun e w'=>e = .returned (.tuple #[])∧TreeAt w' tr { T with nd:=setN T.nd i (some { n with C:=n.C+1 }) }∧Only [n.b] w w':=by
 have HC:Hid (∀ w1,zQ w w1→_):=fun w1 (ho:zQ w w1)=>ttouch_ok w1 T.t T.p T.most i T.g T.nd n (h.tab.kept ho (fun _ _=>by simp)) hn hC;have H:Hid (TreeAt w tr T):=h;have HN:Hid (T.nd i=some n):=hn;have ct:=h.c0;have htl:tr < w.heap.size:=zv ct;clear h hn hC;have HS0:Hid (Held tr T.t w.heap.size i (T.g i) (w.alloc (zH i (T.g i:Nat))).drew):=(Held.first ct).only ((Only.refl [] _).drew) (by simp) (by simp);have hnb:n.b < w.heap.size:=zv (H.out.tab.node i n HN.out).c0
 have HNB:Hid (w.heap.size∉[n.b]):=show w.heap.size∉[n.b] from (fun hm=>by have e:w.heap.size=n.b:=(by simpa using hm);omega)
 have HNT:Hid (tr∉[n.b]):=show tr∉[n.b] from (fun hm=>by have e:tr=n.b:=(by simpa using hm);exact H.out.ftr (by rw [e];exact .node HN.out n.b_foot))
 clear ct;have HW1:Hid (zQ w (w.alloc (zH i (T.g i:Nat))).drew):=((Only.refl [] _).alloc _).drew
 go_enter Tryz.func56,Tryz.ntmps56
 go_wp2
 go_region_held3 (fun W=>W.cell? (zA tr 0)=some (zP T.t)∧W.cell? (zA w.heap.size 0)=some (zI i)∧W.cell? (zA w.heap.size 1)=some (zI (T.g i:Nat))) (first | exact HS0.out | exact hS2)
  (first | (go_at_call 88;refine (HC.out _ HW1.out).mono ?_;rintro e w2 ⟨rfl,hT2,ho2⟩;have HT2:Hid (TabAt w2 T.t T.p T.most T.g (setN T.nd i (some { n with C:=n.C+1 }))):=hT2;have HO2:Hid (Only [n.b] (w.alloc (zH i (T.g i:Nat))).drew w2):=ho2;have hS2:Held tr T.t w.heap.size i (T.g i) w2:=HS0.out.only ho2 HNT.out HNB.out;clear hT2 ho2))
 all_goals go_wp2
 all_goals go_end0
 all_goals
  have ho:Only [n.b] w w2:=((Only.refl [n.b] w).alloc _).drew.trans HO2.out (fun _ hk=>Or.inl hk);exact ⟨rfl,H.out.node HN.out rfl rfl HT2.out ho,ho⟩
end
end Go.Proofs.YtkcabopgajlmdaaGreatDoor
