import Derived.Test.YtbdfjbmocifhmaaGreatDoorK9
set_option maxRecDepth 100000
set_option maxHeartbeats 8000000
namespace Go.Proofs.YtbdfjbmocifhmaaGreatDoor
section
open Go Go.RowKit Go.Deep Go.Maps
theorem dsizeO (w:World)(g o:Nat)(S:ByteArray)(H:List Bool)(m:Option Nat)(hD:DataO w g o S H m):
  Calls Tryz.prog 105 #[.pointer (some ⟨g,o,none⟩)] w fun e w'=>e = .returned (.int .i64 (S.size:Nat))∧w=w':=by
 have hc:=hD.size;clear hD
 go_enter Tryz.func105,Tryz.ntmps105
 go_wp2
 go_ret
 exact ⟨rfl,rfl⟩
theorem writeInZO (w:World)(g o b:Nat)(f:Nat→Option (List UInt8))(q:Nat)(s:ByteArray)(hc:w.cell? ⟨g,o+1,none⟩=some (.map (some b)))(hM:MapAt w (some b) f)(hq:q < 4096)(z:Int)(hz:z=(q:Int))(n:Nat)(hn:min s.size (64 - q % 64)=n):
  Calls Tryz.prog 129 #[.pointer (some ⟨g,o,none⟩),.int .i64 z,.string s] w fun e w'=>e = .returned (.int .i64 (n:Int)) ∧
   MapAt w' (some b) (upd f (q / 64) (over ((f (q / 64)).getD zero64) (q % 64) (partS s 0 n)))∧Only [b] w w':=by
 subst hz hn;obtain ⟨D,h1,h2⟩:=hM;exact (writeInO w g o b f D q s hc h1 h2 hq).mono fun e w' ⟨he,ho,hw⟩=>⟨he,ho,hw⟩
structure MidO (w wx:World)(g o b:Nat)(m:Option Nat)(S:ByteArray)(f:Nat→Option (List UInt8)):Prop where
 size:wx.cell? ⟨g,o,none⟩=some (.int .i64 (S.size:Nat))
 map:wx.cell? ⟨g,o+1,none⟩=some (.map (some b))
 fz:∀ k,wx.frozen? ⟨g,k,none⟩=false
 ty:Ty wx g 205
 at_:MapAt wx (some b) f
 only:Only (footD g m) w wx
 mine:b∈footD g m∨w.heap.size≤b
 rest:∀ k,k≠o→k≠o+1→wx.cell? ⟨g,k,none⟩=w.cell? ⟨g,k,none⟩
theorem MidO.step {w wx wy:World}{g o b:Nat}{m:Option Nat}{S:ByteArray}{f f':Nat→Option (List UInt8)}(h:MidO w wx g o b m S f)(ho:Only [b] wx wy)(hm:MapAt wy (some b) f'):MidO w wy g o b m S f':=by
 have hne:b≠g:=by
  obtain ⟨D,h1,_⟩:=h.at_;exact own_ne h1 h.map
 have hg:g < wx.heap.size:=lt_of_cell h.map
 have hn:g∉[b]:=by simpa using Ne.symm hne
 exact ⟨(ho.cell (p:=⟨g,o,none⟩) hg hn).trans h.size,(ho.cell (p:=⟨g,o+1,none⟩) hg hn).trans h.map,fun k=>(ho.frozen (p:=⟨g,k,none⟩) hg hn).trans (h.fz k),h.ty.only ho hn,hm,
  h.only.trans ho (fun i hi=>by rw [List.mem_singleton] at hi;subst hi;exact h.mine),h.mine,fun k h1 h2=>(ho.cell (p:=⟨g,k,none⟩) hg hn).trans (h.rest k h1 h2)⟩
theorem MidO.done {w wx:World}{g o b:Nat}{m:Option Nat}{S S':ByteArray}{H':List Bool}{f:Nat→Option (List UInt8)}(h:MidO w wx g o b m S f)(hs:Same f S' H')(z:Int)(hz:z=(S'.size:Nat)):
   DataO (wx.setCell ⟨g,o,none⟩ (.int .i64 z)) g o S' H' (some b)∧Only (footD g m) w (wx.setCell ⟨g,o,none⟩ (.int .i64 z))∧(∀ k,some b=some k→k∈footD g m∨w.heap.size≤k)∧∀ k,k≠o→k≠o+1→(wx.setCell ⟨g,o,none⟩ (.int .i64 z)).cell? ⟨g,k,none⟩=w.cell? ⟨g,k,none⟩:=by
 subst hz;refine ⟨⟨World.cell?_setCell_same _ _ _ h.size,?_,fun k=>?_,h.ty.set _ _,f,hs,?_⟩,h.only.setCell (Or.inl (by simp [footD])) _,fun k e=>by cases e;exact h.mine,fun k h1 h2=>by rw [World.cell?_setCell_other _ _ _ _ (by simp)];exact h.rest k h1 h2⟩
 · rw [World.cell?_setCell_other _ _ _ _ (by simp)];exact h.map
 · rw [World.frozen?_setCell];exact h.fz k
 · obtain ⟨D,h1,h2⟩:=h.at_
   exact ⟨D,h1.setCell (own_ne h1 h.map) _,h2⟩
theorem dwriteO (w:World)(g o:Nat)(S s:ByteArray)(H:List Bool)(m:Option Nat)(a:Nat)(hD:DataO w g o S H m)(hs1:1≤s.size)(hle:a+s.size≤4096):
  Calls Tryz.prog 90 #[.pointer (some ⟨g,o,none⟩),.int .i64 a,.string s] w fun e w'=>e = .returned .nilIface ∧
   ∃ m',DataO w' g o (writeS S a s) (marksH H (a / 64) ((a+s.size - 1) / 64+1 - a / 64)) m'∧Only (footD g m) w w'∧(∀ k,m'=some k→k∈footD g m∨w.heap.size≤k)∧∀ k,k≠o→k≠o+1→w'.cell? ⟨g,k,none⟩=w.cell? ⟨g,k,none⟩:=by
 obtain ⟨f,hsame,hmap⟩:=hD.holds;have hd:decide ((a:Int) < 0)=false:=decide_eq_false (by omega);have hd3:decide (4096 - (s.size:Int) < (a:Int))=false:=decide_eq_false (by omega)
 have hse:(s.toList==[])=false:=by
  rw [Lib.toList_data,beq_eq_false_iff_ne];intro k;have:s.data.toList.length=s.size:=rfl;rw [k] at this;simp at this;omega
 have hc:=hD.map;have hf1:=hD.fz (o+1);have hq:=fun w=>run_eql_map_nil_sl (P:=Tryz.prog) w 201 _ _ m undMap;have HD:Hid (DataO w g o S H m):=hD;have HM:Hid (MapAt w m f):=hmap;have HS:Hid (Same f S H):=hsame;clear hD hmap hsame
 go_enter Tryz.func90,Tryz.ntmps90
 go_upto_if 24 with fail
 go_cut [] (fun wx=>∃ b,MidO w wx g o b m S f)
 case first =>
  cases m with
  | none =>
   have hmk:=run_makeMap (P:=Tryz.prog) 201 w;have hlt:g < w.heap.size:=lt_of_cell hc
   have hM0:Hid (MidO w ((w.alloc (.map #[] 0)).setCell ⟨g,o+1,none⟩ (.map (some w.heap.size))) g o w.heap.size none S f):=by
     have hc0:(w.alloc (.map #[] 0)).cell? ⟨g,o,none⟩=some (.int .i64 (S.size:Nat)):=by rw [World.cell?_alloc_lt _ _ _ hlt];exact HD.out.size
     have hc1:(w.alloc (.map #[] 0)).cell? ⟨g,o+1,none⟩=some (.map none):=by rw [World.cell?_alloc_lt _ _ _ hlt];exact hc
     have hmm:MidO w ((w.alloc (.map #[] 0)).setCell ⟨g,o+1,none⟩ (.map (some w.heap.size))) g o w.heap.size none S f:=by
       refine ⟨?_,World.cell?_setCell_same _ _ _ hc1,fun k=>?_,(HD.out.ty.only ((Only.refl [] w).alloc _) (by simp)).set _ _,⟨.map [],?_,?_⟩,?_,Or.inr (Nat.le_refl _),fun k h1 h2=>by rw [World.cell?_setCell_other _ _ _ _ (by simp),World.cell?_alloc_lt _ _ _ hlt]⟩
       · rw [World.cell?_setCell_other _ _ _ _ (by simp)];exact hc0
       · rw [World.frozen?_setCell]
         exact (Only.of_below ((Below.refl _ _).alloc (Nat.le_refl _) _) [] |>.frozen (p:=⟨g,k,none⟩) hlt (by simp)).trans (HD.out.fz k)
       · exact ((World.ownsMap_made w Tryz.prog 3 blkElem).mono (Nat.zero_le _)).setCell (by simp;omega) _
       · rw [show f=_ from HM.out];exact Holds.empty
       · exact ((Only.refl _ w).alloc _).setCell (Or.inl (by simp [footD])) _
     exact hmm
   go_wp2
   go_meet
   exact ⟨w.heap.size,(World.setCell_alloc_past (w:=w) (.map #[] 0) g (o+1) _ hlt) ▸ hM0.out⟩
  | some b =>
   go_wp2
   go_meet
   exact ⟨b,HD.out.size,HD.out.map,HD.out.fz,HD.out.ty,HM.out,Only.refl _ _,Or.inl (by simp [footD]),fun _ _ _=>rfl⟩
 case rest =>
  obtain ⟨b,hmid⟩:=hcut;clear hc hf1 hq HM HD
  go_wp2
  go_loopw [7] (fun i wr=>∃ (d:Nat) (f':Nat→Option (List UInt8)),d≤s.size∧i = .int .i64 d∧Wrote f a s d f'∧MidO w wr g o b m S f') (fun i _=>s.size - (intOf i).toNat)
  case atStart=>exact ⟨0,f,Nat.zero_le _,rfl,Wrote.start f a s,hmid⟩
  case round =>
   obtain ⟨d,f',hdle,rfl,hW,hmid'⟩:=hrel
   by_cases hlt:d < s.size
   · obtain ⟨n,hn⟩:∃ n,min (s.extract d s.size).size (64 - (a+d) % 64)=n:=⟨_,rfl⟩
     have hz:(s.extract d s.size).size=s.size - d:=by rw [ByteArray.size_extract];omega
     have hn':n=min (64 - (a+d) % 64) (s.size - d):=by rw [hz] at hn;omega
     have hcall:=writeInZO wr g o b f' (a+d) (s.extract d s.size) hmid'.map hmid'.at_ (by omega) ((a:Int)+(d:Int)) (by omega) n hn;rw [part_tail] at hcall;have HW:Hid (Wrote f a s (d+n) (upd f' ((a+d) / 64) (over ((f' ((a+d) / 64)).getD zero64) ((a+d) % 64) (partS s d n)))):=hW.step hlt (hmid'.at_.getLen _) hn';have HM:Hid (MidO w wr g o b m S f'):=hmid'
     have hn1:1≤n:=by omega
     have hn2:d+n≤s.size:=by omega
     clear hmid' hW hn hn' hz hmid
     go_wp2_with (go_at_call 129;go_must (refine hcall.mono ?_);rintro e w2 ⟨rfl,hm2,ho2⟩)
     go_roundw
     case rel=>exact ⟨d+n,_,hn2,by go_num,HW.out,HM.out.step ho2 hm2⟩
     case measure=>simp [intOf];omega
   · obtain rfl:d=s.size:=by omega
     have c0:=hmid'.size;have f0:=hmid'.fz o;clear hmid;have HSm:Hid (Same f' (writeS S a s) (marksH H (a / 64) ((a+s.size - 1) / 64+1 - a / 64))):=hW.same HS.out hs1 hle;have HM:Hid (MidO w wr g o b m S f'):=hmid';have hwz:Hid ((writeS S a s).size=max S.size (a+s.size)):=writeS_size S a s;clear hmid' hW
     by_cases hmx:S.size≤a+s.size
     · go_wp2
       all_goals (go_ret;exact ⟨rfl,_,HM.out.done HSm.out _ (by rw [hwz.out];omega)⟩)
     · go_wp2
       all_goals (go_ret;exact ⟨rfl,_,HM.out.done HSm.out _ (by rw [hwz.out];omega)⟩)
section
variable (w:World)(t:Nat)(p:Row)(most:Nat)(g:Nat→Nat)(nd:Nat→Option Nod)
theorem find_yes (i:Nat)(n:Nod)(h:TabAt w t p most g nd)(hn:nd i=some n)(w1:World)(ho:Only [] w w1):
  Calls Tryz.prog 127 #[.pointer (some ⟨t,0,none⟩),.agg #[.int .i64 i,.int .i64 (g i:Nat)]] w1 fun e w'=>e = .returned (.tuple #[.pointer (some ⟨n.b,0,none⟩),.nilIface])∧Only [] w1 w' :=
 find_ok w1 t p most i g nd n (h.kept ho (fun _ _=>by simp)) hn
end
theorem own_six {w w2:World}{B:Nat}{a b c d e f:Value}{ty:TypeId}(h:Only [] (w.alloc (.cells #[a,b,c,d,e,f] ty)) w2)(hB:w.heap.size=B):
  w2.cell? ⟨B,0,none⟩=some a∧w2.cell? ⟨B,1,none⟩=some b∧w2.cell? ⟨B,2,none⟩=some c∧w2.cell? ⟨B,3,none⟩=some d∧w2.cell? ⟨B,4,none⟩=some e∧w2.cell? ⟨B,5,none⟩=some f∧(∀ o,w2.frozen? ⟨B,o,none⟩=false)∧B < w2.heap.size:=by
 subst hB;have hh:=heap_alloc_last w (.cells #[a,b,c,d,e,f] ty)
 have hlt:w.heap.size < (w.alloc (.cells #[a,b,c,d,e,f] ty)).heap.size:=by simp
 refine ⟨(h.cell (p:=⟨w.heap.size,0,none⟩) hlt (by simp)).trans (cell_of_row _ _ 0 _ _ _ hh),(h.cell (p:=⟨w.heap.size,1,none⟩) hlt (by simp)).trans (cell_of_row _ _ 1 _ _ _ hh),(h.cell (p:=⟨w.heap.size,2,none⟩) hlt (by simp)).trans (cell_of_row _ _ 2 _ _ _ hh),
  (h.cell (p:=⟨w.heap.size,3,none⟩) hlt (by simp)).trans (cell_of_row _ _ 3 _ _ _ hh),(h.cell (p:=⟨w.heap.size,4,none⟩) hlt (by simp)).trans (cell_of_row _ _ 4 _ _ _ hh),(h.cell (p:=⟨w.heap.size,5,none⟩) hlt (by simp)).trans (cell_of_row _ _ 5 _ _ _ hh),fun o=>?_,Nat.lt_of_lt_of_le hlt h.size⟩
 rw [h.frozen (p:=⟨w.heap.size,o,none⟩) hlt (by simp)];unfold World.frozen?;rw [hh];simp
theorem own_pairB {w w2:World}{B:Nat}{a b:Int}{ty:TypeId}(h:Only [] (w.alloc (.cells #[.int .i64 a,.int .i64 b] ty)) w2)(hB:w.heap.size=B):
  w2.cell? ⟨B,0,none⟩=some (.int .i64 a)∧w2.cell? ⟨B,1,none⟩=some (.int .i64 b)∧(∀ o,w2.frozen? ⟨B,o,none⟩=false)∧B < w2.heap.size:=by
 subst hB;exact own_pair h
def attrV (K Z L C UN UG:Int):Value := .agg #[.int .i64 K,.int .i64 Z,.int .i64 L,.int .i64 C,.int .i64 UN,.int .i64 UG]
def errV (a:Addr):Value := .iface 300 (.pointer (some a))
theorem tdata_ok (w:World)(t:Nat)(p:Row)(most i:Nat)(g:Nat→Nat)(nd:Nat→Option Nod)(n:Nod)(h:TabAt w t p most g nd)(hn:nd i=some n)(hK:n.K=1):
  Calls Tryz.prog 89 #[.pointer (some ⟨t,0,none⟩),.agg #[.int .i64 i,.int .i64 (g i:Nat)]] w fun e w'=>e = .returned (.tuple #[.pointer (some ⟨n.b,6,none⟩),.nilIface])∧Only [] w w':=by
 have HC:Hid (∀ w1,Only [] w w1→_):=find_yes w t p most g nd i n h hn;have ck:=(h.node i n hn).c0;have HK:Hid (w.cell? ⟨n.b,0,none⟩=some (.int .i64 n.K)):=ck;have hbl:n.b < w.heap.size:=lt_of_cell ck;clear h hn ck;generalize n.b=nb at HC HK hbl ⊢
 go_enter Tryz.func89,Tryz.ntmps89
 go_wp2_with (go_at_call 127;go_must (refine (HC.out _ ((Only.refl _ _).alloc _)).mono ?_);rintro e w2 ⟨rfl,ho2⟩;have HO:Hid (Only [] w w2):=((Only.refl _ _).alloc _).trans ho2 (fun _ hk=>by cases hk);have c0:=(HO.out.cell (p:=⟨nb,0,none⟩) hbl (by simp)).trans HK.out;rw [hK] at c0)
 exact bodyPost_ret (v := .tuple #[.pointer (some ⟨nb,6,none⟩),.nilIface]) (by simp [results,Tryz.results89,go_sem]) rfl ⟨rfl,HO.out⟩
theorem tattr_ok (w:World)(t:Nat)(p:Row)(most i:Nat)(g:Nat→Nat)(nd:Nat→Option Nod)(n:Nod)(z:Int)(h:TabAt w t p most g nd)(hn:nd i=some n)(hz:n.K=1∧z=(n.S.size:Int)∨n.K=2∧z=n.Z):
   Calls Tryz.prog 80 #[.pointer (some ⟨t,0,none⟩),.agg #[.int .i64 i,.int .i64 (g i:Nat)]] w fun e w'=>e = .returned (.tuple #[attrV n.K z n.L n.C n.UN n.UG,.nilIface])∧Only [] w w':=by
 have HC:Hid (∀ w1,Only [] w w1→_):=find_yes w t p most g nd i n h hn;have hN:=h.node i n hn;have HN:Hid (NodAt w n):=hN;have hbl:n.b < w.heap.size:=lt_of_cell hN.c0;clear h hn hN;obtain ⟨nb,K,Z,L,C,UN,UG,S,H,m⟩:=n;simp only at HC hbl hz ⊢;have hle:w.heap.size≤w.heap.size+1:=Nat.le_succ _;rcases hz with ⟨rfl,hz⟩ | ⟨rfl,hz⟩
 all_goals rw [hz]
 all_goals clear hz
 · go_enter Tryz.func80,Tryz.ntmps80
   go_wp2_with (first
    | (go_at_call 127;go_must (refine (HC.out _ (((Only.refl _ _).alloc _).alloc _)).mono ?_);rintro e w2 ⟨rfl,ho2⟩;have HO:Hid (Only [] w w2):=(((Only.refl _ _).alloc _).alloc _).trans ho2 (fun _ hk=>by cases hk);obtain ⟨r0,r1,r2,r3,r4,r5,f0,hl0⟩:=own_six (B:=w.heap.size+1) ho2 (by simp);have HN2:Hid (NodAt w2 ⟨nb,1,Z,L,C,UN,UG,S,H,m⟩):=HN.out.kept HO.out (fun _ _=>by simp);obtain ⟨c0,c1,c2,c3,c4,c5,_⟩:=HN2.out;have hb2:nb < w2.heap.size:=lt_of_cell c0)
    | (go_at_call 105;go_must (refine (dsizeO _ nb 6 S H m (HN2.out.d.kept ((Only.refl [] _).alloc _) (fun _ _=>by simp))).mono ?_);rintro e w3 ⟨rfl,rfl⟩)
    | go_in)
   refine bodyPost_ret (v := .tuple #[attrV 1 (S.size:Nat) L C UN UG,.nilIface]) (by simp [results,Tryz.results80,go_sem,r0,r1,r2,r3,r4,r5,hl0,attrV]) rfl ⟨rfl,?_⟩;exact ((((((HO.out.setCell (Or.inr hle) _).setCell (Or.inr hle) _).setCell (Or.inr hle) _).setCell (Or.inr hle) _).setCell (Or.inr hle) _).setCell (Or.inr hle) _).alloc _
 · go_enter Tryz.func80,Tryz.ntmps80
   go_wp2_with (first
    | (go_at_call 127;go_must (refine (HC.out _ (((Only.refl _ _).alloc _).alloc _)).mono ?_);rintro e w2 ⟨rfl,ho2⟩;have HO:Hid (Only [] w w2):=(((Only.refl _ _).alloc _).alloc _).trans ho2 (fun _ hk=>by cases hk);obtain ⟨r0,r1,r2,r3,r4,r5,f0,hl0⟩:=own_six (B:=w.heap.size+1) ho2 (by simp);have HN2:Hid (NodAt w2 ⟨nb,2,Z,L,C,UN,UG,S,H,m⟩):=HN.out.kept HO.out (fun _ _=>by simp);obtain ⟨c0,c1,c2,c3,c4,c5,_⟩:=HN2.out;have hb2:nb < w2.heap.size:=lt_of_cell c0)
    | go_in)
   refine bodyPost_ret (v := .tuple #[attrV 2 Z L C UN UG,.nilIface]) (by simp [results,Tryz.results80,go_sem,r0,r1,r2,r3,r4,r5,hl0,attrV]) rfl ⟨rfl,?_⟩;exact ((((((HO.out.setCell (Or.inr hle) _).setCell (Or.inr hle) _).setCell (Or.inr hle) _).setCell (Or.inr hle) _).setCell (Or.inr hle) _).setCell (Or.inr hle) _).alloc _
theorem DataO.put {w:World}{g o k:Nat}{S:ByteArray}{H:List Bool}{m:Option Nat}(h:DataO w g o S H m)(h0:k≠o)(h1:k≠o+1)(v:Value):DataO (w.setCell ⟨g,k,none⟩ v) g o S H m:=by
 obtain ⟨f,hs,hm⟩:=h.holds;refine ⟨?_,?_,fun j=>?_,h.ty.set _ _,f,hs,?_⟩
 · rw [World.cell?_setCell_other _ _ _ _ (by simp)];exact h.size
 · rw [World.cell?_setCell_other _ _ _ _ (by simp)];exact h.map
 · rw [World.frozen?_setCell];exact h.fz j
 · cases m with
   | none=>exact hm
   | some b =>
    obtain ⟨D,d1,d2⟩:=hm;exact ⟨D,d1.setCell (own_ne d1 h.size) _,d2⟩
theorem NodAt.putZ {w:World}{n:Nod}(h:NodAt w n)(z:Int):NodAt (w.setCell ⟨n.b,1,none⟩ (.int .i64 z)) { n with Z:=z }:=⟨(World.cell?_setCell_other _ _ _ _ (by simp)).trans h.c0,World.cell?_setCell_same _ _ _ h.c1,(World.cell?_setCell_other _ _ _ _ (by simp)).trans h.c2,(World.cell?_setCell_other _ _ _ _ (by simp)).trans h.c3,(World.cell?_setCell_other _ _ _ _ (by simp)).trans h.c4,(World.cell?_setCell_other _ _ _ _ (by simp)).trans h.c5,h.d.put (by omega) (by omega) _⟩
theorem NodAt.putL {w:World}{n:Nod}(h:NodAt w n)(z:Int):NodAt (w.setCell ⟨n.b,2,none⟩ (.int .i64 z)) { n with L:=z }:=⟨(World.cell?_setCell_other _ _ _ _ (by simp)).trans h.c0,(World.cell?_setCell_other _ _ _ _ (by simp)).trans h.c1,World.cell?_setCell_same _ _ _ h.c2,(World.cell?_setCell_other _ _ _ _ (by simp)).trans h.c3,(World.cell?_setCell_other _ _ _ _ (by simp)).trans h.c4,(World.cell?_setCell_other _ _ _ _ (by simp)).trans h.c5,h.d.put (by omega) (by omega) _⟩
theorem NodAt.putC {w:World}{n:Nod}(h:NodAt w n)(z:Int):NodAt (w.setCell ⟨n.b,3,none⟩ (.int .i64 z)) { n with C:=z }:=⟨(World.cell?_setCell_other _ _ _ _ (by simp)).trans h.c0,(World.cell?_setCell_other _ _ _ _ (by simp)).trans h.c1,(World.cell?_setCell_other _ _ _ _ (by simp)).trans h.c2,World.cell?_setCell_same _ _ _ h.c3,(World.cell?_setCell_other _ _ _ _ (by simp)).trans h.c4,(World.cell?_setCell_other _ _ _ _ (by simp)).trans h.c5,h.d.put (by omega) (by omega) _⟩
theorem NodAt.putUN {w:World}{n:Nod}(h:NodAt w n)(z:Int):NodAt (w.setCell ⟨n.b,4,none⟩ (.int .i64 z)) { n with UN:=z }:=⟨(World.cell?_setCell_other _ _ _ _ (by simp)).trans h.c0,(World.cell?_setCell_other _ _ _ _ (by simp)).trans h.c1,(World.cell?_setCell_other _ _ _ _ (by simp)).trans h.c2,(World.cell?_setCell_other _ _ _ _ (by simp)).trans h.c3,World.cell?_setCell_same _ _ _ h.c4,(World.cell?_setCell_other _ _ _ _ (by simp)).trans h.c5,h.d.put (by omega) (by omega) _⟩
theorem NodAt.putUG {w:World}{n:Nod}(h:NodAt w n)(z:Int):NodAt (w.setCell ⟨n.b,5,none⟩ (.int .i64 z)) { n with UG:=z }:=⟨(World.cell?_setCell_other _ _ _ _ (by simp)).trans h.c0,(World.cell?_setCell_other _ _ _ _ (by simp)).trans h.c1,(World.cell?_setCell_other _ _ _ _ (by simp)).trans h.c2,(World.cell?_setCell_other _ _ _ _ (by simp)).trans h.c3,(World.cell?_setCell_other _ _ _ _ (by simp)).trans h.c4,World.cell?_setCell_same _ _ _ h.c5,h.d.put (by omega) (by omega) _⟩
theorem TabAt.put {w w2 w':World}{t most i:Nat}{p:Row}{g:Nat→Nat}{nd:Nat→Option Nod}{n n':Nod}(h:TabAt w t p most g nd)(ho:Only [] w w2)(hn:nd i=some n)(hb:n'.b=n.b)(hm:n'.m=n.m)(hN:NodAt w' n')(hw:Only [n.b] w2 w'):
  TabAt w' t p most g (setN nd i (some n'))∧Only [n.b] w w':=by
 have o:Only [n.b] w w':=(ho.mono (L':=[n.b]) (by simp)).trans hw (fun i hi=>Or.inl hi);refine ⟨h.turn hn hb hN (o.mono (fun k hk=>Or.inl (by simp at hk;subst hk;exact n.b_foot))) (fun k hk=>Or.inl ?_),o⟩;unfold Nod.foot at hk ⊢;rw [hb,hm] at hk;exact hk
theorem ttouch_ok (w:World)(t:Nat)(p:Row)(most i:Nat)(g:Nat→Nat)(nd:Nat→Option Nod)(n:Nod)(h:TabAt w t p most g nd)(hn:nd i=some n)(hC:0≤n.C∧n.C≤9000000000000000000):
  Calls Tryz.prog 123 #[.pointer (some ⟨t,0,none⟩),.agg #[.int .i64 i,.int .i64 (g i:Nat)]] w fun e w'=>e = .returned .nilIface∧TabAt w' t p most g (setN nd i (some { n with C:=n.C+1 }))∧Only [n.b] w w':=by
 have HC:Hid (∀ w1,Only [] w w1→_):=find_yes w t p most g nd i n h hn;have HN:Hid (NodAt w n):=h.node i n hn;have HT:Hid (TabAt w t p most g nd):=h;have HI:Hid (nd i=some n):=hn;clear h hn;obtain ⟨hC0,hC1⟩:=hC
 go_enter Tryz.func123,Tryz.ntmps123
 go_wp2_with (go_at_call 127;go_must (refine (HC.out _ ((Only.refl _ _).alloc _)).mono ?_);rintro e w2 ⟨rfl,ho2⟩;have HO:Hid (Only [] w w2):=((Only.refl _ _).alloc _).trans ho2 (fun _ hk=>by cases hk);have HN2:Hid (NodAt w2 n):=HN.out.kept HO.out (fun _ _=>by simp);have c3:=HN2.out.c3;have f3:=HN2.out.d.fz 3)
 go_ret
 exact ⟨rfl,HT.out.put HO.out HI.out rfl rfl (HN2.out.putC _) ((Only.refl _ _).setCell (Or.inl (by simp)) _)⟩
theorem tadj_file (w:World)(t:Nat)(p:Row)(most i:Nat)(g:Nat→Nat)(nd:Nat→Option Nod)(n:Nod)(a b c d:Int)(h:TabAt w t p most g nd)(hn:nd i=some n)(hab:0≤a∧0≤b)(hK:n.K=1):
  Calls Tryz.prog 121 #[.pointer (some ⟨t,0,none⟩),.agg #[.int .i64 i,.int .i64 (g i:Nat)],.int .i64 a,.int .i64 b,.agg #[.int .i64 c,.int .i64 d]] w fun e w'=>e = .returned .nilIface∧TabAt w' t p most g (setN nd i (some { n with L:=b }))∧Only [n.b] w w':=by
 have HC:Hid (∀ w1,Only [] w w1→_):=find_yes w t p most g nd i n h hn;have HN:Hid (NodAt w n):=h.node i n hn;have HT:Hid (TabAt w t p most g nd):=h;have HI:Hid (nd i=some n):=hn;clear h hn;have hd1:decide (a < 0)=false:=decide_eq_false (by omega);have hd2:decide (b < 0)=false:=decide_eq_false (by omega)
 go_enter Tryz.func121,Tryz.ntmps121
 go_wp2_with (go_at_call 127;go_must (refine (HC.out _ (((Only.refl _ _).alloc _).alloc _)).mono ?_);rintro e w2 ⟨rfl,ho2⟩;have HO:Hid (Only [] w w2):=(((Only.refl _ _).alloc _).alloc _).trans ho2 (fun _ hk=>by cases hk);have HN2:Hid (NodAt w2 n):=HN.out.kept HO.out (fun _ _=>by simp);have c0:=HN2.out.c0;rw [hK] at c0;have c2:=HN2.out.c2;have f3:=HN2.out.d.fz)
 go_ret
 exact ⟨rfl,HT.out.put HO.out HI.out rfl rfl (HN2.out.putL b) ((Only.refl _ _).setCell (Or.inl (by simp)) _)⟩
theorem tadj_dir (w:World)(t:Nat)(p:Row)(most i:Nat)(g:Nat→Nat)(nd:Nat→Option Nod)(n:Nod)(a b c d:Int)(h:TabAt w t p most g nd)(hn:nd i=some n)(hab:0≤a∧0≤b)(hK:n.K=2):
  Calls Tryz.prog 121 #[.pointer (some ⟨t,0,none⟩),.agg #[.int .i64 i,.int .i64 (g i:Nat)],.int .i64 a,.int .i64 b,.agg #[.int .i64 c,.int .i64 d]] w fun e w'=>e = .returned .nilIface∧TabAt w' t p most g (setN nd i (some { n with Z:=a,UN:=c,UG:=d,L:=b }))∧Only [n.b] w w':=by
 have HC:Hid (∀ w1,Only [] w w1→_):=find_yes w t p most g nd i n h hn;have HN:Hid (NodAt w n):=h.node i n hn;have HT:Hid (TabAt w t p most g nd):=h;have HI:Hid (nd i=some n):=hn;clear h hn;have hd1:decide (a < 0)=false:=decide_eq_false (by omega);have hd2:decide (b < 0)=false:=decide_eq_false (by omega)
 go_enter Tryz.func121,Tryz.ntmps121
 go_wp2_with (go_at_call 127;go_must (refine (HC.out _ (((Only.refl _ _).alloc _).alloc _)).mono ?_);rintro e w2 ⟨rfl,ho2⟩;have HO:Hid (Only [] w w2):=(((Only.refl _ _).alloc _).alloc _).trans ho2 (fun _ hk=>by cases hk);have HN2:Hid (NodAt w2 n):=HN.out.kept HO.out (fun _ _=>by simp);have c0:=HN2.out.c0;rw [hK] at c0;have c1:=HN2.out.c1;have c2:=HN2.out.c2;have c4:=HN2.out.c4;have c5:=HN2.out.c5;have f3:=HN2.out.d.fz;obtain ⟨u0,u1,fu,hlu⟩:=own_pairB (B:=w.heap.size+1) ho2 (by simp);have hbl:=lt_of_cell c0;have hbw:=lt_of_cell HN.out.c0)
 go_region
 go_wp2
 go_ret
 have o5:Only [n.b] w2 ((((w2.setCell ⟨n.b,1,none⟩ (.int .i64 a)).setCell ⟨n.b,4,none⟩ (.int .i64 c)).setCell ⟨n.b,5,none⟩ (.int .i64 d)).setCell ⟨n.b,2,none⟩ (.int .i64 b)) :=
  ((((Only.refl [n.b] w2).setCell (Or.inl (by simp)) _).setCell (Or.inl (by simp)) _).setCell (Or.inl (by simp)) _).setCell (Or.inl (by simp)) _
 have hN5:=(((HN2.out.putZ a).putUN c).putUG d).putL b;exact ⟨rfl,HT.out.put (n':={ n with Z:=a,UN:=c,UG:=d,L:=b }) HO.out HI.out rfl rfl (hN5.kept ((Only.refl [] _).drew) (fun _ _=>by simp)) o5.drew⟩
theorem setN_again {α:Type}(f:Nat→α)(i:Nat)(a b:α):setN (setN f i a) i b=setN f i b:=by
 funext j
 by_cases h:j=i
 · subst h;rw [setN_same,setN_same]
 · rw [setN_other _ _ h,setN_other _ _ h,setN_other _ _ h]
end
end Go.Proofs.YtbdfjbmocifhmaaGreatDoor
