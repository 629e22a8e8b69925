import Derived.Shelf.SlSortCmp.QuietGrown
import Derived.Test.YtkcabopgajlmdaaGreatDoorK5
import Derived.Deep.CutBlock
set_option maxRecDepth 100000
set_option maxHeartbeats 8000000
namespace Go.Proofs.YtkcabopgajlmdaaGreatDoor
section
open Go Go.RowKit Go.Deep
structure OnlyBy (w0:World) where
 w:World
 ho:zQ w0 w
theorem wp_region_quiet_only {P:Program}{id:Nat}{Q:Exit→Act→World→Prop}{a:Act}{w0 w:World}{l:List Oper}(hO:zQ w0 w)(hm:P.follows .mixedOrders=true)(hB:Region.lexB .any l.toArray=true)
  (h:wpQuiet P l.toArray (fun w'=>∃ p:OnlyBy w0,w'=p.w) (fun a'=>∀ w',(∃ p:OnlyBy w0,w'=p.w)→Q .normal a' w') l a):(Code.region id l.toArray true).wp P Q a w :=
 wp_region_quiet (C:=fun w'=>∃ p:OnlyBy w0,w'=p.w) hm hB ⟨⟨w.drew,hO.drew⟩,rfl⟩ (by simpa using h)
theorem Calls.only_of {P:Program}{f:FuncId}{args:Array Value}{w0:World}{p:OnlyBy w0}{v:Value}(h:Calls P f args p.w fun e w'=>e = .returned v∧zQ p.w w'):Calls P f args p.w fun e w''=>e = .returned v∧∃ q:OnlyBy w0,w''=q.w :=
 h.mono fun _ w'' ⟨he,ho⟩=>⟨he,⟨w'',p.ho.trans ho (fun _ hk=>by cases hk)⟩,rfl⟩
end
section
open Go Go.RowKit Go.Deep Go.Maps
theorem look_name0 {w:World}{d:DirM}(h:DirAt w d)(s:ByteArray)(hs:s.size≤1000){e:Ent}(he:findE d.l s.data.toList=some e):(Instr.lookup 101 (.map (some d.b)) (.string s) false).run Tryz.prog w = .ok (zG e.i e.c) w:=by
 obtain ⟨v,ps,hr,hv⟩:=World.ownsMap.lookup h lawS undNames (zeroHand _) (zd:=entV 0 0) (zp:=[]) rfl (WideMaps.keyOf_string_mk Tryz.underlying9 (s:=s) (by unfold maxLen;omega));rw [at_entD,he] at hv;rw [hr,handElem_inv hv];rfl
theorem name_del {w:World}{d:DirM}(h:DirAt w d)(s:ByteArray)(hs:s.size≤1000)(ty:TypeId):∃ w',(Builtin.delete_ #[101,9] ty #[.map (some d.b),.string s]).run Tryz.prog w = .ok (.tuple #[]) w'∧w'.ownsMap Tryz.prog 9 handElem d.b (dropE d.l s.data.toList).length (entD (dropE d.l s.data.toList))∧Only [d.b] w w':=by
 obtain ⟨w',hr,ho,ht⟩:=World.ownsMap.drop h lawS undNames (WideMaps.keyOf_string_mk Tryz.underlying9 (s:=s) (by unfold maxLen;omega)) ty;refine ⟨w',hr,?_,only_turned ht⟩;rw [del_entD] at ho;have:=own_sized ho;rw [size_entD] at this;exact this
def HBox (w:World)(B i c:Nat):Prop:=w.heap[B]?=some (.cells #[zI i,zI c] 35 (0,0))
theorem HBox.cells {w:World}{B i c:Nat}(h:HBox w B i c):w.cell? (zA B 0)=some (zI i)∧w.cell? (zA B 1)=some (zI c):=⟨cell_of_row _ _ 0 _ _ _ h,cell_of_row _ _ 1 _ _ _ h⟩
theorem HBox.kept {w w':World}{B i c:Nat}{L:List Nat}(h:HBox w B i c)(ho:Only L w w')(hn:B∉L):HBox w' B i c:=(ho.block B (Array.getElem?_eq_some_iff.1 h).1 hn).trans h
theorem HBox.lt {w:World}{B i c:Nat}(h:HBox w B i c):B < w.heap.size:=(Array.getElem?_eq_some_iff.1 h).1
theorem zo {a b c:World}(h:zQ a b)(k:zQ b c):zQ a c:=h.trans k (fun _ hk=>by cases hk)
theorem take_dir (w:World)(tr:Nat)(T:Tr)(a i:Nat)(na ni:Nod)(d:DirM)(s:ByteArray)(h:TreeAt w tr T)(hd:T.ds a=some d)(ha:T.nd a=some na)(hKa:na.K=2)(hi:T.nd i=some ni)(hKi:ni.K=2)(he:findE d.l s.data.toList=some ⟨s.data.toList,i,T.g i⟩)(hl:d.l.length≤900)(hs:s.size≤1000)(hlive:∀ e∈d.l,e.i < T.p.N∧e.c=T.g e.i):
  zK 66 #[zP tr,zG a (T.g a:Nat),.string s] w fun e w'=>e = .returned (.tuple #[])∧TreeAt w' tr { T.named a d.b (dropE d.l s.data.toList) with nd:=setN T.nd a (some { na with Z:=((dropE d.l s.data.toList).length:Nat),L:=2+(dirsIn (dropE d.l s.data.toList) (T.named a d.b (dropE d.l s.data.toList)).ds:Int) }) }∧Only [d.b,na.b] w w':=by
 have hal:=h.tab.lt ha;have htl:tr < w.heap.size:=zv h.c0;have hdb:d.b < w.heap.size:=World.ownsMap.lt (h.dir a d hd);have HLK:Hid (∀ W,zQ w W→W.cell? (zA tr 1)=some (.map (some T.db))∧(Instr.lookup 102 (.map (some T.db)) (zG a (T.g a:Nat)) false).run Tryz.prog W = .ok (.map (some d.b)) W∧(Instr.lookup 101 (.map (some d.b)) (.string s) false).run Tryz.prog W = .ok (zG i (T.g i:Nat)) W):=fun W ho=>⟨(h.only ho).c1,look_dir (h.only ho) hal hd,look_name0 ((h.only ho).dir a d hd) s hs he⟩;have hA:zQ w (w.alloc (zH a (T.g a:Nat))):=(Only.refl [] w).alloc _;obtain ⟨p1,p2,p3⟩:=HLK.out _ hA.drew;obtain ⟨r1,r2,r3⟩:=HLK.out _ (hA.alloc (zH 0 0)).drew;obtain ⟨l',hlE⟩:∃ l',dropE d.l s.data.toList=l':=⟨_,rfl⟩;rw [hlE]
 have HBN:Hid (HBox ((w.alloc (zH a (T.g a:Nat))).alloc (zH i (T.g i:Nat))).drew (w.heap.size+1) i (T.g i)):=by
  have hh:=zh (w.alloc (zH a (T.g a:Nat))) (zH i (T.g i:Nat));rw [World.size_alloc] at hh;exact hh
 go_enter Tryz.func66,Tryz.ntmps66
 go_upto_region 1 with fail
 go_cut [6] from 8 to 44 (fun q wx=>∃ B,q=zP B∧w.heap.size < B∧HBox wx B i (T.g i)∧zQ (w.alloc (zH a (T.g a:Nat))) wx)
 case first =>
  go_region
  all_goals go_wp2
  all_goals go_meet
  all_goals exact ⟨w.heap.size+1,rfl,Nat.lt_succ_self _,HBN.out,((Only.refl [] _).alloc _).drew⟩
 case rest =>
  obtain ⟨B,rfl,hB,hbx,hoc⟩:=hcut;clear p1 p2 p3 r1 r2 r3;have hOc:zQ w wc:=zo hA hoc
  have hbA:HBox wc w.heap.size a (T.g a):=HBox.kept (show HBox _ w.heap.size a (T.g a) from zh w _) hoc (by simp)
  generalize wc=wt at hOc hbx hbA ⊢;have hTt:=h.only hOc.drew;obtain ⟨p1,p2,_⟩:=HLK.out _ hOc.drew;obtain ⟨w3,hdel,hown3,hod⟩:=name_del (hTt.dir a d hd) s hs 0;rw [hlE] at hown3;have hO3:Only [d.b] w w3:=(hOc.drew.mono (L':=[d.b]) (fun _ hk=>by cases hk)).trans hod (fun _ hk=>Or.inl hk);have hT3:=h.named hd hown3 hO3;have hB3:HBox w3 B i (T.g i):=(HBox.kept hbx ((Only.refl [] wt).drew) (by simp)).kept hod (by simp;omega);have hA3:HBox w3 w.heap.size a (T.g a):=(HBox.kept hbA ((Only.refl [] wt).drew) (by simp)).kept hod (by simp;omega);obtain ⟨x0,x1⟩:=hbA.cells;obtain ⟨z0,z1⟩:=hB3.cells
  have hl2:l'.length≤1000:=by
   rw [← hlE];have:=List.length_filter_le (fun e:Ent=>!(e.s==s.data.toList)) d.l;unfold dropE;omega
  have hlv:∀ e∈l',e.i < T.p.N∧e.c=T.g e.i:=fun e he'=>by
   rw [← hlE] at he';exact hlive e (List.mem_filter.1 he').1
  have H3:Hid (TreeAt w3 tr (T.named a d.b l')):=hT3;have HO3:Hid (Only [d.b] w w3):=hO3;have HA3:Hid (HBox w3 w.heap.size a (T.g a)):=hA3;have HB3:Hid (HBox w3 B i (T.g i)):=hB3;have htold:zO 85 #[zP tr,zG i (T.g i:Nat)] w3 (attrV ni.K ni.Z ni.L ni.C ni.UN ni.UG):=told_ok w3 tr (T.named a d.b l') i ni ni.Z hT3 hi (Or.inr ⟨hKi,rfl⟩);unfold attrV at htold;rw [hKi] at htold;have HRC:Hid (∀ W,TreeAt W tr (T.named a d.b l')→zK 87 #[zP tr,zG a (T.g a:Nat)] W fun e w'=>e = .returned (.tuple #[])∧TreeAt w' tr { T.named a d.b l' with nd:=setN T.nd a (some { na with Z:=(l'.length:Nat),L:=2+(dirsIn l' (T.named a d.b l').ds:Int) }) }∧Only [na.b] W w'):=fun W t6=>recount_ok W tr (T.named a d.b l') a na ⟨d.b,l'⟩ t6 (setN_same _ _ _) ha hKa hl2 hlv;clear hTt hown3 hO3 hT3 hB3 hA3 hod hOc hbx hbA hoc hA
  go_wp2
  go_region
  all_goals go_wp2_with (go_at_call 85;go_must (refine htold.mono ?_);rintro e w4 ⟨rfl,ho4⟩;have hO5:zQ w3 (w4.alloc (.cells #[zI 2,zI ni.Z,zI ni.L,zI ni.C,zI ni.UN,zI ni.UG] 65)):=ho4.alloc _;have hrec:=HRC.out _ (H3.out.only hO5);obtain ⟨y0,y1⟩:=(HBox.kept HA3.out ho4 (by simp)).cells;have hyl:=zv y0;have HO5:Hid (zQ w3 (w4.alloc (.cells #[zI 2,zI ni.Z,zI ni.L,zI ni.C,zI ni.UN,zI ni.UG] 65))):=hO5;clear hO5 ho4 htold z0 z1)
  all_goals refine hrec.mono ?_
  all_goals rintro e w7 ⟨rfl,hT7,ho7⟩
  all_goals go_wp2
  all_goals go_end0
  all_goals exact ⟨rfl,hT7,((HO3.out.mono (L':=[d.b,na.b]) (fun k hk=>Or.inl (by simp at hk;simp [hk]))).trans (HO5.out.mono (L':=[d.b,na.b]) (fun _ hk=>by cases hk)) (fun k hk=>Or.inl hk)).trans ho7 (fun k hk=>Or.inl (by simp at hk;simp [hk]))⟩
theorem take_file (w:World)(tr:Nat)(T:Tr)(a i:Nat)(na ni:Nod)(d:DirM)(s:ByteArray)(h:TreeAt w tr T)(hd:T.ds a=some d)(ha:T.nd a=some na)(hKa:na.K=2)(hi:T.nd i=some ni)(hKi:ni.K=1)(hL:1≤ni.L∧ni.L≤1000)(he:findE d.l s.data.toList=some ⟨s.data.toList,i,T.g i⟩)(hl:d.l.length≤900)(hs:s.size≤1000)(hlive:∀ e∈d.l,e.i < T.p.N∧e.c=T.g e.i):
  zK 66 #[zP tr,zG a (T.g a:Nat),.string s] w fun e w'=>e = .returned (.tuple #[])∧TreeAt w' tr { T.named a d.b (dropE d.l s.data.toList) with nd:=setN (setN T.nd i (some { ni with L:=ni.L - 1 })) a (some { na with Z:=((dropE d.l s.data.toList).length:Nat),L:=2+(dirsIn (dropE d.l s.data.toList) (T.named a d.b (dropE d.l s.data.toList)).ds:Int) }) }∧Only [d.b,ni.b,na.b] w w':=by
 have hal:=h.tab.lt ha;have htl:tr < w.heap.size:=zv h.c0;have hdb:d.b < w.heap.size:=World.ownsMap.lt (h.dir a d hd);have HLK:Hid (∀ W,zQ w W→W.cell? (zA tr 1)=some (.map (some T.db))∧(Instr.lookup 102 (.map (some T.db)) (zG a (T.g a:Nat)) false).run Tryz.prog W = .ok (.map (some d.b)) W∧(Instr.lookup 101 (.map (some d.b)) (.string s) false).run Tryz.prog W = .ok (zG i (T.g i:Nat)) W):=fun W ho=>⟨(h.only ho).c1,look_dir (h.only ho) hal hd,look_name0 ((h.only ho).dir a d hd) s hs he⟩;have hA:zQ w (w.alloc (zH a (T.g a:Nat))):=(Only.refl [] w).alloc _;obtain ⟨p1,p2,p3⟩:=HLK.out _ hA.drew;obtain ⟨r1,r2,r3⟩:=HLK.out _ (hA.alloc (zH 0 0)).drew;obtain ⟨l',hlE⟩:∃ l',dropE d.l s.data.toList=l':=⟨_,rfl⟩;rw [hlE]
 have HBN:Hid (HBox ((w.alloc (zH a (T.g a:Nat))).alloc (zH i (T.g i:Nat))).drew (w.heap.size+1) i (T.g i)):=by
  have hh:=zh (w.alloc (zH a (T.g a:Nat))) (zH i (T.g i:Nat));rw [World.size_alloc] at hh;exact hh
 go_enter Tryz.func66,Tryz.ntmps66
 go_upto_region 1 with fail
 go_cut [6] from 8 to 44 (fun q wx=>∃ B,q=zP B∧w.heap.size < B∧HBox wx B i (T.g i)∧zQ (w.alloc (zH a (T.g a:Nat))) wx)
 case first =>
  go_region
  all_goals go_wp2
  all_goals go_meet
  all_goals exact ⟨w.heap.size+1,rfl,Nat.lt_succ_self _,HBN.out,((Only.refl [] _).alloc _).drew⟩
 case rest =>
  obtain ⟨B,rfl,hB,hbx,hoc⟩:=hcut;clear p1 p2 p3 r1 r2 r3;have hOc:zQ w wc:=zo hA hoc
  have hbA:HBox wc w.heap.size a (T.g a):=HBox.kept (show HBox _ w.heap.size a (T.g a) from zh w _) hoc (by simp)
  generalize wc=wt at hOc hbx hbA ⊢;have hTt:=h.only hOc.drew;obtain ⟨p1,p2,_⟩:=HLK.out _ hOc.drew;obtain ⟨w3,hdel,hown3,hod⟩:=name_del (hTt.dir a d hd) s hs 0;rw [hlE] at hown3;have hO3:Only [d.b] w w3:=(hOc.drew.mono (L':=[d.b]) (fun _ hk=>by cases hk)).trans hod (fun _ hk=>Or.inl hk);have hT3:=h.named hd hown3 hO3;have hB3:HBox w3 B i (T.g i):=(HBox.kept hbx ((Only.refl [] wt).drew) (by simp)).kept hod (by simp;omega);have hA3:HBox w3 w.heap.size a (T.g a):=(HBox.kept hbA ((Only.refl [] wt).drew) (by simp)).kept hod (by simp;omega);obtain ⟨x0,x1⟩:=hbA.cells;obtain ⟨z0,z1⟩:=hB3.cells
  have hl2:l'.length≤1000:=by
   rw [← hlE];have:=List.length_filter_le (fun e:Ent=>!(e.s==s.data.toList)) d.l;unfold dropE;omega
  have hlv:∀ e∈l',e.i < T.p.N∧e.c=T.g e.i:=fun e he'=>by
   rw [← hlE] at he';exact hlive e (List.mem_filter.1 he').1
  have H3:Hid (TreeAt w3 tr (T.named a d.b l')):=hT3;have HO3:Hid (Only [d.b] w w3):=hO3;have HA3:Hid (HBox w3 w.heap.size a (T.g a)):=hA3;have HB3:Hid (HBox w3 B i (T.g i)):=hB3;have htold:zO 85 #[zP tr,zG i (T.g i:Nat)] w3 (attrV ni.K (ni.S.size:Nat) ni.L ni.C ni.UN ni.UG):=told_ok w3 tr (T.named a d.b l') i ni (ni.S.size:Nat) hT3 hi (Or.inl ⟨hKi,rfl⟩);unfold attrV at htold;rw [hKi] at htold
  have hai:a≠i:=fun e=>by
   rw [e,hi] at ha
   cases ha
   omega
  have hnb:ni.b < w.heap.size:=zv (h.tab.node i ni hi).c0;have hftr:tr≠ni.b:=fun e=>h.ftr (by rw [e];exact .node hi ni.b_foot);have HRC:Hid (∀ W,TreeAt W tr { T.named a d.b l' with nd:=setN T.nd i (some { ni with L:=ni.L - 1 }) }→zK 87 #[zP tr,zG a (T.g a:Nat)] W fun e w'=>e = .returned (.tuple #[])∧TreeAt w' tr { T.named a d.b l' with nd:=setN (setN T.nd i (some { ni with L:=ni.L - 1 })) a (some { na with Z:=(l'.length:Nat),L:=2+(dirsIn l' (T.named a d.b l').ds:Int) }) }∧Only [na.b] W w'):=fun W t6=>recount_ok W tr { T.named a d.b l' with nd:=setN T.nd i (some { ni with L:=ni.L - 1 }) } a na ⟨d.b,l'⟩ t6 (setN_same _ _ _) ((setN_other _ _ hai).trans ha) hKa hl2 hlv;have HWR:Hid (IntKind.i64.wrap (ni.L - 1)=ni.L - 1):=wrap_small (by omega) (by omega);have HHI:Hid (T.nd i=some ni∧ni.K=1∧1≤ni.L):=⟨hi,hKi,hL.1⟩;clear hTt hown3 hO3 hT3 hB3 hA3 hod hOc hbx hbA hoc hA
  go_wp2
  go_region
  all_goals go_wp2_with (go_at_call 85;go_must (refine htold.mono ?_);rintro e w4 ⟨rfl,ho4⟩;have HO4:Hid (zQ w3 w4):=ho4;clear htold ho4 z0 z1)
  all_goals have hO5:zQ w3 ((w4.alloc (.cells #[zI 1,zI ni.S.size,zI ni.L,zI ni.C,zI ni.UN,zI ni.UG] 65)).drew):=(HO4.out.alloc _).drew
  all_goals have hT5:=H3.out.only hO5
  all_goals have hvl:=zh w4 (.cells #[zI 1,zI ni.S.size,zI ni.L,zI ni.C,zI ni.UN,zI ni.UG] 65)
  all_goals have hw4:w.heap.size≤w4.heap.size:=Nat.le_trans HO3.out.size HO4.out.size
  all_goals obtain ⟨z0,z1⟩:=(HBox.kept HB3.out hO5 (by simp)).cells
  all_goals have K0:Hid (((w4.alloc (.cells #[zI 1,zI ni.S.size,zI ni.L,zI ni.C,zI ni.UN,zI ni.UG] 65)).drew).cell? (zA tr 0)=some (zP T.t)∧((w4.alloc (.cells #[zI 1,zI ni.S.size,zI ni.L,zI ni.C,zI ni.UN,zI ni.UG] 65)).drew).cell? (zA B 0)=some (zI i)∧((w4.alloc (.cells #[zI 1,zI ni.S.size,zI ni.L,zI ni.C,zI ni.UN,zI ni.UG] 65)).drew).cell? (zA B 1)=some (zI (T.g i:Nat))∧((w4.alloc (.cells #[zI 1,zI ni.S.size,zI ni.L,zI ni.C,zI ni.UN,zI ni.UG] 65)).drew).cell? (zA w4.heap.size 1)=some (zI ni.S.size)∧((w4.alloc (.cells #[zI 1,zI ni.S.size,zI ni.L,zI ni.C,zI ni.UN,zI ni.UG] 65)).drew).cell? (zA w4.heap.size 2)=some (zI ni.L)∧((w4.alloc (.cells #[zI 1,zI ni.S.size,zI ni.L,zI ni.C,zI ni.UN,zI ni.UG] 65)).drew).cell? (zA w4.heap.size 4)=some (zI ni.UN)∧((w4.alloc (.cells #[zI 1,zI ni.S.size,zI ni.L,zI ni.C,zI ni.UN,zI ni.UG] 65)).drew).cell? (zA w4.heap.size 5)=some (zI ni.UG)):=⟨hT5.c0,z0,z1,cell_of_row _ _ 1 _ _ _ hvl,cell_of_row _ _ 2 _ _ _ hvl,cell_of_row _ _ 4 _ _ _ hvl,cell_of_row _ _ 5 _ _ _ hvl⟩
  all_goals have hadj:=tadj_file ((w4.alloc (.cells #[zI 1,zI ni.S.size,zI ni.L,zI ni.C,zI ni.UN,zI ni.UG] 65)).drew) T.t T.p T.most i T.g T.nd ni (ni.S.size:Nat) (ni.L - 1) ni.UN ni.UG hT5.tab HHI.out.1 (And.intro (by omega) (by have:=HHI.out.2.2;omega)) HHI.out.2.1
  all_goals have HK6:Hid (∀ w6:World,Only [ni.b] ((w4.alloc (.cells #[zI 1,zI ni.S.size,zI ni.L,zI ni.C,zI ni.UN,zI ni.UG] 65)).drew) w6→w6.cell? (zA tr 0)=some (zP T.t)∧w6.cell? (zA B 0)=some (zI i)∧w6.cell? (zA B 1)=some (zI (T.g i:Nat))∧w6.cell? (zA w4.heap.size 1)=some (zI ni.S.size)∧w6.cell? (zA w4.heap.size 2)=some (zI ni.L)∧w6.cell? (zA w4.heap.size 4)=some (zI ni.UN)∧w6.cell? (zA w4.heap.size 5)=some (zI ni.UG)):=fun w6 o6=>(by
   have kk:=K0.out
   have no:∀ k,w.heap.size≤k→k∉[ni.b]:=fun k hk hm=>by have e:k=ni.b:=(by simpa using hm);omega
   exact ⟨(o6.cell (p:=⟨tr,0,none⟩) (zv kk.1) (by simpa using hftr)).trans kk.1,(o6.cell (p:=⟨B,0,none⟩) (zv kk.2.1) (no _ (Nat.le_of_lt hB))).trans kk.2.1,(o6.cell (p:=⟨B,1,none⟩) (zv kk.2.2.1) (no _ (Nat.le_of_lt hB))).trans kk.2.2.1,(o6.cell (p:=⟨w4.heap.size,1,none⟩) (zv kk.2.2.2.1) (no _ hw4)).trans kk.2.2.2.1,(o6.cell (p:=⟨w4.heap.size,2,none⟩) (zv kk.2.2.2.2.1) (no _ hw4)).trans kk.2.2.2.2.1,(o6.cell (p:=⟨w4.heap.size,4,none⟩) (zv kk.2.2.2.2.2.1) (no _ hw4)).trans kk.2.2.2.2.2.1,(o6.cell (p:=⟨w4.heap.size,5,none⟩) (zv kk.2.2.2.2.2.2) (no _ hw4)).trans kk.2.2.2.2.2.2⟩)
  all_goals have HN6:Hid (∀ w6,TabAt w6 T.t T.p T.most T.g (setN T.nd i (some { ni with L:=ni.L - 1 }))→Only [ni.b] ((w4.alloc (.cells #[zI 1,zI ni.S.size,zI ni.L,zI ni.C,zI ni.UN,zI ni.UG] 65)).drew) w6→TreeAt w6 tr { T.named a d.b l' with nd:=setN T.nd i (some { ni with L:=ni.L - 1 }) }):=fun w6 t6 o6=>TreeAt.node (T:=T.named a d.b l') (n:=ni) (n':={ ni with L:=ni.L - 1 }) hT5 HHI.out.1 rfl rfl t6 o6
  all_goals have HO5:Hid (Only [d.b] w ((w4.alloc (.cells #[zI 1,zI ni.S.size,zI ni.L,zI ni.C,zI ni.UN,zI ni.UG] 65)).drew)):=HO3.out.trans hO5 (fun _ hk=>by cases hk)
  all_goals have HA5:Hid (HBox ((w4.alloc (.cells #[zI 1,zI ni.S.size,zI ni.L,zI ni.C,zI ni.UN,zI ni.UG] 65)).drew) w.heap.size a (T.g a)∧w.heap.size∉[ni.b]):=⟨HBox.kept HA3.out hO5 (by simp),by simp;omega⟩
  all_goals clear hO5 hT5 hvl z0 z1 p1 p2 hdel x0 x1 h hd ha he hlive hlv hi hl2 hlE HLK
  all_goals go_region_held3 (fun W=>W.cell? (zA tr 0)=some (zP T.t)∧W.cell? (zA B 0)=some (zI i)∧W.cell? (zA B 1)=some (zI (T.g i:Nat))∧W.cell? (zA w4.heap.size 1)=some (zI ni.S.size)∧W.cell? (zA w4.heap.size 2)=some (zI ni.L)∧W.cell? (zA w4.heap.size 4)=some (zI ni.UN)∧W.cell? (zA w4.heap.size 5)=some (zI ni.UG))
   (with_reducible first
    | exact K0.out
    | exact K6.out)
   (first
    | (go_at_call 86;rw [HWR.out];refine hadj.mono ?_;rintro e w6 ⟨rfl,hT6,ho6⟩;have HT6:Hid (TreeAt w6 tr { T.named a d.b l' with nd:=setN T.nd i (some { ni with L:=ni.L - 1 }) }):=HN6.out w6 hT6 ho6;have K6:Hid (w6.cell? (zA tr 0)=some (zP T.t)∧w6.cell? (zA B 0)=some (zI i)∧w6.cell? (zA B 1)=some (zI (T.g i:Nat))∧w6.cell? (zA w4.heap.size 1)=some (zI ni.S.size)∧w6.cell? (zA w4.heap.size 2)=some (zI ni.L)∧w6.cell? (zA w4.heap.size 4)=some (zI ni.UN)∧w6.cell? (zA w4.heap.size 5)=some (zI ni.UG)):=HK6.out w6 ho6;have HO6:Hid (Only [ni.b] ((w4.alloc (.cells #[zI 1,zI ni.S.size,zI ni.L,zI ni.C,zI ni.UN,zI ni.UG] 65)).drew) w6):=ho6;clear hT6 ho6 hadj))
  all_goals have hrec:=HRC.out w6 HT6.out
  all_goals obtain ⟨y0,y1⟩:=(HBox.kept HA5.out.1 HO6.out HA5.out.2).cells
  all_goals go_wp2_with (go_at_call 87;go_must (refine hrec.mono ?_);rintro e w7 ⟨rfl,hT7,ho7⟩)
  all_goals go_end0
  all_goals exact ⟨rfl,hT7,(((HO5.out.mono (L':=[d.b,ni.b,na.b]) (fun k hk=>Or.inl (by simp at hk;simp [hk]))).trans HO6.out (fun k hk=>Or.inl (by simp at hk;simp [hk]))).trans ho7 (fun k hk=>Or.inl (by simp at hk;simp [hk])))⟩
def Tr.freed (T:Tr)(i:Nat):Tr:={ T with g:=setN T.g i (T.g i+1),nd:=setN T.nd i none }
theorem TreeAt.freed {w w':World}{tr i:Nat}{T:Tr}(h:TreeAt w tr T)(hds:T.ds i=none)(hpn:T.pn i=0)(hg:T.g i+1≤5000000000000000000)(ht:TabAt w' T.t T.p T.most (setN T.g i (T.g i+1)) (setN T.nd i none))(ho:Only T.p.a.toList w w'):TreeAt w' tr (T.freed i) :=
 h.table (p':=T.p) ht ho (fun k hk=>Or.inr (Or.inl (by simpa using hk))) (fun k hk=>Or.inl (by
  rcases hk with h1 | h1 | ⟨j,m,hj,hk⟩
  · exact Or.inl h1
  · exact Or.inr (Or.inl h1)
  · by_cases e:j=i
    · subst e
      rw [setN_same] at hj
      cases hj
    · rw [setN_other _ _ e] at hj
      exact .node hj hk)) ⟨h.small.N,fun j=>by
    show setN T.g i (T.g i+1) j≤_
    by_cases e:j=i
    · rw [e,setN_same];exact hg
    · rw [setN_other _ _ e];exact h.small.g j⟩ (Nat.le_refl _) (fun k=>by
    obtain ⟨j,c⟩:=k;show (if c=setN T.g i (T.g i+1) j then (T.ds j).map (·.b) else none)=(if c=T.g j then (T.ds j).map (·.b) else none)
    by_cases e:j=i
    · rw [e,hds]
      simp
    · rw [setN_other _ _ e]) (fun k=>by
    obtain ⟨j,c⟩:=k;show (if c=setN T.g i (T.g i+1) j∧0 < T.pn j then some (T.pn j) else none)=(if c=T.g j∧0 < T.pn j then some (T.pn j) else none)
    by_cases e:j=i
    · rw [e,hpn]
      simp
    · rw [setN_other _ _ e])
theorem infoInt6:(Tryz.prog.info? 3).map (fun i=>(i.zero,i.size))=some (some (zI 0),1):=by kernel_rfl
theorem zeroInt6 (w:World):(zeroValue 3).run Tryz.prog w = .ok (zI 0) w:=(zero_of_info infoInt6).1 w
theorem look_pin {w:World}{tr:Nat}{T:Tr}(h:TreeAt w tr T){i:Nat}(hi:i < T.p.N):(Instr.lookup 103 (.map (some T.pb)) (zG i (T.g i:Nat)) false).run Tryz.prog w = .ok (zI (T.pn i:Nat)) w:=by
 obtain ⟨D,n,d1,_,d3⟩:=h.pins;obtain ⟨c,hrun,hat,_⟩:=d1.lookup_int lawH undPins Tryz.underlying3 (zeroInt6 _) (h.key hi);rw [d3.look] at hat;unfold Tr.pinsF at hat
 by_cases hp:0 < T.pn i
 · rw [if_pos ⟨rfl,hp⟩] at hat
   have e:c=(T.pn i:Nat):=by
    unfold numD at hat
    simpa using hat.symm
   rw [e] at hrun;exact hrun
 · rw [if_neg (fun hh=>hp hh.2)] at hat
   have e:c=0:=by simpa using hat.symm
   have e2:T.pn i=0:=by omega
   rw [e] at hrun;rw [e2];exact hrun
theorem fieldLinks (W:World)(a b c d e f:Value):(Instr.field 65 (.agg #[a,b,c,d,e,f]) 2).run Tryz.prog W = .ok c W:=by
 unfold Instr.field;simp [run_underlying Tryz.underlying65,part,asAgg,isAgg,run_underlying Tryz.underlying3,go_sem]
def Settled (w w':World)(tr:Nat)(T:Tr)(i:Nat)(L:Int):Prop :=
 (L=0∧T.pn i=0∧TreeAt w' tr (T.freed i)∧Only T.p.a.toList w w')∨(¬ (L=0∧T.pn i=0)∧zQ w w')
theorem settle_any (w:World)(tr:Nat)(T:Tr)(i:Nat)(n:Nod)(h:TreeAt w tr T)(hn:T.nd i=some n)(hK:n.K=1)(hds:T.ds i=none)(hg:T.g i+1≤5000000000000000000):
  zK 75 #[zP tr,zG i (T.g i:Nat)] w fun e w'=>e = .returned (.tuple #[])∧Settled w w' tr T i n.L:=by
 have hil:=h.tab.lt hn;have htl:tr < w.heap.size:=zv h.c0
 have HB:Hid (∀ W,zQ (w.alloc (zH i (T.g i:Nat))) W→HBox W w.heap.size i (T.g i)):=fun W ho=>HBox.kept (show HBox _ w.heap.size i (T.g i) from zh w _) ho (by simp)
 have HA:Hid (zQ w (w.alloc (zH i (T.g i:Nat)))):=(Only.refl [] w).alloc _;have HS:Hid (∀ W,zQ (w.alloc (zH i (T.g i:Nat))) W→W.cell? (zA w.heap.size 0)=some (zI i)∧W.cell? (zA w.heap.size 1)=some (zI (T.g i:Nat))∧W.cell? (zA tr 2)=some (.map (some T.pb))∧(Instr.lookup 103 (.map (some T.pb)) (zG i (T.g i:Nat)) false).run Tryz.prog W = .ok (zI (T.pn i:Nat)) W):=fun W ho=>⟨((HB.out W ho).cells).1,((HB.out W ho).cells).2,(h.only (zo HA.out ho)).c2,look_pin (h.only (zo HA.out ho)) hil⟩;have HS2:Hid (∀ W,zQ (w.alloc (zH i (T.g i:Nat))) W→W.cell? (zA tr 0)=some (zP T.t)∧W.cell? (zA w.heap.size 0)=some (zI i)∧W.cell? (zA w.heap.size 1)=some (zI (T.g i:Nat))):=fun W ho=>⟨(h.only (zo HA.out ho)).c0,((HB.out W ho).cells).1,((HB.out W ho).cells).2⟩;have HD:Hid (zQ (w.alloc (zH i (T.g i:Nat))) ((w.alloc (zH i (T.g i:Nat))).drew)):=(Only.refl [] _).drew;have K0:Hid (((w.alloc (zH i (T.g i:Nat))).drew).cell? (zA w.heap.size 0)=some (zI i)∧((w.alloc (zH i (T.g i:Nat))).drew).cell? (zA w.heap.size 1)=some (zI (T.g i:Nat))∧((w.alloc (zH i (T.g i:Nat))).drew).cell? (zA tr 2)=some (.map (some T.pb))∧(Instr.lookup 103 (.map (some T.pb)) (zG i (T.g i:Nat)) false).run Tryz.prog ((w.alloc (zH i (T.g i:Nat))).drew) = .ok (zI (T.pn i:Nat)) ((w.alloc (zH i (T.g i:Nat))).drew)):=HS.out _ HD.out;have htold:zO 85 #[zP tr,zG i (T.g i:Nat)] ((w.alloc (zH i (T.g i:Nat))).drew) (attrV n.K (n.S.size:Nat) n.L n.C n.UN n.UG):=told_ok ((w.alloc (zH i (T.g i:Nat))).drew) tr T i n (n.S.size:Nat) (h.only (zo HA.out HD.out)) hn (Or.inl ⟨hK,rfl⟩);unfold attrV at htold;have HTO:Hid (∀ W,zQ (w.alloc (zH i (T.g i:Nat))) W→zO 85 #[zP tr,zG i (T.g i:Nat)] W (.agg #[zI n.K,zI n.S.size,zI n.L,zI n.C,zI n.UN,zI n.UG])):=fun W ho=>told_ok W tr T i n (n.S.size:Nat) (h.only (zo HA.out ho)) hn (Or.inl ⟨hK,rfl⟩);have hfl:=fieldLinks;have HFR:Hid (∀ W,zQ (w.alloc (zH i (T.g i:Nat))) W→zK 91 #[zP T.t,zG i (T.g i:Nat)] W fun e w'=>e = .returned .nilIface∧TabAt w' T.t T.p T.most (setN T.g i (T.g i+1)) (setN T.nd i none)∧Only T.p.a.toList W w'):=fun W ho=>tfree_ok W T.t T.p T.most i T.g T.nd n (h.only (zo HA.out ho)).tab hn (by omega);have HFD:Hid (∀ w2 w',zQ (w.alloc (zH i (T.g i:Nat))) w2→TabAt w' T.t T.p T.most (setN T.g i (T.g i+1)) (setN T.nd i none)→Only T.p.a.toList w2 w'→T.pn i=0→TreeAt w' tr (T.freed i)∧Only T.p.a.toList w w'):=fun w2 w' o2 ht ho hp=>⟨(h.only (zo HA.out o2)).freed hds hp hg ht ho,((zo HA.out o2).mono (fun _ hk=>by cases hk)).trans ho (fun _ hk=>Or.inl hk)⟩
 have HPA:Hid (tr∉T.p.a.toList∧w.heap.size∉T.p.a.toList):=⟨fun hm=>h.ftr (Or.inr (Or.inl (by simpa using hm))),fun hm=>by
  have:=h.tab.foot_lt w.heap.size (Or.inr (Or.inl (by simpa using hm)))
  omega⟩
 clear h hn hds
 go_enter Tryz.func75,Tryz.ntmps75
 go_upto_region 1 with fail
 go_cut [17] from 4 to 23 (fun q wx=>q = .bool (decide (n.L=0)&&decide (T.pn i=0))∧zQ (w.alloc (zH i (T.g i:Nat))) wx)
 case first =>
  by_cases hL:n.L=0
  · have hLb:(n.L==0)=true:=by simpa using hL
    go_region_held3 (fun W=>W.cell? (zA w.heap.size 0)=some (zI i)∧W.cell? (zA w.heap.size 1)=some (zI (T.g i:Nat))∧W.cell? (zA tr 2)=some (.map (some T.pb))∧(Instr.lookup 103 (.map (some T.pb)) (zG i (T.g i:Nat)) false).run Tryz.prog W = .ok (zI (T.pn i:Nat)) W)
     (with_reducible first | exact K0.out | exact K2.out)
     (first
       | (go_at_call 85;refine htold.mono ?_;rintro e w2 ⟨rfl,ho2⟩;have HO2:Hid (zQ (w.alloc (zH i (T.g i:Nat))) w2):=zo HD.out ho2;have K2:Hid (w2.cell? (zA w.heap.size 0)=some (zI i)∧w2.cell? (zA w.heap.size 1)=some (zI (T.g i:Nat))∧w2.cell? (zA tr 2)=some (.map (some T.pb))∧(Instr.lookup 103 (.map (some T.pb)) (zG i (T.g i:Nat)) false).run Tryz.prog w2 = .ok (zI (T.pn i:Nat)) w2):=HS.out w2 HO2.out;clear ho2))
    all_goals go_wp2
    all_goals go_meet
    all_goals refine ⟨?_,HO2.out⟩
    all_goals
     rw [decide_eq_true hL,Bool.true_and];congr 1
     by_cases hp:T.pn i=0
     · rw [hp];rfl
     · rw [decide_eq_false hp]
       simpa using hp
  · have hLb:(n.L==0)=false:=by simpa using hL
    have z0:∀ p:OnlyBy (w.alloc (zH i (T.g i:Nat))),p.w.cell? (zA w.heap.size 0)=some (zI i):=fun p=>(HS.out p.w p.ho).1;have z1:∀ p:OnlyBy (w.alloc (zH i (T.g i:Nat))),p.w.cell? (zA w.heap.size 1)=some (zI (T.g i:Nat)):=fun p=>(HS.out p.w p.ho).2.1
    haveI:Nonempty (OnlyBy (w.alloc (zH i (T.g i:Nat)))):=⟨⟨_,Only.refl _ _⟩⟩
    refine wp_region_quiet_only (w0:=w.alloc (zH i (T.g i:Nat))) (Only.refl [] _) (by kernel_rfl) (by kernel_rfl) ?_
    repeat (first | go_big_quiet_skip | quiet_step (first | (go_at_call 85;refine Calls.only_of (HTO.out _ (OnlyBy.ho _)))))
    refine wpQuiet_nil ?_;intro _ hw';obtain ⟨p,hw2⟩:=hw';subst hw2
    go_wp2
    go_meet
    exact ⟨by rw [decide_eq_false hL];rfl,p.ho⟩
 case rest =>
  obtain ⟨rfl,hoc⟩:=hcut;generalize wc=wt at hoc ⊢;have HOC:Hid (zQ (w.alloc (zH i (T.g i:Nat))) wt):=hoc;clear hoc
  by_cases hz:n.L=0∧T.pn i=0
  · have hb:(decide (n.L=0)&&decide (T.pn i=0))=true:=by rw [decide_eq_true hz.1,decide_eq_true hz.2];rfl
    rw [hb];have HZ:Hid (n.L=0∧T.pn i=0):=hz;have K0:Hid (wt.drew.cell? (zA tr 0)=some (zP T.t)∧wt.drew.cell? (zA w.heap.size 0)=some (zI i)∧wt.drew.cell? (zA w.heap.size 1)=some (zI (T.g i:Nat))):=HS2.out _ HOC.out.drew;have hfr:=HFR.out wt.drew HOC.out.drew;clear hb hz htold hfl
    go_wp2
    go_region_held3 (fun W=>W.cell? (zA tr 0)=some (zP T.t)∧W.cell? (zA w.heap.size 0)=some (zI i)∧W.cell? (zA w.heap.size 1)=some (zI (T.g i:Nat)))
     (with_reducible first | exact K0.out | exact K4.out)
     (first
       | (go_at_call 91;refine hfr.mono ?_;rintro e w4 ⟨rfl,ht4,ho4⟩;have HE4:Hid (TreeAt w4 tr (T.freed i)∧Only T.p.a.toList w w4):=HFD.out wt.drew w4 HOC.out.drew ht4 ho4 HZ.out.2;have K4:Hid (w4.cell? (zA tr 0)=some (zP T.t)∧w4.cell? (zA w.heap.size 0)=some (zI i)∧w4.cell? (zA w.heap.size 1)=some (zI (T.g i:Nat))):=⟨(ho4.cell (p:=⟨tr,0,none⟩) (zv K0.out.1) HPA.out.1).trans K0.out.1,(ho4.cell (p:=⟨w.heap.size,0,none⟩) (zv K0.out.2.1) HPA.out.2).trans K0.out.2.1,(ho4.cell (p:=⟨w.heap.size,1,none⟩) (zv K0.out.2.2) HPA.out.2).trans K0.out.2.2⟩;clear ht4 ho4 hfr))
    all_goals go_wp2
    all_goals go_end0
    all_goals exact ⟨rfl,Or.inl ⟨HZ.out.1,HZ.out.2,HE4.out.1,HE4.out.2⟩⟩
  · have hb:(decide (n.L=0)&&decide (T.pn i=0))=false:=by
     by_cases h1:n.L=0
     · rw [decide_eq_false (fun h2=>hz ⟨h1,h2⟩),Bool.and_false]
     · rw [decide_eq_false h1,Bool.false_and]
    rw [hb];have HZ:Hid (¬ (n.L=0∧T.pn i=0)):=hz;clear hb hz htold hfl
    go_wp2
    go_end0
    exact ⟨rfl,Or.inr ⟨HZ.out,zo HA.out HOC.out⟩⟩
def Tr.shut (T:Tr)(i:Nat):Tr:={ T with ds:=setN T.ds i none }
theorem dir_del {w:World}{tr:Nat}{T:Tr}(h:TreeAt w tr T){i:Nat}(hi:i < T.p.N)(ty:TypeId):∃ w',(Builtin.delete_ #[102,35] ty #[.map (some T.db),zG i (T.g i:Nat)]).run Tryz.prog w = .ok (.tuple #[]) w'∧TreeAt w' tr (T.shut i)∧Only [T.db] w w':=by
 obtain ⟨D,n,d1,d2,d3⟩:=h.dirs;obtain ⟨P,m,p1,p2,p3⟩:=h.pins;obtain ⟨w',hr,ho,ht⟩:=d1.drop lawH undDirs (h.key hi) ty;have hon:=only_turned ht;refine ⟨w',hr,?_,hon⟩;have htr:tr < w.heap.size:=zv h.c0
 have hne:tr∉[T.db]:=by simpa using (own_ne_cell d1 h.c0).symm
 have hN:=h.small.N;have hg:=h.small.g
 have hds:∀ j d,(T.shut i).ds j=some d→j≠i∧T.ds j=some d:=fun j d e=>by
   by_cases hj:j=i
   · subst hj
     rw [show (T.shut j).ds j=none from setN_same _ _ _] at e
     cases e
   · rw [show (T.shut i).ds j=T.ds j from setN_other _ _ hj] at e
     exact ⟨hj,e⟩
 refine ⟨(hon.cell (p:=⟨tr,0,none⟩) htr hne).trans h.c0,(hon.cell (p:=⟨tr,1,none⟩) htr hne).trans h.c1,(hon.cell (p:=⟨tr,2,none⟩) htr hne).trans h.c2,h.tab.kept hon (fun k hk hm=>by simp at hm;subst hm;exact h.fdb hk),
   dirs_put (T':=T.shut i) ho (d3.del (fun j e=>hkey_only (by omega) (by have:=hg i;omega) j e) ?_ (fun j hj=>?_)) (fun j d e=>h.dlt j d (hds j d e).2) ⟨h.small.N,h.small.g⟩,fun j d e=>own_only (h.dir j d (hds j d e).2) hon (by simpa using (h.fdir j d (hds j d e).2).2.1),⟨P,m,own_only p1 hon (show T.pb∉[T.db] from by simpa using h.dp.symm),p2,p3⟩,
   fun j k d d' e e' hb=>h.one j k d d' (hds j d e).2 (hds k d' e').2 hb,⟨h.small.N,h.small.g⟩,h.ftr,h.fdb,h.fpb,fun j d e=>h.fdir j d (hds j d e).2,h.dp,fun j d e=>h.dlt j d (hds j d e).2,h.plt⟩
 · show (if T.g i=T.g i then (setN T.ds i none i).map (·.b) else none)=none
   rw [if_pos rfl,setN_same];rfl
 · obtain ⟨q,c⟩:=j
   show (if c=T.g q then (setN T.ds i none q).map (·.b) else none)=(if c=T.g q then (T.ds q).map (·.b) else none)
   by_cases hq:q=i
   · subst hq
     have hc:c≠T.g q:=fun e=>hj (by rw [e]);rw [if_neg hc,if_neg hc]
   · rw [setN_other _ _ hq]
def Tr.lostD (T:Tr)(a i:Nat)(na:Nod)(d:DirM)(s:List UInt8):Tr:=(Tr.shut { T.named a d.b (dropE d.l s) with nd:=setN T.nd a (some { na with Z:=((dropE d.l s).length:Nat),L:=2+(dirsIn (dropE d.l s) (T.named a d.b (dropE d.l s)).ds:Int) }) } i).freed i
theorem lose_dir (w:World)(tr:Nat)(T:Tr)(a i:Nat)(na ni:Nod)(d:DirM)(s:ByteArray)(h:TreeAt w tr T)(hd:T.ds a=some d)(ha:T.nd a=some na)(hKa:na.K=2)(hi:T.nd i=some ni)(hKi:ni.K=2)(hai:a≠i)(hdi:(T.ds i).isSome=true)(hpn:T.pn i=0)(hg:T.g i+1≤5000000000000000000)(he:findE d.l s.data.toList=some ⟨s.data.toList,i,T.g i⟩)(hl:d.l.length≤900)(hs:s.size≤1000)(hlive:∀ e∈d.l,e.i < T.p.N∧e.c=T.g e.i):
  zK 61 #[zP tr,zG a (T.g a:Nat),.string s] w fun e w'=>e = .returned (.tuple #[])∧TreeAt w' tr (T.lostD a i na d s.data.toList)∧Only ([d.b,na.b,T.db]++T.p.a.toList) w w':=by
 have hal:=h.tab.lt ha;have hil:=h.tab.lt hi;have htl:tr < w.heap.size:=zv h.c0;have hdb:d.b < w.heap.size:=World.ownsMap.lt (h.dir a d hd);have hnb:na.b < w.heap.size:=zv (h.tab.node a na ha).c0;have hib:ni.b < w.heap.size:=zv (h.tab.node i ni hi).c0;have HLK:Hid (∀ W,zQ w W→W.cell? (zA tr 1)=some (.map (some T.db))∧(Instr.lookup 102 (.map (some T.db)) (zG a (T.g a:Nat)) false).run Tryz.prog W = .ok (.map (some d.b)) W∧(Instr.lookup 101 (.map (some d.b)) (.string s) false).run Tryz.prog W = .ok (zG i (T.g i:Nat)) W):=fun W ho=>⟨(h.only ho).c1,look_dir (h.only ho) hal hd,look_name0 ((h.only ho).dir a d hd) s hs he⟩;have hA:zQ w (w.alloc (zH a (T.g a:Nat))):=(Only.refl [] w).alloc _;obtain ⟨p1,p2,p3⟩:=HLK.out _ hA.drew;obtain ⟨r1,r2,r3⟩:=HLK.out _ (hA.alloc (zH 0 0)).drew
 have HBN:Hid (HBox ((w.alloc (zH a (T.g a:Nat))).alloc (zH i (T.g i:Nat))).drew (w.heap.size+1) i (T.g i)):=by
  have hh:=zh (w.alloc (zH a (T.g a:Nat))) (zH i (T.g i:Nat));rw [World.size_alloc] at hh;exact hh
 go_enter Tryz.func61,Tryz.ntmps61
 go_upto_region 1 with fail
 go_cut [6] from 7 to 38 (fun q wx=>∃ B,q=zP B∧w.heap.size < B∧HBox wx B i (T.g i)∧zQ (w.alloc (zH a (T.g a:Nat))) wx)
 case first =>
  go_region
  all_goals go_wp2
  all_goals go_meet
  all_goals exact ⟨w.heap.size+1,rfl,Nat.lt_succ_self _,HBN.out,((Only.refl [] _).alloc _).drew⟩
 case rest =>
  obtain ⟨B,rfl,hB,hbx,hoc⟩:=hcut;clear p1 p2 p3 r1 r2 r3 HBN;have hOc:zQ w wc:=zo hA hoc
  have hbA:HBox wc w.heap.size a (T.g a):=HBox.kept (show HBox _ w.heap.size a (T.g a) from zh w _) hoc (by simp)
  generalize wc=wt at hOc hbx hbA ⊢;clear hA hoc;have htake:=take_dir wt tr T a i na ni d s (h.only hOc) hd ha hKa hi hKi he hl hs hlive;obtain ⟨x0,x1⟩:=hbA.cells;have HOT:Hid (zQ w wt):=hOc;have HBX:Hid (HBox wt B i (T.g i)):=hbx;obtain ⟨T1,hT1⟩:∃ T1,{ T.named a d.b (dropE d.l s.data.toList) with nd:=setN T.nd a (some { na with Z:=((dropE d.l s.data.toList).length:Nat),L:=2+(dirsIn (dropE d.l s.data.toList) (T.named a d.b (dropE d.l s.data.toList)).ds:Int) }) }=T1:=⟨_,rfl⟩;rw [hT1] at htake
  have e1:T1.g=T.g∧T1.t=T.t∧T1.p=T.p∧T1.db=T.db∧T1.pn=T.pn∧T1.most=T.most:=by rw [← hT1];exact ⟨rfl,rfl,rfl,rfl,rfl,rfl⟩
  have e2:(T1.ds i).isSome=true:=by
   rw [← hT1];show (setN T.ds a _ i).isSome=true;rw [setN_other _ _ (Ne.symm hai)];exact hdi
  have e3:T1.nd i=some ni:=by
   rw [← hT1];show setN T.nd a _ i=_;rw [setN_other _ _ (Ne.symm hai)];exact hi
  obtain ⟨f1,f2,f3,f4,f5,f6⟩:=e1
  have HFIN:Hid (T.lostD a i na d s.data.toList=(T1.shut i).freed i):=by show _=_;unfold Tr.lostD;rw [hT1]
  have HIS:Hid (∀ W,TreeAt W tr T1→zO 90 #[zP tr,zG i (T.g i:Nat)] W (.bool true)):=fun W hW=>by
   have:=isDir_any W tr T1 i hW (by rw [f3];exact hil);rw [f1,e2] at this;exact this
  have HDL:Hid (∀ W,TreeAt W tr T1→W.cell? (zA tr 1)=some (.map (some T.db))∧∃ w',(Builtin.delete_ #[102,35] 0 #[.map (some T.db),zG i (T.g i:Nat)]).run Tryz.prog W = .ok (.tuple #[]) w'∧TreeAt w' tr (T1.shut i)∧Only [T.db] W w'):=fun W hW=>by
   have h1:=hW.c1;have h2:=dir_del hW (i:=i) (by rw [f3];exact hil) 0;rw [f1,f4] at h2;rw [f4] at h1;exact ⟨h1,h2⟩
  have HFR:Hid (∀ W,TreeAt W tr (T1.shut i)→zK 91 #[zP T.t,zG i (T.g i:Nat)] W fun e w'=>e = .returned .nilIface∧TreeAt w' tr ((T1.shut i).freed i)∧Only T.p.a.toList W w'):=fun W hW=>by
   have hh:=tfree_ok W T1.t T1.p T1.most i T1.g T1.nd ni hW.tab e3 (by rw [f1];omega);rw [f1,f2,f3] at hh
   refine hh.mono fun e w' hx=>⟨hx.1,hW.freed (show setN T1.ds i none i=none from setN_same _ _ _) (show T1.pn i=0 by rw [f5];exact hpn) (show T1.g i+1≤_ by rw [f1];exact hg) ?_ (show Only T1.p.a.toList W w' by rw [f3];exact hx.2.2),hx.2.2⟩
   show TabAt w' T1.t T1.p T1.most (setN T1.g i (T1.g i+1)) (setN T1.nd i none);rw [f1,f2,f3];exact hx.2.1
  have HPA:Hid (tr∉T.p.a.toList∧(∀ k,w.heap.size≤k→k∉T.p.a.toList)∧(∀ k,w.heap.size≤k→k∉[d.b,na.b]∧k∉[T.db])∧tr∉[d.b,na.b]∧tr∉[T.db]):=by
   obtain ⟨D,n,d1,_,_⟩:=h.dirs;have hdl:=d1.lt;refine ⟨fun hm=>h.ftr (Or.inr (Or.inl (by simpa using hm))),fun k hk hm=>?_,fun k hk=>⟨by simp;omega,by simp;omega⟩,?_,by simpa using (own_ne_cell d1 h.c0).symm⟩
   · have:=h.tab.foot_lt k (Or.inr (Or.inl (by simpa using hm)))
     omega
   · have q1:=(own_ne_cell (h.dir a d hd) h.c0).symm
     have q2:tr≠na.b:=fun e=>h.ftr (by rw [e];exact .node ha na.b_foot);simp [q1,q2]
  have HT0:Hid (∀ W,TreeAt W tr T1→W.cell? (zA tr 0)=some (zP T.t)):=fun W hW=>by have:=hW.c0;rw [f2] at this;exact this
  have HT2:Hid (∀ W,TreeAt W tr (T1.shut i)→W.cell? (zA tr 0)=some (zP T.t)):=fun W hW=>by have:=hW.c0;rw [show (T1.shut i).t=T.t from f2] at this;exact this
  clear hT1 h hd ha hi he hlive hbA hbx hOc f1 f2 f3 f4 f5 f6 e2 e3 HLK
  go_wp2_with (first
   | (go_at_call 66;refine htake.mono ?_;rintro e w3 ⟨rfl,hT3,ho3⟩;have HT3:Hid (TreeAt w3 tr T1):=hT3;have HO3:Hid (Only [d.b,na.b] wt w3):=ho3;have hB3:HBox w3 B i (T.g i):=HBox.kept HBX.out ho3 (HPA.out.2.2.1 B (Nat.le_of_lt hB)).1;have HB3:Hid (HBox w3 B i (T.g i)):=hB3;obtain ⟨z0,z1⟩:=hB3.cells;have his:=HIS.out w3 hT3;clear htake hT3 ho3 hB3 x0 x1)
   | (go_at_call 90;go_must (refine his.mono ?_);rintro e w4 ⟨rfl,ho4⟩;have HO4:Hid (zQ w3 w4):=ho4;clear his ho4 z0 z1))
  have hT4:TreeAt w4.drew tr T1:=HT3.out.only HO4.out.drew;obtain ⟨q1,w5,hdel,hT5,ho5⟩:=HDL.out w4.drew hT4;have hb4:HBox w4 B i (T.g i):=HBox.kept HB3.out HO4.out (by simp);obtain ⟨y0,y1⟩:=hb4.cells;have hb5:HBox w5 B i (T.g i):=(HBox.kept hb4 ((Only.refl [] w4).drew) (by simp)).kept ho5 (HPA.out.2.2.1 B (Nat.le_of_lt hB)).2;have HT5:Hid (TreeAt w5.drew tr (T1.shut i)):=hT5.only ((Only.refl [] w5).drew);have HB5:Hid (HBox w5.drew B i (T.g i)):=HBox.kept hb5 ((Only.refl [] w5).drew) (by simp)
  have HO5:Hid (Only ([d.b,na.b,T.db]++T.p.a.toList) w w5.drew):=by
   have o1:Only [d.b,na.b,T.db] w w3:=(HOT.out.mono (fun _ hk=>by cases hk)).trans HO3.out (fun k hk=>Or.inl (by simp at hk;rcases hk with e | e<;>simp [e]));have o2:Only [d.b,na.b,T.db] w w4.drew:=o1.trans HO4.out.drew (fun _ hk=>by cases hk);have o3:Only [d.b,na.b,T.db] w w5:=o2.trans ho5 (fun k hk=>Or.inl (by simp at hk;simp [hk]));exact (o3.drew).mono (fun k hk=>Or.inl (List.mem_append_left _ hk))
  have K0:Hid (w5.drew.cell? (zA tr 0)=some (zP T.t)∧w5.drew.cell? (zA B 0)=some (zI i)∧w5.drew.cell? (zA B 1)=some (zI (T.g i:Nat))):=⟨HT2.out _ HT5.out,HB5.out.cells.1,HB5.out.cells.2⟩;have hfr:=HFR.out w5.drew HT5.out;clear hT4 hT5 ho5 hb4 hb5
  go_region
  all_goals go_wp2
  all_goals go_region_held3 (fun W=>W.cell? (zA tr 0)=some (zP T.t)∧W.cell? (zA B 0)=some (zI i)∧W.cell? (zA B 1)=some (zI (T.g i:Nat)))
   (with_reducible first | exact K0.out | exact K6.out)
   (first
     | (go_at_call 91;refine hfr.mono ?_;rintro e w6 ⟨rfl,hT6,ho6⟩;have HE6:Hid (TreeAt w6 tr ((T1.shut i).freed i)∧Only ([d.b,na.b,T.db]++T.p.a.toList) w w6):=⟨hT6,HO5.out.trans ho6 (fun k hk=>Or.inl (List.mem_append_right _ hk))⟩;have K6:Hid (w6.cell? (zA tr 0)=some (zP T.t)∧w6.cell? (zA B 0)=some (zI i)∧w6.cell? (zA B 1)=some (zI (T.g i:Nat))):=⟨(ho6.cell (p:=⟨tr,0,none⟩) (zv K0.out.1) HPA.out.1).trans K0.out.1,(ho6.cell (p:=⟨B,0,none⟩) (zv K0.out.2.1) (HPA.out.2.1 B (Nat.le_of_lt hB))).trans K0.out.2.1,(ho6.cell (p:=⟨B,1,none⟩) (zv K0.out.2.2) (HPA.out.2.1 B (Nat.le_of_lt hB))).trans K0.out.2.2⟩;clear hT6 ho6 hfr))
  all_goals go_wp2
  all_goals refine bodyPost_ret (results_none rfl _ _ _) rfl ?_
  all_goals exact ⟨rfl,by rw [HFIN.out];exact HE6.out.1,HE6.out.2⟩
def Tr.takenF (T:Tr)(a i:Nat)(na ni:Nod)(d:DirM)(s:List UInt8):Tr:={ T.named a d.b (dropE d.l s) with nd:=setN (setN T.nd i (some { ni with L:=ni.L - 1 })) a (some { na with Z:=((dropE d.l s).length:Nat),L:=2+(dirsIn (dropE d.l s) (T.named a d.b (dropE d.l s)).ds:Int) }) }
def Tr.lostF (T:Tr)(a i:Nat)(na ni:Nod)(d:DirM)(s:List UInt8):Tr:={ T.takenF a i na ni d s with nd:=setN (T.takenF a i na ni d s).nd i (some { ni with L:=ni.L - 1,C:=ni.C+1 }) }
def LostF (w w':World)(tr:Nat)(T:Tr)(a i:Nat)(na ni:Nod)(d:DirM)(s:List UInt8):Prop :=
 ((ni.L=1∧T.pn i=0∧TreeAt w' tr ((T.lostF a i na ni d s).freed i))∨(¬ (ni.L=1∧T.pn i=0)∧TreeAt w' tr (T.lostF a i na ni d s)))∧Only ([d.b,ni.b,na.b]++T.p.a.toList) w w'
theorem lose_file (w:World)(tr:Nat)(T:Tr)(a i:Nat)(na ni:Nod)(d:DirM)(s:ByteArray)(h:TreeAt w tr T)(hd:T.ds a=some d)(ha:T.nd a=some na)(hKa:na.K=2)(hi:T.nd i=some ni)(hKi:ni.K=1)(hL:1≤ni.L∧ni.L≤1000)(hC:0≤ni.C∧ni.C≤9000000000000000000)(hdi:T.ds i=none)(hg:T.g i+1≤5000000000000000000)(he:findE d.l s.data.toList=some ⟨s.data.toList,i,T.g i⟩)(hl:d.l.length≤900)(hs:s.size≤1000)(hlive:∀ e∈d.l,e.i < T.p.N∧e.c=T.g e.i):
  zK 61 #[zP tr,zG a (T.g a:Nat),.string s] w fun e w'=>e = .returned (.tuple #[])∧LostF w w' tr T a i na ni d s.data.toList:=by
 have hal:=h.tab.lt ha;have hil:=h.tab.lt hi;have htl:tr < w.heap.size:=zv h.c0;have hdb:d.b < w.heap.size:=World.ownsMap.lt (h.dir a d hd);have hnb:na.b < w.heap.size:=zv (h.tab.node a na ha).c0;have hib:ni.b < w.heap.size:=zv (h.tab.node i ni hi).c0;have HLK:Hid (∀ W,zQ w W→W.cell? (zA tr 1)=some (.map (some T.db))∧(Instr.lookup 102 (.map (some T.db)) (zG a (T.g a:Nat)) false).run Tryz.prog W = .ok (.map (some d.b)) W∧(Instr.lookup 101 (.map (some d.b)) (.string s) false).run Tryz.prog W = .ok (zG i (T.g i:Nat)) W):=fun W ho=>⟨(h.only ho).c1,look_dir (h.only ho) hal hd,look_name0 ((h.only ho).dir a d hd) s hs he⟩;have hA:zQ w (w.alloc (zH a (T.g a:Nat))):=(Only.refl [] w).alloc _;obtain ⟨p1,p2,p3⟩:=HLK.out _ hA.drew;obtain ⟨r1,r2,r3⟩:=HLK.out _ (hA.alloc (zH 0 0)).drew
 have HBN:Hid (HBox ((w.alloc (zH a (T.g a:Nat))).alloc (zH i (T.g i:Nat))).drew (w.heap.size+1) i (T.g i)):=by
  have hh:=zh (w.alloc (zH a (T.g a:Nat))) (zH i (T.g i:Nat));rw [World.size_alloc] at hh;exact hh
 go_enter Tryz.func61,Tryz.ntmps61
 go_upto_region 1 with fail
 go_cut [6] from 7 to 38 (fun q wx=>∃ B,q=zP B∧w.heap.size < B∧HBox wx B i (T.g i)∧zQ (w.alloc (zH a (T.g a:Nat))) wx)
 case first =>
  go_region
  all_goals go_wp2
  all_goals go_meet
  all_goals exact ⟨w.heap.size+1,rfl,Nat.lt_succ_self _,HBN.out,((Only.refl [] _).alloc _).drew⟩
 case rest =>
  obtain ⟨B,rfl,hB,hbx,hoc⟩:=hcut;clear p1 p2 p3 r1 r2 r3 HBN;have hOc:zQ w wc:=zo hA hoc
  have hbA:HBox wc w.heap.size a (T.g a):=HBox.kept (show HBox _ w.heap.size a (T.g a) from zh w _) hoc (by simp)
  generalize wc=wt at hOc hbx hbA ⊢;clear hA hoc;have htake:=take_file wt tr T a i na ni d s (h.only hOc) hd ha hKa hi hKi hL he hl hs hlive;obtain ⟨x0,x1⟩:=hbA.cells;have HOT:Hid (zQ w wt):=hOc;have HBX:Hid (HBox wt B i (T.g i)):=hbx;obtain ⟨T1,hT1⟩:∃ T1,T.takenF a i na ni d s.data.toList=T1:=⟨_,rfl⟩
  have htk:zK 66 #[zP tr,zG a (T.g a:Nat),.string s] wt fun e w'=>e = .returned (.tuple #[])∧TreeAt w' tr T1∧Only [d.b,ni.b,na.b] wt w':=by rw [← hT1];exact htake
  have hai:a≠i:=fun e=>by
    rw [e,hi] at ha
    cases ha
    omega
  have e1:T1.g=T.g∧T1.p=T.p∧T1.pn=T.pn:=by rw [← hT1];exact ⟨rfl,rfl,rfl⟩
  obtain ⟨f1,f3,f5⟩:=e1
  have e2:T1.ds i=none:=by
    rw [← hT1];show setN T.ds a _ i=none;rw [setN_other _ _ (Ne.symm hai)];exact hdi
  have e3:T1.nd i=some { ni with L:=ni.L - 1 }:=by
    rw [← hT1];show setN (setN T.nd i _) a _ i=_;rw [setN_other _ _ (Ne.symm hai),setN_same]
  obtain ⟨T2,hT2⟩:∃ T2,{ T1 with nd:=setN T1.nd i (some { ni with L:=ni.L - 1,C:=ni.C+1 }) }=T2:=⟨_,rfl⟩
  have g1:T2.g=T.g∧T2.p=T.p∧T2.pn=T.pn∧T2.ds i=none∧T2.nd i=some { ni with L:=ni.L - 1,C:=ni.C+1 }:=by rw [← hT2];exact ⟨f1,f3,f5,e2,setN_same _ _ _⟩
  obtain ⟨g1,g3,g5,g6,g7⟩:=g1
  have HFIN:Hid (T.lostF a i na ni d s.data.toList=T2):=by show _=_;unfold Tr.lostF;rw [hT1,hT2]
  have HIS:Hid (∀ W,TreeAt W tr T1→zO 90 #[zP tr,zG i (T.g i:Nat)] W (.bool false)):=fun W hW=>by
    have:=isDir_any W tr T1 i hW (by rw [f3];exact hil);rw [f1,e2] at this;exact this
  have HTO:Hid (∀ W,TreeAt W tr T1→zK 56 #[zP tr,zG i (T.g i:Nat)] W fun e w'=>e = .returned (.tuple #[])∧TreeAt w' tr T2∧Only [ni.b] W w'):=fun W hW=>by
    have hh:=touch_ok W tr T1 i { ni with L:=ni.L - 1 } hW e3 hC;rw [← f1];refine hh.mono fun e w' hx=>⟨hx.1,?_,hx.2.2⟩;rw [← hT2];exact hx.2.1
  have HSE:Hid (∀ W,TreeAt W tr T2→zK 75 #[zP tr,zG i (T.g i:Nat)] W fun e w'=>e = .returned (.tuple #[])∧Settled W w' tr T2 i (ni.L - 1)):=fun W hW=>by
    have hh:=settle_any W tr T2 i { ni with L:=ni.L - 1,C:=ni.C+1 } hW g7 hKi g6 (by rw [g1];exact hg);rw [g1] at hh;exact hh
  have HNO:Hid (∀ k,w.heap.size≤k→k∉[d.b,ni.b,na.b]∧k∉[ni.b]):=fun k hk=>⟨by simp;omega,by simp;omega⟩;have HG:Hid (T2.p=T.p∧T2.pn=T.pn):=⟨g3,g5⟩;clear htake hT1 hT2 h hd ha hi he hlive hbA hbx hOc f1 f3 f5 e2 e3 g1 g3 g5 g6 g7 HLK
  go_wp2_with (first
    | (go_at_call 66;refine htk.mono ?_;rintro e w3 ⟨rfl,hT3,ho3⟩;have HT3:Hid (TreeAt w3 tr T1):=hT3;have HO3:Hid (Only [d.b,ni.b,na.b] wt w3):=ho3;have hB3:HBox w3 B i (T.g i):=HBox.kept HBX.out ho3 (HNO.out B (Nat.le_of_lt hB)).1;have HB3:Hid (HBox w3 B i (T.g i)):=hB3;obtain ⟨z0,z1⟩:=hB3.cells;have his:=HIS.out w3 hT3;clear htk hT3 ho3 hB3 x0 x1)
    | (go_at_call 90;go_must (refine his.mono ?_);rintro e w4 ⟨rfl,ho4⟩;have HO4:Hid (zQ w3 w4):=ho4;have hB4:HBox w4 B i (T.g i):=HBox.kept HB3.out ho4 (by simp);have HB4:Hid (HBox w4 B i (T.g i)):=hB4;clear z0 z1;obtain ⟨z0,z1⟩:=hB4.cells;have hto:=HTO.out w4 (HT3.out.only ho4);clear his ho4 hB4)
    | (go_at_call 56;go_must (refine hto.mono ?_);rintro e w5 ⟨rfl,hT5,ho5⟩;have HO5:Hid (Only [ni.b] w4 w5):=ho5;have hB5:HBox w5 B i (T.g i):=HBox.kept HB4.out ho5 (HNO.out B (Nat.le_of_lt hB)).2;clear z0 z1;obtain ⟨z0,z1⟩:=hB5.cells;have HT5:Hid (TreeAt w5 tr T2):=hT5;have hse:=HSE.out w5 hT5;clear hto ho5 hB5 hT5)
    | (go_at_call 75;go_must (refine hse.mono ?_);rintro e w6 ⟨rfl,hs6⟩;have HS6:Hid (Settled w5 w6 tr T2 i (ni.L - 1)):=hs6;clear hse hs6 z0 z1))
  go_end0
  have o5:Only ([d.b,ni.b,na.b]++T.p.a.toList) w w5:=by
    have o3:Only [d.b,ni.b,na.b] w w3:=(HOT.out.mono (fun _ hk=>by cases hk)).trans HO3.out (fun k hk=>Or.inl hk);have o4:Only [d.b,ni.b,na.b] w w4:=o3.trans HO4.out (fun _ hk=>by cases hk);have o5:Only [d.b,ni.b,na.b] w w5:=o4.trans HO5.out (fun k hk=>Or.inl (by simp at hk;simp [hk]));exact o5.mono (fun k hk=>Or.inl (List.mem_append_left _ hk))
  obtain ⟨k3,k5⟩:=HG.out;refine ⟨rfl,?_⟩;unfold LostF;rw [HFIN.out];rcases HS6.out with ⟨s1,s2,s3,s4⟩ | ⟨s1,s2⟩
  · rw [k3] at s4
    rw [k5] at s2;exact ⟨Or.inl ⟨by omega,s2,s3⟩,o5.trans s4 (fun k hk=>Or.inl (List.mem_append_right _ hk))⟩
  · rw [k5] at s1
    exact ⟨Or.inr ⟨fun e=>s1 ⟨by omega,e.2⟩,HT5.out.only s2⟩,o5.trans s2 (fun _ hk=>by cases hk)⟩
end
end Go.Proofs.YtkcabopgajlmdaaGreatDoor
