import Derived.Test.YtbdfjbmocifhmaaGreatDoorK12
import Derived.Deep.CutBlock
set_option maxRecDepth 100000
set_option maxHeartbeats 8000000
namespace Go.Proofs.YtbdfjbmocifhmaaGreatDoor
section
open Go Go.RowKit Go.Deep Go.Maps
theorem look_name0 {w:World}{d:DirM}(h:DirAt w d)(s:ByteArray)(hs:s.size≤1000){e:Ent}(he:findE d.l s.data.toList=some e):(Instr.lookup 136 (.map (some d.b)) (.string s) false).run Tryz.prog w = .ok (.agg #[.int .i64 (e.i:Nat),.int .i64 (e.c:Nat)]) w:=by
 obtain ⟨v,ps,hr,hv⟩:=World.ownsMap.lookup h lawS undNames (zeroHand _) (zd:=entV 0 0) (zp:=[]) rfl (WideMaps.keyOf_string_mk Tryz.underlying9 (s:=s) (by unfold maxLen;omega));rw [at_entD,he] at hv;rw [hr,handElem_inv hv];rfl
theorem name_del {w:World}{d:DirM}(h:DirAt w d)(s:ByteArray)(hs:s.size≤1000)(ty:TypeId):∃ w',(Builtin.delete_ #[136,9] ty #[.map (some d.b),.string s]).run Tryz.prog w = .ok (.tuple #[]) w'∧w'.ownsMap Tryz.prog 9 handElem d.b (dropE d.l s.data.toList).length (entD (dropE d.l s.data.toList))∧Only [d.b] w w':=by
 obtain ⟨w',hr,ho,ht⟩:=World.ownsMap.drop h lawS undNames (WideMaps.keyOf_string_mk Tryz.underlying9 (s:=s) (by unfold maxLen;omega)) ty;refine ⟨w',hr,?_,only_turned ht⟩;rw [del_entD] at ho;have:=own_sized ho;rw [size_entD] at this;exact this
def HBox (w:World)(B i c:Nat):Prop:=w.heap[B]?=some (.cells #[.int .i64 (i:Nat),.int .i64 (c:Nat)] 34 (0,0))
theorem HBox.cells {w:World}{B i c:Nat}(h:HBox w B i c):w.cell? ⟨B,0,none⟩=some (.int .i64 (i:Nat))∧w.cell? ⟨B,1,none⟩=some (.int .i64 (c:Nat)):=⟨cell_of_row _ _ 0 _ _ _ h,cell_of_row _ _ 1 _ _ _ h⟩
theorem HBox.kept {w w':World}{B i c:Nat}{L:List Nat}(h:HBox w B i c)(ho:Only L w w')(hn:B∉L):HBox w' B i c:=(ho.block B (Array.getElem?_eq_some_iff.1 h).1 hn).trans h
theorem HBox.lt {w:World}{B i c:Nat}(h:HBox w B i c):B < w.heap.size:=(Array.getElem?_eq_some_iff.1 h).1
theorem only_nilT {a b c:World}(h:Only [] a b)(k:Only [] b c):Only [] a c:=h.trans k (fun _ hk=>by cases hk)
theorem take_dir (w:World)(tr:Nat)(T:Tr)(a i:Nat)(na ni:Nod)(d:DirM)(s:ByteArray)(h:TreeAt w tr T)(hd:T.ds a=some d)(ha:T.nd a=some na)(hKa:na.K=2)(hi:T.nd i=some ni)(hKi:ni.K=2)(he:findE d.l s.data.toList=some ⟨s.data.toList,i,T.g i⟩)(hl:d.l.length≤900)(hs:s.size≤1000)(hlive:∀ e∈d.l,e.i < T.p.N∧e.c=T.g e.i):
  Calls Tryz.prog 87 #[.pointer (some ⟨tr,0,none⟩),.agg #[.int .i64 a,.int .i64 (T.g a:Nat)],.string s] w fun e w'=>e = .returned (.tuple #[])∧TreeAt w' tr { T.named a d.b (dropE d.l s.data.toList) with nd:=setN T.nd a (some { na with Z:=((dropE d.l s.data.toList).length:Nat),L:=2+(dirsIn (dropE d.l s.data.toList) (T.named a d.b (dropE d.l s.data.toList)).ds:Int) }) }∧Only [d.b,na.b] w w':=by
 have hal:=h.tab.lt ha;have htl:tr < w.heap.size:=lt_of_cell h.c0;have hdb:d.b < w.heap.size:=World.ownsMap.lt (h.dir a d hd);have HLK:Hid (∀ W,Only [] w W→W.cell? ⟨tr,1,none⟩=some (.map (some T.db))∧(Instr.lookup 127 (.map (some T.db)) (.agg #[.int .i64 a,.int .i64 (T.g a:Nat)]) false).run Tryz.prog W = .ok (.map (some d.b)) W∧(Instr.lookup 136 (.map (some d.b)) (.string s) false).run Tryz.prog W = .ok (.agg #[.int .i64 (i:Nat),.int .i64 (T.g i:Nat)]) W):=fun W ho=>⟨(h.only ho).c1,look_dir (h.only ho) hal hd,look_name0 ((h.only ho).dir a d hd) s hs he⟩;have hA:Only [] w (w.alloc (.cells #[.int .i64 a,.int .i64 (T.g a:Nat)] 34)):=(Only.refl [] w).alloc _;obtain ⟨p1,p2,p3⟩:=HLK.out _ hA.drew;obtain ⟨r1,r2,r3⟩:=HLK.out _ (hA.alloc (.cells #[.int .i64 0,.int .i64 0] 34)).drew;obtain ⟨l',hlE⟩:∃ l',dropE d.l s.data.toList=l':=⟨_,rfl⟩;rw [hlE]
 have HBN:Hid (HBox ((w.alloc (.cells #[.int .i64 a,.int .i64 (T.g a:Nat)] 34)).alloc (.cells #[.int .i64 i,.int .i64 (T.g i:Nat)] 34)).drew (w.heap.size+1) i (T.g i)):=by
  have hh:=heap_alloc_last (w.alloc (.cells #[.int .i64 a,.int .i64 (T.g a:Nat)] 34)) (.cells #[.int .i64 i,.int .i64 (T.g i:Nat)] 34);rw [World.size_alloc] at hh;exact hh
 go_enter Tryz.func87,Tryz.ntmps87
 go_upto_region 1 with fail
 go_cut [6] from 8 to 44 (fun q wx=>∃ B,q = .pointer (some ⟨B,0,none⟩)∧w.heap.size < B∧HBox wx B i (T.g i)∧Only [] (w.alloc (.cells #[.int .i64 a,.int .i64 (T.g a:Nat)] 34)) wx)
 case first =>
  go_region
  all_goals go_wp2
  all_goals go_meet
  all_goals exact ⟨w.heap.size+1,rfl,Nat.lt_succ_self _,HBN.out,((Only.refl [] _).alloc _).drew⟩
 case rest =>
  obtain ⟨B,rfl,hB,hbx,hoc⟩:=hcut;clear p1 p2 p3 r1 r2 r3;have hOc:Only [] w wc:=only_nilT hA hoc
  have hbA:HBox wc w.heap.size a (T.g a):=HBox.kept (show HBox _ w.heap.size a (T.g a) from heap_alloc_last w _) hoc (by simp)
  generalize wc=wt at hOc hbx hbA ⊢;have hTt:=h.only hOc.drew;obtain ⟨p1,p2,_⟩:=HLK.out _ hOc.drew;obtain ⟨w3,hdel,hown3,hod⟩:=name_del (hTt.dir a d hd) s hs 0;rw [hlE] at hown3;have hO3:Only [d.b] w w3:=(hOc.drew.mono (L':=[d.b]) (fun _ hk=>by cases hk)).trans hod (fun _ hk=>Or.inl hk);have hT3:=h.named hd hown3 hO3;have hB3:HBox w3 B i (T.g i):=(HBox.kept hbx ((Only.refl [] wt).drew) (by simp)).kept hod (by simp;omega);have hA3:HBox w3 w.heap.size a (T.g a):=(HBox.kept hbA ((Only.refl [] wt).drew) (by simp)).kept hod (by simp;omega);obtain ⟨x0,x1⟩:=hbA.cells;obtain ⟨z0,z1⟩:=hB3.cells
  have hl2:l'.length≤1000:=by
   rw [← hlE];have:=List.length_filter_le (fun e:Ent=>!(e.s==s.data.toList)) d.l;unfold dropE;omega
  have hlv:∀ e∈l',e.i < T.p.N∧e.c=T.g e.i:=fun e he'=>by
   rw [← hlE] at he';exact hlive e (List.mem_filter.1 he').1
  have H3:Hid (TreeAt w3 tr (T.named a d.b l')):=hT3;have HO3:Hid (Only [d.b] w w3):=hO3;have HA3:Hid (HBox w3 w.heap.size a (T.g a)):=hA3;have HB3:Hid (HBox w3 B i (T.g i)):=hB3;have htold:Calls Tryz.prog 98 #[.pointer (some ⟨tr,0,none⟩),.agg #[.int .i64 i,.int .i64 (T.g i:Nat)]] w3 fun e w'=>e = .returned (attrV ni.K ni.Z ni.L ni.C ni.UN ni.UG)∧Only [] w3 w':=told_ok w3 tr (T.named a d.b l') i ni ni.Z hT3 hi (Or.inr ⟨hKi,rfl⟩);unfold attrV at htold;rw [hKi] at htold;have HRC:Hid (∀ W,TreeAt W tr (T.named a d.b l')→Calls Tryz.prog 122 #[.pointer (some ⟨tr,0,none⟩),.agg #[.int .i64 a,.int .i64 (T.g a:Nat)]] W fun e w'=>e = .returned (.tuple #[])∧TreeAt w' tr { T.named a d.b l' with nd:=setN T.nd a (some { na with Z:=(l'.length:Nat),L:=2+(dirsIn l' (T.named a d.b l').ds:Int) }) }∧Only [na.b] W w'):=fun W t6=>recount_ok W tr (T.named a d.b l') a na ⟨d.b,l'⟩ t6 (setN_same _ _ _) ha hKa hl2 hlv;clear hTt hown3 hO3 hT3 hB3 hA3 hod hOc hbx hbA hoc hA
  go_wp2
  go_region
  all_goals go_wp2_with (go_at_call 98;go_must (refine htold.mono ?_);rintro e w4 ⟨rfl,ho4⟩;have hO5:Only [] w3 (w4.alloc (.cells #[.int .i64 2,.int .i64 ni.Z,.int .i64 ni.L,.int .i64 ni.C,.int .i64 ni.UN,.int .i64 ni.UG] 111)):=ho4.alloc _;have hrec:=HRC.out _ (H3.out.only hO5);obtain ⟨y0,y1⟩:=(HBox.kept HA3.out ho4 (by simp)).cells;have hyl:=lt_of_cell y0;have HO5:Hid (Only [] w3 (w4.alloc (.cells #[.int .i64 2,.int .i64 ni.Z,.int .i64 ni.L,.int .i64 ni.C,.int .i64 ni.UN,.int .i64 ni.UG] 111))):=hO5;clear hO5 ho4 htold z0 z1)
  all_goals refine hrec.mono ?_
  all_goals rintro e w7 ⟨rfl,hT7,ho7⟩
  all_goals go_wp2
  all_goals go_end0
  all_goals exact ⟨rfl,hT7,((HO3.out.mono (L':=[d.b,na.b]) (fun k hk=>Or.inl (by simp at hk;simp [hk]))).trans (HO5.out.mono (L':=[d.b,na.b]) (fun _ hk=>by cases hk)) (fun k hk=>Or.inl hk)).trans ho7 (fun k hk=>Or.inl (by simp at hk;simp [hk]))⟩
theorem take_file (w:World)(tr:Nat)(T:Tr)(a i:Nat)(na ni:Nod)(d:DirM)(s:ByteArray)(h:TreeAt w tr T)(hd:T.ds a=some d)(ha:T.nd a=some na)(hKa:na.K=2)(hi:T.nd i=some ni)(hKi:ni.K=1)(hL:1≤ni.L∧ni.L≤1000)(he:findE d.l s.data.toList=some ⟨s.data.toList,i,T.g i⟩)(hl:d.l.length≤900)(hs:s.size≤1000)(hlive:∀ e∈d.l,e.i < T.p.N∧e.c=T.g e.i):
  Calls Tryz.prog 87 #[.pointer (some ⟨tr,0,none⟩),.agg #[.int .i64 a,.int .i64 (T.g a:Nat)],.string s] w fun e w'=>e = .returned (.tuple #[])∧TreeAt w' tr { T.named a d.b (dropE d.l s.data.toList) with nd:=setN (setN T.nd i (some { ni with L:=ni.L - 1 })) a (some { na with Z:=((dropE d.l s.data.toList).length:Nat),L:=2+(dirsIn (dropE d.l s.data.toList) (T.named a d.b (dropE d.l s.data.toList)).ds:Int) }) }∧Only [d.b,ni.b,na.b] w w':=by
 have hal:=h.tab.lt ha;have htl:tr < w.heap.size:=lt_of_cell h.c0;have hdb:d.b < w.heap.size:=World.ownsMap.lt (h.dir a d hd);have HLK:Hid (∀ W,Only [] w W→W.cell? ⟨tr,1,none⟩=some (.map (some T.db))∧(Instr.lookup 127 (.map (some T.db)) (.agg #[.int .i64 a,.int .i64 (T.g a:Nat)]) false).run Tryz.prog W = .ok (.map (some d.b)) W∧(Instr.lookup 136 (.map (some d.b)) (.string s) false).run Tryz.prog W = .ok (.agg #[.int .i64 (i:Nat),.int .i64 (T.g i:Nat)]) W):=fun W ho=>⟨(h.only ho).c1,look_dir (h.only ho) hal hd,look_name0 ((h.only ho).dir a d hd) s hs he⟩;have hA:Only [] w (w.alloc (.cells #[.int .i64 a,.int .i64 (T.g a:Nat)] 34)):=(Only.refl [] w).alloc _;obtain ⟨p1,p2,p3⟩:=HLK.out _ hA.drew;obtain ⟨r1,r2,r3⟩:=HLK.out _ (hA.alloc (.cells #[.int .i64 0,.int .i64 0] 34)).drew;obtain ⟨l',hlE⟩:∃ l',dropE d.l s.data.toList=l':=⟨_,rfl⟩;rw [hlE]
 have HBN:Hid (HBox ((w.alloc (.cells #[.int .i64 a,.int .i64 (T.g a:Nat)] 34)).alloc (.cells #[.int .i64 i,.int .i64 (T.g i:Nat)] 34)).drew (w.heap.size+1) i (T.g i)):=by
  have hh:=heap_alloc_last (w.alloc (.cells #[.int .i64 a,.int .i64 (T.g a:Nat)] 34)) (.cells #[.int .i64 i,.int .i64 (T.g i:Nat)] 34);rw [World.size_alloc] at hh;exact hh
 go_enter Tryz.func87,Tryz.ntmps87
 go_upto_region 1 with fail
 go_cut [6] from 8 to 44 (fun q wx=>∃ B,q = .pointer (some ⟨B,0,none⟩)∧w.heap.size < B∧HBox wx B i (T.g i)∧Only [] (w.alloc (.cells #[.int .i64 a,.int .i64 (T.g a:Nat)] 34)) wx)
 case first =>
  go_region
  all_goals go_wp2
  all_goals go_meet
  all_goals exact ⟨w.heap.size+1,rfl,Nat.lt_succ_self _,HBN.out,((Only.refl [] _).alloc _).drew⟩
 case rest =>
  obtain ⟨B,rfl,hB,hbx,hoc⟩:=hcut;clear p1 p2 p3 r1 r2 r3;have hOc:Only [] w wc:=only_nilT hA hoc
  have hbA:HBox wc w.heap.size a (T.g a):=HBox.kept (show HBox _ w.heap.size a (T.g a) from heap_alloc_last w _) hoc (by simp)
  generalize wc=wt at hOc hbx hbA ⊢;have hTt:=h.only hOc.drew;obtain ⟨p1,p2,_⟩:=HLK.out _ hOc.drew;obtain ⟨w3,hdel,hown3,hod⟩:=name_del (hTt.dir a d hd) s hs 0;rw [hlE] at hown3;have hO3:Only [d.b] w w3:=(hOc.drew.mono (L':=[d.b]) (fun _ hk=>by cases hk)).trans hod (fun _ hk=>Or.inl hk);have hT3:=h.named hd hown3 hO3;have hB3:HBox w3 B i (T.g i):=(HBox.kept hbx ((Only.refl [] wt).drew) (by simp)).kept hod (by simp;omega);have hA3:HBox w3 w.heap.size a (T.g a):=(HBox.kept hbA ((Only.refl [] wt).drew) (by simp)).kept hod (by simp;omega);obtain ⟨x0,x1⟩:=hbA.cells;obtain ⟨z0,z1⟩:=hB3.cells
  have hl2:l'.length≤1000:=by
   rw [← hlE];have:=List.length_filter_le (fun e:Ent=>!(e.s==s.data.toList)) d.l;unfold dropE;omega
  have hlv:∀ e∈l',e.i < T.p.N∧e.c=T.g e.i:=fun e he'=>by
   rw [← hlE] at he';exact hlive e (List.mem_filter.1 he').1
  have H3:Hid (TreeAt w3 tr (T.named a d.b l')):=hT3;have HO3:Hid (Only [d.b] w w3):=hO3;have HA3:Hid (HBox w3 w.heap.size a (T.g a)):=hA3;have HB3:Hid (HBox w3 B i (T.g i)):=hB3;have htold:Calls Tryz.prog 98 #[.pointer (some ⟨tr,0,none⟩),.agg #[.int .i64 i,.int .i64 (T.g i:Nat)]] w3 fun e w'=>e = .returned (attrV ni.K (ni.S.size:Nat) ni.L ni.C ni.UN ni.UG)∧Only [] w3 w':=told_ok w3 tr (T.named a d.b l') i ni (ni.S.size:Nat) hT3 hi (Or.inl ⟨hKi,rfl⟩);unfold attrV at htold;rw [hKi] at htold
  have hai:a≠i:=fun e=>by
   rw [e,hi] at ha
   cases ha
   omega
  have hnb:ni.b < w.heap.size:=lt_of_cell (h.tab.node i ni hi).c0;have hftr:tr≠ni.b:=fun e=>h.ftr (by rw [e];exact .node hi ni.b_foot);have HRC:Hid (∀ W,TreeAt W tr { T.named a d.b l' with nd:=setN T.nd i (some { ni with L:=ni.L - 1 }) }→Calls Tryz.prog 122 #[.pointer (some ⟨tr,0,none⟩),.agg #[.int .i64 a,.int .i64 (T.g a:Nat)]] W fun e w'=>e = .returned (.tuple #[])∧TreeAt w' tr { T.named a d.b l' with nd:=setN (setN T.nd i (some { ni with L:=ni.L - 1 })) a (some { na with Z:=(l'.length:Nat),L:=2+(dirsIn l' (T.named a d.b l').ds:Int) }) }∧Only [na.b] W w'):=fun W t6=>recount_ok W tr { T.named a d.b l' with nd:=setN T.nd i (some { ni with L:=ni.L - 1 }) } a na ⟨d.b,l'⟩ t6 (setN_same _ _ _) ((setN_other _ _ hai).trans ha) hKa hl2 hlv;have HWR:Hid (IntKind.i64.wrap (ni.L - 1)=ni.L - 1):=wrap_small (by omega) (by omega);have HHI:Hid (T.nd i=some ni∧ni.K=1∧1≤ni.L):=⟨hi,hKi,hL.1⟩;clear hTt hown3 hO3 hT3 hB3 hA3 hod hOc hbx hbA hoc hA
  go_wp2
  go_region
  all_goals go_wp2_with (go_at_call 98;go_must (refine htold.mono ?_);rintro e w4 ⟨rfl,ho4⟩;have HO4:Hid (Only [] w3 w4):=ho4;clear htold ho4 z0 z1)
  all_goals have hO5:Only [] w3 ((w4.alloc (.cells #[.int .i64 1,.int .i64 (ni.S.size:Nat),.int .i64 ni.L,.int .i64 ni.C,.int .i64 ni.UN,.int .i64 ni.UG] 111)).drew):=(HO4.out.alloc _).drew
  all_goals have hT5:=H3.out.only hO5
  all_goals have hvl:=heap_alloc_last w4 (.cells #[.int .i64 1,.int .i64 (ni.S.size:Nat),.int .i64 ni.L,.int .i64 ni.C,.int .i64 ni.UN,.int .i64 ni.UG] 111)
  all_goals have hw4:w.heap.size≤w4.heap.size:=Nat.le_trans HO3.out.size HO4.out.size
  all_goals obtain ⟨z0,z1⟩:=(HBox.kept HB3.out hO5 (by simp)).cells
  all_goals have K0:Hid (((w4.alloc (.cells #[.int .i64 1,.int .i64 (ni.S.size:Nat),.int .i64 ni.L,.int .i64 ni.C,.int .i64 ni.UN,.int .i64 ni.UG] 111)).drew).cell? ⟨tr,0,none⟩=some (.pointer (some ⟨T.t,0,none⟩))∧((w4.alloc (.cells #[.int .i64 1,.int .i64 (ni.S.size:Nat),.int .i64 ni.L,.int .i64 ni.C,.int .i64 ni.UN,.int .i64 ni.UG] 111)).drew).cell? ⟨B,0,none⟩=some (.int .i64 (i:Nat))∧((w4.alloc (.cells #[.int .i64 1,.int .i64 (ni.S.size:Nat),.int .i64 ni.L,.int .i64 ni.C,.int .i64 ni.UN,.int .i64 ni.UG] 111)).drew).cell? ⟨B,1,none⟩=some (.int .i64 (T.g i:Nat))∧((w4.alloc (.cells #[.int .i64 1,.int .i64 (ni.S.size:Nat),.int .i64 ni.L,.int .i64 ni.C,.int .i64 ni.UN,.int .i64 ni.UG] 111)).drew).cell? ⟨w4.heap.size,1,none⟩=some (.int .i64 (ni.S.size:Nat))∧((w4.alloc (.cells #[.int .i64 1,.int .i64 (ni.S.size:Nat),.int .i64 ni.L,.int .i64 ni.C,.int .i64 ni.UN,.int .i64 ni.UG] 111)).drew).cell? ⟨w4.heap.size,2,none⟩=some (.int .i64 ni.L)∧((w4.alloc (.cells #[.int .i64 1,.int .i64 (ni.S.size:Nat),.int .i64 ni.L,.int .i64 ni.C,.int .i64 ni.UN,.int .i64 ni.UG] 111)).drew).cell? ⟨w4.heap.size,4,none⟩=some (.int .i64 ni.UN)∧((w4.alloc (.cells #[.int .i64 1,.int .i64 (ni.S.size:Nat),.int .i64 ni.L,.int .i64 ni.C,.int .i64 ni.UN,.int .i64 ni.UG] 111)).drew).cell? ⟨w4.heap.size,5,none⟩=some (.int .i64 ni.UG)):=⟨hT5.c0,z0,z1,cell_of_row _ _ 1 _ _ _ hvl,cell_of_row _ _ 2 _ _ _ hvl,cell_of_row _ _ 4 _ _ _ hvl,cell_of_row _ _ 5 _ _ _ hvl⟩
  all_goals have hadj:=tadj_file ((w4.alloc (.cells #[.int .i64 1,.int .i64 (ni.S.size:Nat),.int .i64 ni.L,.int .i64 ni.C,.int .i64 ni.UN,.int .i64 ni.UG] 111)).drew) T.t T.p T.most i T.g T.nd ni (ni.S.size:Nat) (ni.L - 1) ni.UN ni.UG hT5.tab HHI.out.1 (And.intro (by omega) (by have:=HHI.out.2.2;omega)) HHI.out.2.1
  all_goals have HK6:Hid (∀ w6:World,Only [ni.b] ((w4.alloc (.cells #[.int .i64 1,.int .i64 (ni.S.size:Nat),.int .i64 ni.L,.int .i64 ni.C,.int .i64 ni.UN,.int .i64 ni.UG] 111)).drew) w6→w6.cell? ⟨tr,0,none⟩=some (.pointer (some ⟨T.t,0,none⟩))∧w6.cell? ⟨B,0,none⟩=some (.int .i64 (i:Nat))∧w6.cell? ⟨B,1,none⟩=some (.int .i64 (T.g i:Nat))∧w6.cell? ⟨w4.heap.size,1,none⟩=some (.int .i64 (ni.S.size:Nat))∧w6.cell? ⟨w4.heap.size,2,none⟩=some (.int .i64 ni.L)∧w6.cell? ⟨w4.heap.size,4,none⟩=some (.int .i64 ni.UN)∧w6.cell? ⟨w4.heap.size,5,none⟩=some (.int .i64 ni.UG)):=fun w6 o6=>(by
   have kk:=K0.out
   have no:∀ k,w.heap.size≤k→k∉[ni.b]:=fun k hk hm=>by have e:k=ni.b:=(by simpa using hm);omega
   exact ⟨(o6.cell (p:=⟨tr,0,none⟩) (lt_of_cell kk.1) (by simpa using hftr)).trans kk.1,(o6.cell (p:=⟨B,0,none⟩) (lt_of_cell kk.2.1) (no _ (Nat.le_of_lt hB))).trans kk.2.1,(o6.cell (p:=⟨B,1,none⟩) (lt_of_cell kk.2.2.1) (no _ (Nat.le_of_lt hB))).trans kk.2.2.1,(o6.cell (p:=⟨w4.heap.size,1,none⟩) (lt_of_cell kk.2.2.2.1) (no _ hw4)).trans kk.2.2.2.1,(o6.cell (p:=⟨w4.heap.size,2,none⟩) (lt_of_cell kk.2.2.2.2.1) (no _ hw4)).trans kk.2.2.2.2.1,(o6.cell (p:=⟨w4.heap.size,4,none⟩) (lt_of_cell kk.2.2.2.2.2.1) (no _ hw4)).trans kk.2.2.2.2.2.1,(o6.cell (p:=⟨w4.heap.size,5,none⟩) (lt_of_cell kk.2.2.2.2.2.2) (no _ hw4)).trans kk.2.2.2.2.2.2⟩)
  all_goals have HN6:Hid (∀ w6,TabAt w6 T.t T.p T.most T.g (setN T.nd i (some { ni with L:=ni.L - 1 }))→Only [ni.b] ((w4.alloc (.cells #[.int .i64 1,.int .i64 (ni.S.size:Nat),.int .i64 ni.L,.int .i64 ni.C,.int .i64 ni.UN,.int .i64 ni.UG] 111)).drew) w6→TreeAt w6 tr { T.named a d.b l' with nd:=setN T.nd i (some { ni with L:=ni.L - 1 }) }):=fun w6 t6 o6=>TreeAt.node (T:=T.named a d.b l') (n:=ni) (n':={ ni with L:=ni.L - 1 }) hT5 HHI.out.1 rfl rfl t6 o6
  all_goals have HO5:Hid (Only [d.b] w ((w4.alloc (.cells #[.int .i64 1,.int .i64 (ni.S.size:Nat),.int .i64 ni.L,.int .i64 ni.C,.int .i64 ni.UN,.int .i64 ni.UG] 111)).drew)):=HO3.out.trans hO5 (fun _ hk=>by cases hk)
  all_goals have HA5:Hid (HBox ((w4.alloc (.cells #[.int .i64 1,.int .i64 (ni.S.size:Nat),.int .i64 ni.L,.int .i64 ni.C,.int .i64 ni.UN,.int .i64 ni.UG] 111)).drew) w.heap.size a (T.g a)∧w.heap.size∉[ni.b]):=⟨HBox.kept HA3.out hO5 (by simp),by simp;omega⟩
  all_goals clear hO5 hT5 hvl z0 z1 p1 p2 hdel x0 x1 h hd ha he hlive hlv hi hl2 hlE HLK
  all_goals go_region_held3 (fun W=>W.cell? ⟨tr,0,none⟩=some (.pointer (some ⟨T.t,0,none⟩))∧W.cell? ⟨B,0,none⟩=some (.int .i64 (i:Nat))∧W.cell? ⟨B,1,none⟩=some (.int .i64 (T.g i:Nat))∧W.cell? ⟨w4.heap.size,1,none⟩=some (.int .i64 (ni.S.size:Nat))∧W.cell? ⟨w4.heap.size,2,none⟩=some (.int .i64 ni.L)∧W.cell? ⟨w4.heap.size,4,none⟩=some (.int .i64 ni.UN)∧W.cell? ⟨w4.heap.size,5,none⟩=some (.int .i64 ni.UG))
   (with_reducible first
    | exact K0.out
    | exact K6.out)
   (first
    | (go_at_call 121;rw [HWR.out];refine hadj.mono ?_;rintro e w6 ⟨rfl,hT6,ho6⟩;have HT6:Hid (TreeAt w6 tr { T.named a d.b l' with nd:=setN T.nd i (some { ni with L:=ni.L - 1 }) }):=HN6.out w6 hT6 ho6;have K6:Hid (w6.cell? ⟨tr,0,none⟩=some (.pointer (some ⟨T.t,0,none⟩))∧w6.cell? ⟨B,0,none⟩=some (.int .i64 (i:Nat))∧w6.cell? ⟨B,1,none⟩=some (.int .i64 (T.g i:Nat))∧w6.cell? ⟨w4.heap.size,1,none⟩=some (.int .i64 (ni.S.size:Nat))∧w6.cell? ⟨w4.heap.size,2,none⟩=some (.int .i64 ni.L)∧w6.cell? ⟨w4.heap.size,4,none⟩=some (.int .i64 ni.UN)∧w6.cell? ⟨w4.heap.size,5,none⟩=some (.int .i64 ni.UG)):=HK6.out w6 ho6;have HO6:Hid (Only [ni.b] ((w4.alloc (.cells #[.int .i64 1,.int .i64 (ni.S.size:Nat),.int .i64 ni.L,.int .i64 ni.C,.int .i64 ni.UN,.int .i64 ni.UG] 111)).drew) w6):=ho6;clear hT6 ho6 hadj))
  all_goals have hrec:=HRC.out w6 HT6.out
  all_goals obtain ⟨y0,y1⟩:=(HBox.kept HA5.out.1 HO6.out HA5.out.2).cells
  all_goals go_wp2_with (go_at_call 122;go_must (refine hrec.mono ?_);rintro e w7 ⟨rfl,hT7,ho7⟩)
  all_goals go_end0
  all_goals exact ⟨rfl,hT7,(((HO5.out.mono (L':=[d.b,ni.b,na.b]) (fun k hk=>Or.inl (by simp at hk;simp [hk]))).trans HO6.out (fun k hk=>Or.inl (by simp at hk;simp [hk]))).trans ho7 (fun k hk=>Or.inl (by simp at hk;simp [hk])))⟩
end
end Go.Proofs.YtbdfjbmocifhmaaGreatDoor
