import Derived.Test.YtofbkeecbdahnaaGreatDoorK15
set_option maxRecDepth 100000
set_option maxHeartbeats 8000000
namespace Go.Proofs.YtofbkeecbdahnaaGreatDoor
section
open Go Go.RowKit Go.Deep Go.Maps
def Tr.takenF (T:Tr)(a i:Nat)(na ni:Nod)(d:DirM)(s:List UInt8):Tr:={ T.named a d.b (dropE d.l s) with nd:=setN (setN T.nd i (some { ni with L:=ni.L - 1 })) a (some { na with Z:=((dropE d.l s).length:Nat),L:=2+(dirsIn (dropE d.l s) (T.named a d.b (dropE d.l s)).ds:Int) }) }
def Tr.lostF (T:Tr)(a i:Nat)(na ni:Nod)(d:DirM)(s:List UInt8):Tr:={ T.takenF a i na ni d s with nd:=setN (T.takenF a i na ni d s).nd i (some { ni with L:=ni.L - 1,C:=ni.C+1 }) }
def LostF (w w':World)(tr:Nat)(T:Tr)(a i:Nat)(na ni:Nod)(d:DirM)(s:List UInt8):Prop :=
 ((ni.L=1∧T.pn i=0∧TreeAt w' tr ((T.lostF a i na ni d s).freed i))∨(¬ (ni.L=1∧T.pn i=0)∧TreeAt w' tr (T.lostF a i na ni d s)))∧Only ([d.b,ni.b,na.b]++T.p.a.toList) w w'
theorem lose_file (w:World)(tr:Nat)(T:Tr)(a i:Nat)(na ni:Nod)(d:DirM)(s:ByteArray)(h:TreeAt w tr T)(hd:T.ds a=some d)(ha:T.nd a=some na)(hKa:na.K=2)(hi:T.nd i=some ni)(hKi:ni.K=1)(hL:1≤ni.L∧ni.L≤1000)(hC:0≤ni.C∧ni.C≤9000000000000000000)(hdi:T.ds i=none)(hg:T.g i+1≤5000000000000000000)(he:findE d.l s.data.toList=some ⟨s.data.toList,i,T.g i⟩)(hl:d.l.length≤900)(hs:s.size≤1000)(hlive:∀ e∈d.l,e.i < T.p.N∧e.c=T.g e.i):
  Calls Tryz.prog 72 #[.pointer (some ⟨tr,0,none⟩),.agg #[.int .i64 a,.int .i64 (T.g a:Nat)],.string s] w fun e w'=>e = .returned (.tuple #[])∧LostF w w' tr T a i na ni d s.data.toList:=by
 have hal:=h.tab.lt ha;have hil:=h.tab.lt hi;have htl:tr < w.heap.size:=lt_of_cell h.c0;have hdb:d.b < w.heap.size:=World.ownsMap.lt (h.dir a d hd);have hnb:na.b < w.heap.size:=lt_of_cell (h.tab.node a na ha).c0;have hib:ni.b < w.heap.size:=lt_of_cell (h.tab.node i ni hi).c0;have HLK:Hid (∀ W,Only [] w W→W.cell? ⟨tr,1,none⟩=some (.map (some T.db))∧(Instr.lookup 127 (.map (some T.db)) (.agg #[.int .i64 a,.int .i64 (T.g a:Nat)]) false).run Tryz.prog W = .ok (.map (some d.b)) W∧(Instr.lookup 136 (.map (some d.b)) (.string s) false).run Tryz.prog W = .ok (.agg #[.int .i64 (i:Nat),.int .i64 (T.g i:Nat)]) W):=fun W ho=>⟨(h.only ho).c1,look_dir (h.only ho) hal hd,look_name0 ((h.only ho).dir a d hd) s hs he⟩;have hA:Only [] w (w.alloc (.cells #[.int .i64 a,.int .i64 (T.g a:Nat)] 34)):=(Only.refl [] w).alloc _;obtain ⟨p1,p2,p3⟩:=HLK.out _ hA.drew;obtain ⟨r1,r2,r3⟩:=HLK.out _ (hA.alloc (.cells #[.int .i64 0,.int .i64 0] 34)).drew
 have HBN:Hid (HBox ((w.alloc (.cells #[.int .i64 a,.int .i64 (T.g a:Nat)] 34)).alloc (.cells #[.int .i64 i,.int .i64 (T.g i:Nat)] 34)).drew (w.heap.size+1) i (T.g i)):=by
  have hh:=heap_alloc_last (w.alloc (.cells #[.int .i64 a,.int .i64 (T.g a:Nat)] 34)) (.cells #[.int .i64 i,.int .i64 (T.g i:Nat)] 34);rw [World.size_alloc] at hh;exact hh
 go_enter Tryz.func72,Tryz.ntmps72
 go_upto_region 1 with fail
 go_cut [6] from 7 to 38 (fun q wx=>∃ B,q = .pointer (some ⟨B,0,none⟩)∧w.heap.size < B∧HBox wx B i (T.g i)∧Only [] (w.alloc (.cells #[.int .i64 a,.int .i64 (T.g a:Nat)] 34)) wx)
 case first =>
  go_region
  all_goals go_wp2
  all_goals go_meet
  all_goals exact ⟨w.heap.size+1,rfl,Nat.lt_succ_self _,HBN.out,((Only.refl [] _).alloc _).drew⟩
 case rest =>
  obtain ⟨B,rfl,hB,hbx,hoc⟩:=hcut;clear p1 p2 p3 r1 r2 r3 HBN;have hOc:Only [] w wc:=only_nilT hA hoc
  have hbA:HBox wc w.heap.size a (T.g a):=HBox.kept (show HBox _ w.heap.size a (T.g a) from heap_alloc_last w _) hoc (by simp)
  generalize wc=wt at hOc hbx hbA ⊢;clear hA hoc;have htake:=take_file wt tr T a i na ni d s (h.only hOc) hd ha hKa hi hKi hL he hl hs hlive;obtain ⟨x0,x1⟩:=hbA.cells;have HOT:Hid (Only [] w wt):=hOc;have HBX:Hid (HBox wt B i (T.g i)):=hbx;obtain ⟨T1,hT1⟩:∃ T1,T.takenF a i na ni d s.data.toList=T1:=⟨_,rfl⟩
  have htk:Calls Tryz.prog 87 #[.pointer (some ⟨tr,0,none⟩),.agg #[.int .i64 a,.int .i64 (T.g a:Nat)],.string s] wt fun e w'=>e = .returned (.tuple #[])∧TreeAt w' tr T1∧Only [d.b,ni.b,na.b] wt w':=by rw [← hT1];exact htake
  have hai:a≠i:=fun e=>by
    rw [e,hi] at ha
    cases ha
    omega
  have e1:T1.g=T.g∧T1.p=T.p∧T1.pn=T.pn:=by rw [← hT1];exact ⟨rfl,rfl,rfl⟩
  obtain ⟨f1,f3,f5⟩:=e1
  have e2:T1.ds i=none:=by
    rw [← hT1];show setN T.ds a _ i=none;rw [setN_other _ _ (Ne.symm hai)];exact hdi
  have e3:T1.nd i=some { ni with L:=ni.L - 1 }:=by
    rw [← hT1];show setN (setN T.nd i _) a _ i=_;rw [setN_other _ _ (Ne.symm hai),setN_same]
  obtain ⟨T2,hT2⟩:∃ T2,{ T1 with nd:=setN T1.nd i (some { ni with L:=ni.L - 1,C:=ni.C+1 }) }=T2:=⟨_,rfl⟩
  have g1:T2.g=T.g∧T2.p=T.p∧T2.pn=T.pn∧T2.ds i=none∧T2.nd i=some { ni with L:=ni.L - 1,C:=ni.C+1 }:=by rw [← hT2];exact ⟨f1,f3,f5,e2,setN_same _ _ _⟩
  obtain ⟨g1,g3,g5,g6,g7⟩:=g1
  have HFIN:Hid (T.lostF a i na ni d s.data.toList=T2):=by show _=_;unfold Tr.lostF;rw [hT1,hT2]
  have HIS:Hid (∀ W,TreeAt W tr T1→Calls Tryz.prog 124 #[.pointer (some ⟨tr,0,none⟩),.agg #[.int .i64 i,.int .i64 (T.g i:Nat)]] W fun e w'=>e = .returned (.bool false)∧Only [] W w'):=fun W hW=>by
    have:=isDir_any W tr T1 i hW (by rw [f3];exact hil);rw [f1,e2] at this;exact this
  have HTO:Hid (∀ W,TreeAt W tr T1→Calls Tryz.prog 70 #[.pointer (some ⟨tr,0,none⟩),.agg #[.int .i64 i,.int .i64 (T.g i:Nat)]] W fun e w'=>e = .returned (.tuple #[])∧TreeAt w' tr T2∧Only [ni.b] W w'):=fun W hW=>by
    have hh:=touch_ok W tr T1 i { ni with L:=ni.L - 1 } hW e3 hC;rw [← f1];refine hh.mono fun e w' hx=>⟨hx.1,?_,hx.2.2⟩;rw [← hT2];exact hx.2.1
  have HSE:Hid (∀ W,TreeAt W tr T2→Calls Tryz.prog 96 #[.pointer (some ⟨tr,0,none⟩),.agg #[.int .i64 i,.int .i64 (T.g i:Nat)]] W fun e w'=>e = .returned (.tuple #[])∧Settled W w' tr T2 i (ni.L - 1)):=fun W hW=>by
    have hh:=settle_any W tr T2 i { ni with L:=ni.L - 1,C:=ni.C+1 } hW g7 hKi g6 (by rw [g1];exact hg);rw [g1] at hh;exact hh
  have HNO:Hid (∀ k,w.heap.size≤k→k∉[d.b,ni.b,na.b]∧k∉[ni.b]):=fun k hk=>⟨by simp;omega,by simp;omega⟩;have HG:Hid (T2.p=T.p∧T2.pn=T.pn):=⟨g3,g5⟩;clear htake hT1 hT2 h hd ha hi he hlive hbA hbx hOc f1 f3 f5 e2 e3 g1 g3 g5 g6 g7 HLK
  go_wp2_with (first
    | (go_at_call 87;refine htk.mono ?_;rintro e w3 ⟨rfl,hT3,ho3⟩;have HT3:Hid (TreeAt w3 tr T1):=hT3;have HO3:Hid (Only [d.b,ni.b,na.b] wt w3):=ho3;have hB3:HBox w3 B i (T.g i):=HBox.kept HBX.out ho3 (HNO.out B (Nat.le_of_lt hB)).1;have HB3:Hid (HBox w3 B i (T.g i)):=hB3;obtain ⟨z0,z1⟩:=hB3.cells;have his:=HIS.out w3 hT3;clear htk hT3 ho3 hB3 x0 x1)
    | (go_at_call 124;go_must (refine his.mono ?_);rintro e w4 ⟨rfl,ho4⟩;have HO4:Hid (Only [] w3 w4):=ho4;have hB4:HBox w4 B i (T.g i):=HBox.kept HB3.out ho4 (by simp);have HB4:Hid (HBox w4 B i (T.g i)):=hB4;clear z0 z1;obtain ⟨z0,z1⟩:=hB4.cells;have hto:=HTO.out w4 (HT3.out.only ho4);clear his ho4 hB4)
    | (go_at_call 70;go_must (refine hto.mono ?_);rintro e w5 ⟨rfl,hT5,ho5⟩;have HO5:Hid (Only [ni.b] w4 w5):=ho5;have hB5:HBox w5 B i (T.g i):=HBox.kept HB4.out ho5 (HNO.out B (Nat.le_of_lt hB)).2;clear z0 z1;obtain ⟨z0,z1⟩:=hB5.cells;have HT5:Hid (TreeAt w5 tr T2):=hT5;have hse:=HSE.out w5 hT5;clear hto ho5 hB5 hT5)
    | (go_at_call 96;go_must (refine hse.mono ?_);rintro e w6 ⟨rfl,hs6⟩;have HS6:Hid (Settled w5 w6 tr T2 i (ni.L - 1)):=hs6;clear hse hs6 z0 z1))
  go_end0
  have o5:Only ([d.b,ni.b,na.b]++T.p.a.toList) w w5:=by
    have o3:Only [d.b,ni.b,na.b] w w3:=(HOT.out.mono (fun _ hk=>by cases hk)).trans HO3.out (fun k hk=>Or.inl hk);have o4:Only [d.b,ni.b,na.b] w w4:=o3.trans HO4.out (fun _ hk=>by cases hk);have o5:Only [d.b,ni.b,na.b] w w5:=o4.trans HO5.out (fun k hk=>Or.inl (by simp at hk;simp [hk]));exact o5.mono (fun k hk=>Or.inl (List.mem_append_left _ hk))
  obtain ⟨k3,k5⟩:=HG.out;refine ⟨rfl,?_⟩;unfold LostF;rw [HFIN.out];rcases HS6.out with ⟨s1,s2,s3,s4⟩ | ⟨s1,s2⟩
  · rw [k3] at s4
    rw [k5] at s2;exact ⟨Or.inl ⟨by omega,s2,s3⟩,o5.trans s4 (fun k hk=>Or.inl (List.mem_append_right _ hk))⟩
  · rw [k5] at s1
    exact ⟨Or.inr ⟨fun e=>s1 ⟨by omega,e.2⟩,HT5.out.only s2⟩,o5.trans s2 (fun _ hk=>by cases hk)⟩
section
variable (w:World)(tr:Nat)(T:Tr)(a:Nat)(d:DirM)(s:ByteArray)
theorem room_exist (E:Value)(e:Ent)(h:TreeAt w tr T)(hd:T.ds a=some d)(hs:s.size≤1000)(hE:w.cell? ⟨8,0,none⟩=some E)(hf:findE d.l s.data.toList=some e):
  Calls Tryz.prog 68 #[.pointer (some ⟨tr,0,none⟩),.agg #[.int .i64 a,.int .i64 (T.g a:Nat)],.string s] w fun r w'=>r = .returned E∧Only [] w w':=by
 have hal:=h.dlt a d hd;have ct:=h.c1;have htl:tr < w.heap.size:=lt_of_cell ct;have hT1:TreeAt ((w.alloc (.cells #[.int .i64 a,.int .i64 (T.g a:Nat)] 34)).drew) tr T:=h.only ((Only.refl [] w).alloc _).drew;have hT2:TreeAt (((w.alloc (.cells #[.int .i64 a,.int .i64 (T.g a:Nat)] 34)).alloc (.cells #[.int .i64 0,.int .i64 0] 34)).drew) tr T:=h.only (((Only.refl [] w).alloc _).alloc _).drew;have l1:=look_dir hT1 hal hd;have l2:=look_dir hT2 hal hd;obtain ⟨v1,n1,hv1⟩:=look_name (hT1.dir a d hd) s hs;obtain ⟨v2,n2,hv2⟩:=look_name (hT2.dir a d hd) s hs;rw [hf] at n1 n2 hv1 hv2;subst hv1 hv2;unfold handV at n1 n2;simp only [Option.isSome_some] at n1 n2;have hEl:8 < w.heap.size:=lt_of_cell hE;clear hT1 hT2 h hf
 go_enter Tryz.func68,Tryz.ntmps68
 go_wp2
 go_region
 all_goals go_wp2
 all_goals go_ret
 all_goals exact ⟨rfl,by first | exact (((Only.refl [] w).alloc _).alloc _).drew | exact ((((Only.refl [] w).alloc _).alloc _).drew).drew⟩
theorem room_free (h:TreeAt w tr T)(hd:T.ds a=some d)(hs:s.size≤1000)(hf:findE d.l s.data.toList=none)(hl:d.l.length < 60):
  Calls Tryz.prog 68 #[.pointer (some ⟨tr,0,none⟩),.agg #[.int .i64 a,.int .i64 (T.g a:Nat)],.string s] w fun r w'=>r = .returned .nilIface∧Only [] w w':=by
 have hal:=h.dlt a d hd;have ct:=h.c1;have htl:tr < w.heap.size:=lt_of_cell ct;have hT1:TreeAt ((w.alloc (.cells #[.int .i64 a,.int .i64 (T.g a:Nat)] 34)).drew) tr T:=h.only ((Only.refl [] w).alloc _).drew;have hT2:TreeAt (((w.alloc (.cells #[.int .i64 a,.int .i64 (T.g a:Nat)] 34)).alloc (.cells #[.int .i64 0,.int .i64 0] 34)).drew) tr T:=h.only (((Only.refl [] w).alloc _).alloc _).drew;have l1:=look_dir hT1 hal hd;have l2:=look_dir hT2 hal hd;obtain ⟨v1,n1,hv1⟩:=look_name (hT1.dir a d hd) s hs;obtain ⟨v2,n2,hv2⟩:=look_name (hT2.dir a d hd) s hs;rw [hf] at n1 n2 hv1 hv2;subst hv1 hv2;unfold handV at n1 n2;simp only [Option.isSome_none] at n1 n2;have l3:=look_dir (hT2.only (Only.refl [] _).drew) hal hd;have l4:=len_dir ((hT2.only (Only.refl [] _).drew).dir a d hd) 3;clear hT1 hT2 h hf
 go_enter Tryz.func68,Tryz.ntmps68
 go_wp2
 go_region
 all_goals go_wp2
 all_goals go_region
 all_goals go_wp2
 all_goals go_ret
 all_goals exact ⟨rfl,by first | exact (((Only.refl [] w).alloc _).alloc _).drew | exact ((((Only.refl [] w).alloc _).alloc _).drew).drew⟩
theorem room_full (E:Value)(h:TreeAt w tr T)(hd:T.ds a=some d)(hs:s.size≤1000)(hE:w.cell? ⟨4,0,none⟩=some E)(hf:findE d.l s.data.toList=none)(hl:60≤d.l.length)(hl2:d.l.length≤1000):
  Calls Tryz.prog 68 #[.pointer (some ⟨tr,0,none⟩),.agg #[.int .i64 a,.int .i64 (T.g a:Nat)],.string s] w fun r w'=>r = .returned E∧Only [] w w':=by
 have hal:=h.dlt a d hd;have ct:=h.c1;have htl:tr < w.heap.size:=lt_of_cell ct;have hT1:TreeAt ((w.alloc (.cells #[.int .i64 a,.int .i64 (T.g a:Nat)] 34)).drew) tr T:=h.only ((Only.refl [] w).alloc _).drew;have hT2:TreeAt (((w.alloc (.cells #[.int .i64 a,.int .i64 (T.g a:Nat)] 34)).alloc (.cells #[.int .i64 0,.int .i64 0] 34)).drew) tr T:=h.only (((Only.refl [] w).alloc _).alloc _).drew;have l1:=look_dir hT1 hal hd;have l2:=look_dir hT2 hal hd;obtain ⟨v1,n1,hv1⟩:=look_name (hT1.dir a d hd) s hs;obtain ⟨v2,n2,hv2⟩:=look_name (hT2.dir a d hd) s hs;rw [hf] at n1 n2 hv1 hv2;subst hv1 hv2;unfold handV at n1 n2;simp only [Option.isSome_none] at n1 n2;have l3:=look_dir (hT2.only (Only.refl [] _).drew) hal hd;have l4:=len_dir ((hT2.only (Only.refl [] _).drew).dir a d hd) 3;have hEl:4 < w.heap.size:=lt_of_cell hE;clear hT1 hT2 h hf
 go_enter Tryz.func68,Tryz.ntmps68
 go_wp2
 go_region
 all_goals go_wp2
 all_goals go_region
 all_goals go_wp2
 all_goals go_ret
 all_goals exact ⟨rfl,by first | exact (((Only.refl [] w).alloc _).alloc _).drew | exact ((((Only.refl [] w).alloc _).alloc _).drew).drew⟩
end
end
end Go.Proofs.YtofbkeecbdahnaaGreatDoor
