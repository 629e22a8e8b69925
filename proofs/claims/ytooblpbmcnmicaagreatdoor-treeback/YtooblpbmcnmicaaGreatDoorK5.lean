import Derived.Test.YtooblpbmcnmicaaGreatDoorK4
set_option maxHeartbeats 8000000
namespace Go.Proofs.YtooblpbmcnmicaaGreatDoor
section
open Go Go.RowKit Go.Deep Go.Maps
def Tr.named (T:Tr)(a b:Nat)(l:List Ent):Tr:={ T with ds:=setN T.ds a (some ⟨b,l⟩) }
theorem TreeAt.named {w w2:World}{tr a:Nat}{T:Tr}{d:DirM}{l:List Ent}(h:TreeAt w tr T)(hd:T.ds a=some d)(hown:w2.ownsMap Tryz.prog 9 handElem d.b l.length (entD l))(ho:Only [d.b] w w2):TreeAt w2 tr (T.named a d.b l):=by
 obtain ⟨D,n0,d1,d2,d3⟩:=h.dirs;obtain ⟨P,m,p1,p2,p3⟩:=h.pins;obtain ⟨f1,f2,f3⟩:=h.fdir a d hd;have htr:tr < w.heap.size:=zv h.c0
 have hne:tr∉[d.b]:=by simpa using (own_ne_cell (h.dir a d hd) h.c0).symm
 have hds:∀ i e,setN T.ds a (some ⟨d.b,l⟩) i=some e→(i=a∧e=⟨d.b,l⟩)∨(i≠a∧T.ds i=some e):=fun i e he=>by
   by_cases hi:i=a
   · subst hi
     rw [setN_same] at he
     cases he
     exact Or.inl ⟨rfl,rfl⟩
   · rw [setN_other _ _ hi] at he
     exact Or.inr ⟨hi,he⟩
 have hdlt:∀ i e,(T.named a d.b l).ds i=some e→i < (T.named a d.b l).p.N:=fun i e he=>by
   rcases hds i e he with ⟨rfl,_⟩ | ⟨_,e'⟩
   · exact h.dlt i d hd
   · exact h.dlt i e e'
 have hF:∀ k,(T.named a d.b l).dirsF k=T.dirsF k:=fun k=>by
   obtain ⟨j,c⟩:=k;show (if c=T.g j then (setN T.ds a (some ⟨d.b,l⟩) j).map (·.b) else none)=(if c=T.g j then (T.ds j).map (·.b) else none)
   by_cases hj:j=a
   · subst hj
     rw [setN_same,hd];rfl
   · rw [setN_other _ _ hj]
 refine ⟨(ho.cell (p:=⟨tr,0,none⟩) htr hne).trans h.c0,(ho.cell (p:=⟨tr,1,none⟩) htr hne).trans h.c1,(ho.cell (p:=⟨tr,2,none⟩) htr hne).trans h.c2,h.tab.kept ho (fun k hk hm=>by simp at hm;subst hm;exact f1 hk),
   ⟨D,n0,own_only d1 ho (show T.db∉[d.b] from by simpa using Ne.symm f2),d2,d3.congr hF⟩,fun i e he=>?_,⟨P,m,own_only p1 ho (show T.pb∉[d.b] from by simpa using (Ne.symm f3)),p2,p3⟩,fun i j e e' he he' hb=>?_,⟨h.small.N,h.small.g⟩,h.ftr,h.fdb,h.fpb,fun i e he=>?_,h.dp,hdlt,h.plt⟩
 · rcases hds i e he with ⟨rfl,rfl⟩ | ⟨hi,e'⟩
   · exact hown
   · exact own_only (h.dir i e e') ho (fun hm=>hi (h.one i a e d e' hd (by simpa using hm)))
 · rcases hds i e he with ⟨rfl,rfl⟩ | ⟨hi,e1⟩
   · rcases hds j e' he' with ⟨rfl,_⟩ | ⟨hj,e2⟩
     · rfl
     · exact h.one i j d e' hd e2 hb
   · rcases hds j e' he' with ⟨rfl,rfl⟩ | ⟨hj,e2⟩
     · exact h.one i j e d e1 hd hb
     · exact h.one i j e e' e1 e2 hb
 · rcases hds i e he with ⟨rfl,rfl⟩ | ⟨hi,e'⟩
   · exact ⟨f1,f2,f3⟩
   · exact h.fdir i e e'
theorem name_put {w:World}{d:DirM}(h:DirAt w d)(hl:d.l.length≤1000)(s:ByteArray)(hs:s.size≤1000)(i c:Nat):∃ w',(Instr.mapUpdate 112 (.map (some d.b)) (.string s) (zG i c)).run Tryz.prog w = .ok () w'∧w'.ownsMap Tryz.prog 9 handElem d.b (insE ⟨s.data.toList,i,c⟩ (dropE d.l s.data.toList)).length (entD (insE ⟨s.data.toList,i,c⟩ (dropE d.l s.data.toList)))∧Only [d.b] w w':=by
 obtain ⟨w',hr,ho,ht⟩:=World.ownsMap.store h lawS undNames (by unfold maxLen;omega) (WideMaps.keyOf_string_mk Tryz.underlying9 (s:=s) (by unfold maxLen;omega)) (handElem_mk i c);refine ⟨w',hr,?_,only_turned ht⟩;have e:=put_entD d.l ⟨s.data.toList,i,c⟩;simp only at e;rw [e] at ho;have:=own_sized ho;rw [size_entD] at this;exact this
theorem put_file (w:World)(tr:Nat)(T:Tr)(a i:Nat)(na ni:Nod)(d:DirM)(s:ByteArray)(h:TreeAt w tr T)(hd:T.ds a=some d)(ha:T.nd a=some na)(hKa:na.K=2)(hi:T.nd i=some ni)(hKi:ni.K=1)(hl:d.l.length≤900)(hs:s.size≤1000)(hL:0≤ni.L∧ni.L≤1000)(hlive:∀ e∈d.l,e.i < T.p.N∧e.c=T.g e.i):
  zK 64 #[zP tr,zG a (T.g a:Nat),.string s,zG i (T.g i:Nat)] w fun e w'=>e = .returned (.tuple #[])∧TreeAt w' tr { T.named a d.b (insE ⟨s.data.toList,i,T.g i⟩ (dropE d.l s.data.toList)) with nd:=setN (setN T.nd i (some { ni with L:=ni.L+1 })) a (some { na with Z:=((insE ⟨s.data.toList,i,T.g i⟩ (dropE d.l s.data.toList)).length:Nat),L:=2+(dirsIn (insE ⟨s.data.toList,i,T.g i⟩ (dropE d.l s.data.toList)) (T.named a d.b (insE ⟨s.data.toList,i,T.g i⟩ (dropE d.l s.data.toList))).ds:Int) }) }∧Only [d.b,ni.b,na.b] w w':=by
 have hal:=h.tab.lt ha;have ct0:=h.c0;have ct1:=h.c1;have htl:tr < w.heap.size:=zv ct0;have hO2:zQ w ((w.alloc (zH a (T.g a:Nat))).alloc (zH i (T.g i:Nat))).drew:=(((Only.refl [] w).alloc _).alloc _).drew;have hT2:=h.only hO2;have hlook:=look_dir hT2 hal hd;obtain ⟨w3,hst,hown3,hod⟩:=name_put (hT2.dir a d hd) (by omega) s hs i (T.g i);generalize hlE:insE ⟨s.data.toList,i,T.g i⟩ (dropE d.l s.data.toList)=l' at hown3 ⊢;have hO3:Only [d.b] w w3:=(hO2.mono (L':=[d.b]) (fun _ hk=>by cases hk)).trans hod (fun _ hk=>Or.inl hk);have hT3:=h.named hd hown3 hO3;have hdb:d.b < w.heap.size:=World.ownsMap.lt (h.dir a d hd);have htold:zO 93 #[zP tr,zG i (T.g i:Nat)] w3 (attrV ni.K (ni.S.size:Nat) ni.L ni.C ni.UN ni.UG):=told_ok w3 tr (T.named a d.b l') i ni (ni.S.size:Nat) hT3 hi (Or.inl ⟨hKi,rfl⟩);unfold attrV at htold;rw [hKi] at htold;have hil:=h.tab.lt hi
 have hai:a≠i:=fun e=>by
  rw [e,hi] at ha
  cases ha
  omega
 have hhA:=zh w (zH a (T.g a:Nat));have hhI:=zh (w.alloc (zH a (T.g a:Nat))) (zH i (T.g i:Nat));rw [World.size_alloc] at hhI;have hOA:zQ (w.alloc (zH a (T.g a:Nat))) ((w.alloc (zH a (T.g a:Nat))).alloc (zH i (T.g i:Nat))).drew:=((Only.refl [] _).alloc _).drew;have hOI:zQ ((w.alloc (zH a (T.g a:Nat))).alloc (zH i (T.g i:Nat))) ((w.alloc (zH a (T.g a:Nat))).alloc (zH i (T.g i:Nat))).drew:=(Only.refl [] _).drew
 have hnA:w.heap.size∉[d.b]:=fun hm=>by have e:w.heap.size=d.b:=(by simpa using hm);omega
 have hnI:w.heap.size+1∉[d.b]:=fun hm=>by have e:w.heap.size+1=d.b:=(by simpa using hm);omega
 have x0:w3.cell? (zA w.heap.size 0)=some (zI a):=(hod.cell (p:=⟨w.heap.size,0,none⟩) (by simp;omega) hnA).trans ((hOA.cell (p:=⟨w.heap.size,0,none⟩) (by simp) (by simp)).trans (cell_of_row _ _ 0 _ _ _ hhA));have x1:w3.cell? (zA w.heap.size 1)=some (zI (T.g a:Nat)):=(hod.cell (p:=⟨w.heap.size,1,none⟩) (by simp;omega) hnA).trans ((hOA.cell (p:=⟨w.heap.size,1,none⟩) (by simp) (by simp)).trans (cell_of_row _ _ 1 _ _ _ hhA));have y0:w3.cell? (zA (w.heap.size+1) 0)=some (zI i):=(hod.cell (p:=⟨w.heap.size+1,0,none⟩) (by simp) hnI).trans ((hOI.cell (p:=⟨w.heap.size+1,0,none⟩) (by simp) (by simp)).trans (cell_of_row _ _ 0 _ _ _ hhI));have y1:w3.cell? (zA (w.heap.size+1) 1)=some (zI (T.g i:Nat)):=(hod.cell (p:=⟨w.heap.size+1,1,none⟩) (by simp) hnI).trans ((hOI.cell (p:=⟨w.heap.size+1,1,none⟩) (by simp) (by simp)).trans (cell_of_row _ _ 1 _ _ _ hhI));have H3:Hid (TreeAt w3 tr (T.named a d.b l')):=hT3;have HO3:Hid (Only [d.b] w w3):=hO3;have HX:Hid (w3.cell? (zA w.heap.size 0)=some (zI a)∧w3.cell? (zA w.heap.size 1)=some (zI (T.g a:Nat))∧w3.cell? (zA (w.heap.size+1) 0)=some (zI i)∧w3.cell? (zA (w.heap.size+1) 1)=some (zI (T.g i:Nat))):=⟨x0,x1,y0,y1⟩;clear hT3 hO3 hod hT2 hO2 hOA hOI hnA hnI hhA hhI hown3
 go_enter Tryz.func64,Tryz.ntmps64
 go_wp2
 go_region
 go_wp2_with (go_at_call 93;go_must (refine htold.mono ?_);rintro e w4 ⟨rfl,ho4⟩)
 have hO5:zQ w3 ((w4.alloc (.cells #[zI 1,zI ni.S.size,zI (ni.L+1),zI ni.C,zI ni.UN,zI ni.UG] 67)).drew):=(ho4.alloc _).drew;have hT5:=H3.out.only hO5;have hvl:=zh w4 (.cells #[zI 1,zI ni.S.size,zI (ni.L+1),zI ni.C,zI ni.UN,zI ni.UG] 67);have h3lt:∀ {k v},w3.cell? k=some v→((w4.alloc (.cells #[zI 1,zI ni.S.size,zI (ni.L+1),zI ni.C,zI ni.UN,zI ni.UG] 67)).drew).cell? k=some v:=fun hc=>(hO5.cell (zv hc) (by simp)).trans hc;have K0:Hid (((w4.alloc (.cells #[zI 1,zI ni.S.size,zI (ni.L+1),zI ni.C,zI ni.UN,zI ni.UG] 67)).drew).cell? (zA tr 0)=some (zP T.t)∧((w4.alloc (.cells #[zI 1,zI ni.S.size,zI (ni.L+1),zI ni.C,zI ni.UN,zI ni.UG] 67)).drew).cell? (zA w.heap.size 0)=some (zI a)∧((w4.alloc (.cells #[zI 1,zI ni.S.size,zI (ni.L+1),zI ni.C,zI ni.UN,zI ni.UG] 67)).drew).cell? (zA w.heap.size 1)=some (zI (T.g a:Nat))∧((w4.alloc (.cells #[zI 1,zI ni.S.size,zI (ni.L+1),zI ni.C,zI ni.UN,zI ni.UG] 67)).drew).cell? (zA (w.heap.size+1) 0)=some (zI i)∧((w4.alloc (.cells #[zI 1,zI ni.S.size,zI (ni.L+1),zI ni.C,zI ni.UN,zI ni.UG] 67)).drew).cell? (zA (w.heap.size+1) 1)=some (zI (T.g i:Nat))∧((w4.alloc (.cells #[zI 1,zI ni.S.size,zI (ni.L+1),zI ni.C,zI ni.UN,zI ni.UG] 67)).drew).cell? (zA w4.heap.size 1)=some (zI ni.S.size)∧((w4.alloc (.cells #[zI 1,zI ni.S.size,zI (ni.L+1),zI ni.C,zI ni.UN,zI ni.UG] 67)).drew).cell? (zA w4.heap.size 2)=some (zI (ni.L+1))):=⟨h3lt H3.out.c0,h3lt HX.out.1,h3lt HX.out.2.1,h3lt HX.out.2.2.1,h3lt HX.out.2.2.2,cell_of_row _ _ 1 _ _ _ hvl,cell_of_row _ _ 2 _ _ _ hvl⟩;have hadj:=tadj_file ((w4.alloc (.cells #[zI 1,zI ni.S.size,zI (ni.L+1),zI ni.C,zI ni.UN,zI ni.UG] 67)).drew) T.t T.p T.most i T.g T.nd ni (ni.S.size:Nat) (ni.L+1) a (T.g a:Nat) hT5.tab hi (And.intro (by omega) (by omega)) hKi
 have hnt:∀ k,k∈[ni.b]→InFoot T.t T.p T.most T.nd k:=fun k hk=>by simp at hk;subst hk;exact .node hi ni.b_foot
 have hnb:ni.b < w.heap.size:=zv (h.tab.node i ni hi).c0;have hw4:w.heap.size≤w4.heap.size:=Nat.le_trans HO3.out.size ho4.size
 have HK6:Hid (∀ w6:World,Only [ni.b] ((w4.alloc (.cells #[zI 1,zI ni.S.size,zI (ni.L+1),zI ni.C,zI ni.UN,zI ni.UG] 67)).drew) w6→w6.cell? (zA tr 0)=some (zP T.t)∧w6.cell? (zA w.heap.size 0)=some (zI a)∧w6.cell? (zA w.heap.size 1)=some (zI (T.g a:Nat))∧w6.cell? (zA (w.heap.size+1) 0)=some (zI i)∧w6.cell? (zA (w.heap.size+1) 1)=some (zI (T.g i:Nat))∧w6.cell? (zA w4.heap.size 1)=some (zI ni.S.size)∧w6.cell? (zA w4.heap.size 2)=some (zI (ni.L+1))):=fun w6 o6=>by
  have kk:=K0.out
  have no:∀ k,w.heap.size≤k→k∉[ni.b]:=fun k hk hm=>by have e:k=ni.b:=(by simpa using hm);omega
  have hr:tr∉[ni.b]:=fun hm=>h.ftr (hnt tr hm)
  exact ⟨(o6.cell (p:=⟨tr,0,none⟩) (zv kk.1) hr).trans kk.1,(o6.cell (p:=⟨w.heap.size,0,none⟩) (zv kk.2.1) (no _ (Nat.le_refl _))).trans kk.2.1,(o6.cell (p:=⟨w.heap.size,1,none⟩) (zv kk.2.2.1) (no _ (Nat.le_refl _))).trans kk.2.2.1,
    (o6.cell (p:=⟨w.heap.size+1,0,none⟩) (zv kk.2.2.2.1) (no _ (Nat.le_succ _))).trans kk.2.2.2.1,(o6.cell (p:=⟨w.heap.size+1,1,none⟩) (zv kk.2.2.2.2.1) (no _ (Nat.le_succ _))).trans kk.2.2.2.2.1,(o6.cell (p:=⟨w4.heap.size,1,none⟩) (zv kk.2.2.2.2.2.1) (no _ hw4)).trans kk.2.2.2.2.2.1,(o6.cell (p:=⟨w4.heap.size,2,none⟩) (zv kk.2.2.2.2.2.2) (no _ hw4)).trans kk.2.2.2.2.2.2⟩
 have HN6:Hid (∀ w6,TabAt w6 T.t T.p T.most T.g (setN T.nd i (some { ni with L:=ni.L+1 }))→Only [ni.b] ((w4.alloc (.cells #[zI 1,zI ni.S.size,zI (ni.L+1),zI ni.C,zI ni.UN,zI ni.UG] 67)).drew) w6→TreeAt w6 tr { T.named a d.b l' with nd:=setN T.nd i (some { ni with L:=ni.L+1 }) }):=fun w6 t6 o6=>TreeAt.node (T:=T.named a d.b l') (n:=ni) (n':={ ni with L:=ni.L+1 }) hT5 hi rfl rfl t6 o6;have HO5:Hid (Only [d.b] w ((w4.alloc (.cells #[zI 1,zI ni.S.size,zI (ni.L+1),zI ni.C,zI ni.UN,zI ni.UG] 67)).drew)):=HO3.out.trans hO5 (fun _ hk=>by cases hk)
 have hl2:l'.length≤1000:=by
  rw [← hlE,length_insE];have:=List.length_filter_le (fun e:Ent=>!(e.s==s.data.toList)) d.l;unfold dropE;omega
 have HRC:Hid (∀ w6,TreeAt w6 tr { T.named a d.b l' with nd:=setN T.nd i (some { ni with L:=ni.L+1 }) }→zK 97 #[zP tr,zG a (T.g a:Nat)] w6 fun e w'=>e = .returned (.tuple #[])∧TreeAt w' tr { T.named a d.b l' with nd:=setN (setN T.nd i (some { ni with L:=ni.L+1 })) a (some { na with Z:=(l'.length:Nat),L:=2+(dirsIn l' (T.named a d.b l').ds:Int) }) }∧Only [na.b] w6 w'):=fun w6 t6=>recount_ok w6 tr { T.named a d.b l' with nd:=setN T.nd i (some { ni with L:=ni.L+1 }) } a na ⟨d.b,l'⟩ t6 (setN_same _ _ _) ((setN_other _ _ hai).trans ha) hKa hl2 (fun e he=>by
  have he':e∈l':=he;rw [← hlE] at he';rcases mem_insE.1 he' with rfl | he2
  · exact ⟨hil,rfl⟩
  · exact hlive e (List.mem_filter.1 he2).1)
 clear hO5 hT5 hvl h3lt hnt h hlive
 go_region_held3 (fun W=>W.cell? (zA tr 0)=some (zP T.t)∧W.cell? (zA w.heap.size 0)=some (zI a)∧W.cell? (zA w.heap.size 1)=some (zI (T.g a:Nat))∧W.cell? (zA (w.heap.size+1) 0)=some (zI i)∧W.cell? (zA (w.heap.size+1) 1)=some (zI (T.g i:Nat))∧W.cell? (zA w4.heap.size 1)=some (zI ni.S.size)∧W.cell? (zA w4.heap.size 2)=some (zI (ni.L+1)))
  (with_reducible first
    | exact K0.out
    | exact K6.out)
  (first
    | (go_at_call 96;refine hadj.mono ?_;rintro e w6 ⟨rfl,hT6,ho6⟩;have HT6:Hid (TreeAt w6 tr { T.named a d.b l' with nd:=setN T.nd i (some { ni with L:=ni.L+1 }) }):=HN6.out w6 hT6 ho6;have K6:Hid (w6.cell? (zA tr 0)=some (zP T.t)∧w6.cell? (zA w.heap.size 0)=some (zI a)∧w6.cell? (zA w.heap.size 1)=some (zI (T.g a:Nat))∧w6.cell? (zA (w.heap.size+1) 0)=some (zI i)∧w6.cell? (zA (w.heap.size+1) 1)=some (zI (T.g i:Nat))∧w6.cell? (zA w4.heap.size 1)=some (zI ni.S.size)∧w6.cell? (zA w4.heap.size 2)=some (zI (ni.L+1))):=HK6.out w6 ho6;have HO6:Hid (Only [ni.b] ((w4.alloc (.cells #[zI 1,zI ni.S.size,zI (ni.L+1),zI ni.C,zI ni.UN,zI ni.UG] 67)).drew) w6):=ho6;clear hT6 ho6 hadj))
 all_goals have hrec:=HRC.out w6 HT6.out
 all_goals have z0:=K6.out.2.1
 all_goals have z1:=K6.out.2.2.1
 all_goals go_wp2_with (go_at_call 97;go_must (refine hrec.mono ?_);rintro e w7 ⟨rfl,hT7,ho7⟩)
 all_goals go_end0
 all_goals
  refine ⟨rfl,hT7,?_⟩;have o1:Only [d.b,ni.b,na.b] w w6:=(HO5.out.mono (L':=[d.b,ni.b,na.b]) (fun k hk=>Or.inl (by simp at hk;simp [hk]))).trans HO6.out (fun k hk=>Or.inl (by simp at hk;simp [hk]));exact o1.trans ho7 (fun k hk=>Or.inl (by simp at hk;simp [hk]))
theorem put_dir (w:World)(tr:Nat)(T:Tr)(a i:Nat)(na ni:Nod)(d:DirM)(s:ByteArray)(h:TreeAt w tr T)(hd:T.ds a=some d)(ha:T.nd a=some na)(hKa:na.K=2)(hi:T.nd i=some ni)(hKi:ni.K=2)(hai:a≠i)(hZ:0≤ni.Z)(hl:d.l.length≤900)(hs:s.size≤1000)(hL:0≤ni.L∧ni.L≤1000)(hlive:∀ e∈d.l,e.i < T.p.N∧e.c=T.g e.i):
  zK 64 #[zP tr,zG a (T.g a:Nat),.string s,zG i (T.g i:Nat)] w fun e w'=>e = .returned (.tuple #[])∧TreeAt w' tr { T.named a d.b (insE ⟨s.data.toList,i,T.g i⟩ (dropE d.l s.data.toList)) with nd:=setN (setN T.nd i (some { ni with Z:=ni.Z,UN:=(a:Int),UG:=(T.g a:Int),L:=ni.L })) a (some { na with Z:=((insE ⟨s.data.toList,i,T.g i⟩ (dropE d.l s.data.toList)).length:Nat),L:=2+(dirsIn (insE ⟨s.data.toList,i,T.g i⟩ (dropE d.l s.data.toList)) (T.named a d.b (insE ⟨s.data.toList,i,T.g i⟩ (dropE d.l s.data.toList))).ds:Int) }) }∧Only [d.b,ni.b,na.b] w w':=by
 have hal:=h.tab.lt ha;have ct0:=h.c0;have ct1:=h.c1;have htl:tr < w.heap.size:=zv ct0;have hO2:zQ w ((w.alloc (zH a (T.g a:Nat))).alloc (zH i (T.g i:Nat))).drew:=(((Only.refl [] w).alloc _).alloc _).drew;have hT2:=h.only hO2;have hlook:=look_dir hT2 hal hd;obtain ⟨w3,hst,hown3,hod⟩:=name_put (hT2.dir a d hd) (by omega) s hs i (T.g i);generalize hlE:insE ⟨s.data.toList,i,T.g i⟩ (dropE d.l s.data.toList)=l' at hown3 ⊢;have hO3:Only [d.b] w w3:=(hO2.mono (L':=[d.b]) (fun _ hk=>by cases hk)).trans hod (fun _ hk=>Or.inl hk);have hT3:=h.named hd hown3 hO3;have hdb:d.b < w.heap.size:=World.ownsMap.lt (h.dir a d hd);have htold:zO 93 #[zP tr,zG i (T.g i:Nat)] w3 (attrV ni.K ni.Z ni.L ni.C ni.UN ni.UG):=told_ok w3 tr (T.named a d.b l') i ni ni.Z hT3 hi (Or.inr ⟨hKi,rfl⟩);unfold attrV at htold;rw [hKi] at htold;have hil:=h.tab.lt hi;have hhA:=zh w (zH a (T.g a:Nat));have hhI:=zh (w.alloc (zH a (T.g a:Nat))) (zH i (T.g i:Nat));rw [World.size_alloc] at hhI;have hOA:zQ (w.alloc (zH a (T.g a:Nat))) ((w.alloc (zH a (T.g a:Nat))).alloc (zH i (T.g i:Nat))).drew:=((Only.refl [] _).alloc _).drew;have hOI:zQ ((w.alloc (zH a (T.g a:Nat))).alloc (zH i (T.g i:Nat))) ((w.alloc (zH a (T.g a:Nat))).alloc (zH i (T.g i:Nat))).drew:=(Only.refl [] _).drew
 have hnA:w.heap.size∉[d.b]:=fun hm=>by have e:w.heap.size=d.b:=(by simpa using hm);omega
 have hnI:w.heap.size+1∉[d.b]:=fun hm=>by have e:w.heap.size+1=d.b:=(by simpa using hm);omega
 have x0:w3.cell? (zA w.heap.size 0)=some (zI a):=(hod.cell (p:=⟨w.heap.size,0,none⟩) (by simp;omega) hnA).trans ((hOA.cell (p:=⟨w.heap.size,0,none⟩) (by simp) (by simp)).trans (cell_of_row _ _ 0 _ _ _ hhA));have x1:w3.cell? (zA w.heap.size 1)=some (zI (T.g a:Nat)):=(hod.cell (p:=⟨w.heap.size,1,none⟩) (by simp;omega) hnA).trans ((hOA.cell (p:=⟨w.heap.size,1,none⟩) (by simp) (by simp)).trans (cell_of_row _ _ 1 _ _ _ hhA));have y0:w3.cell? (zA (w.heap.size+1) 0)=some (zI i):=(hod.cell (p:=⟨w.heap.size+1,0,none⟩) (by simp) hnI).trans ((hOI.cell (p:=⟨w.heap.size+1,0,none⟩) (by simp) (by simp)).trans (cell_of_row _ _ 0 _ _ _ hhI));have y1:w3.cell? (zA (w.heap.size+1) 1)=some (zI (T.g i:Nat)):=(hod.cell (p:=⟨w.heap.size+1,1,none⟩) (by simp) hnI).trans ((hOI.cell (p:=⟨w.heap.size+1,1,none⟩) (by simp) (by simp)).trans (cell_of_row _ _ 1 _ _ _ hhI));have H3:Hid (TreeAt w3 tr (T.named a d.b l')):=hT3;have HO3:Hid (Only [d.b] w w3):=hO3;have HX:Hid (w3.cell? (zA w.heap.size 0)=some (zI a)∧w3.cell? (zA w.heap.size 1)=some (zI (T.g a:Nat))∧w3.cell? (zA (w.heap.size+1) 0)=some (zI i)∧w3.cell? (zA (w.heap.size+1) 1)=some (zI (T.g i:Nat))):=⟨x0,x1,y0,y1⟩;clear hT3 hO3 hod hT2 hO2 hOA hOI hnA hnI hhA hhI hown3
 go_enter Tryz.func64,Tryz.ntmps64
 go_wp2
 go_region
 go_wp2_with (go_at_call 93;go_must (refine htold.mono ?_);rintro e w4 ⟨rfl,ho4⟩)
 have hO5:zQ w3 ((w4.alloc (.cells #[zI 2,zI ni.Z,zI ni.L,zI ni.C,zI ni.UN,zI ni.UG] 67)).drew):=(ho4.alloc _).drew;have hT5:=H3.out.only hO5;have hvl:=zh w4 (.cells #[zI 2,zI ni.Z,zI ni.L,zI ni.C,zI ni.UN,zI ni.UG] 67);have h3lt:∀ {k v},w3.cell? k=some v→((w4.alloc (.cells #[zI 2,zI ni.Z,zI ni.L,zI ni.C,zI ni.UN,zI ni.UG] 67)).drew).cell? k=some v:=fun hc=>(hO5.cell (zv hc) (by simp)).trans hc;have K0:Hid (((w4.alloc (.cells #[zI 2,zI ni.Z,zI ni.L,zI ni.C,zI ni.UN,zI ni.UG] 67)).drew).cell? (zA tr 0)=some (zP T.t)∧((w4.alloc (.cells #[zI 2,zI ni.Z,zI ni.L,zI ni.C,zI ni.UN,zI ni.UG] 67)).drew).cell? (zA w.heap.size 0)=some (zI a)∧((w4.alloc (.cells #[zI 2,zI ni.Z,zI ni.L,zI ni.C,zI ni.UN,zI ni.UG] 67)).drew).cell? (zA w.heap.size 1)=some (zI (T.g a:Nat))∧((w4.alloc (.cells #[zI 2,zI ni.Z,zI ni.L,zI ni.C,zI ni.UN,zI ni.UG] 67)).drew).cell? (zA (w.heap.size+1) 0)=some (zI i)∧((w4.alloc (.cells #[zI 2,zI ni.Z,zI ni.L,zI ni.C,zI ni.UN,zI ni.UG] 67)).drew).cell? (zA (w.heap.size+1) 1)=some (zI (T.g i:Nat))∧((w4.alloc (.cells #[zI 2,zI ni.Z,zI ni.L,zI ni.C,zI ni.UN,zI ni.UG] 67)).drew).cell? (zA w4.heap.size 1)=some (zI ni.Z)∧((w4.alloc (.cells #[zI 2,zI ni.Z,zI ni.L,zI ni.C,zI ni.UN,zI ni.UG] 67)).drew).cell? (zA w4.heap.size 2)=some (zI ni.L)):=⟨h3lt H3.out.c0,h3lt HX.out.1,h3lt HX.out.2.1,h3lt HX.out.2.2.1,h3lt HX.out.2.2.2,cell_of_row _ _ 1 _ _ _ hvl,cell_of_row _ _ 2 _ _ _ hvl⟩;have hadj:=tadj_dir ((w4.alloc (.cells #[zI 2,zI ni.Z,zI ni.L,zI ni.C,zI ni.UN,zI ni.UG] 67)).drew) T.t T.p T.most i T.g T.nd ni ni.Z ni.L a (T.g a:Nat) hT5.tab hi (And.intro (by omega) (by omega)) hKi
 have hnt:∀ k,k∈[ni.b]→InFoot T.t T.p T.most T.nd k:=fun k hk=>by simp at hk;subst hk;exact .node hi ni.b_foot
 have hnb:ni.b < w.heap.size:=zv (h.tab.node i ni hi).c0;have hw4:w.heap.size≤w4.heap.size:=Nat.le_trans HO3.out.size ho4.size
 have HK6:Hid (∀ w6:World,Only [ni.b] ((w4.alloc (.cells #[zI 2,zI ni.Z,zI ni.L,zI ni.C,zI ni.UN,zI ni.UG] 67)).drew) w6→w6.cell? (zA tr 0)=some (zP T.t)∧w6.cell? (zA w.heap.size 0)=some (zI a)∧w6.cell? (zA w.heap.size 1)=some (zI (T.g a:Nat))∧w6.cell? (zA (w.heap.size+1) 0)=some (zI i)∧w6.cell? (zA (w.heap.size+1) 1)=some (zI (T.g i:Nat))∧w6.cell? (zA w4.heap.size 1)=some (zI ni.Z)∧w6.cell? (zA w4.heap.size 2)=some (zI ni.L)):=fun w6 o6=>by
  have kk:=K0.out
  have no:∀ k,w.heap.size≤k→k∉[ni.b]:=fun k hk hm=>by have e:k=ni.b:=(by simpa using hm);omega
  have hr:tr∉[ni.b]:=fun hm=>h.ftr (hnt tr hm)
  exact ⟨(o6.cell (p:=⟨tr,0,none⟩) (zv kk.1) hr).trans kk.1,(o6.cell (p:=⟨w.heap.size,0,none⟩) (zv kk.2.1) (no _ (Nat.le_refl _))).trans kk.2.1,(o6.cell (p:=⟨w.heap.size,1,none⟩) (zv kk.2.2.1) (no _ (Nat.le_refl _))).trans kk.2.2.1,
    (o6.cell (p:=⟨w.heap.size+1,0,none⟩) (zv kk.2.2.2.1) (no _ (Nat.le_succ _))).trans kk.2.2.2.1,(o6.cell (p:=⟨w.heap.size+1,1,none⟩) (zv kk.2.2.2.2.1) (no _ (Nat.le_succ _))).trans kk.2.2.2.2.1,(o6.cell (p:=⟨w4.heap.size,1,none⟩) (zv kk.2.2.2.2.2.1) (no _ hw4)).trans kk.2.2.2.2.2.1,(o6.cell (p:=⟨w4.heap.size,2,none⟩) (zv kk.2.2.2.2.2.2) (no _ hw4)).trans kk.2.2.2.2.2.2⟩
 have HN6:Hid (∀ w6,TabAt w6 T.t T.p T.most T.g (setN T.nd i (some { ni with Z:=ni.Z,UN:=(a:Int),UG:=(T.g a:Int),L:=ni.L }))→Only [ni.b] ((w4.alloc (.cells #[zI 2,zI ni.Z,zI ni.L,zI ni.C,zI ni.UN,zI ni.UG] 67)).drew) w6→TreeAt w6 tr { T.named a d.b l' with nd:=setN T.nd i (some { ni with Z:=ni.Z,UN:=(a:Int),UG:=(T.g a:Int),L:=ni.L }) }):=fun w6 t6 o6=>TreeAt.node (T:=T.named a d.b l') (n:=ni) (n':={ ni with Z:=ni.Z,UN:=(a:Int),UG:=(T.g a:Int),L:=ni.L }) hT5 hi rfl rfl t6 o6;have HO5:Hid (Only [d.b] w ((w4.alloc (.cells #[zI 2,zI ni.Z,zI ni.L,zI ni.C,zI ni.UN,zI ni.UG] 67)).drew)):=HO3.out.trans hO5 (fun _ hk=>by cases hk)
 have hl2:l'.length≤1000:=by
  rw [← hlE,length_insE];have:=List.length_filter_le (fun e:Ent=>!(e.s==s.data.toList)) d.l;unfold dropE;omega
 have HRC:Hid (∀ w6,TreeAt w6 tr { T.named a d.b l' with nd:=setN T.nd i (some { ni with Z:=ni.Z,UN:=(a:Int),UG:=(T.g a:Int),L:=ni.L }) }→zK 97 #[zP tr,zG a (T.g a:Nat)] w6 fun e w'=>e = .returned (.tuple #[])∧TreeAt w' tr { T.named a d.b l' with nd:=setN (setN T.nd i (some { ni with Z:=ni.Z,UN:=(a:Int),UG:=(T.g a:Int),L:=ni.L })) a (some { na with Z:=(l'.length:Nat),L:=2+(dirsIn l' (T.named a d.b l').ds:Int) }) }∧Only [na.b] w6 w'):=fun w6 t6=>recount_ok w6 tr { T.named a d.b l' with nd:=setN T.nd i (some { ni with Z:=ni.Z,UN:=(a:Int),UG:=(T.g a:Int),L:=ni.L }) } a na ⟨d.b,l'⟩ t6 (setN_same _ _ _) ((setN_other _ _ hai).trans ha) hKa hl2 (fun e he=>by
  have he':e∈l':=he;rw [← hlE] at he';rcases mem_insE.1 he' with rfl | he2
  · exact ⟨hil,rfl⟩
  · exact hlive e (List.mem_filter.1 he2).1)
 clear hO5 hT5 hvl h3lt hnt h hlive
 go_region_held3 (fun W=>W.cell? (zA tr 0)=some (zP T.t)∧W.cell? (zA w.heap.size 0)=some (zI a)∧W.cell? (zA w.heap.size 1)=some (zI (T.g a:Nat))∧W.cell? (zA (w.heap.size+1) 0)=some (zI i)∧W.cell? (zA (w.heap.size+1) 1)=some (zI (T.g i:Nat))∧W.cell? (zA w4.heap.size 1)=some (zI ni.Z)∧W.cell? (zA w4.heap.size 2)=some (zI ni.L))
  (with_reducible first
    | exact K0.out
    | exact K6.out)
  (first
    | (go_at_call 96;refine hadj.mono ?_;rintro e w6 ⟨rfl,hT6,ho6⟩;have HT6:Hid (TreeAt w6 tr { T.named a d.b l' with nd:=setN T.nd i (some { ni with Z:=ni.Z,UN:=(a:Int),UG:=(T.g a:Int),L:=ni.L }) }):=HN6.out w6 hT6 ho6;have K6:Hid (w6.cell? (zA tr 0)=some (zP T.t)∧w6.cell? (zA w.heap.size 0)=some (zI a)∧w6.cell? (zA w.heap.size 1)=some (zI (T.g a:Nat))∧w6.cell? (zA (w.heap.size+1) 0)=some (zI i)∧w6.cell? (zA (w.heap.size+1) 1)=some (zI (T.g i:Nat))∧w6.cell? (zA w4.heap.size 1)=some (zI ni.Z)∧w6.cell? (zA w4.heap.size 2)=some (zI ni.L)):=HK6.out w6 ho6;have HO6:Hid (Only [ni.b] ((w4.alloc (.cells #[zI 2,zI ni.Z,zI ni.L,zI ni.C,zI ni.UN,zI ni.UG] 67)).drew) w6):=ho6;clear hT6 ho6 hadj))
 all_goals have hrec:=HRC.out w6 HT6.out
 all_goals have z0:=K6.out.2.1
 all_goals have z1:=K6.out.2.2.1
 all_goals go_wp2_with (go_at_call 97;go_must (refine hrec.mono ?_);rintro e w7 ⟨rfl,hT7,ho7⟩)
 all_goals go_end0
 all_goals
  refine ⟨rfl,hT7,?_⟩;have o1:Only [d.b,ni.b,na.b] w w6:=(HO5.out.mono (L':=[d.b,ni.b,na.b]) (fun k hk=>Or.inl (by simp at hk;simp [hk]))).trans HO6.out (fun k hk=>Or.inl (by simp at hk;simp [hk]));exact o1.trans ho7 (fun k hk=>Or.inl (by simp at hk;simp [hk]))
theorem keepZ_only {w W:World}{tr t B:Nat}{N G:Int}(h:w.cell? (zA tr 0)=some (zP t)∧w.cell? (zA B 0)=some (zI N)∧w.cell? (zA B 1)=some (zI G))(ho:zQ w W):W.cell? (zA tr 0)=some (zP t)∧W.cell? (zA B 0)=some (zI N)∧W.cell? (zA B 1)=some (zI G) :=
 ⟨(ho.cell (p:=⟨tr,0,none⟩) (zv h.1) (by simp)).trans h.1,(ho.cell (p:=⟨B,0,none⟩) (zv h.2.1) (by simp)).trans h.2.1,(ho.cell (p:=⟨B,1,none⟩) (zv h.2.2) (by simp)).trans h.2.2⟩
theorem keepZ_alloc {W:World}{tr t B:Nat}{N G:Int}{o:Obj}(h:W.cell? (zA tr 0)=some (zP t)∧W.cell? (zA B 0)=some (zI N)∧W.cell? (zA B 1)=some (zI G)):(W.alloc o).cell? (zA tr 0)=some (zP t)∧(W.alloc o).cell? (zA B 0)=some (zI N)∧(W.alloc o).cell? (zA B 1)=some (zI G):=keepZ_only h ((Only.refl [] W).alloc _)
theorem keepZ_set {W:World}{tr t B blk o:Nat}{N G:Int}{u:Value}(h:W.cell? (zA tr 0)=some (zP t)∧W.cell? (zA B 0)=some (zI N)∧W.cell? (zA B 1)=some (zI G))(h1:tr≠blk)(h2:B≠blk):(W.setCell ⟨blk,o,none⟩ u).cell? (zA tr 0)=some (zP t)∧(W.setCell ⟨blk,o,none⟩ u).cell? (zA B 0)=some (zI N)∧(W.setCell ⟨blk,o,none⟩ u).cell? (zA B 1)=some (zI G):=by
 have ho:Only [blk] W (W.setCell ⟨blk,o,none⟩ u):=(Only.refl [blk] W).setCell (Or.inl (by simp)) _;exact ⟨(ho.cell (p:=⟨tr,0,none⟩) (zv h.1) (by simpa using h1)).trans h.1,(ho.cell (p:=⟨B,0,none⟩) (zv h.2.1) (by simpa using h2)).trans h.2.1,(ho.cell (p:=⟨B,1,none⟩) (zv h.2.2) (by simpa using h2)).trans h.2.2⟩
section
variable (w:World)(tr t:Nat)(N G K Z L C UN UG:Int)
theorem checkDir_yes (ct:w.cell? (zA tr 0)=some (zP t))
 (HC0:∀ w1,zQ w w1→zO 58 #[zP t,zG N G] w1 (.tuple #[.agg #[zI 2,zI Z,zI L,zI C,zI UN,zI UG],.nilIface])) :
 zO 51 #[zP tr,zG N G] w .nilIface:=by
 have htl:tr < w.heap.size:=zv ct
 have H1:Hid ((w.alloc (zH N G)).cell? (zA tr 0)=some (zP t)∧(w.alloc (zH N G)).cell? (zA w.heap.size 0)=some (zI N)∧(w.alloc (zH N G)).cell? (zA w.heap.size 1)=some (zI G)):=by
   have hh:=zh w (zH N G);exact ⟨(((Only.refl [] w).alloc _).cell (p:=⟨tr,0,none⟩) (zv ct) (by simp)).trans ct,cell_of_row _ _ 0 _ _ _ hh,cell_of_row _ _ 1 _ _ _ hh⟩
 have HW1:Hid (zQ (w.alloc (zH N G)) (w.alloc (zH N G)).drew):=(Only.refl [] _).drew;have HW2:Hid (zQ (w.alloc (zH N G)) ((w.alloc (zH N G)).alloc (.cells #[zI 0,zI 0,zI 0,zI 0,zI 0,zI 0] 67)).drew):=((Only.refl [] _).alloc _).drew;have HV1:Hid (zQ w (w.alloc (zH N G)).drew):=((Only.refl [] _).alloc _).drew;have HV2:Hid (zQ w ((w.alloc (zH N G)).alloc (.cells #[zI 0,zI 0,zI 0,zI 0,zI 0,zI 0] 67)).drew):=(((Only.refl [] _).alloc _).alloc _).drew;have K1:Hid ((w.alloc (zH N G)).drew.cell? (zA tr 0)=some (zP t)∧(w.alloc (zH N G)).drew.cell? (zA w.heap.size 0)=some (zI N)∧(w.alloc (zH N G)).drew.cell? (zA w.heap.size 1)=some (zI G)):=keepZ_only H1.out HW1.out;have K2:Hid (((w.alloc (zH N G)).alloc (.cells #[zI 0,zI 0,zI 0,zI 0,zI 0,zI 0] 67)).drew.cell? (zA tr 0)=some (zP t)∧((w.alloc (zH N G)).alloc (.cells #[zI 0,zI 0,zI 0,zI 0,zI 0,zI 0] 67)).drew.cell? (zA w.heap.size 0)=some (zI N)∧((w.alloc (zH N G)).alloc (.cells #[zI 0,zI 0,zI 0,zI 0,zI 0,zI 0] 67)).drew.cell? (zA w.heap.size 1)=some (zI G)):=keepZ_only H1.out HW2.out
 have HN2:Hid (tr≠w.heap.size+1):=show tr≠w.heap.size+1 from by omega
 have HB2:Hid (w.heap.size≠w.heap.size+1):=show w.heap.size≠w.heap.size+1 from by omega
 have HC:Hid (∀ w1,zQ w w1→zO 58 #[zP t,zG N G] w1 (.tuple #[.agg #[zI 2,zI Z,zI L,zI C,zI UN,zI UG],.nilIface])):=HC0;clear HC0
 go_enter Tryz.func51,Tryz.ntmps51
 go_wp2
 go_region_held3 (fun W=>W.cell? (zA tr 0)=some (zP t)∧W.cell? (zA w.heap.size 0)=some (zI N)∧W.cell? (zA w.heap.size 1)=some (zI G))
   (with_reducible first
    | exact K1.out
    | exact K2.out
    | exact HS2.out
    | exact keepZ_alloc HS2.out
    | exact keepZ_set (keepZ_set (keepZ_set (keepZ_set (keepZ_set (keepZ_set (HS2.out) HN2.out HB2.out) HN2.out HB2.out) HN2.out HB2.out) HN2.out HB2.out) HN2.out HB2.out) HN2.out HB2.out)
   (first
    | (go_at_call 58;refine (HC.out _ HV1.out).mono ?_;rintro e w2 ⟨rfl,ho2⟩;have HO2:Hid (zQ (w.alloc (zH N G)) w2):=HW1.out.trans ho2 (fun _ hk=>by cases hk);have HS2:Hid (w2.cell? (zA tr 0)=some (zP t)∧w2.cell? (zA w.heap.size 0)=some (zI N)∧w2.cell? (zA w.heap.size 1)=some (zI G)):=keepZ_only H1.out HO2.out;clear ho2)
    | (go_at_call 58;refine (HC.out _ HV2.out).mono ?_;rintro e w2 ⟨rfl,ho2⟩;have HO2:Hid (zQ (w.alloc (zH N G)) w2):=HW2.out.trans ho2 (fun _ hk=>by cases hk);have HS2:Hid (w2.cell? (zA tr 0)=some (zP t)∧w2.cell? (zA w.heap.size 0)=some (zI N)∧w2.cell? (zA w.heap.size 1)=some (zI G)):=keepZ_only H1.out HO2.out;obtain ⟨q0,q1,q2,q3,q4,q5,f1,hl1⟩:=own_six_drew (B:=w.heap.size+1) ho2 (by simp);clear ho2))
 all_goals have HO:Hid (zQ w w2):=((Only.refl [] w).alloc _).trans HO2.out (fun _ hk=>by cases hk)
 all_goals have hsz:w.heap.size+1≤w2.heap.size:=by have:=HO2.out.size;simpa using this
 all_goals go_wp2
 all_goals go_ret
 all_goals have hle:w.heap.size≤w.heap.size+1:=Nat.le_succ _
 · exact ⟨rfl,HO.out.alloc _⟩
 · exact ⟨rfl,HO.out.six hle⟩
theorem checkDir_file (E:Value)(hE:w.cell? ⟨7,0,none⟩=some E)(ct:w.cell? (zA tr 0)=some (zP t))
 (HC0:∀ w1,zQ w w1→zO 58 #[zP t,zG N G] w1 (.tuple #[.agg #[zI 1,zI Z,zI L,zI C,zI UN,zI UG],.nilIface])) :
 zO 51 #[zP tr,zG N G] w E:=by
 have htl:tr < w.heap.size:=zv ct;have hEl:7 < w.heap.size:=zv hE;have HE:Hid (w.cell? ⟨7,0,none⟩=some E):=hE;clear hE
 have H1:Hid ((w.alloc (zH N G)).cell? (zA tr 0)=some (zP t)∧(w.alloc (zH N G)).cell? (zA w.heap.size 0)=some (zI N)∧(w.alloc (zH N G)).cell? (zA w.heap.size 1)=some (zI G)):=by
   have hh:=zh w (zH N G);exact ⟨(((Only.refl [] w).alloc _).cell (p:=⟨tr,0,none⟩) (zv ct) (by simp)).trans ct,cell_of_row _ _ 0 _ _ _ hh,cell_of_row _ _ 1 _ _ _ hh⟩
 have HW1:Hid (zQ (w.alloc (zH N G)) (w.alloc (zH N G)).drew):=(Only.refl [] _).drew;have HW2:Hid (zQ (w.alloc (zH N G)) ((w.alloc (zH N G)).alloc (.cells #[zI 0,zI 0,zI 0,zI 0,zI 0,zI 0] 67)).drew):=((Only.refl [] _).alloc _).drew;have HV1:Hid (zQ w (w.alloc (zH N G)).drew):=((Only.refl [] _).alloc _).drew;have HV2:Hid (zQ w ((w.alloc (zH N G)).alloc (.cells #[zI 0,zI 0,zI 0,zI 0,zI 0,zI 0] 67)).drew):=(((Only.refl [] _).alloc _).alloc _).drew;have K1:Hid ((w.alloc (zH N G)).drew.cell? (zA tr 0)=some (zP t)∧(w.alloc (zH N G)).drew.cell? (zA w.heap.size 0)=some (zI N)∧(w.alloc (zH N G)).drew.cell? (zA w.heap.size 1)=some (zI G)):=keepZ_only H1.out HW1.out;have K2:Hid (((w.alloc (zH N G)).alloc (.cells #[zI 0,zI 0,zI 0,zI 0,zI 0,zI 0] 67)).drew.cell? (zA tr 0)=some (zP t)∧((w.alloc (zH N G)).alloc (.cells #[zI 0,zI 0,zI 0,zI 0,zI 0,zI 0] 67)).drew.cell? (zA w.heap.size 0)=some (zI N)∧((w.alloc (zH N G)).alloc (.cells #[zI 0,zI 0,zI 0,zI 0,zI 0,zI 0] 67)).drew.cell? (zA w.heap.size 1)=some (zI G)):=keepZ_only H1.out HW2.out
 have HN2:Hid (tr≠w.heap.size+1):=show tr≠w.heap.size+1 from by omega
 have HB2:Hid (w.heap.size≠w.heap.size+1):=show w.heap.size≠w.heap.size+1 from by omega
 have HC:Hid (∀ w1,zQ w w1→zO 58 #[zP t,zG N G] w1 (.tuple #[.agg #[zI 1,zI Z,zI L,zI C,zI UN,zI UG],.nilIface])):=HC0;clear HC0
 go_enter Tryz.func51,Tryz.ntmps51
 go_wp2
 go_region_held3 (fun W=>W.cell? (zA tr 0)=some (zP t)∧W.cell? (zA w.heap.size 0)=some (zI N)∧W.cell? (zA w.heap.size 1)=some (zI G))
   (with_reducible first
    | exact K1.out
    | exact K2.out
    | exact HS2.out
    | exact keepZ_alloc HS2.out
    | exact keepZ_set (keepZ_set (keepZ_set (keepZ_set (keepZ_set (keepZ_set (HS2.out) HN2.out HB2.out) HN2.out HB2.out) HN2.out HB2.out) HN2.out HB2.out) HN2.out HB2.out) HN2.out HB2.out)
   (first
    | (go_at_call 58;refine (HC.out _ HV1.out).mono ?_;rintro e w2 ⟨rfl,ho2⟩;have HO2:Hid (zQ (w.alloc (zH N G)) w2):=HW1.out.trans ho2 (fun _ hk=>by cases hk);have HS2:Hid (w2.cell? (zA tr 0)=some (zP t)∧w2.cell? (zA w.heap.size 0)=some (zI N)∧w2.cell? (zA w.heap.size 1)=some (zI G)):=keepZ_only H1.out HO2.out;clear ho2)
    | (go_at_call 58;refine (HC.out _ HV2.out).mono ?_;rintro e w2 ⟨rfl,ho2⟩;have HO2:Hid (zQ (w.alloc (zH N G)) w2):=HW2.out.trans ho2 (fun _ hk=>by cases hk);have HS2:Hid (w2.cell? (zA tr 0)=some (zP t)∧w2.cell? (zA w.heap.size 0)=some (zI N)∧w2.cell? (zA w.heap.size 1)=some (zI G)):=keepZ_only H1.out HO2.out;obtain ⟨q0,q1,q2,q3,q4,q5,f1,hl1⟩:=own_six_drew (B:=w.heap.size+1) ho2 (by simp);clear ho2))
 all_goals have HO:Hid (zQ w w2):=((Only.refl [] w).alloc _).trans HO2.out (fun _ hk=>by cases hk)
 all_goals have hsz:w.heap.size+1≤w2.heap.size:=by have:=HO2.out.size;simpa using this
 all_goals have cE:w2.cell? ⟨7,0,none⟩=some E:=(HO.out.cell (p:=⟨7,0,none⟩) hEl (by simp)).trans HE.out
 all_goals have hel:7 < w2.heap.size:=zv cE
 all_goals go_wp2
 all_goals go_ret
 all_goals have hle:w.heap.size≤w.heap.size+1:=Nat.le_succ _
 · exact ⟨rfl,HO.out.alloc _⟩
 · exact ⟨rfl,HO.out.six hle⟩
theorem checkDir_stale (ad:Addr)(ct:w.cell? (zA tr 0)=some (zP t))
 (HC0:∀ w1,zQ w w1→zO 58 #[zP t,zG N G] w1 (.tuple #[.agg #[zI K,zI Z,zI L,zI C,zI UN,zI UG],.iface 240 (.pointer (some ad))])) :
 zO 51 #[zP tr,zG N G] w (.iface 240 (.pointer (some ad))):=by
 have htl:tr < w.heap.size:=zv ct
 have H1:Hid ((w.alloc (zH N G)).cell? (zA tr 0)=some (zP t)∧(w.alloc (zH N G)).cell? (zA w.heap.size 0)=some (zI N)∧(w.alloc (zH N G)).cell? (zA w.heap.size 1)=some (zI G)):=by
   have hh:=zh w (zH N G);exact ⟨(((Only.refl [] w).alloc _).cell (p:=⟨tr,0,none⟩) (zv ct) (by simp)).trans ct,cell_of_row _ _ 0 _ _ _ hh,cell_of_row _ _ 1 _ _ _ hh⟩
 have HW1:Hid (zQ (w.alloc (zH N G)) (w.alloc (zH N G)).drew):=(Only.refl [] _).drew;have HW2:Hid (zQ (w.alloc (zH N G)) ((w.alloc (zH N G)).alloc (.cells #[zI 0,zI 0,zI 0,zI 0,zI 0,zI 0] 67)).drew):=((Only.refl [] _).alloc _).drew;have HV1:Hid (zQ w (w.alloc (zH N G)).drew):=((Only.refl [] _).alloc _).drew;have HV2:Hid (zQ w ((w.alloc (zH N G)).alloc (.cells #[zI 0,zI 0,zI 0,zI 0,zI 0,zI 0] 67)).drew):=(((Only.refl [] _).alloc _).alloc _).drew;have K1:Hid ((w.alloc (zH N G)).drew.cell? (zA tr 0)=some (zP t)∧(w.alloc (zH N G)).drew.cell? (zA w.heap.size 0)=some (zI N)∧(w.alloc (zH N G)).drew.cell? (zA w.heap.size 1)=some (zI G)):=keepZ_only H1.out HW1.out;have K2:Hid (((w.alloc (zH N G)).alloc (.cells #[zI 0,zI 0,zI 0,zI 0,zI 0,zI 0] 67)).drew.cell? (zA tr 0)=some (zP t)∧((w.alloc (zH N G)).alloc (.cells #[zI 0,zI 0,zI 0,zI 0,zI 0,zI 0] 67)).drew.cell? (zA w.heap.size 0)=some (zI N)∧((w.alloc (zH N G)).alloc (.cells #[zI 0,zI 0,zI 0,zI 0,zI 0,zI 0] 67)).drew.cell? (zA w.heap.size 1)=some (zI G)):=keepZ_only H1.out HW2.out
 have HN2:Hid (tr≠w.heap.size+1):=show tr≠w.heap.size+1 from by omega
 have HB2:Hid (w.heap.size≠w.heap.size+1):=show w.heap.size≠w.heap.size+1 from by omega
 have HC:Hid (∀ w1,zQ w w1→zO 58 #[zP t,zG N G] w1 (.tuple #[.agg #[zI K,zI Z,zI L,zI C,zI UN,zI UG],.iface 240 (.pointer (some ad))])):=HC0;clear HC0
 go_enter Tryz.func51,Tryz.ntmps51
 go_wp2
 go_region_held3 (fun W=>W.cell? (zA tr 0)=some (zP t)∧W.cell? (zA w.heap.size 0)=some (zI N)∧W.cell? (zA w.heap.size 1)=some (zI G))
   (with_reducible first
    | exact K1.out
    | exact K2.out
    | exact HS2.out
    | exact keepZ_alloc HS2.out
    | exact keepZ_set (keepZ_set (keepZ_set (keepZ_set (keepZ_set (keepZ_set (HS2.out) HN2.out HB2.out) HN2.out HB2.out) HN2.out HB2.out) HN2.out HB2.out) HN2.out HB2.out) HN2.out HB2.out)
   (first
    | (go_at_call 58;refine (HC.out _ HV1.out).mono ?_;rintro e w2 ⟨rfl,ho2⟩;have HO2:Hid (zQ (w.alloc (zH N G)) w2):=HW1.out.trans ho2 (fun _ hk=>by cases hk);have HS2:Hid (w2.cell? (zA tr 0)=some (zP t)∧w2.cell? (zA w.heap.size 0)=some (zI N)∧w2.cell? (zA w.heap.size 1)=some (zI G)):=keepZ_only H1.out HO2.out;clear ho2)
    | (go_at_call 58;refine (HC.out _ HV2.out).mono ?_;rintro e w2 ⟨rfl,ho2⟩;have HO2:Hid (zQ (w.alloc (zH N G)) w2):=HW2.out.trans ho2 (fun _ hk=>by cases hk);have HS2:Hid (w2.cell? (zA tr 0)=some (zP t)∧w2.cell? (zA w.heap.size 0)=some (zI N)∧w2.cell? (zA w.heap.size 1)=some (zI G)):=keepZ_only H1.out HO2.out;obtain ⟨q0,q1,q2,q3,q4,q5,f1,hl1⟩:=own_six_drew (B:=w.heap.size+1) ho2 (by simp);clear ho2))
 all_goals have HO:Hid (zQ w w2):=((Only.refl [] w).alloc _).trans HO2.out (fun _ hk=>by cases hk)
 all_goals have hsz:w.heap.size+1≤w2.heap.size:=by have:=HO2.out.size;simpa using this
 all_goals go_wp2
 all_goals go_ret
 all_goals have hle:w.heap.size≤w.heap.size+1:=Nat.le_succ _
 · exact ⟨rfl,HO.out.alloc _⟩
 · exact ⟨rfl,HO.out.six hle⟩
end
theorem foot_added_tree {w w':World}{t most i b:Nat}{p p':Row}{nd:Nat→Option Nod}{K:Int}{k:Nat}(hr:Roomed w w' t p p' i)(hb:w.heap.size≤b)(hk:InFoot t p' most (setN nd i (some (newNod b K))) k):InFoot t p most nd k∨w.heap.size≤k:=by
 rcases hk with h | h | ⟨j,n,hs,hm⟩
 · exact Or.inl (Or.inl h)
 · rcases hr.2.2 with h1 | ⟨q,h1,h2⟩
   · exact Or.inl (Or.inr (Or.inl (by rw [← h1];exact h)))
   · rw [h1] at h
     cases h
     exact Or.inr h2
 · by_cases e:j=i
   · subst e
     rw [setN_same] at hs
     cases hs
     have:k=b:=by simpa [newNod,Nod.foot,footD] using hm
     exact Or.inr (by omega)
   · rw [setN_other _ _ e] at hs
     exact Or.inl (Or.inr (Or.inr ⟨j,n,hs,hm⟩))
theorem roomed_a {w1 w2:World}{t i n:Nat}{p p':Row}(hr:Roomed w1 w2 t p p' i)(hn:n≤w1.heap.size):∀ k,p'.a=some k→p.a=some k∨n≤k:=fun k hk=>by
 rcases hr.2.2 with h | ⟨q,h,hq⟩
 · exact Or.inl (by rw [← h];exact hk)
 · rw [h] at hk
   cases hk
   exact Or.inr (Nat.le_trans hn hq)
theorem TreeAt.added {w w2:World}{tr i b:Nat}{T:Tr}{p':Row}{K:Int}(h:TreeAt w tr T)(hi:i < 1000)(ht:TabAt w2 T.t p' T.most T.g (setN T.nd i (some (newNod b K))))(hr:Roomed w w2 T.t T.p p' i)(hb:w.heap.size≤b):TreeAt w2 tr { T with p:=p',nd:=setN T.nd i (some (newNod b K)) } :=
 h.table (p':=p') (g':=T.g) ht hr.2.1 (fun k hk=>by
  rcases List.mem_cons.1 hk with e | e
  · exact Or.inl e
  · exact Or.inr (Or.inl (by simpa using e))) (fun k hk=>foot_added_tree hr hb hk) ⟨by have:=hr.1;have:=h.small.N;show p'.N≤1000;omega,h.small.g⟩ (by have:=hr.1;omega) (fun _=>rfl) (fun _=>rfl)
theorem foot_tree_added {w1 w2:World}{tr i b k:Nat}{T:Tr}{p':Row}{K:Int}(hr:Roomed w1 w2 T.t T.p p' i)(hb:w1.heap.size≤b)(hk:FootT tr { T with p:=p',nd:=setN T.nd i (some (newNod b K)) } k):FootT tr T k∨w1.heap.size≤k:=by
 rcases hk with h | h | h | h | h
 · exact Or.inl (Or.inl h)
 · exact Or.inl (Or.inr (Or.inl h))
 · exact Or.inl (Or.inr (Or.inr (Or.inl h)))
 · exact Or.inl (Or.inr (Or.inr (Or.inr (Or.inl h))))
 · rcases foot_added_tree hr hb h with h1 | h1
   · exact Or.inl (Or.inr (Or.inr (Or.inr (Or.inr h1))))
   · exact Or.inr h1
theorem add_file (w:World)(tr:Nat)(T:Tr)(i:Nat)(h:TreeAt w tr T)(hi:i < 1000)(hc:countTo T.nd T.p.N < T.most)(hn:T.nd i=none)(hb:∀ j,j < i→(T.nd j).isSome=true):
  zK 31 #[zP tr,zI 1] w fun e w'=>e = .returned (.tuple #[zG i (T.g i:Nat),.nilIface])∧∃ p' b,TreeAt w' tr { T with p:=p',nd:=setN T.nd i (some (newNod b 1)) }∧Only (T.t::T.p.a.toList) w w'∧w.heap.size≤b∧p'.N=max T.p.N (i+1)∧∀ k,p'.a=some k→T.p.a=some k∨w.heap.size≤k:=by
 have hO1:zQ w (w.alloc (zH 0 0)):=(Only.refl [] w).alloc _;have hT1:=h.only hO1;have hadd:=tadd_ok (w.alloc (zH 0 0)) T.t T.p T.most i T.g T.nd 1 hT1.tab h.small.N (Or.inl rfl) hc hn hb;have ct:=h.c0;have htl:tr < w.heap.size:=zv ct;have H1:Hid (TreeAt (w.alloc (zH 0 0)) tr T):=hT1;have HO1:Hid (zQ w (w.alloc (zH 0 0))):=hO1;have hpw:∀ q,T.p.a=some q→q < w.heap.size:=fun q hq=>h.tab.plt hq;have htw:=h.tab.tlt
 have HNO:Hid (w.heap.size∉T.t::T.p.a.toList):=show w.heap.size∉T.t::T.p.a.toList from (fun hm=>by rcases List.mem_cons.1 hm with e | e;omega;have:=hpw w.heap.size (by simpa using e);omega)
 have H0:Hid (TreeAt w tr T):=h;clear h hT1 hO1 hn hb hc hpw
 go_enter Tryz.func31,Tryz.ntmps31
 go_wp2_with (go_at_call 67;go_must (refine hadd.mono ?_);rintro e w2 ⟨rfl,p',b,hT2,hr2,hb2⟩;have HT2:Hid (TreeAt w2 tr { T with p:=p',nd:=setN T.nd i (some (newNod b 1)) }):=H1.out.added hi hT2 hr2 hb2;have HR2:Hid (Roomed (w.alloc (zH 0 0)) w2 T.t T.p p' i):=hr2;have HBB:Hid (((w.alloc (zH 0 0))).heap.size≤b):=hb2;have HB2:Hid (w.heap.size≤b):=(show w.heap.size≤b from Nat.le_trans HO1.out.size hb2);have hh:=zh w (zH 0 0);have r0:=(hr2.2.1.cell (p:=⟨w.heap.size,0,none⟩) (by simp) HNO.out).trans (cell_of_row _ _ 0 _ _ _ hh);have r1:=(hr2.2.1.cell (p:=⟨w.heap.size,1,none⟩) (by simp) HNO.out).trans (cell_of_row _ _ 1 _ _ _ hh);have f0:∀ o,w2.frozen? ⟨w.heap.size,o,none⟩=false:=(fun o=>(hr2.2.1.frozen (p:=⟨w.heap.size,o,none⟩) (by simp) HNO.out).trans (frozen_of_row _ _ _ _ _ hh));have hl0:=zv r0;clear hT2 hr2 hb2 hadd hh)
 have hB:¬ FootT tr { T with p:=p',nd:=setN T.nd i (some (newNod b 1)) } w.heap.size:=fun hk=>by
  rcases foot_tree_added HR2.out HBB.out hk with h1 | h1
  · have:=H0.out.foot_lt _ h1
    omega
  · have:w.heap.size+1≤w.heap.size:=by simpa using h1
    omega
 have oB:Only [w.heap.size] w2 ((w2.setCell (zA w.heap.size 0) (zI i)).setCell (zA w.heap.size 1) (zI (T.g i:Nat))):=((Only.refl [w.heap.size] w2).setCell (Or.inl (by simp)) _).setCell (Or.inl (by simp)) _;refine bodyPost_ret (v := .tuple #[zG i (T.g i:Nat),.nilIface]) (by simp [results,Tryz.results31,go_sem,r0,r1,hl0]) rfl ⟨rfl,p',b,(HT2.out.kept oB (fun k hk hm=>hB (by simp at hm;rw [← hm];exact hk))).only ((Only.refl [] _).alloc _),?_,HB2.out,HR2.out.1,roomed_a HR2.out HO1.out.size⟩;exact (((HO1.out.mono (L':=T.t::T.p.a.toList) (fun _ hk=>by cases hk)).trans HR2.out.2.1 (fun _ hk=>Or.inl hk)).trans oB (fun k hk=>Or.inr (by simp at hk;omega))).alloc _
end
end Go.Proofs.YtooblpbmcnmicaaGreatDoor
