import Derived.Test.YtodldddakjmonaaGreatDoorK7
set_option maxRecDepth 100000
set_option maxHeartbeats 8000000
namespace Go.Proofs.YtodldddakjmonaaGreatDoor
section
open Go Go.RowKit Go.Deep Go.Maps
def Tr.named (T:Tr)(a b:Nat)(l:List Ent):Tr:={ T with ds:=setN T.ds a (some ⟨b,l⟩) }
theorem TreeAt.named {w w2:World}{tr a:Nat}{T:Tr}{d:DirM}{l:List Ent}(h:TreeAt w tr T)(hd:T.ds a=some d)(hown:w2.ownsMap Tryz.prog 9 handElem d.b l.length (entD l))(ho:Only [d.b] w w2):TreeAt w2 tr (T.named a d.b l):=by
 obtain ⟨D,n0,d1,d2,d3⟩:=h.dirs;obtain ⟨P,m,p1,p2,p3⟩:=h.pins;obtain ⟨f1,f2,f3⟩:=h.fdir a d hd;have htr:tr < w.heap.size:=lt_of_cell h.c0
 have hne:tr∉[d.b]:=by simpa using (own_ne_cell (h.dir a d hd) h.c0).symm
 have hds:∀ i e,setN T.ds a (some ⟨d.b,l⟩) i=some e→(i=a∧e=⟨d.b,l⟩)∨(i≠a∧T.ds i=some e):=fun i e he=>by
   by_cases hi:i=a
   · subst hi
     rw [setN_same] at he
     cases he
     exact Or.inl ⟨rfl,rfl⟩
   · rw [setN_other _ _ hi] at he
     exact Or.inr ⟨hi,he⟩
 have hdlt:∀ i e,(T.named a d.b l).ds i=some e→i < (T.named a d.b l).p.N:=fun i e he=>by
   rcases hds i e he with ⟨rfl,_⟩ | ⟨_,e'⟩
   · exact h.dlt i d hd
   · exact h.dlt i e e'
 have hF:∀ k,(T.named a d.b l).dirsF k=T.dirsF k:=fun k=>by
   obtain ⟨j,c⟩:=k;show (if c=T.g j then (setN T.ds a (some ⟨d.b,l⟩) j).map (·.b) else none)=(if c=T.g j then (T.ds j).map (·.b) else none)
   by_cases hj:j=a
   · subst hj
     rw [setN_same,hd];rfl
   · rw [setN_other _ _ hj]
 refine ⟨(ho.cell (p:=⟨tr,0,none⟩) htr hne).trans h.c0,(ho.cell (p:=⟨tr,1,none⟩) htr hne).trans h.c1,(ho.cell (p:=⟨tr,2,none⟩) htr hne).trans h.c2,h.tab.kept ho (fun k hk hm=>by simp at hm;subst hm;exact f1 hk),
   ⟨D,n0,own_only d1 ho (show T.db∉[d.b] from by simpa using Ne.symm f2),d2,d3.congr hF⟩,fun i e he=>?_,⟨P,m,own_only p1 ho (show T.pb∉[d.b] from by simpa using (Ne.symm f3)),p2,p3⟩,fun i j e e' he he' hb=>?_,⟨h.small.N,h.small.g⟩,h.ftr,h.fdb,h.fpb,fun i e he=>?_,h.dp,hdlt,h.plt⟩
 · rcases hds i e he with ⟨rfl,rfl⟩ | ⟨hi,e'⟩
   · exact hown
   · exact own_only (h.dir i e e') ho (fun hm=>hi (h.one i a e d e' hd (by simpa using hm)))
 · rcases hds i e he with ⟨rfl,rfl⟩ | ⟨hi,e1⟩
   · rcases hds j e' he' with ⟨rfl,_⟩ | ⟨hj,e2⟩
     · rfl
     · exact h.one i j d e' hd e2 hb
   · rcases hds j e' he' with ⟨rfl,rfl⟩ | ⟨hj,e2⟩
     · exact h.one i j e d e1 hd hb
     · exact h.one i j e e' e1 e2 hb
 · rcases hds i e he with ⟨rfl,rfl⟩ | ⟨hi,e'⟩
   · exact ⟨f1,f2,f3⟩
   · exact h.fdir i e e'
theorem name_put {w:World}{d:DirM}(h:DirAt w d)(hl:d.l.length≤1000)(s:ByteArray)(hs:s.size≤1000)(i c:Nat):∃ w',(Instr.mapUpdate 268 (.map (some d.b)) (.string s) (.agg #[.int .i64 i,.int .i64 c])).run Tryz.prog w = .ok () w'∧w'.ownsMap Tryz.prog 9 handElem d.b (insE ⟨s.data.toList,i,c⟩ (dropE d.l s.data.toList)).length (entD (insE ⟨s.data.toList,i,c⟩ (dropE d.l s.data.toList)))∧Only [d.b] w w':=by
 obtain ⟨w',hr,ho,ht⟩:=World.ownsMap.store h lawS undNames (by unfold maxLen;omega) (WideMaps.keyOf_string_mk Tryz.underlying9 (s:=s) (by unfold maxLen;omega)) (handElem_mk i c);refine ⟨w',hr,?_,only_turned ht⟩;have e:=put_entD d.l ⟨s.data.toList,i,c⟩;simp only at e;rw [e] at ho;have:=own_sized ho;rw [size_entD] at this;exact this
theorem put_file (w:World)(tr:Nat)(T:Tr)(a i:Nat)(na ni:Nod)(d:DirM)(s:ByteArray)(h:TreeAt w tr T)(hd:T.ds a=some d)(ha:T.nd a=some na)(hKa:na.K=2)(hi:T.nd i=some ni)(hKi:ni.K=1)(hl:d.l.length≤900)(hs:s.size≤1000)(hL:0≤ni.L∧ni.L≤1000)(hlive:∀ e∈d.l,e.i < T.p.N∧e.c=T.g e.i):
  Calls Tryz.prog 360 #[.pointer (some ⟨tr,0,none⟩),.agg #[.int .i64 a,.int .i64 (T.g a:Nat)],.string s,.agg #[.int .i64 i,.int .i64 (T.g i:Nat)]] w fun e w'=>e = .returned (.tuple #[])∧TreeAt w' tr { T.named a d.b (insE ⟨s.data.toList,i,T.g i⟩ (dropE d.l s.data.toList)) with nd:=setN (setN T.nd i (some { ni with L:=ni.L+1 })) a (some { na with Z:=((insE ⟨s.data.toList,i,T.g i⟩ (dropE d.l s.data.toList)).length:Nat),L:=2+(dirsIn (insE ⟨s.data.toList,i,T.g i⟩ (dropE d.l s.data.toList)) (T.named a d.b (insE ⟨s.data.toList,i,T.g i⟩ (dropE d.l s.data.toList))).ds:Int) }) }∧Only [d.b,ni.b,na.b] w w':=by
 have hal:=h.tab.lt ha;have ct0:=h.c0;have ct1:=h.c1;have htl:tr < w.heap.size:=lt_of_cell ct0;have hO2:Only [] w ((w.alloc (.cells #[.int .i64 a,.int .i64 (T.g a:Nat)] 116)).alloc (.cells #[.int .i64 i,.int .i64 (T.g i:Nat)] 116)).drew:=(((Only.refl [] w).alloc _).alloc _).drew;have hT2:=h.only hO2;have hlook:=look_dir hT2 hal hd;obtain ⟨w3,hst,hown3,hod⟩:=name_put (hT2.dir a d hd) (by omega) s hs i (T.g i);generalize hlE:insE ⟨s.data.toList,i,T.g i⟩ (dropE d.l s.data.toList)=l' at hown3 ⊢;have hO3:Only [d.b] w w3:=(hO2.mono (L':=[d.b]) (fun _ hk=>by cases hk)).trans hod (fun _ hk=>Or.inl hk);have hT3:=h.named hd hown3 hO3;have hdb:d.b < w.heap.size:=World.ownsMap.lt (h.dir a d hd);have htold:Calls Tryz.prog 188 #[.pointer (some ⟨tr,0,none⟩),.agg #[.int .i64 i,.int .i64 (T.g i:Nat)]] w3 fun e w'=>e = .returned (attrV ni.K (ni.S.size:Nat) ni.L ni.C ni.UN ni.UG)∧Only [] w3 w':=told_ok w3 tr (T.named a d.b l') i ni (ni.S.size:Nat) hT3 hi (Or.inl ⟨hKi,rfl⟩);unfold attrV at htold;rw [hKi] at htold;have hil:=h.tab.lt hi
 have hai:a≠i:=fun e=>by
  rw [e,hi] at ha
  cases ha
  omega
 have hhA:=heap_alloc_last w (.cells #[.int .i64 a,.int .i64 (T.g a:Nat)] 116);have hhI:=heap_alloc_last (w.alloc (.cells #[.int .i64 a,.int .i64 (T.g a:Nat)] 116)) (.cells #[.int .i64 i,.int .i64 (T.g i:Nat)] 116);rw [World.size_alloc] at hhI;have hOA:Only [] (w.alloc (.cells #[.int .i64 a,.int .i64 (T.g a:Nat)] 116)) ((w.alloc (.cells #[.int .i64 a,.int .i64 (T.g a:Nat)] 116)).alloc (.cells #[.int .i64 i,.int .i64 (T.g i:Nat)] 116)).drew:=((Only.refl [] _).alloc _).drew;have hOI:Only [] ((w.alloc (.cells #[.int .i64 a,.int .i64 (T.g a:Nat)] 116)).alloc (.cells #[.int .i64 i,.int .i64 (T.g i:Nat)] 116)) ((w.alloc (.cells #[.int .i64 a,.int .i64 (T.g a:Nat)] 116)).alloc (.cells #[.int .i64 i,.int .i64 (T.g i:Nat)] 116)).drew:=(Only.refl [] _).drew
 have hnA:w.heap.size∉[d.b]:=fun hm=>by have e:w.heap.size=d.b:=(by simpa using hm);omega
 have hnI:w.heap.size+1∉[d.b]:=fun hm=>by have e:w.heap.size+1=d.b:=(by simpa using hm);omega
 have x0:w3.cell? ⟨w.heap.size,0,none⟩=some (.int .i64 a):=(hod.cell (p:=⟨w.heap.size,0,none⟩) (by simp;omega) hnA).trans ((hOA.cell (p:=⟨w.heap.size,0,none⟩) (by simp) (by simp)).trans (cell_of_row _ _ 0 _ _ _ hhA));have x1:w3.cell? ⟨w.heap.size,1,none⟩=some (.int .i64 (T.g a:Nat)):=(hod.cell (p:=⟨w.heap.size,1,none⟩) (by simp;omega) hnA).trans ((hOA.cell (p:=⟨w.heap.size,1,none⟩) (by simp) (by simp)).trans (cell_of_row _ _ 1 _ _ _ hhA));have y0:w3.cell? ⟨w.heap.size+1,0,none⟩=some (.int .i64 i):=(hod.cell (p:=⟨w.heap.size+1,0,none⟩) (by simp) hnI).trans ((hOI.cell (p:=⟨w.heap.size+1,0,none⟩) (by simp) (by simp)).trans (cell_of_row _ _ 0 _ _ _ hhI));have y1:w3.cell? ⟨w.heap.size+1,1,none⟩=some (.int .i64 (T.g i:Nat)):=(hod.cell (p:=⟨w.heap.size+1,1,none⟩) (by simp) hnI).trans ((hOI.cell (p:=⟨w.heap.size+1,1,none⟩) (by simp) (by simp)).trans (cell_of_row _ _ 1 _ _ _ hhI));have H3:Hid (TreeAt w3 tr (T.named a d.b l')):=hT3;have HO3:Hid (Only [d.b] w w3):=hO3;have HX:Hid (w3.cell? ⟨w.heap.size,0,none⟩=some (.int .i64 a)∧w3.cell? ⟨w.heap.size,1,none⟩=some (.int .i64 (T.g a:Nat))∧w3.cell? ⟨w.heap.size+1,0,none⟩=some (.int .i64 i)∧w3.cell? ⟨w.heap.size+1,1,none⟩=some (.int .i64 (T.g i:Nat))):=⟨x0,x1,y0,y1⟩;clear hT3 hO3 hod hT2 hO2 hOA hOI hnA hnI hhA hhI hown3
 go_enter Tryz.func360,Tryz.ntmps360
 go_wp2
 go_region
 go_wp2_with (go_at_call 188;go_must (refine htold.mono ?_);rintro e w4 ⟨rfl,ho4⟩)
 have hO5:Only [] w3 ((w4.alloc (.cells #[.int .i64 1,.int .i64 (ni.S.size:Nat),.int .i64 (ni.L+1),.int .i64 ni.C,.int .i64 ni.UN,.int .i64 ni.UG] 179)).drew):=(ho4.alloc _).drew;have hT5:=H3.out.only hO5;have hvl:=heap_alloc_last w4 (.cells #[.int .i64 1,.int .i64 (ni.S.size:Nat),.int .i64 (ni.L+1),.int .i64 ni.C,.int .i64 ni.UN,.int .i64 ni.UG] 179);have h3lt:∀ {k v},w3.cell? k=some v→((w4.alloc (.cells #[.int .i64 1,.int .i64 (ni.S.size:Nat),.int .i64 (ni.L+1),.int .i64 ni.C,.int .i64 ni.UN,.int .i64 ni.UG] 179)).drew).cell? k=some v:=fun hc=>(hO5.cell (lt_of_cell hc) (by simp)).trans hc;have K0:Hid (((w4.alloc (.cells #[.int .i64 1,.int .i64 (ni.S.size:Nat),.int .i64 (ni.L+1),.int .i64 ni.C,.int .i64 ni.UN,.int .i64 ni.UG] 179)).drew).cell? ⟨tr,0,none⟩=some (.pointer (some ⟨T.t,0,none⟩))∧((w4.alloc (.cells #[.int .i64 1,.int .i64 (ni.S.size:Nat),.int .i64 (ni.L+1),.int .i64 ni.C,.int .i64 ni.UN,.int .i64 ni.UG] 179)).drew).cell? ⟨w.heap.size,0,none⟩=some (.int .i64 a)∧((w4.alloc (.cells #[.int .i64 1,.int .i64 (ni.S.size:Nat),.int .i64 (ni.L+1),.int .i64 ni.C,.int .i64 ni.UN,.int .i64 ni.UG] 179)).drew).cell? ⟨w.heap.size,1,none⟩=some (.int .i64 (T.g a:Nat))∧((w4.alloc (.cells #[.int .i64 1,.int .i64 (ni.S.size:Nat),.int .i64 (ni.L+1),.int .i64 ni.C,.int .i64 ni.UN,.int .i64 ni.UG] 179)).drew).cell? ⟨w.heap.size+1,0,none⟩=some (.int .i64 i)∧((w4.alloc (.cells #[.int .i64 1,.int .i64 (ni.S.size:Nat),.int .i64 (ni.L+1),.int .i64 ni.C,.int .i64 ni.UN,.int .i64 ni.UG] 179)).drew).cell? ⟨w.heap.size+1,1,none⟩=some (.int .i64 (T.g i:Nat))∧((w4.alloc (.cells #[.int .i64 1,.int .i64 (ni.S.size:Nat),.int .i64 (ni.L+1),.int .i64 ni.C,.int .i64 ni.UN,.int .i64 ni.UG] 179)).drew).cell? ⟨w4.heap.size,1,none⟩=some (.int .i64 (ni.S.size:Nat))∧((w4.alloc (.cells #[.int .i64 1,.int .i64 (ni.S.size:Nat),.int .i64 (ni.L+1),.int .i64 ni.C,.int .i64 ni.UN,.int .i64 ni.UG] 179)).drew).cell? ⟨w4.heap.size,2,none⟩=some (.int .i64 (ni.L+1))):=⟨h3lt H3.out.c0,h3lt HX.out.1,h3lt HX.out.2.1,h3lt HX.out.2.2.1,h3lt HX.out.2.2.2,cell_of_row _ _ 1 _ _ _ hvl,cell_of_row _ _ 2 _ _ _ hvl⟩;have hadj:=tadj_file ((w4.alloc (.cells #[.int .i64 1,.int .i64 (ni.S.size:Nat),.int .i64 (ni.L+1),.int .i64 ni.C,.int .i64 ni.UN,.int .i64 ni.UG] 179)).drew) T.t T.p T.most i T.g T.nd ni (ni.S.size:Nat) (ni.L+1) a (T.g a:Nat) hT5.tab hi (And.intro (by omega) (by omega)) hKi
 have hnt:∀ k,k∈[ni.b]→InFoot T.t T.p T.most T.nd k:=fun k hk=>by simp at hk;subst hk;exact .node hi ni.b_foot
 have hnb:ni.b < w.heap.size:=lt_of_cell (h.tab.node i ni hi).c0;have hw4:w.heap.size≤w4.heap.size:=Nat.le_trans HO3.out.size ho4.size
 have HK6:Hid (∀ w6:World,Only [ni.b] ((w4.alloc (.cells #[.int .i64 1,.int .i64 (ni.S.size:Nat),.int .i64 (ni.L+1),.int .i64 ni.C,.int .i64 ni.UN,.int .i64 ni.UG] 179)).drew) w6→w6.cell? ⟨tr,0,none⟩=some (.pointer (some ⟨T.t,0,none⟩))∧w6.cell? ⟨w.heap.size,0,none⟩=some (.int .i64 a)∧w6.cell? ⟨w.heap.size,1,none⟩=some (.int .i64 (T.g a:Nat))∧w6.cell? ⟨w.heap.size+1,0,none⟩=some (.int .i64 i)∧w6.cell? ⟨w.heap.size+1,1,none⟩=some (.int .i64 (T.g i:Nat))∧w6.cell? ⟨w4.heap.size,1,none⟩=some (.int .i64 (ni.S.size:Nat))∧w6.cell? ⟨w4.heap.size,2,none⟩=some (.int .i64 (ni.L+1))):=fun w6 o6=>by
  have kk:=K0.out
  have no:∀ k,w.heap.size≤k→k∉[ni.b]:=fun k hk hm=>by have e:k=ni.b:=(by simpa using hm);omega
  have hr:tr∉[ni.b]:=fun hm=>h.ftr (hnt tr hm)
  exact ⟨(o6.cell (p:=⟨tr,0,none⟩) (lt_of_cell kk.1) hr).trans kk.1,(o6.cell (p:=⟨w.heap.size,0,none⟩) (lt_of_cell kk.2.1) (no _ (Nat.le_refl _))).trans kk.2.1,(o6.cell (p:=⟨w.heap.size,1,none⟩) (lt_of_cell kk.2.2.1) (no _ (Nat.le_refl _))).trans kk.2.2.1,
    (o6.cell (p:=⟨w.heap.size+1,0,none⟩) (lt_of_cell kk.2.2.2.1) (no _ (Nat.le_succ _))).trans kk.2.2.2.1,(o6.cell (p:=⟨w.heap.size+1,1,none⟩) (lt_of_cell kk.2.2.2.2.1) (no _ (Nat.le_succ _))).trans kk.2.2.2.2.1,(o6.cell (p:=⟨w4.heap.size,1,none⟩) (lt_of_cell kk.2.2.2.2.2.1) (no _ hw4)).trans kk.2.2.2.2.2.1,(o6.cell (p:=⟨w4.heap.size,2,none⟩) (lt_of_cell kk.2.2.2.2.2.2) (no _ hw4)).trans kk.2.2.2.2.2.2⟩
 have HN6:Hid (∀ w6,TabAt w6 T.t T.p T.most T.g (setN T.nd i (some { ni with L:=ni.L+1 }))→Only [ni.b] ((w4.alloc (.cells #[.int .i64 1,.int .i64 (ni.S.size:Nat),.int .i64 (ni.L+1),.int .i64 ni.C,.int .i64 ni.UN,.int .i64 ni.UG] 179)).drew) w6→TreeAt w6 tr { T.named a d.b l' with nd:=setN T.nd i (some { ni with L:=ni.L+1 }) }):=fun w6 t6 o6=>TreeAt.node (T:=T.named a d.b l') (n:=ni) (n':={ ni with L:=ni.L+1 }) hT5 hi rfl rfl t6 o6;have HO5:Hid (Only [d.b] w ((w4.alloc (.cells #[.int .i64 1,.int .i64 (ni.S.size:Nat),.int .i64 (ni.L+1),.int .i64 ni.C,.int .i64 ni.UN,.int .i64 ni.UG] 179)).drew)):=HO3.out.trans hO5 (fun _ hk=>by cases hk)
 have hl2:l'.length≤1000:=by
  rw [← hlE,length_insE];have:=List.length_filter_le (fun e:Ent=>!(e.s==s.data.toList)) d.l;unfold dropE;omega
 have HRC:Hid (∀ w6,TreeAt w6 tr { T.named a d.b l' with nd:=setN T.nd i (some { ni with L:=ni.L+1 }) }→Calls Tryz.prog 133 #[.pointer (some ⟨tr,0,none⟩),.agg #[.int .i64 a,.int .i64 (T.g a:Nat)]] w6 fun e w'=>e = .returned (.tuple #[])∧TreeAt w' tr { T.named a d.b l' with nd:=setN (setN T.nd i (some { ni with L:=ni.L+1 })) a (some { na with Z:=(l'.length:Nat),L:=2+(dirsIn l' (T.named a d.b l').ds:Int) }) }∧Only [na.b] w6 w'):=fun w6 t6=>recount_ok w6 tr { T.named a d.b l' with nd:=setN T.nd i (some { ni with L:=ni.L+1 }) } a na ⟨d.b,l'⟩ t6 (setN_same _ _ _) ((setN_other _ _ hai).trans ha) hKa hl2 (fun e he=>by
  have he':e∈l':=he;rw [← hlE] at he';rcases mem_insE.1 he' with rfl | he2
  · exact ⟨hil,rfl⟩
  · exact hlive e (List.mem_filter.1 he2).1)
 clear hO5 hT5 hvl h3lt hnt h hlive
 go_region_held3 (fun W=>W.cell? ⟨tr,0,none⟩=some (.pointer (some ⟨T.t,0,none⟩))∧W.cell? ⟨w.heap.size,0,none⟩=some (.int .i64 a)∧W.cell? ⟨w.heap.size,1,none⟩=some (.int .i64 (T.g a:Nat))∧W.cell? ⟨w.heap.size+1,0,none⟩=some (.int .i64 i)∧W.cell? ⟨w.heap.size+1,1,none⟩=some (.int .i64 (T.g i:Nat))∧W.cell? ⟨w4.heap.size,1,none⟩=some (.int .i64 (ni.S.size:Nat))∧W.cell? ⟨w4.heap.size,2,none⟩=some (.int .i64 (ni.L+1)))
  (with_reducible first
    | exact K0.out
    | exact K6.out)
  (first
    | (go_at_call 187;refine hadj.mono ?_;rintro e w6 ⟨rfl,hT6,ho6⟩;have HT6:Hid (TreeAt w6 tr { T.named a d.b l' with nd:=setN T.nd i (some { ni with L:=ni.L+1 }) }):=HN6.out w6 hT6 ho6;have K6:Hid (w6.cell? ⟨tr,0,none⟩=some (.pointer (some ⟨T.t,0,none⟩))∧w6.cell? ⟨w.heap.size,0,none⟩=some (.int .i64 a)∧w6.cell? ⟨w.heap.size,1,none⟩=some (.int .i64 (T.g a:Nat))∧w6.cell? ⟨w.heap.size+1,0,none⟩=some (.int .i64 i)∧w6.cell? ⟨w.heap.size+1,1,none⟩=some (.int .i64 (T.g i:Nat))∧w6.cell? ⟨w4.heap.size,1,none⟩=some (.int .i64 (ni.S.size:Nat))∧w6.cell? ⟨w4.heap.size,2,none⟩=some (.int .i64 (ni.L+1))):=HK6.out w6 ho6;have HO6:Hid (Only [ni.b] ((w4.alloc (.cells #[.int .i64 1,.int .i64 (ni.S.size:Nat),.int .i64 (ni.L+1),.int .i64 ni.C,.int .i64 ni.UN,.int .i64 ni.UG] 179)).drew) w6):=ho6;clear hT6 ho6 hadj))
 all_goals have hrec:=HRC.out w6 HT6.out
 all_goals have z0:=K6.out.2.1
 all_goals have z1:=K6.out.2.2.1
 all_goals go_wp2_with (go_at_call 133;go_must (refine hrec.mono ?_);rintro e w7 ⟨rfl,hT7,ho7⟩)
 all_goals go_end0
 all_goals
  refine ⟨rfl,hT7,?_⟩;have o1:Only [d.b,ni.b,na.b] w w6:=(HO5.out.mono (L':=[d.b,ni.b,na.b]) (fun k hk=>Or.inl (by simp at hk;simp [hk]))).trans HO6.out (fun k hk=>Or.inl (by simp at hk;simp [hk]));exact o1.trans ho7 (fun k hk=>Or.inl (by simp at hk;simp [hk]))
theorem keepZ_only {w W:World}{tr t B:Nat}{N G:Int}(h:w.cell? ⟨tr,0,none⟩=some (.pointer (some ⟨t,0,none⟩))∧w.cell? ⟨B,0,none⟩=some (.int .i64 N)∧w.cell? ⟨B,1,none⟩=some (.int .i64 G))(ho:Only [] w W):W.cell? ⟨tr,0,none⟩=some (.pointer (some ⟨t,0,none⟩))∧W.cell? ⟨B,0,none⟩=some (.int .i64 N)∧W.cell? ⟨B,1,none⟩=some (.int .i64 G) :=
 ⟨(ho.cell (p:=⟨tr,0,none⟩) (lt_of_cell h.1) (by simp)).trans h.1,(ho.cell (p:=⟨B,0,none⟩) (lt_of_cell h.2.1) (by simp)).trans h.2.1,(ho.cell (p:=⟨B,1,none⟩) (lt_of_cell h.2.2) (by simp)).trans h.2.2⟩
theorem keepZ_alloc {W:World}{tr t B:Nat}{N G:Int}{o:Obj}(h:W.cell? ⟨tr,0,none⟩=some (.pointer (some ⟨t,0,none⟩))∧W.cell? ⟨B,0,none⟩=some (.int .i64 N)∧W.cell? ⟨B,1,none⟩=some (.int .i64 G)):(W.alloc o).cell? ⟨tr,0,none⟩=some (.pointer (some ⟨t,0,none⟩))∧(W.alloc o).cell? ⟨B,0,none⟩=some (.int .i64 N)∧(W.alloc o).cell? ⟨B,1,none⟩=some (.int .i64 G):=keepZ_only h ((Only.refl [] W).alloc _)
theorem keepZ_set {W:World}{tr t B blk o:Nat}{N G:Int}{u:Value}(h:W.cell? ⟨tr,0,none⟩=some (.pointer (some ⟨t,0,none⟩))∧W.cell? ⟨B,0,none⟩=some (.int .i64 N)∧W.cell? ⟨B,1,none⟩=some (.int .i64 G))(h1:tr≠blk)(h2:B≠blk):(W.setCell ⟨blk,o,none⟩ u).cell? ⟨tr,0,none⟩=some (.pointer (some ⟨t,0,none⟩))∧(W.setCell ⟨blk,o,none⟩ u).cell? ⟨B,0,none⟩=some (.int .i64 N)∧(W.setCell ⟨blk,o,none⟩ u).cell? ⟨B,1,none⟩=some (.int .i64 G):=by
 have ho:Only [blk] W (W.setCell ⟨blk,o,none⟩ u):=(Only.refl [blk] W).setCell (Or.inl (by simp)) _;exact ⟨(ho.cell (p:=⟨tr,0,none⟩) (lt_of_cell h.1) (by simpa using h1)).trans h.1,(ho.cell (p:=⟨B,0,none⟩) (lt_of_cell h.2.1) (by simpa using h2)).trans h.2.1,(ho.cell (p:=⟨B,1,none⟩) (lt_of_cell h.2.2) (by simpa using h2)).trans h.2.2⟩
section
variable (w:World)(tr t:Nat)(N G K Z L C UN UG:Int)
theorem checkDir_yes (ct:w.cell? ⟨tr,0,none⟩=some (.pointer (some ⟨t,0,none⟩)))
 (HC0:∀ w1,Only [] w w1→Calls Tryz.prog 183 #[.pointer (some ⟨t,0,none⟩),.agg #[.int .i64 N,.int .i64 G]] w1 fun e w'=>e = .returned (.tuple #[.agg #[.int .i64 2,.int .i64 Z,.int .i64 L,.int .i64 C,.int .i64 UN,.int .i64 UG],.nilIface])∧Only [] w1 w') :
 Calls Tryz.prog 181 #[.pointer (some ⟨tr,0,none⟩),.agg #[.int .i64 N,.int .i64 G]] w fun e w'=>e = .returned .nilIface∧Only [] w w':=by
 have htl:tr < w.heap.size:=lt_of_cell ct
 have H1:Hid ((w.alloc (.cells #[.int .i64 N,.int .i64 G] 116)).cell? ⟨tr,0,none⟩=some (.pointer (some ⟨t,0,none⟩))∧(w.alloc (.cells #[.int .i64 N,.int .i64 G] 116)).cell? ⟨w.heap.size,0,none⟩=some (.int .i64 N)∧(w.alloc (.cells #[.int .i64 N,.int .i64 G] 116)).cell? ⟨w.heap.size,1,none⟩=some (.int .i64 G)):=by
   have hh:=heap_alloc_last w (.cells #[.int .i64 N,.int .i64 G] 116);exact ⟨(((Only.refl [] w).alloc _).cell (p:=⟨tr,0,none⟩) (lt_of_cell ct) (by simp)).trans ct,cell_of_row _ _ 0 _ _ _ hh,cell_of_row _ _ 1 _ _ _ hh⟩
 have HW1:Hid (Only [] (w.alloc (.cells #[.int .i64 N,.int .i64 G] 116)) (w.alloc (.cells #[.int .i64 N,.int .i64 G] 116)).drew):=(Only.refl [] _).drew;have HW2:Hid (Only [] (w.alloc (.cells #[.int .i64 N,.int .i64 G] 116)) ((w.alloc (.cells #[.int .i64 N,.int .i64 G] 116)).alloc (.cells #[.int .i64 0,.int .i64 0,.int .i64 0,.int .i64 0,.int .i64 0,.int .i64 0] 179)).drew):=((Only.refl [] _).alloc _).drew;have HV1:Hid (Only [] w (w.alloc (.cells #[.int .i64 N,.int .i64 G] 116)).drew):=((Only.refl [] _).alloc _).drew;have HV2:Hid (Only [] w ((w.alloc (.cells #[.int .i64 N,.int .i64 G] 116)).alloc (.cells #[.int .i64 0,.int .i64 0,.int .i64 0,.int .i64 0,.int .i64 0,.int .i64 0] 179)).drew):=(((Only.refl [] _).alloc _).alloc _).drew;have K1:Hid ((w.alloc (.cells #[.int .i64 N,.int .i64 G] 116)).drew.cell? ⟨tr,0,none⟩=some (.pointer (some ⟨t,0,none⟩))∧(w.alloc (.cells #[.int .i64 N,.int .i64 G] 116)).drew.cell? ⟨w.heap.size,0,none⟩=some (.int .i64 N)∧(w.alloc (.cells #[.int .i64 N,.int .i64 G] 116)).drew.cell? ⟨w.heap.size,1,none⟩=some (.int .i64 G)):=keepZ_only H1.out HW1.out;have K2:Hid (((w.alloc (.cells #[.int .i64 N,.int .i64 G] 116)).alloc (.cells #[.int .i64 0,.int .i64 0,.int .i64 0,.int .i64 0,.int .i64 0,.int .i64 0] 179)).drew.cell? ⟨tr,0,none⟩=some (.pointer (some ⟨t,0,none⟩))∧((w.alloc (.cells #[.int .i64 N,.int .i64 G] 116)).alloc (.cells #[.int .i64 0,.int .i64 0,.int .i64 0,.int .i64 0,.int .i64 0,.int .i64 0] 179)).drew.cell? ⟨w.heap.size,0,none⟩=some (.int .i64 N)∧((w.alloc (.cells #[.int .i64 N,.int .i64 G] 116)).alloc (.cells #[.int .i64 0,.int .i64 0,.int .i64 0,.int .i64 0,.int .i64 0,.int .i64 0] 179)).drew.cell? ⟨w.heap.size,1,none⟩=some (.int .i64 G)):=keepZ_only H1.out HW2.out
 have HN2:Hid (tr≠w.heap.size+1):=show tr≠w.heap.size+1 from by omega
 have HB2:Hid (w.heap.size≠w.heap.size+1):=show w.heap.size≠w.heap.size+1 from by omega
 have HC:Hid (∀ w1,Only [] w w1→Calls Tryz.prog 183 #[.pointer (some ⟨t,0,none⟩),.agg #[.int .i64 N,.int .i64 G]] w1 fun e w'=>e = .returned (.tuple #[.agg #[.int .i64 2,.int .i64 Z,.int .i64 L,.int .i64 C,.int .i64 UN,.int .i64 UG],.nilIface])∧Only [] w1 w'):=HC0;clear HC0
 go_enter Tryz.func181,Tryz.ntmps181
 go_wp2
 go_region_held3 (fun W=>W.cell? ⟨tr,0,none⟩=some (.pointer (some ⟨t,0,none⟩))∧W.cell? ⟨w.heap.size,0,none⟩=some (.int .i64 N)∧W.cell? ⟨w.heap.size,1,none⟩=some (.int .i64 G))
   (with_reducible first
    | exact K1.out
    | exact K2.out
    | exact HS2.out
    | exact keepZ_alloc HS2.out
    | exact keepZ_set (keepZ_set (keepZ_set (keepZ_set (keepZ_set (keepZ_set (HS2.out) HN2.out HB2.out) HN2.out HB2.out) HN2.out HB2.out) HN2.out HB2.out) HN2.out HB2.out) HN2.out HB2.out)
   (first
    | (go_at_call 183;refine (HC.out _ HV1.out).mono ?_;rintro e w2 ⟨rfl,ho2⟩;have HO2:Hid (Only [] (w.alloc (.cells #[.int .i64 N,.int .i64 G] 116)) w2):=HW1.out.trans ho2 (fun _ hk=>by cases hk);have HS2:Hid (w2.cell? ⟨tr,0,none⟩=some (.pointer (some ⟨t,0,none⟩))∧w2.cell? ⟨w.heap.size,0,none⟩=some (.int .i64 N)∧w2.cell? ⟨w.heap.size,1,none⟩=some (.int .i64 G)):=keepZ_only H1.out HO2.out;clear ho2)
    | (go_at_call 183;refine (HC.out _ HV2.out).mono ?_;rintro e w2 ⟨rfl,ho2⟩;have HO2:Hid (Only [] (w.alloc (.cells #[.int .i64 N,.int .i64 G] 116)) w2):=HW2.out.trans ho2 (fun _ hk=>by cases hk);have HS2:Hid (w2.cell? ⟨tr,0,none⟩=some (.pointer (some ⟨t,0,none⟩))∧w2.cell? ⟨w.heap.size,0,none⟩=some (.int .i64 N)∧w2.cell? ⟨w.heap.size,1,none⟩=some (.int .i64 G)):=keepZ_only H1.out HO2.out;obtain ⟨q0,q1,q2,q3,q4,q5,f1,hl1⟩:=own_six_drew (B:=w.heap.size+1) ho2 (by simp);clear ho2))
 all_goals have HO:Hid (Only [] w w2):=((Only.refl [] w).alloc _).trans HO2.out (fun _ hk=>by cases hk)
 all_goals have hsz:w.heap.size+1≤w2.heap.size:=by have:=HO2.out.size;simpa using this
 all_goals go_wp2
 all_goals go_ret
 all_goals have hle:w.heap.size≤w.heap.size+1:=Nat.le_succ _
 · exact ⟨rfl,HO.out.alloc _⟩
 · exact ⟨rfl,HO.out.six hle⟩
end
theorem foot_added_tree {w w':World}{t most i b:Nat}{p p':Row}{nd:Nat→Option Nod}{K:Int}{k:Nat}(hr:Roomed w w' t p p' i)(hb:w.heap.size≤b)(hk:InFoot t p' most (setN nd i (some (newNod b K))) k):InFoot t p most nd k∨w.heap.size≤k:=by
 rcases hk with h | h | ⟨j,n,hs,hm⟩
 · exact Or.inl (Or.inl h)
 · rcases hr.2.2 with h1 | ⟨q,h1,h2⟩
   · exact Or.inl (Or.inr (Or.inl (by rw [← h1];exact h)))
   · rw [h1] at h
     cases h
     exact Or.inr h2
 · by_cases e:j=i
   · subst e
     rw [setN_same] at hs
     cases hs
     have:k=b:=by simpa [newNod,Nod.foot,footD] using hm
     exact Or.inr (by omega)
   · rw [setN_other _ _ e] at hs
     exact Or.inl (Or.inr (Or.inr ⟨j,n,hs,hm⟩))
theorem roomed_a {w1 w2:World}{t i n:Nat}{p p':Row}(hr:Roomed w1 w2 t p p' i)(hn:n≤w1.heap.size):∀ k,p'.a=some k→p.a=some k∨n≤k:=fun k hk=>by
 rcases hr.2.2 with h | ⟨q,h,hq⟩
 · exact Or.inl (by rw [← h];exact hk)
 · rw [h] at hk
   cases hk
   exact Or.inr (Nat.le_trans hn hq)
theorem TreeAt.added {w w2:World}{tr i b:Nat}{T:Tr}{p':Row}{K:Int}(h:TreeAt w tr T)(hi:i < 1000)(ht:TabAt w2 T.t p' T.most T.g (setN T.nd i (some (newNod b K))))(hr:Roomed w w2 T.t T.p p' i)(hb:w.heap.size≤b):TreeAt w2 tr { T with p:=p',nd:=setN T.nd i (some (newNod b K)) } :=
 h.table (p':=p') (g':=T.g) ht hr.2.1 (fun k hk=>by
  rcases List.mem_cons.1 hk with e | e
  · exact Or.inl e
  · exact Or.inr (Or.inl (by simpa using e))) (fun k hk=>foot_added_tree hr hb hk) ⟨by have:=hr.1;have:=h.small.N;show p'.N≤1000;omega,h.small.g⟩ (by have:=hr.1;omega) (fun _=>rfl) (fun _=>rfl)
theorem foot_tree_added {w1 w2:World}{tr i b k:Nat}{T:Tr}{p':Row}{K:Int}(hr:Roomed w1 w2 T.t T.p p' i)(hb:w1.heap.size≤b)(hk:FootT tr { T with p:=p',nd:=setN T.nd i (some (newNod b K)) } k):FootT tr T k∨w1.heap.size≤k:=by
 rcases hk with h | h | h | h | h
 · exact Or.inl (Or.inl h)
 · exact Or.inl (Or.inr (Or.inl h))
 · exact Or.inl (Or.inr (Or.inr (Or.inl h)))
 · exact Or.inl (Or.inr (Or.inr (Or.inr (Or.inl h))))
 · rcases foot_added_tree hr hb h with h1 | h1
   · exact Or.inl (Or.inr (Or.inr (Or.inr (Or.inr h1))))
   · exact Or.inr h1
theorem add_file (w:World)(tr:Nat)(T:Tr)(i:Nat)(h:TreeAt w tr T)(hi:i < 1000)(hc:countTo T.nd T.p.N < T.most)(hn:T.nd i=none)(hb:∀ j,j < i→(T.nd j).isSome=true):
  Calls Tryz.prog 56 #[.pointer (some ⟨tr,0,none⟩),.int .i64 1] w fun e w'=>e = .returned (.tuple #[.agg #[.int .i64 i,.int .i64 (T.g i:Nat)],.nilIface])∧∃ p' b,TreeAt w' tr { T with p:=p',nd:=setN T.nd i (some (newNod b 1)) }∧Only (T.t::T.p.a.toList) w w'∧w.heap.size≤b∧p'.N=max T.p.N (i+1)∧∀ k,p'.a=some k→T.p.a=some k∨w.heap.size≤k:=by
 have hO1:Only [] w (w.alloc (.cells #[.int .i64 0,.int .i64 0] 116)):=(Only.refl [] w).alloc _;have hT1:=h.only hO1;have hadd:=tadd_ok (w.alloc (.cells #[.int .i64 0,.int .i64 0] 116)) T.t T.p T.most i T.g T.nd 1 hT1.tab h.small.N (Or.inl rfl) hc hn hb;have ct:=h.c0;have htl:tr < w.heap.size:=lt_of_cell ct;have H1:Hid (TreeAt (w.alloc (.cells #[.int .i64 0,.int .i64 0] 116)) tr T):=hT1;have HO1:Hid (Only [] w (w.alloc (.cells #[.int .i64 0,.int .i64 0] 116))):=hO1;have hpw:∀ q,T.p.a=some q→q < w.heap.size:=fun q hq=>h.tab.plt hq;have htw:=h.tab.tlt
 have HNO:Hid (w.heap.size∉T.t::T.p.a.toList):=show w.heap.size∉T.t::T.p.a.toList from (fun hm=>by rcases List.mem_cons.1 hm with e | e;omega;have:=hpw w.heap.size (by simpa using e);omega)
 have H0:Hid (TreeAt w tr T):=h;clear h hT1 hO1 hn hb hc hpw
 go_enter Tryz.func56,Tryz.ntmps56
 go_wp2_with (go_at_call 87;go_must (refine hadd.mono ?_);rintro e w2 ⟨rfl,p',b,hT2,hr2,hb2⟩;have HT2:Hid (TreeAt w2 tr { T with p:=p',nd:=setN T.nd i (some (newNod b 1)) }):=H1.out.added hi hT2 hr2 hb2;have HR2:Hid (Roomed (w.alloc (.cells #[.int .i64 0,.int .i64 0] 116)) w2 T.t T.p p' i):=hr2;have HBB:Hid (((w.alloc (.cells #[.int .i64 0,.int .i64 0] 116))).heap.size≤b):=hb2;have HB2:Hid (w.heap.size≤b):=(show w.heap.size≤b from Nat.le_trans HO1.out.size hb2);have hh:=heap_alloc_last w (.cells #[.int .i64 0,.int .i64 0] 116);have r0:=(hr2.2.1.cell (p:=⟨w.heap.size,0,none⟩) (by simp) HNO.out).trans (cell_of_row _ _ 0 _ _ _ hh);have r1:=(hr2.2.1.cell (p:=⟨w.heap.size,1,none⟩) (by simp) HNO.out).trans (cell_of_row _ _ 1 _ _ _ hh);have f0:∀ o,w2.frozen? ⟨w.heap.size,o,none⟩=false:=(fun o=>(hr2.2.1.frozen (p:=⟨w.heap.size,o,none⟩) (by simp) HNO.out).trans (frozen_of_row _ _ _ _ _ hh));have hl0:=lt_of_cell r0;clear hT2 hr2 hb2 hadd hh)
 have hB:¬ FootT tr { T with p:=p',nd:=setN T.nd i (some (newNod b 1)) } w.heap.size:=fun hk=>by
  rcases foot_tree_added HR2.out HBB.out hk with h1 | h1
  · have:=H0.out.foot_lt _ h1
    omega
  · have:w.heap.size+1≤w.heap.size:=by simpa using h1
    omega
 have oB:Only [w.heap.size] w2 ((w2.setCell ⟨w.heap.size,0,none⟩ (.int .i64 i)).setCell ⟨w.heap.size,1,none⟩ (.int .i64 (T.g i:Nat))):=((Only.refl [w.heap.size] w2).setCell (Or.inl (by simp)) _).setCell (Or.inl (by simp)) _;refine bodyPost_ret (v := .tuple #[.agg #[.int .i64 i,.int .i64 (T.g i:Nat)],.nilIface]) (by simp [results,Tryz.results56,go_sem,r0,r1,hl0]) rfl ⟨rfl,p',b,(HT2.out.kept oB (fun k hk hm=>hB (by simp at hm;rw [← hm];exact hk))).only ((Only.refl [] _).alloc _),?_,HB2.out,HR2.out.1,roomed_a HR2.out HO1.out.size⟩;exact (((HO1.out.mono (L':=T.t::T.p.a.toList) (fun _ hk=>by cases hk)).trans HR2.out.2.1 (fun _ hk=>Or.inl hk)).trans oB (fun k hk=>Or.inr (by simp at hk;omega))).alloc _
theorem foot_tree_dir {tr i b k B:Nat}{T:Tr}{p':Row}(hk:FootT tr { T with p:=p',nd:=setN T.nd i (some { newNod b 2 with Z:=0,L:=2 }),ds:=setN T.ds i (some ⟨B,[]⟩) } k):FootT tr { T with p:=p',nd:=setN T.nd i (some (newNod b 2)) } k∨k=B:=by
 rcases hk with h | h | h | ⟨j,d,hd,rfl⟩ | h
 · exact Or.inl (Or.inl h)
 · exact Or.inl (Or.inr (Or.inl h))
 · exact Or.inl (Or.inr (Or.inr (Or.inl h)))
 · by_cases e:j=i
   · subst e
     have hd':setN T.ds j (some (⟨B,[]⟩:DirM)) j=some d:=hd;rw [setN_same] at hd'
     cases hd'
     exact Or.inr rfl
   · have hd':setN T.ds i (some (⟨B,[]⟩:DirM)) j=some d:=hd
     rw [setN_other _ _ e] at hd';exact Or.inl (Or.inr (Or.inr (Or.inr (Or.inl ⟨j,d,hd',rfl⟩))))
 · refine Or.inl (Or.inr (Or.inr (Or.inr (Or.inr ?_))))
   rcases h with h | h | ⟨j,m,hj,hm⟩
   · exact Or.inl h
   · exact Or.inr (Or.inl h)
   · by_cases e:j=i
     · subst e
       have hj':setN T.nd j (some ({ newNod b 2 with Z:=0,L:=2 }:Nod)) j=some m:=hj;rw [setN_same] at hj'
       cases hj'
       exact .node (setN_same _ _ _) hm
     · have hj':setN T.nd i (some ({ newNod b 2 with Z:=0,L:=2 }:Nod)) j=some m:=hj
       rw [setN_other _ _ e] at hj';exact .node ((setN_other _ _ e).trans hj') hm
theorem add_dir (w:World)(tr:Nat)(T:Tr)(i:Nat)(h:TreeAt w tr T)(hi:i < 1000)(hc:countTo T.nd T.p.N < T.most)(hn:T.nd i=none)(hd0:T.ds i=none)(hb:∀ j,j < i→(T.nd j).isSome=true):
  Calls Tryz.prog 56 #[.pointer (some ⟨tr,0,none⟩),.int .i64 2] w fun e w'=>e = .returned (.tuple #[.agg #[.int .i64 i,.int .i64 (T.g i:Nat)],.nilIface])∧∃ p' b B,TreeAt w' tr { T with p:=p',nd:=setN T.nd i (some { newNod b 2 with Z:=0,L:=2 }),ds:=setN T.ds i (some ⟨B,[]⟩) }∧Only (T.db::T.t::T.p.a.toList) w w'∧w.heap.size≤b∧w.heap.size≤B∧p'.N=max T.p.N (i+1)∧∀ k,p'.a=some k→T.p.a=some k∨w.heap.size≤k:=by
 have hO1:Only [] w (w.alloc (.cells #[.int .i64 0,.int .i64 0] 116)):=(Only.refl [] w).alloc _;have hT1:=h.only hO1;have hadd:=tadd_ok (w.alloc (.cells #[.int .i64 0,.int .i64 0] 116)) T.t T.p T.most i T.g T.nd 2 hT1.tab h.small.N (Or.inr rfl) hc hn hb;have ct:=h.c0;have htl:tr < w.heap.size:=lt_of_cell ct;have H1:Hid (TreeAt (w.alloc (.cells #[.int .i64 0,.int .i64 0] 116)) tr T):=hT1;have HO1:Hid (Only [] w (w.alloc (.cells #[.int .i64 0,.int .i64 0] 116))):=hO1;have hpw:∀ q,T.p.a=some q→q < w.heap.size:=fun q hq=>h.tab.plt hq;have htw:=h.tab.tlt;have hdw:T.db < w.heap.size:=h.foot_lt _ (Or.inr (Or.inl rfl))
 have HNO:Hid (w.heap.size∉T.t::T.p.a.toList):=show w.heap.size∉T.t::T.p.a.toList from (fun hm=>by rcases List.mem_cons.1 hm with e | e;omega;have:=hpw w.heap.size (by simpa using e);omega)
 have H0:Hid (TreeAt w tr T):=h;have HD0:Hid (T.ds i=none):=hd0;clear h hT1 hO1 hn hb hc hpw hd0
 go_enter Tryz.func56,Tryz.ntmps56
 go_wp2_with (first
  | (go_at_call 87;go_must (refine hadd.mono ?_);rintro e w2 ⟨rfl,p',b,hT2,hr2,hb2⟩;have HT2:Hid (TreeAt w2 tr { T with p:=p',nd:=setN T.nd i (some (newNod b 2)) }):=H1.out.added hi hT2 hr2 hb2;have HR2:Hid (Roomed (w.alloc (.cells #[.int .i64 0,.int .i64 0] 116)) w2 T.t T.p p' i):=hr2;have HBB:Hid (((w.alloc (.cells #[.int .i64 0,.int .i64 0] 116))).heap.size≤b):=hb2;have HBL:Hid (b < w2.heap.size):=(show b < w2.heap.size from lt_of_cell (hT2.node i (newNod b 2) (setN_same _ _ _)).c0);have hh:=heap_alloc_last w (.cells #[.int .i64 0,.int .i64 0] 116);have r0:=(hr2.2.1.cell (p:=⟨w.heap.size,0,none⟩) (by simp) HNO.out).trans (cell_of_row _ _ 0 _ _ _ hh);have r1:=(hr2.2.1.cell (p:=⟨w.heap.size,1,none⟩) (by simp) HNO.out).trans (cell_of_row _ _ 1 _ _ _ hh);have f0:∀ o,w2.frozen? ⟨w.heap.size,o,none⟩=false:=(fun o=>(hr2.2.1.frozen (p:=⟨w.heap.size,o,none⟩) (by simp) HNO.out).trans (frozen_of_row _ _ _ _ _ hh));have hl0:=lt_of_cell r0;have hopen:Calls Tryz.prog 88 #[.pointer (some ⟨tr,0,none⟩),.agg #[.int .i64 i,.int .i64 (T.g i:Nat)]] (w2.alloc (.cells #[.int .i64 i,.int .i64 (T.g i:Nat)] 116)) fun e w'=>e = .returned (.tuple #[])∧∃ B,TreeAt w' tr { Tr.opened { T with p:=p',nd:=setN T.nd i (some (newNod b 2)) } i B with nd:=setN (setN T.nd i (some (newNod b 2))) i (some { newNod b 2 with Z:=0,L:=2 }) }∧Only [b,T.db] (w2.alloc (.cells #[.int .i64 i,.int .i64 (T.g i:Nat)] 116)) w'∧(w2.alloc (.cells #[.int .i64 i,.int .i64 (T.g i:Nat)] 116)).heap.size≤B:=open_ok (w2.alloc (.cells #[.int .i64 i,.int .i64 (T.g i:Nat)] 116)) tr { T with p:=p',nd:=setN T.nd i (some (newNod b 2)) } i (newNod b 2) (HT2.out.only ((Only.refl [] _).alloc _)) (setN_same _ _ _) rfl HD0.out;clear hT2 hr2 hb2 hadd hh)
  | (go_at_call 88;go_must (refine hopen.mono ?_);rintro e w4 ⟨rfl,B,hT4,ho4,hB4⟩;rw [setN_again] at hT4;have HT4:Hid (TreeAt w4 tr { T with p:=p',nd:=setN T.nd i (some { newNod b 2 with Z:=0,L:=2 }),ds:=setN T.ds i (some ⟨B,[]⟩) }):=hT4;have HO4:Hid (Only [b,T.db] (w2.alloc (.cells #[.int .i64 i,.int .i64 (T.g i:Nat)] 116)) w4):=ho4;have HB4:Hid (w2.heap.size+1≤B):=(show w2.heap.size+1≤B from by simpa using hB4);have hbw:w.heap.size+1≤b:=(by simpa using HBB.out);have nA:w.heap.size∉[b,T.db]:=(fun hm=>by simp at hm;omega);have nI:w2.heap.size∉[b,T.db]:=(fun hm=>by have:=HBL.out;simp at hm;omega);have s0:=(ho4.cell (p:=⟨w.heap.size,0,none⟩) (by simp;omega) nA).trans ((((Only.refl [] w2).alloc (.cells #[.int .i64 i,.int .i64 (T.g i:Nat)] 116)).cell (p:=⟨w.heap.size,0,none⟩) hl0 (by simp)).trans r0);have s1:=(ho4.cell (p:=⟨w.heap.size,1,none⟩) (by simp;omega) nA).trans ((((Only.refl [] w2).alloc (.cells #[.int .i64 i,.int .i64 (T.g i:Nat)] 116)).cell (p:=⟨w.heap.size,1,none⟩) hl0 (by simp)).trans r1);have g0:∀ o,w4.frozen? ⟨w.heap.size,o,none⟩=false:=(fun o=>(ho4.frozen (p:=⟨w.heap.size,o,none⟩) (by simp;omega) nA).trans ((((Only.refl [] w2).alloc (.cells #[.int .i64 i,.int .i64 (T.g i:Nat)] 116)).frozen (p:=⟨w.heap.size,o,none⟩) hl0 (by simp)).trans (f0 o)));have hk:=heap_alloc_last w2 (.cells #[.int .i64 i,.int .i64 (T.g i:Nat)] 116);have t0:=(ho4.cell (p:=⟨w2.heap.size,0,none⟩) (by simp) nI).trans (cell_of_row _ _ 0 _ _ _ hk);have t1:=(ho4.cell (p:=⟨w2.heap.size,1,none⟩) (by simp) nI).trans (cell_of_row _ _ 1 _ _ _ hk);have hl4:=lt_of_cell s0;clear hT4 ho4 hB4 hk nA nI hopen r0 r1 f0)
  | go_in)
 have hB:¬ FootT tr { T with p:=p',nd:=setN T.nd i (some { newNod b 2 with Z:=0,L:=2 }),ds:=setN T.ds i (some ⟨B,[]⟩) } w.heap.size:=fun hk=>by
  rcases foot_tree_dir hk with hk | hk
  · rcases foot_tree_added HR2.out HBB.out hk with h1 | h1
    · have:=H0.out.foot_lt _ h1
      omega
    · have:w.heap.size+1≤w.heap.size:=by simpa using h1
      omega
  · have:=HB4.out
    omega
 have oB:Only [w.heap.size] w4 ((w4.setCell ⟨w.heap.size,0,none⟩ (.int .i64 i)).setCell ⟨w.heap.size,1,none⟩ (.int .i64 (T.g i:Nat))):=((Only.refl [w.heap.size] w4).setCell (Or.inl (by simp)) _).setCell (Or.inl (by simp)) _
 have oA:Only (T.db::T.t::T.p.a.toList) w w4:=(((HO1.out.mono (L':=T.db::T.t::T.p.a.toList) (fun _ hk=>by cases hk)).trans HR2.out.2.1 (fun _ hk=>Or.inl (List.mem_cons_of_mem _ hk))).alloc _).trans HO4.out (fun k hk=>by
  simp only [List.mem_cons,List.not_mem_nil,or_false] at hk;rcases hk with rfl | rfl
  · exact Or.inr (by omega)
  · exact Or.inl (List.mem_cons_self ..))
 refine bodyPost_ret (v := .tuple #[.agg #[.int .i64 i,.int .i64 (T.g i:Nat)],.nilIface]) (by simp [results,Tryz.results56,go_sem,s0,s1]) rfl ⟨rfl,p',b,B,HT4.out.kept oB (fun k hk hm=>hB (by simp at hm;rw [← hm];exact hk)),oA.trans oB (fun k hk=>Or.inr (by simp at hk;omega)),by omega,by have:=HB4.out;omega,HR2.out.1,roomed_a HR2.out HO1.out.size⟩
def Tr.bare (t:Nat)(p:Row)(most:Nat)(g:Nat→Nat)(nd:Nat→Option Nod)(db pb:Nat):Tr:=⟨t,p,most,g,nd,db,fun _=>none,pb,fun _=>0⟩
theorem over_ok (w:World)(t:Nat)(p:Row)(most:Nat)(g:Nat→Nat)(nd:Nat→Option Nod)(h:TabAt w t p most g nd)(hN:p.N≤1000)(hg:∀ i,g i≤5000000000000000000):
   Calls Tryz.prog 55 #[.pointer (some ⟨t,0,none⟩)] w fun e w'=>∃ tr db pb,e = .returned (.pointer (some ⟨tr,0,none⟩))∧TreeAt w' tr (Tr.bare t p most g nd db pb)∧Only [] w w'∧w.heap.size≤tr∧w.heap.size≤db∧w.heap.size≤pb:=by
 have hm1:=run_makeMap (P:=Tryz.prog) 200 w;have hm2:=run_makeMap (P:=Tryz.prog) 201 (w.alloc (.map #[] 0));have H:Hid (TabAt w t p most g nd):=h;clear h
 go_enter Tryz.func55,Tryz.ntmps55
 go_wp2
 go_ret
 have ho:Only [] w (((w.alloc (.map #[] 0)).alloc (.map #[] 0)).alloc (.cells #[.pointer (some ⟨t,0,none⟩),.map (some w.heap.size),.map (some (w.heap.size+1))] 203)):=(((Only.refl [] w).alloc _).alloc _).alloc _;refine ⟨w.heap.size+1+1,w.heap.size,w.heap.size+1,rfl,?_,ho,by omega,by omega,by omega⟩;have hh:=heap_alloc_last ((w.alloc (.map #[] 0)).alloc (.map #[] 0)) (.cells #[.pointer (some ⟨t,0,none⟩),.map (some w.heap.size),.map (some (w.heap.size+1))] 203);simp only [World.size_alloc] at hh
 have hno:∀ k,w.heap.size≤k→¬ InFoot t p most nd k:=fun k hk hf=>by have:=H.out.foot_lt k hf;omega
 have hd:(((w.alloc (.map #[] 0)).alloc (.map #[] 0)).alloc (.cells #[.pointer (some ⟨t,0,none⟩),.map (some w.heap.size),.map (some (w.heap.size+1))] 203)).ownsMap Tryz.prog 116 mapElem w.heap.size 0 (.map []:DataW Unit):=((World.ownsMap_made (H:=Unit) w Tryz.prog 116 mapElem).alloc _).alloc _
 have hp:(((w.alloc (.map #[] 0)).alloc (.map #[] 0)).alloc (.cells #[.pointer (some ⟨t,0,none⟩),.map (some w.heap.size),.map (some (w.heap.size+1))] 203)).ownsMap Tryz.prog 116 (plainElem Tryz.prog 3) (w.heap.size+1) 0 (.map []:DataW Unit):=by
   have:=World.ownsMap_made (H:=Unit) (w.alloc (.map #[] 0)) Tryz.prog 116 (plainElem Tryz.prog 3);rw [World.size_alloc] at this;exact this.alloc _
 refine ⟨cell_of_row _ _ 0 _ _ _ hh,cell_of_row _ _ 1 _ _ _ hh,cell_of_row _ _ 2 _ _ _ hh,H.out.kept ho (fun _ _=>by simp),⟨_,0,hd,by omega,Reads.empty.congr (fun k=>?_)⟩,(fun i d e=>by cases e),⟨_,0,hp,by omega,Reads.empty.congr (fun k=>?_)⟩,(fun i j d d' e=>by cases e),⟨hN,hg⟩,hno (w.heap.size+1+1) (by omega),hno w.heap.size (Nat.le_refl _),hno (w.heap.size+1) (by omega),(fun i d e=>by cases e),?_,(fun i d e=>by cases e),(fun i e=>by cases e)⟩
 · show (if k.2=g k.1 then (none:Option DirM).map (·.b) else none)=none
   split<;>rfl
 · simp [Tr.pinsF,Tr.bare]
 · show w.heap.size≠w.heap.size+1
   omega
def Tr.fresh (t:Nat)(p:Row)(most b db B pb:Nat):Tr:=⟨t,p,most,fun _=>0,setN (fun _=>none) 0 (some { newNod b 2 with Z:=0,L:=2 }),db,setN (fun _=>none) 0 (some ⟨B,[]⟩),pb,fun _=>0⟩
theorem tree_new (w:World)(most:Nat)(h1:1≤most)(h2:most≤300):
  Calls Tryz.prog 20 #[.int .i64 most] w fun e w'=>∃ tr t p b db B pb,e = .returned (.tuple #[.pointer (some ⟨tr,0,none⟩),.nilIface])∧TreeAt w' tr (Tr.fresh t p most b db B pb)∧Only [] w w'∧p.N=1∧w.heap.size≤tr∧w.heap.size≤t∧w.heap.size≤b∧w.heap.size≤db∧w.heap.size≤B∧w.heap.size≤pb∧∀ k,p.a=some k→w.heap.size≤k:=by
 have hnew:=tnew w most h1 h2
 go_enter Tryz.func20,Tryz.ntmps20
 go_wp2_with (first
  | (go_at_call 54;go_must (refine hnew.mono ?_);rintro e w1 ⟨t,rfl,hT1,ho1,ht⟩;have hov:=over_ok w1 t noRow most (fun _=>0) (fun _=>none) hT1 (by decide) (fun _=>by omega);have HO1:Hid (Only [] w w1):=ho1;have HTT:Hid (w.heap.size≤t):=ht;clear hT1 ho1 hnew ht)
  | (go_at_call 55;go_must (refine hov.mono ?_);rintro e w2 ⟨tr,db,pb,rfl,hT2,ho2,htr,hdb,hpb⟩;have hadd:=add_dir w2 tr (Tr.bare t noRow most (fun _=>0) (fun _=>none) db pb) 0 hT2 (by decide) (show countTo (fun _=>none) 0 < most from h1) rfl rfl (fun j hj=>by omega);have HO2:Hid (Only [] w w2):=HO1.out.trans ho2 (fun _ hk=>by cases hk);have HS:Hid (w.heap.size≤tr∧w.heap.size≤db∧w.heap.size≤pb):=(show w.heap.size≤tr∧w.heap.size≤db∧w.heap.size≤pb from by have:=HO1.out.size;omega);clear hT2 ho2 hov htr hdb hpb)
  | (go_at_call 56;go_must (refine hadd.mono ?_);rintro e w3 ⟨rfl,p,b,B,hT3,ho3,hb3,hB3,hN3,hA3⟩;clear hadd)
  | go_in)
 have ho:Only [] w w3:=HO2.out.trans ho3 (fun k hk=>Or.inr (by
  have h1:=HS.out;have h2:=HTT.out;rcases List.mem_cons.1 hk with e | e
  · rw [e];exact h1.2.1
  · rcases List.mem_cons.1 e with e | e
    · rw [e];exact h2
    · cases e))
 have hs2:=HO2.out.size;refine bodyPost_ret (v := .tuple #[.pointer (some ⟨tr,0,none⟩),.nilIface]) (by simp [results,Tryz.results20,go_sem]) rfl ?_;exact ⟨tr,t,p,b,db,B,pb,rfl,TreeAt.only (T:=Tr.fresh t p most b db B pb) hT3 ((Only.refl [] w3).alloc _),ho.alloc _,by rw [hN3];rfl,HS.out.1,HTT.out,by omega,HS.out.2.1,by omega,HS.out.2.2,fun k hk=>(hA3 k hk).elim (fun e=>by cases e) (fun e=>by omega)⟩
def firstV:List (Option Addr)→Option Addr
 | []=>none
 | some a::_=>some a
 | none::r=>firstV r
def errO:Option Addr→Value
 | none => .nilIface
 | some a=>errV a
theorem firstV_drop {l:List (Option Addr)}(j:Nat)(h:∀ q,q < j→l[q]?=some none):firstV l=firstV (l.drop j):=by
 induction j generalizing l with
 | zero=>rfl
 | succ j ih =>
  cases l with
  | nil=>rfl
  | cons x r =>
   have h0:=h 0 (by omega);simp at h0;subst h0;exact ih (fun q hq=>by have:=h (q+1) (by omega);simpa using this)
theorem firstOf_any (w:World)(B len cap:Nat)(l:List (Option Addr))(hl:l.length=len)(hlen:len≤10)(hc:∀ j o,l[j]?=some o→w.cell? ⟨B,j,none⟩=some (errO o)):
  Calls Tryz.prog 358 #[.slice (some ⟨B,0,none⟩) len cap] w fun e w'=>e = .returned (errO (firstV l))∧w=w':=by
 have HC:Hid (∀ j o,l[j]?=some o→w.cell? ⟨B,j,none⟩=some (errO o)):=hc;clear hc
 go_enter Tryz.func358,Tryz.ntmps358
 go_wp2
 go_loopw [4,7] (fun _ k wr=>∃ j:Nat,k = .int .i64 j∧j≤len∧(∀ q,q < j→l[q]?=some none)∧w=wr) (fun _ k _=>len - (intOf k).toNat)
 case atStart=>exact ⟨0,rfl,Nat.zero_le _,(fun q hq=>by omega),rfl⟩
 case round =>
  obtain ⟨j,rfl,hj,hall,rfl⟩:=hrel;have HA:Hid (∀ q,q < j→l[q]?=some none):=hall;clear hall
  by_cases hlt:j < len
  · obtain ⟨o,ho⟩:∃ o,l[j]?=some o:=⟨_,List.getElem?_eq_getElem (by omega)⟩
    have c0:=HC.out j o ho;have HO:Hid (l[j]?=some o):=ho;clear ho
    cases o with
    | none =>
     unfold errO at c0
     go_wp2
     go_roundw
     case rel=>exact ⟨j+1,by go_num,by omega,(fun q hq=>by
        rcases Nat.lt_or_ge q j with h1 | h1
        · exact HA.out q h1
        · obtain rfl:q=j:=by omega
          exact HO.out),trivial⟩
     case measure=>simp [intOf];omega
    | some a =>
     have hf:Hid (firstV l=some a):=show firstV l=some a from by
      have hd:l.drop j=some a::l.drop (j+1):=by
       have hjl:j < l.length:=by omega
       rw [List.drop_eq_getElem_cons hjl];have:=HO.out;rw [List.getElem?_eq_getElem hjl] at this;rw [Option.some.inj this]
      rw [firstV_drop j HA.out,hd];rfl
     unfold errO errV at c0
     go_wp2
     go_ret
     exact ⟨by rw [hf.out];rfl,rfl⟩
  · obtain rfl:j=len:=by omega
    have hf:Hid (firstV l=none):=show firstV l=none from by
     rw [firstV_drop j HA.out,List.drop_eq_nil_of_le (by omega)];rfl
    go_wp2
    go_ret
    exact ⟨by rw [hf.out];rfl,rfl⟩
theorem look_name {w:World}{d:DirM}(h:DirAt w d)(s:ByteArray)(hs:s.size≤1000):∃ v,(Instr.lookup 268 (.map (some d.b)) (.string s) true).run Tryz.prog w = .ok (.tuple #[v,.bool (findE d.l s.data.toList).isSome]) w∧v=(match findE d.l s.data.toList with | some e=>handV e.i e.c | none=>handV 0 0):=by
 obtain ⟨v,ps,hr,hv⟩:=World.ownsMap.look_ok h lawS undNames (zeroHand _) (zd:=entV 0 0) (zp:=[]) rfl (WideMaps.keyOf_string_mk Tryz.underlying9 (s:=s) (by unfold maxLen;omega));rw [has_entD] at hr;rw [at_entD] at hv;refine ⟨v,hr,?_⟩
 cases hf:findE d.l s.data.toList with
 | none=>rw [hf] at hv;exact handElem_inv hv
 | some e=>rw [hf] at hv;exact handElem_inv hv
section
variable (w:World)(tr:Nat)(T:Tr)(a:Nat)(d:DirM)(s:ByteArray)
theorem room_free (h:TreeAt w tr T)(hd:T.ds a=some d)(hs:s.size≤1000)(hf:findE d.l s.data.toList=none)(hl:d.l.length < 60):
  Calls Tryz.prog 359 #[.pointer (some ⟨tr,0,none⟩),.agg #[.int .i64 a,.int .i64 (T.g a:Nat)],.string s] w fun r w'=>r = .returned .nilIface∧Only [] w w':=by
 have hal:=h.dlt a d hd;have ct:=h.c1;have htl:tr < w.heap.size:=lt_of_cell ct;have hT1:TreeAt ((w.alloc (.cells #[.int .i64 a,.int .i64 (T.g a:Nat)] 116)).drew) tr T:=h.only ((Only.refl [] w).alloc _).drew;have hT2:TreeAt (((w.alloc (.cells #[.int .i64 a,.int .i64 (T.g a:Nat)] 116)).alloc (.cells #[.int .i64 0,.int .i64 0] 116)).drew) tr T:=h.only (((Only.refl [] w).alloc _).alloc _).drew;have l1:=look_dir hT1 hal hd;have l2:=look_dir hT2 hal hd;obtain ⟨v1,n1,hv1⟩:=look_name (hT1.dir a d hd) s hs;obtain ⟨v2,n2,hv2⟩:=look_name (hT2.dir a d hd) s hs;rw [hf] at n1 n2 hv1 hv2;subst hv1 hv2;unfold handV at n1 n2;simp only [Option.isSome_none] at n1 n2;have l3:=look_dir (hT2.only (Only.refl [] _).drew) hal hd;have l4:=len_dir ((hT2.only (Only.refl [] _).drew).dir a d hd) 3;clear hT1 hT2 h hf
 go_enter Tryz.func359,Tryz.ntmps359
 go_wp2
 go_region
 all_goals go_wp2
 all_goals go_region
 all_goals go_wp2
 all_goals go_ret
 all_goals exact ⟨rfl,by first | exact (((Only.refl [] w).alloc _).alloc _).drew | exact ((((Only.refl [] w).alloc _).alloc _).drew).drew⟩
end
end
end Go.Proofs.YtodldddakjmonaaGreatDoor
