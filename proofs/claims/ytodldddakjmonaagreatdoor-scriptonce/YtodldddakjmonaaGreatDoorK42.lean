import Derived.Test.YtodldddakjmonaaGreatDoorK41
set_option maxRecDepth 100000
set_option maxHeartbeats 8000000
namespace Go.Proofs.YtodldddakjmonaaGreatDoor
section
open Go Go.RowKit Go.Deep Go.Maps
structure Srv3 (w:World)(s tr t:Nat)(p:Row)(b db B pb lo hi:Nat):Prop where
 cell:w.cell? ⟨s,0,none⟩=some (.pointer (some ⟨tr,0,none⟩))
 tree:TreeAt w tr (Tr.fresh t p 300 b db B pb)
 one:p.N=1
 foot:∀ k,FootT tr (Tr.fresh t p 300 b db B pb) k→k < s
 lt:s < hi
 le:hi≤w.heap.size
 low:∀ k∈B::b::t::p.a.toList,lo≤k
theorem serveNew3 (w:World):
  Calls Tryz.prog 13 #[.int .i64 300] w fun e w'=>∃ s tr t p b db B pb hi,e = .returned (.tuple #[.pointer (some ⟨s,0,none⟩),.nilIface])∧Srv3 w' s tr t p b db B pb w.heap.size hi∧Only [] w w':=by
 have HT:Hid (Calls Tryz.prog 20 #[.int .i64 300] w fun e w'=>∃ tr,e = .returned (.tuple #[.pointer (some ⟨tr,0,none⟩),.nilIface])∧(∃ t p b db B pb,TreeAt w' tr (Tr.fresh t p 300 b db B pb)∧p.N=1∧∀ k∈B::b::t::p.a.toList,w.heap.size≤k)∧Only [] w w'):=(tree_new w 300 (by decide) (by decide)).mono fun e w' q=>by
  obtain ⟨tr,t,p,b,db,B,pb,he,h1,ho,h2,_,h4,h5,_,h7,_,h9⟩:=q;refine ⟨tr,he,⟨t,p,b,db,B,pb,h1,h2,fun k hk=>?_⟩,ho⟩;rcases List.mem_cons.1 hk with rfl | hk
  · exact h7
  · rcases List.mem_cons.1 hk with rfl | hk
    · exact h5
    · rcases List.mem_cons.1 hk with rfl | hk
      · exact h4
      · exact h9 k (by simpa using hk)
 go_enter Tryz.func13,Tryz.ntmps13
 go_wp2_with (first
  | (go_at_call 20;go_must (refine HT.out.mono ?_);rintro e w1 ⟨tr,rfl,ht,ho⟩;have H1:Hid (∃ t p b db B pb,TreeAt w1 tr (Tr.fresh t p 300 b db B pb)∧p.N=1∧∀ k∈B::b::t::p.a.toList,w.heap.size≤k):=ht;have HO1:Hid (Only [] w w1):=ho;clear ht ho)
  | (go_at_call 21;go_must (refine (serve_over _ _).mono ?_);rintro e w2 ⟨s,rfl,hc2,hb2⟩;have HB2:Hid (Below w1.heap.size w1 w2):=hb2;have HC2:Hid (w2.cell? ⟨s,0,none⟩=some (.pointer (some ⟨tr,0,none⟩))∧w1.heap.size≤s∧s+1≤w2.heap.size):=hc2;clear hb2 hc2))
 go_ret2
 obtain ⟨t,p,b,db,B,pb,hT,hN,hlo⟩:=H1.out;have o2:Only [] w1 w2:=Only.of_below HB2.out _;obtain ⟨c1,c2,c3⟩:=HC2.out;exact ⟨s,tr,t,p,b,db,B,pb,s+1,rfl,⟨c1,hT.only o2,hN,fun k hk=>by have:=hT.foot_lt k hk;omega,by omega,c3,hlo⟩,HO1.out.trans o2 (fun _ hk=>by cases hk)⟩
theorem okN_bS:OkN ⟨#[98]⟩:=⟨by decide,by decide,by rw [Lib.toList_data];rfl,by rw [Lib.toList_data];rfl,by decide⟩
theorem okN_cS:OkN ⟨#[99]⟩:=⟨by decide,by decide,by rw [Lib.toList_data];rfl,by rw [Lib.toList_data];rfl,by decide⟩
theorem newPlayer_ok (A:Nat→Addr)(w:World)(m:Int)(hE:Errs w A)(hm:w.cell? ⟨8,0,none⟩=some (.int .i64 m)):
  Calls Tryz.prog 9 #[] w fun e w'=>∃ k:ScK,k.Ok∧e = .returned (.tuple #[.pointer (some ⟨k.n,0,none⟩),.nilIface])∧ScS A k w' (.slice none 0 0) [] false 0∧k.w0=w∧Only [] w w':=by
 have hmm:=@run_makeMap Tryz.prog;have HE:Hid (∀ W,Only [] w W→Errs W A):=fun W ho=>hE.below (ho.to_below (Nat.le_refl _) (fun _ h=>by cases h)) (Nat.le_refl _)
 have HN:Hid (Calls Tryz.prog 13 #[.int .i64 300] w fun e w'=>∃ s,e = .returned (.tuple #[.pointer (some ⟨s,0,none⟩),.nilIface])∧(∃ tr t p b db B pb hi,Srv3 w' s tr t p b db B pb w.heap.size hi)∧Only [] w w'):=(serveNew3 w).mono fun e w' q=>by
  obtain ⟨s,tr,t,p,b,db,B,pb,hi,he,h,ho⟩:=q;exact ⟨s,he,⟨tr,t,p,b,db,B,pb,hi,h⟩,ho⟩
 have HL:Hid (∀ s W,Only [] w W→Calls Tryz.prog 14 #[.string srvN,.pointer (some ⟨s,0,none⟩),.int .i64 20] W fun e w'=>∃ l,e = .returned (.tuple #[.pointer (some ⟨l,0,none⟩),.nilIface])∧(∃ c b,LsnAt w' l c srvN s∧(∀ base,CaAt w' base c b (.slice none 0 0) 20 [])∧W.heap.size≤l∧W.heap.size≤c∧W.heap.size≤b)∧Only [] W w'):=fun s W ho=>(newListener_ok A srvN s 20 W (HE.out W ho) okN_srv (by decide) (by decide)).mono fun e w' q=>by
  obtain ⟨l,c,b,he,h1,h2,h3,h4,h5,hb⟩:=q;exact ⟨l,he,⟨c,b,h1,h2,h3,h4,h5⟩,Only.of_below hb _⟩
 have HC:Hid (∀ nm,OkN nm→∀ W,Only [] w W→Calls Tryz.prog 15 #[.string nm,.string srvN] W fun e w'=>∃ c,e = .returned (.tuple #[.pointer (some ⟨c,0,none⟩),.nilIface])∧(ClrAt w' c nm srvN 0 ⟨#[]⟩∧W.heap.size≤c)∧Only [] W w'):=fun nm hn W ho=>(newCaller_ok A _ _ W (HE.out W ho) hn okN_srv).mono fun e w' q=>by
  obtain ⟨c,he,h1,h2,hb⟩:=q;exact ⟨c,he,⟨h1,h2⟩,Only.of_below hb _⟩
 have HM:Hid (Errs w A∧w.cell? ⟨8,0,none⟩=some (.int .i64 m)):=⟨hE,hm⟩;clear hE hm
 go_enter Tryz.func9,Tryz.ntmps9
 go_wp2_with (first
  | (go_at_call 13;go_must (refine HN.out.mono ?_);rintro e w1 ⟨s,rfl,hs,ho⟩;have H1:Hid (∃ tr t p b db B pb hi,Srv3 w1 s tr t p b db B pb w.heap.size hi):=hs;have O1:Hid (Only [] w w1):=ho;clear hs ho)
  | (go_at_call 14;go_must (refine (HL.out _ _ O1.out).mono ?_);rintro e w2 ⟨l,rfl,hl,ho⟩;have H2:Hid (∃ c b,LsnAt w2 l c srvN s∧(∀ base,CaAt w2 base c b (.slice none 0 0) 20 [])∧w1.heap.size≤l∧w1.heap.size≤c∧w1.heap.size≤b):=hl;have O12:Hid (Only [] w1 w2):=ho;clear hl ho))
 have hpl:BlkC (((w2.alloc (.map #[] 0)).alloc (.cells #[.slice none 0 0,.pointer (some ⟨s,0,none⟩),.pointer (some ⟨l,0,none⟩),.map (some w2.heap.size)] 49)).alloc (.cells #[.string ⟨#[97]⟩,.string ⟨#[98]⟩,.string ⟨#[99]⟩] 9)) (w2.heap.size+1) #[.slice none 0 0,.pointer (some ⟨s,0,none⟩),.pointer (some ⟨l,0,none⟩),.map (some w2.heap.size)] 49:=by
  have h:=(BlkC.new (w2.alloc (.map #[] 0)) 49 #[.slice none 0 0,.pointer (some ⟨s,0,none⟩),.pointer (some ⟨l,0,none⟩),.map (some w2.heap.size)]).only ((Only.refl [] _).alloc (.cells #[.string ⟨#[97]⟩,.string ⟨#[98]⟩,.string ⟨#[99]⟩] 9)) (by simp);rw [World.size_alloc] at h;exact h
 have hnm:BlkC (((w2.alloc (.map #[] 0)).alloc (.cells #[.slice none 0 0,.pointer (some ⟨s,0,none⟩),.pointer (some ⟨l,0,none⟩),.map (some w2.heap.size)] 49)).alloc (.cells #[.string ⟨#[97]⟩,.string ⟨#[98]⟩,.string ⟨#[99]⟩] 9)) (w2.heap.size+1+1) #[.string ⟨#[97]⟩,.string ⟨#[98]⟩,.string ⟨#[99]⟩] 9:=by
  have h:=BlkC.new ((w2.alloc (.map #[] 0)).alloc (.cells #[.slice none 0 0,.pointer (some ⟨s,0,none⟩),.pointer (some ⟨l,0,none⟩),.map (some w2.heap.size)] 49)) 9 #[.string ⟨#[97]⟩,.string ⟨#[98]⟩,.string ⟨#[99]⟩];rw [World.size_alloc,World.size_alloc] at h;exact h
 have hmv:MapV ptrL (((w2.alloc (.map #[] 0)).alloc (.cells #[.slice none 0 0,.pointer (some ⟨s,0,none⟩),.pointer (some ⟨l,0,none⟩),.map (some w2.heap.size)] 49)).alloc (.cells #[.string ⟨#[97]⟩,.string ⟨#[98]⟩,.string ⟨#[99]⟩] 9)) w2.heap.size (fun _=>none) 0:=(MapV.new ptrL w2).only (((Only.refl [] _).alloc _).alloc _) (by simp);have ho4:Only [] w2 (((w2.alloc (.map #[] 0)).alloc (.cells #[.slice none 0 0,.pointer (some ⟨s,0,none⟩),.pointer (some ⟨l,0,none⟩),.map (some w2.heap.size)] 49)).alloc (.cells #[.string ⟨#[97]⟩,.string ⟨#[98]⟩,.string ⟨#[99]⟩] 9)):=(((Only.refl [] w2).alloc _).alloc _).alloc _
 have hz4:(((w2.alloc (.map #[] 0)).alloc (.cells #[.slice none 0 0,.pointer (some ⟨s,0,none⟩),.pointer (some ⟨l,0,none⟩),.map (some w2.heap.size)] 49)).alloc (.cells #[.string ⟨#[97]⟩,.string ⟨#[98]⟩,.string ⟨#[99]⟩] 9)).heap.size=w2.heap.size+3:=by rw [World.size_alloc,World.size_alloc,World.size_alloc]
 obtain ⟨w4,hw4⟩:∃ w4,(((w2.alloc (.map #[] 0)).alloc (.cells #[.slice none 0 0,.pointer (some ⟨s,0,none⟩),.pointer (some ⟨l,0,none⟩),.map (some w2.heap.size)] 49)).alloc (.cells #[.string ⟨#[97]⟩,.string ⟨#[98]⟩,.string ⟨#[99]⟩] 9))=w4:=⟨_,rfl⟩;rw [hw4] at hpl hnm hmv ho4 hz4 ⊢
 have HF:Hid (∀ W,Only [w2.heap.size] w4 W→(W.cell? ⟨w2.heap.size+1,3,none⟩=some (.map (some w2.heap.size))∧W.cell? ⟨w2.heap.size+1+1,0,none⟩=some (.string ⟨#[97]⟩)∧W.cell? ⟨w2.heap.size+1+1,1,none⟩=some (.string ⟨#[98]⟩)∧W.cell? ⟨w2.heap.size+1+1,2,none⟩=some (.string ⟨#[99]⟩))∧BlkC W (w2.heap.size+1+1) #[.string ⟨#[97]⟩,.string ⟨#[98]⟩,.string ⟨#[99]⟩] 9∧BlkC W (w2.heap.size+1) #[.slice none 0 0,.pointer (some ⟨s,0,none⟩),.pointer (some ⟨l,0,none⟩),.map (some w2.heap.size)] 49∧Only [] w W):=fun W hW=>by
  have hn:=hnm.only hW (by simp;omega);have hp:=hpl.only hW (by simp);exact ⟨⟨hp.cell 3,hn.cell 0,hn.cell 1,hn.cell 2⟩,hn,hp,((O1.out.trans O12.out (fun _ h=>by cases h)).trans ho4 (fun _ h=>by cases h)).trans hW (fun j hj=>by rw [List.mem_singleton.1 hj];exact Or.inr (Nat.le_trans O1.out.size O12.out.size))⟩
 have H24:Hid (Only [] w2 w4∧w4.heap.size=w2.heap.size+3):=⟨ho4,hz4⟩;have HV0:Hid (MapV ptrL w4 w2.heap.size (fun _=>none) 0∧Only [w2.heap.size] w4 w4):=⟨hmv,Only.refl _ _⟩;clear hpl hnm hmv ho4 hz4 hw4;refine wp_loop_rounds 4 ?_;rw [rounds_succ];obtain ⟨⟨n3,q0,q1,q2⟩,-,-,-⟩:=HF.out w4 HV0.out.2
 go_wp2_with (go_at_call 15;go_must (refine (HC.out ⟨#[97]⟩ okN_a w4 (HF.out w4 HV0.out.2).2.2.2).mono ?_);rintro e w5 ⟨c0,rfl,hcl,ho⟩;have HO0:Hid (Only [] w4 w5):=ho;have HL0:Hid (ClrAt w5 c0 ⟨#[97]⟩ srvN 0 ⟨#[]⟩∧w4.heap.size≤c0):=hcl;have n3':w5.cell? ⟨w2.heap.size+1,3,none⟩=some (.map (some w2.heap.size)):=(HF.out w5 (HV0.out.2.trans ho (fun _ h=>by cases h))).1.1;obtain ⟨w6,hr,hv,ho2,hz⟩:=((HV0.out.1.only ho (by simp)).only ((Only.refl [] w5).alloc (.cells #[.pointer (some ⟨c0,0,none⟩),.nilFunc] 57)) (by simp)).put (mt:=44) undClr (by omega) ⟨#[97]⟩ (by decide) [w5.heap.size] (.pointer (some ⟨w5.heap.size,0,none⟩)) rfl;have HP0:Hid (Only [w2.heap.size] (w5.alloc (.cells #[.pointer (some ⟨c0,0,none⟩),.nilFunc] 57)) w6):=ho2;have HV1:Hid (MapV ptrL w6 w2.heap.size (updV (fun _=>none) ⟨#[97]⟩ [w5.heap.size]) 1∧Only [w2.heap.size] w4 w6):=⟨hv,(HV0.out.2.trans (ho.alloc _) (fun _ h=>by cases h)).trans ho2 (fun _ h=>Or.inl h)⟩;clear hcl ho hv ho2 hz n3 q0 q1 q2)
 clear hr n3';rw [rounds_succ];obtain ⟨⟨n3,q0,q1,q2⟩,-,-,-⟩:=HF.out w6 HV1.out.2
 go_wp2_with (go_at_call 15;go_must (refine (HC.out ⟨#[98]⟩ okN_bS w6 (HF.out w6 HV1.out.2).2.2.2).mono ?_);rintro e w7 ⟨c1,rfl,hcl,ho⟩;have HO1:Hid (Only [] w6 w7):=ho;have HL1:Hid (ClrAt w7 c1 ⟨#[98]⟩ srvN 0 ⟨#[]⟩∧w6.heap.size≤c1):=hcl;have n3':w7.cell? ⟨w2.heap.size+1,3,none⟩=some (.map (some w2.heap.size)):=(HF.out w7 (HV1.out.2.trans ho (fun _ h=>by cases h))).1.1;obtain ⟨w8,hr,hv,ho2,hz⟩:=((HV1.out.1.only ho (by simp)).only ((Only.refl [] w7).alloc (.cells #[.pointer (some ⟨c1,0,none⟩),.nilFunc] 57)) (by simp)).put (mt:=44) undClr (by omega) ⟨#[98]⟩ (by decide) [w7.heap.size] (.pointer (some ⟨w7.heap.size,0,none⟩)) rfl;have HP1:Hid (Only [w2.heap.size] (w7.alloc (.cells #[.pointer (some ⟨c1,0,none⟩),.nilFunc] 57)) w8):=ho2;have HV2:Hid (MapV ptrL w8 w2.heap.size (updV (updV (fun _=>none) ⟨#[97]⟩ [w5.heap.size]) ⟨#[98]⟩ [w7.heap.size]) 2∧Only [w2.heap.size] w4 w8):=⟨hv,(HV1.out.2.trans (ho.alloc _) (fun _ h=>by cases h)).trans ho2 (fun _ h=>Or.inl h)⟩;clear hcl ho hv ho2 hz n3 q0 q1 q2)
 clear hr n3';rw [rounds_succ];obtain ⟨⟨n3,q0,q1,q2⟩,-,-,-⟩:=HF.out w8 HV2.out.2
 go_wp2_with (go_at_call 15;go_must (refine (HC.out ⟨#[99]⟩ okN_cS w8 (HF.out w8 HV2.out.2).2.2.2).mono ?_);rintro e w9 ⟨c2,rfl,hcl,ho⟩;have HO2:Hid (Only [] w8 w9):=ho;have HL2:Hid (ClrAt w9 c2 ⟨#[99]⟩ srvN 0 ⟨#[]⟩∧w8.heap.size≤c2):=hcl;have n3':w9.cell? ⟨w2.heap.size+1,3,none⟩=some (.map (some w2.heap.size)):=(HF.out w9 (HV2.out.2.trans ho (fun _ h=>by cases h))).1.1;obtain ⟨w10,hr,hv,ho2,hz⟩:=((HV2.out.1.only ho (by simp)).only ((Only.refl [] w9).alloc (.cells #[.pointer (some ⟨c2,0,none⟩),.nilFunc] 57)) (by simp)).put (mt:=44) undClr (by omega) ⟨#[99]⟩ (by decide) [w9.heap.size] (.pointer (some ⟨w9.heap.size,0,none⟩)) rfl;have HP2:Hid (Only [w2.heap.size] (w9.alloc (.cells #[.pointer (some ⟨c2,0,none⟩),.nilFunc] 57)) w10):=ho2;have HV3:Hid (MapV ptrL w10 w2.heap.size (updV (updV (updV (fun _=>none) ⟨#[97]⟩ [w5.heap.size]) ⟨#[98]⟩ [w7.heap.size]) ⟨#[99]⟩ [w9.heap.size]) 3∧Only [w2.heap.size] w4 w10):=⟨hv,(HV2.out.2.trans (ho.alloc _) (fun _ h=>by cases h)).trans ho2 (fun _ h=>Or.inl h)⟩;clear hcl ho hv ho2 hz n3 q0 q1 q2)
 clear hr n3';rw [rounds_succ]
 go_wp2
 go_ret2
 obtain ⟨tr,t,p,bb,db,B,pb,hi,hS⟩:=H1.out;obtain ⟨c,b,hL,hM,k1,k2,k3⟩:=H2.out;obtain ⟨tx,tx1,tx2,tx3⟩:=ops_text xN (by decide);obtain ⟨u,hu⟩:=reps_text 0 (Or.inl rfl);obtain ⟨hc0,lc0⟩:=HL0.out;have o12:=O12.out;obtain ⟨o24,z24⟩:=H24.out;have o4f:=HV3.out.2;have p5:Only [w2.heap.size] (w5.alloc (.cells #[.pointer (some ⟨c0,0,none⟩),.nilFunc] 57)) w10:=((((HP0.out.trans (HO1.out.alloc _) (fun _ h=>by cases h)).trans HP1.out (fun _ h=>Or.inl h)).trans (HO2.out.alloc _) (fun _ h=>by cases h)).trans HP2.out (fun _ h=>Or.inl h));have o5:Only [w2.heap.size] w5 w10:=((Only.refl _ w5).alloc _).trans p5 (fun _ h=>Or.inl h);have o2f:Only [w2.heap.size] w2 w10:=(o24.mono (fun _ h=>by cases h)).trans o4f (fun _ h=>Or.inl h);have o1f:Only [w2.heap.size] w1 w10:=(o12.mono (fun _ h=>by cases h)).trans o2f (fun _ h=>Or.inl h);obtain ⟨-,hnmf,hpl,oW⟩:=HF.out w10 o4f;have s1:=o12.size;have s4f:=o4f.size;have s5f:=p5.size;have s45:=HO0.out.size;have lc5:=hc0.cells.2.2.2.2.2;have ll:=hL.cells.2.2.2;have lcb:=hM 0;have lc:=lcb.lt;have lb:=lcb.blt;have hle:=hS.le;have hlt:=hS.lt
 have hfB:∀ j∈B::bb::t::p.a.toList,j < s:=fun j hj=>hS.foot j (by
  rcases List.mem_cons.1 hj with e | hj
  · exact foot_dir (a:=0) (d:=⟨B,[]⟩) rfl e
  · rcases List.mem_cons.1 hj with e | hj
    · rw [e];exact foot_node (i:=0) (n:={ newNod bb 2 with Z:=0,L:=2 }) rfl (Nod.b_foot _)
    · rcases List.mem_cons.1 hj with e | hj
      · rw [e];exact foot_t
      · exact foot_p (show p.a=some j by simpa using hj))
 have hlo:w.heap.size≤s:=by
  have h1:=hS.low B (by simp);have h2:=hfB B (by simp);omega
 have hsw:s < w1.heap.size:=lt_of_cell hS.cell;rw [World.size_alloc] at s5f;have no:∀ j,j≠w2.heap.size→j∉[w2.heap.size]:=fun j hj e=>hj (List.mem_singleton.1 e);refine ⟨⟨w2.heap.size+1,s,l,c,b,c0,w5.heap.size,w2.heap.size,w7.heap.size,w9.heap.size,tr,t,p,bb,db,B,pb,w.heap.size,hi,w10.heap.size,w2.heap.size+1+1,#[.string ⟨#[97]⟩,.string ⟨#[98]⟩,.string ⟨#[99]⟩],tx,u,m,w⟩,⟨?_,hS.foot,hS.low,hS.one,⟨tx2,tx3⟩,tx1,hu⟩,rfl,⟨⟨hpl,RowM.nil _ _ _,fun j hj=>by simp [Value.ownBlock] at hj⟩,by simp,HV3.out.1,hL.kept o2f (no _ (by omega)),hc0.only o5 (no _ (by omega)),(BlkC.new w5 _ _).only p5 (no _ (by omega)),(o1f.cell (p:=⟨s,0,none⟩) (lt_of_cell hS.cell) (no _ (by show s≠_;omega))).trans hS.cell,⟨(hM w10.heap.size).kept o2f (no _ (by omega)) (no _ (by omega)) (fun _ e=>by simp [Value.ownBlock] at e),hS.tree.kept o1f (fun j hj=>no _ (by have:=hS.foot j hj;omega))⟩,hnmf,⟨w,⟨HM.out.1,HM.out.2,rfl⟩,oW.to_below (Nat.le_refl _) (fun _ h=>by cases h),Nat.le_refl _⟩,Nat.le_refl _⟩,rfl,oW⟩;simp only;omega
section
variable {w:World}{n z base:Nat}
theorem cmd_make (h:CmdsAt base w n z):∃ g x y z1,(∀ W,Only [] w W→(Instr.lookup 70 (.map (some z)) (.string ⟨#[109,97,107,101]⟩) true).run Tryz.prog W = .ok (.tuple #[.agg #[.slice (some ⟨g,0,none⟩) 3 3,.func (.func 65) #[] #[ptrV y,ptrV x,ptrV z1]],.bool true]) W)∧(base≤g∧BlkC w g #[.func (.func 29) #[ptrV n] #[],.func (.func 30) #[] #[],.func (.func 31) #[] #[]] 109)∧(base≤x∧BlkC w x #[ptrV n] 32)∧(base≤y∧BlkC w y #[.func (.func 33) #[] #[]] 106)∧(base≤z1∧BlkC w z1 #[.func (.func 34) #[] #[]] 55):=by
 obtain ⟨g,x,y,u,h1,h2,h3⟩:=h _ (List.mem_of_getElem? (show (cmdE n)[0]?=some _ from rfl))
 obtain ⟨e1,e2,e3⟩:=h3;exact ⟨g,x,y,u,h1,h2.resolve_left (by simp),e1,e2,e3⟩
theorem cmd_go (h:CmdsAt base w n z):∃ g,(∀ W,Only [] w W→(Instr.lookup 70 (.map (some z)) (.string ⟨#[103,111]⟩) true).run Tryz.prog W = .ok (.tuple #[.agg #[.slice (some ⟨g,0,none⟩) 1 1,.func (.func 48) #[ptrV n] #[]],.bool true]) W)∧(base≤g∧BlkC w g #[.func (.func 37) #[] #[]] 109):=by
 obtain ⟨g,x,y,u,h1,h2,h3⟩:=h _ (List.mem_of_getElem? (show (cmdE n)[7]?=some _ from rfl))
 exact ⟨g,h1,h2.resolve_left (by simp)⟩
theorem cmd_twice (h:CmdsAt base w n z):∃ g x,(∀ W,Only [] w W→(Instr.lookup 70 (.map (some z)) (.string ⟨#[116,119,105,99,101]⟩) true).run Tryz.prog W = .ok (.tuple #[.agg #[.slice (some ⟨g,0,none⟩) 1 1,.func (.func 80) #[] #[ptrV x]],.bool true]) W)∧(base≤g∧BlkC w g #[.func (.func 37) #[] #[]] 109)∧(base≤x∧BlkC w x #[.func (.func 51) #[ptrV n] #[]] 108):=by
 obtain ⟨g,x,y,u,h1,h2,h3⟩:=h _ (List.mem_of_getElem? (show (cmdE n)[9]?=some _ from rfl))
 exact ⟨g,x,h1,h2.resolve_left (by simp),h3⟩
theorem cmd_tree (h:CmdsAt base w n z):(∀ W,Only [] w W→(Instr.lookup 70 (.map (some z)) (.string ⟨#[116,114,101,101]⟩) true).run Tryz.prog W = .ok (.tuple #[.agg #[.slice none 0 0,.func (.func 53) #[ptrV n] #[]],.bool true]) W):=by
 obtain ⟨g,x,y,u,h1,h2,h3⟩:=h _ (List.mem_of_getElem? (show (cmdE n)[11]?=some _ from rfl))
 exact h1
end
theorem wc2 {w:World}{b:Nat}{u0 u1 v0 v1:Value}{t:TypeId}(h:BlkC w b #[u0,u1] t):BlkC ((w.setCell ⟨b,0,none⟩ v0).setCell ⟨b,1,none⟩ v1) b #[v0,v1] t∧Only [b] w ((w.setCell ⟨b,0,none⟩ v0).setCell ⟨b,1,none⟩ v1):=by
 have h0:BlkC (w.setCell ⟨b,0,none⟩ v0) b #[v0,u1] t:=heap_setCell_same _ b 0 _ _ _ h;exact ⟨heap_setCell_same _ b 1 _ _ _ h0,((Only.refl [b] w).setCell (p:=⟨b,0,none⟩) (Or.inl (by simp)) _).setCell (p:=⟨b,1,none⟩) (Or.inl (by simp)) _⟩
abbrev spB:ByteArray:=⟨#[32]⟩
theorem line_words {w:World}{m:Int}(hm:w.cell? ⟨8,0,none⟩=some (.int .i64 m))(s:ByteArray)(hs:s.size≤1000)(c:Nat)(ws:List ByteArray)(hc:Lib.countB s spB=c)(hw:Lib.splitB spB 0 c s=ws):
  Calls Tryz.prog 17 #[.string s,.string spB] w fun e w'=>e = .returned (.slice (some ⟨w.heap.size,0,none⟩) (c+1) (c+1))∧BlkC w' w.heap.size (ws.map Value.string).toArray 9∧Only [] w w':=by
 subst hc hw;exact (Tryz.strings_Split s spB m w (by omega) hm (by decide)).mono fun e w' q=>⟨q.1,q.2 ▸ BlkC.new _ _ _,q.2 ▸ (Only.refl [] w).alloc _⟩
end
end Go.Proofs.YtodldddakjmonaaGreatDoor
