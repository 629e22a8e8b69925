import Derived.Test.YtodldddakjmonaaGreatDoorK23
set_option maxRecDepth 100000
set_option maxHeartbeats 8000000
namespace Go.Proofs.YtodldddakjmonaaGreatDoor
section
open Go Go.RowKit Go.Deep Go.Maps
theorem compound_two (w:World)(s tr g cap:Nat)(nm:ByteArray)(er:Value)(kc:Int)(R:World→World→Prop)(L:List Nat)(hs:w.cell? ⟨s,0,none⟩=some (.pointer (some ⟨tr,0,none⟩)))
  (hr:Rws w w.heap.size opC 9 (some ⟨g,0,none⟩) [opR,opM nm]) (_hg:g < w.heap.size) (hL:∀ k∈L,k < w.heap.size)
  (hM:∀ W c x,Only [] w W→w.heap.size≤c→CmpAt W c s 0 0 true→BoxF W x 411 (fn0 306)→Calls Tryz.prog 356 #[.pointer (some ⟨c,0,none⟩),opVM nm,.pointer (some ⟨x,0,none⟩)] W fun e w'=>e = .returned (.tuple #[rpK 0,er])∧AftR w.heap.size W.heap.size R w'∧Only (c::L) W w')
  (hD:∀ W,Only L w W→Calls Tryz.prog 268 #[rpK 0,er] W fun e w'=>e = .returned (rpK kc)∧Only [] W w') :
  Calls Tryz.prog 231 #[.pointer (some ⟨s,0,none⟩),.slice (some ⟨g,0,none⟩) 2 cap] w fun e w'=>TwoR w kc L R e w':=by
 obtain ⟨i0,hi0,hz0,hz1,hz2⟩:=rpInfo;have HA:Hid (Only [] w (w.alloc (.cells (cmpCells s) 405))):=(Only.refl [] w).alloc _;have HCM:Hid (CmpAt (w.alloc (.cells (cmpCells s) 405)) w.heap.size s 0 0 false):=cmp_new w s;have HF:Hid (Calls Tryz.prog 267 #[] (w.alloc (.cells (cmpCells s) 405)) fun e w'=>FoundR (w.alloc (.cells (cmpCells s) 405)) w' e):=finder_any _;have HRW:Hid (Rws w w.heap.size opC 9 (some ⟨g,0,none⟩) [opR,opM nm]):=hr;have HM:Hid (∀ W c x,Only [] w W→w.heap.size≤c→CmpAt W c s 0 0 true→BoxF W x 411 (fn0 306)→Calls Tryz.prog 356 #[.pointer (some ⟨c,0,none⟩),opVM nm,.pointer (some ⟨x,0,none⟩)] W fun e w'=>e = .returned (.tuple #[rpK 0,er])∧AftR w.heap.size W.heap.size R w'∧Only (c::L) W w'):=hM;have HD:Hid (∀ W,Only L w W→Calls Tryz.prog 268 #[rpK 0,er] W fun e w'=>e = .returned (rpK kc)∧Only [] W w'):=hD;have HS:Hid (w.cell? ⟨s,0,none⟩=some (.pointer (some ⟨tr,0,none⟩))):=hs;have HLL:Hid (∀ k∈L,k < w.heap.size):=hL;clear hM hD hr hs hL
 go_enter Tryz.func231,Tryz.ntmps231
 go_wp2_with (go_at_call 267;go_must (refine HF.out.mono ?_);rintro e w2 ⟨fb,r,bm,f,x,rfl,hq⟩;have HQ:Hid (FinderAt w2 fb r bm f∧f 0 [114,111,111,116]=some ⟨296,none⟩∧f 0 [109,97,107,101]=some ⟨356,some x⟩∧BoxF w2 x 411 (fn0 306)∧Only [] (w.alloc (.cells (cmpCells s) 405)) w2):=hq;clear hq)
 have HO2:Hid (Only [] w w2):=HA.out.trans HQ.out.2.2.2.2 (fun _ hk=>by cases hk);have HC2:Hid (CmpAt w2 w.heap.size s 0 0 false):=HCM.out.only HQ.out.2.2.2.2 (by simp);obtain ⟨p0,p1,p2,p3,p4,p5,p6,p7,p8⟩:=op_cellsR (HRW.out.in_ HO2.out);have HFI:Hid (∀ W,Only [] w2 W→Calls Tryz.prog 291 #[.string kR,.pointer (some ⟨fb,0,none⟩)] W fun e w'=>e = .returned (fn0 296)∧w'=W):=fun W ho=>find_first W fb r bm f kR (by decide) ⟨296,none⟩ _ _ _ (HQ.out.1.only ho) HQ.out.2.1 rfl;have HRT:Hid (∀ W,Only [] w2 W→Calls Tryz.prog 296 #[.pointer (some ⟨w.heap.size,0,none⟩),opVR] W fun e w'=>e = .returned (.tuple #[rpK 0,.nilIface])∧CmpAt w' w.heap.size s 0 0 true∧Only [w.heap.size] W w'):=fun W ho=>root_ok W w.heap.size s tr 0 0 false opR (HC2.out.only ho (by simp)) (((HO2.out.trans ho (fun _ hk=>by cases hk)).cell (p:=⟨s,0,none⟩) (lt_of_cell HS.out) (by simp)).trans HS.out);have HCN:Hid (∀ W,Only [w.heap.size] w2 W→Calls Tryz.prog 268 #[rpK 0,.nilIface] W fun e w'=>e = .returned (rpK 0)∧Only [] W w'):=fun W _=>codedS_nil W 0;have hcl:w.heap.size < w2.heap.size:=HC2.out.lt;have HCB:Hid (w2.heap[w.heap.size]?=some (.cells (cmpCells s) 405 (0,0))):=(HQ.out.2.2.2.2.block w.heap.size (by simp) (by simp)).trans (show (w.heap.push _)[w.heap.size]?=_ by simp);have HFA:Hid (∀ W,Only [w.heap.size] w2 W→FinderAt W fb r bm f):=fun W ho=>HQ.out.1.only1 HCB.out ho;refine wp_loop_rounds 3 ?_;rw [rounds_succ]
 go_wp2_with fail
 go_cut [11] (fun v wx=>DidR w2 0 [w.heap.size] (fun W=>CmpAt W w.heap.size s 0 0 true) v wx)
 case first =>
  have o0:Only [] w2 (w2.alloc (.cells opCR 163)):=(Only.refl [] w2).alloc _;have HO0:Hid (Only [] w2 (w2.alloc (.cells opCR 163))):=o0;have HS0:Hid (OpS w2.heap.size kR ⟨#[]⟩ 0 (w2.alloc (.cells opCR 163)).drew):=opS_new w2 kR ⟨#[]⟩ 0 _;have HSZ:Hid (OpS w2.heap.size kR ⟨#[]⟩ 0 ((w2.alloc (.cells opCR 163)).alloc (.cells (rpCells 0) 169)).drew):=opS_only HS0.out (((Only.refl [] (w2.alloc (.cells opCR 163)).drew).alloc (.cells (rpCells 0) 169))) (by simp);have HOZ:Hid (Only [] w2 ((w2.alloc (.cells opCR 163)).alloc (.cells (rpCells 0) 169)).drew):=(HO0.out.alloc _).drew;clear o0 p0 p1 p2 p3 p4 p5 p6 p7 p8
  go_region_held3 (OpS w2.heap.size kR ⟨#[]⟩ 0)
    (with_reducible first | exact HS0.out | exact HSZ.out | exact HS1.out | exact HS2.out | exact HS1z.out | exact HS2z.out | exact HS2k.out | exact HS3.out)
    (first
      | (go_at_call 291;(with_reducible refine (HFI.out _ HO0.out.drew).mono ?_);rintro e w3 ⟨rfl,rfl⟩)
      | (go_at_call 291;(with_reducible refine (HFI.out _ HOZ.out).mono ?_);rintro e w3 ⟨rfl,rfl⟩)
      | (go_at_call 296;(with_reducible refine (HRT.out _ HO0.out.drew).mono ?_);rintro e w3 ⟨rfl,hx,ho⟩;have HS1:Hid (OpS w2.heap.size kR ⟨#[]⟩ 0 w3):=opS_only HS0.out ho (by simp;omega);have HS1z:Hid (OpS w2.heap.size kR ⟨#[]⟩ 0 (w3.alloc (.cells (rpCells 0) 169))):=opS_only HS1.out ((Only.refl [] _).alloc _) (by simp);have HX3:Hid (CmpAt w3 w.heap.size s 0 0 true):=hx;have HO3:Hid (Only [w.heap.size] w2 w3):=(HO0.out.drew.mono (L':=[w.heap.size]) (fun _ hk=>by cases hk)).trans ho (fun k hk=>Or.inl hk);clear hx ho)
      | (go_at_call 296;(with_reducible refine (HRT.out _ HOZ.out).mono ?_);rintro e w3 ⟨rfl,hx,ho⟩;have HS1:Hid (OpS w2.heap.size kR ⟨#[]⟩ 0 w3):=opS_only HSZ.out ho (by simp;omega);have HX3:Hid (CmpAt w3 w.heap.size s 0 0 true):=hx;have HO3:Hid (Only [w.heap.size] w2 w3):=(HOZ.out.mono (L':=[w.heap.size]) (fun _ hk=>by cases hk)).trans ho (fun k hk=>Or.inl hk);have HZ3:Hid (Only [w.heap.size] ((w2.alloc (.cells opCR 163)).alloc (.cells (rpCells 0) 169)) w3):=((Only.refl [w.heap.size] _).drew).trans ho (fun k hk=>Or.inl hk);clear hx ho)
      | (go_at_call 268;(with_reducible refine (HCN.out _ (by first | exact HO3.out | exact HO3.out.alloc _)).mono ?_);rintro e w4 ⟨rfl,ho⟩;obtain ⟨k0,k1,k2,k3,k4,k5,k6,k7,k8,kf⟩:=rp_kept (x:=w2.heap.size+1) (World.size_alloc _ _) (HZ3.out.trans ho (fun _ hk=>by cases hk)) (by simp;omega);have z0:=kf 0;have z1:=kf 1;have z2:=kf 2;have z3:=kf 3;have z4:=kf 4;have z5:=kf 5;have z6:=kf 6;have z7:=kf 7;have z8:=kf 8;have HS2:Hid (OpS w2.heap.size kR ⟨#[]⟩ 0 w4):=opS_only HS1.out ho (by simp);have HS3:Hid (OpS w2.heap.size kR ⟨#[]⟩ 0 (put9 w4 (w2.heap.size+1) (.int .i64 0) (.string ⟨#[]⟩) (.int .i64 0) (.int .i64 0) (.int .i64 0) (.int .i64 0) (.slice none 0 0) (.int .i64 0) (.bool false))):=opS_only HS2.out put9_only (by simp);have HO34:Hid (Only [] w3 w4):=ho;have HO4:Hid (Only [w.heap.size] w2 w4):=HO3.out.trans ho (fun _ hk=>by cases hk);clear ho kf)
      | (go_at_call 268;(with_reducible refine (HCN.out _ (by first | exact HO3.out | exact HO3.out.alloc _)).mono ?_);rintro e w4 ⟨rfl,ho⟩;have HO4:Hid (Only [w.heap.size] w2 w4):=HO3.out.trans ho (fun _ hk=>by cases hk);have HO34:Hid (Only [] w3 w4):=ho;have HS2:Hid (OpS w2.heap.size kR ⟨#[]⟩ 0 w4):=opS_only HS1.out ho (by simp);have HS2z:Hid (OpS w2.heap.size kR ⟨#[]⟩ 0 (w4.alloc (.cells (rpCells 0) 169))):=opS_only HS2.out ((Only.refl [] _).alloc _) (by simp);have HS2k:Hid (OpS w2.heap.size kR ⟨#[]⟩ 0 (w4.alloc (.cells (rpCells 0) 169))):=opS_only HS2.out ((Only.refl [] _).alloc _) (by simp);clear ho)
      | (go_at_call 268;(with_reducible refine (HCN.out _ (by first | exact HO3.out | exact HO3.out.alloc _)).mono ?_);rintro e w4 ⟨rfl,ho⟩;have HO4:Hid (Only [w.heap.size] w2 w4):=(HO3.out.alloc _).trans ho (fun _ hk=>by cases hk);have HO34:Hid (Only [] w3 w4):=((Only.refl [] w3).alloc _).trans ho (fun _ hk=>by cases hk);have HXl:Hid (w2.heap.size < w3.heap.size):=lt_of_cell HS1.out.1;obtain ⟨k0,k1,k2,k3,k4,k5,k6,k7,k8,kf⟩:=rp_kept (x:=w3.heap.size) rfl ho (by simp);have z0:=kf 0;have z1:=kf 1;have z2:=kf 2;have z3:=kf 3;have z4:=kf 4;have z5:=kf 5;have z6:=kf 6;have z7:=kf 7;have z8:=kf 8;have HS2:Hid (OpS w2.heap.size kR ⟨#[]⟩ 0 w4):=opS_only HS1z.out ho (by simp);have HS3:Hid (OpS w2.heap.size kR ⟨#[]⟩ 0 (put9 w4 w3.heap.size (.int .i64 0) (.string ⟨#[]⟩) (.int .i64 0) (.int .i64 0) (.int .i64 0) (.int .i64 0) (.slice none 0 0) (.int .i64 0) (.bool false))):=opS_only HS2.out put9_only (by have:=HXl.out;simp;omega);clear ho kf))
  all_goals go_wp2
  all_goals go_meet
  · exact DidR.new (fun W ho=>HX3.out.only ho (by simp)) HO34.out HO4.out
  · exact DidR.mid (fun W ho=>HX3.out.only ho (by simp)) HO34.out HO4.out (Nat.le_of_lt HXl.out) ⟨k0,k1,k2,k3,k4,k5,k6,k7,k8⟩
  · exact DidR.old (fun W ho=>HX3.out.only ho (by simp;omega)) HO34.out HO4.out (Nat.le_succ _) ⟨k0,k1,k2,k3,k4,k5,k6,k7,k8⟩
  · exact DidR.old (fun W ho=>HX3.out.only ho (by simp;omega)) HO34.out HO4.out (Nat.le_succ _) ⟨k0,k1,k2,k3,k4,k5,k6,k7,k8⟩
 case rest =>
  generalize wc=wa at hcut ⊢;obtain ⟨x1,rfl,hr1,hc1,hx1,ho1⟩:=hcut;have HRP:Hid (RpAt wa x1 0):=hr1;have HC3:Hid (CmpAt wa w.heap.size s 0 0 true):=hc1;have HOW:Hid (Only [] w wa):=HO2.out.trans ho1 (fun k hk=>by rw [List.mem_singleton.1 hk];exact Or.inr (Nat.le_refl _));have HO23:Hid (Only [w.heap.size] w2 wa):=ho1;have HWS:Hid (w.heap.size≤wa.heap.size):=HOW.out.size;have HROW:Hid (wa.ownsRow w.heap.size 169 9 (.slice none 0 0) 0 []):=World.ownsRow_nil _ _ _ _;obtain ⟨q0,q1,q2,q3,q4,q5,q6,q7,q8⟩:=hr1;have hx1l:=lt_of_cell q0;clear hc1 ho1 hx1 p0 p1 p2 p3 p4 p5 p6 p7 p8
  go_wp2_with (first
    | (at_builtin;refine wpList_append_lies _ rfl (.tmp 36) (.tmp 38) 243 rfl w.heap.size 169 i0 _ 9 96 rpsUnd hi0 hz0 hz1 hz2 rfl (by decide) (.slice none 0 0) 0 [] rfl (World.ownsRow.alloc HROW.out _) ⟨wa.heap.size,0,none⟩ 1 1 (rpC (rpv 0,Value.slice none 0 0)) rfl rfl (rp_news2 (rpv 0) (.slice none 0 0) _) (rpC_one2 (rpv 0) none 0 0) (by decide) (by unfold maxLen;omega) (by omega) (by rw [World.size_alloc];have:=HWS.out;omega) (wa.heap.size+1) (by simp) ?_;intro g5 c5 w5 hown hgr hat hlt;have HG:Hid (Only [] wa w5):=grown_only hgr (fun b hb=>by cases hb);have HV:Hid (w5.ownsRow w.heap.size 169 9 (.slice (some ⟨g5,0,none⟩) 1 c5) 1 ([]++rpC (rpv 0,Value.slice none 0 0))):=hown;have HAT:Hid (Value.ownBlock (.slice none 0 0)=some g5∨g5=wa.heap.size+1):=hat;have hc0:w5.cell? ⟨x1,0,none⟩=some (.int .i64 0):=(HRP.out.only HG.out (by simp)).c0;clear hown hgr hat hlt)
    | go_in)
  rw [rounds_succ];have HO5:Hid (Only [] w w5):=HOW.out.trans HG.out (fun _ hk=>by cases hk);have HC5:Hid (CmpAt w5 w.heap.size s 0 0 true):=HC3.out.only HG.out (by simp);have HV5:Hid (w5.ownsRow w.heap.size 169 9 (.slice (some ⟨g5,0,none⟩) 1 c5) 1 (rpC (rpv 0,Value.slice none 0 0))):=HV.out;obtain ⟨hg5a,hg5b,_⟩:=own_at HV.out (b:=g5) rfl
  have HGC:Hid (g5≠w.heap.size):=by
    show g5≠w.heap.size;rcases HAT.out with e | e
    · cases e
    · have:=HC3.out.lt;omega
  have HO25:Hid (Only [w.heap.size] w2 w5):=HO23.out.trans HG.out (fun _ hk=>by cases hk);have HXB:Hid (BoxF w5 x 411 (fn0 306)):=HQ.out.2.2.2.1.only HO25.out (HQ.out.2.2.2.1.ne HCB.out (by decide));have HFI2:Hid (∀ W,Only [] w5 W→Calls Tryz.prog 291 #[.string kM,.pointer (some ⟨fb,0,none⟩)] W fun e w'=>e = .returned (fn1 356 x)∧w'=W):=fun W ho=>find_first W fb r bm f kM (by decide) ⟨356,some x⟩ _ _ _ ((HFA.out w5 HO25.out).only ho) HQ.out.2.2.1 rfl;have HDO2:Hid (∀ W,Only [] w5 W→Calls Tryz.prog 356 #[.pointer (some ⟨w.heap.size,0,none⟩),opVM nm,.pointer (some ⟨x,0,none⟩)] W fun e w'=>e = .returned (.tuple #[rpK 0,er])∧AftR w.heap.size W.heap.size R w'∧Only (w.heap.size::L) W w'):=fun W ho=>HM.out W w.heap.size x (HO5.out.trans ho (fun _ hk=>by cases hk)) (Nat.le_refl _) (HC5.out.only ho (by simp)) (HXB.out.only ho (by simp))
  have HCN2:Hid (∀ W,Only (w.heap.size::L) w5 W→Calls Tryz.prog 268 #[rpK 0,er] W fun e w'=>e = .returned (rpK kc)∧Only [] W w'):=fun W ho=>HD.out W ((HO5.out.mono (L':=L) (fun _ hk=>by cases hk)).trans ho (fun k hk=>by
    rcases List.mem_cons.1 hk with e | e
    · rw [e];exact Or.inr (Nat.le_refl _)
    · exact Or.inl e))
  have HNM:Hid (∀ k,w5.heap.size≤k→k∉w.heap.size::L):=fun k hk hm=>by
    have h1:=HC5.out.lt;rcases List.mem_cons.1 hm with e | e
    · omega
    · have:=HLL.out k e
      omega
  obtain ⟨p0,p1,p2,p3,p4,p5,p6,p7,p8⟩:=op_cellsM (HRW.out.in_ HO5.out);have HS5:Hid (w.heap.size≤w5.heap.size):=HO5.out.size;clear hc0 q0 q1 q2 q3 q4 q5 q6 q7 q8 HV HG HROW HRP HC3
  go_wp2_with fail
  go_cut [11] (fun v wx=>DidR w5 kc (w.heap.size::L) (fun W=>AftR w.heap.size w5.heap.size R W) v wx)
  case first =>
    have o0:Only [] w5 (w5.alloc (.cells (opCM nm) 163)):=(Only.refl [] w5).alloc _;have HO0:Hid (Only [] w5 (w5.alloc (.cells (opCM nm) 163))):=o0;have HS0:Hid (OpS w5.heap.size kM nm 1 (w5.alloc (.cells (opCM nm) 163)).drew):=opS_new w5 kM nm 1 _;have HSZ:Hid (OpS w5.heap.size kM nm 1 ((w5.alloc (.cells (opCM nm) 163)).alloc (.cells (rpCells 0) 169)).drew):=opS_only HS0.out (((Only.refl [] (w5.alloc (.cells (opCM nm) 163)).drew).alloc (.cells (rpCells 0) 169))) (by simp);have HOZ:Hid (Only [] w5 ((w5.alloc (.cells (opCM nm) 163)).alloc (.cells (rpCells 0) 169)).drew):=(HO0.out.alloc _).drew;clear o0 p0 p1 p2 p3 p4 p5 p6 p7 p8
    go_region_held3 (OpS w5.heap.size kM nm 1)
      (with_reducible first | exact HS0.out | exact HSZ.out | exact HS1.out | exact HS2.out | exact HS1z.out | exact HS2z.out | exact HS2k.out | exact HS3.out)
      (first
        | (go_at_call 291;(with_reducible refine (HFI2.out _ HO0.out.drew).mono ?_);rintro e w3 ⟨rfl,rfl⟩)
        | (go_at_call 291;(with_reducible refine (HFI2.out _ HOZ.out).mono ?_);rintro e w3 ⟨rfl,rfl⟩)
        | (go_at_call 356;(with_reducible refine (HDO2.out _ HO0.out.drew).mono ?_);rintro e w3 ⟨rfl,hx,ho⟩;have HS1:Hid (OpS w5.heap.size kM nm 1 w3):=opS_only HS0.out ho (HNM.out _ (Nat.le_refl _));have HS1z:Hid (OpS w5.heap.size kM nm 1 (w3.alloc (.cells (rpCells 0) 169))):=opS_only HS1.out ((Only.refl [] _).alloc _) (by simp);have HX3:Hid (AftR w.heap.size ((w5.alloc (.cells (opCM nm) 163)).drew).heap.size R w3):=hx;have HO3:Hid (Only (w.heap.size::L) w5 w3):=(HO0.out.drew.mono (L':=(w.heap.size::L)) (fun _ hk=>by cases hk)).trans ho (fun k hk=>Or.inl hk);clear hx ho)
        | (go_at_call 356;(with_reducible refine (HDO2.out _ HOZ.out).mono ?_);rintro e w3 ⟨rfl,hx,ho⟩;have HS1:Hid (OpS w5.heap.size kM nm 1 w3):=opS_only HSZ.out ho (HNM.out _ (Nat.le_refl _));have HX3:Hid (AftR w.heap.size (((w5.alloc (.cells (opCM nm) 163)).alloc (.cells (rpCells 0) 169)).drew).heap.size R w3):=hx;have HO3:Hid (Only (w.heap.size::L) w5 w3):=(HOZ.out.mono (L':=(w.heap.size::L)) (fun _ hk=>by cases hk)).trans ho (fun k hk=>Or.inl hk);have HZ3:Hid (Only (w.heap.size::L) ((w5.alloc (.cells (opCM nm) 163)).alloc (.cells (rpCells 0) 169)) w3):=((Only.refl (w.heap.size::L) _).drew).trans ho (fun k hk=>Or.inl hk);clear hx ho)
        | (go_at_call 268;(with_reducible refine (HCN2.out _ (by first | exact HO3.out | exact HO3.out.alloc _)).mono ?_);rintro e w4 ⟨rfl,ho⟩;obtain ⟨k0,k1,k2,k3,k4,k5,k6,k7,k8,kf⟩:=rp_kept (x:=w5.heap.size+1) (World.size_alloc _ _) (HZ3.out.trans ho (fun _ hk=>by cases hk)) (HNM.out _ (Nat.le_succ _));have z0:=kf 0;have z1:=kf 1;have z2:=kf 2;have z3:=kf 3;have z4:=kf 4;have z5:=kf 5;have z6:=kf 6;have z7:=kf 7;have z8:=kf 8;have HS2:Hid (OpS w5.heap.size kM nm 1 w4):=opS_only HS1.out ho (by simp);have HS3:Hid (OpS w5.heap.size kM nm 1 (put9 w4 (w5.heap.size+1) (.int .i64 kc) (.string ⟨#[]⟩) (.int .i64 0) (.int .i64 0) (.int .i64 0) (.int .i64 0) (.slice none 0 0) (.int .i64 0) (.bool false))):=opS_only HS2.out put9_only (by simp);have HO34:Hid (Only [] w3 w4):=ho;have HO4:Hid (Only (w.heap.size::L) w5 w4):=HO3.out.trans ho (fun _ hk=>by cases hk);clear ho kf)
        | (go_at_call 268;(with_reducible refine (HCN2.out _ (by first | exact HO3.out | exact HO3.out.alloc _)).mono ?_);rintro e w4 ⟨rfl,ho⟩;have HO4:Hid (Only (w.heap.size::L) w5 w4):=HO3.out.trans ho (fun _ hk=>by cases hk);have HO34:Hid (Only [] w3 w4):=ho;have HS2:Hid (OpS w5.heap.size kM nm 1 w4):=opS_only HS1.out ho (by simp);have HS2z:Hid (OpS w5.heap.size kM nm 1 (w4.alloc (.cells (rpCells 0) 169))):=opS_only HS2.out ((Only.refl [] _).alloc _) (by simp);have HS2k:Hid (OpS w5.heap.size kM nm 1 (w4.alloc (.cells (rpCells kc) 169))):=opS_only HS2.out ((Only.refl [] _).alloc _) (by simp);clear ho)
        | (go_at_call 268;(with_reducible refine (HCN2.out _ (by first | exact HO3.out | exact HO3.out.alloc _)).mono ?_);rintro e w4 ⟨rfl,ho⟩;have HO4:Hid (Only (w.heap.size::L) w5 w4):=(HO3.out.alloc _).trans ho (fun _ hk=>by cases hk);have HO34:Hid (Only [] w3 w4):=((Only.refl [] w3).alloc _).trans ho (fun _ hk=>by cases hk);have HXl:Hid (w5.heap.size < w3.heap.size):=lt_of_cell HS1.out.1;obtain ⟨k0,k1,k2,k3,k4,k5,k6,k7,k8,kf⟩:=rp_kept (x:=w3.heap.size) rfl ho (by simp);have z0:=kf 0;have z1:=kf 1;have z2:=kf 2;have z3:=kf 3;have z4:=kf 4;have z5:=kf 5;have z6:=kf 6;have z7:=kf 7;have z8:=kf 8;have HS2:Hid (OpS w5.heap.size kM nm 1 w4):=opS_only HS1z.out ho (by simp);have HS3:Hid (OpS w5.heap.size kM nm 1 (put9 w4 w3.heap.size (.int .i64 kc) (.string ⟨#[]⟩) (.int .i64 0) (.int .i64 0) (.int .i64 0) (.int .i64 0) (.slice none 0 0) (.int .i64 0) (.bool false))):=opS_only HS2.out put9_only (by have:=HXl.out;simp;omega);clear ho kf))
    all_goals go_wp2
    all_goals go_meet
    · exact DidR.new (fun W ho=>(HX3.out.only ho (fun _ hk=>by cases hk)).low (by have:=HS5.out;simp)) HO34.out HO4.out
    · exact DidR.mid (fun W ho=>(HX3.out.only ho (fun _ hk=>by cases hk)).low (by have:=HS5.out;simp)) HO34.out HO4.out (Nat.le_of_lt HXl.out) ⟨k0,k1,k2,k3,k4,k5,k6,k7,k8⟩
    · exact DidR.old (fun W ho=>(HX3.out.only ho (fun k hk=>by have:=HS5.out;rw [List.mem_singleton.1 hk];simp;omega)).low (by simp;omega)) HO34.out HO4.out (Nat.le_succ _) ⟨k0,k1,k2,k3,k4,k5,k6,k7,k8⟩
    · exact DidR.old (fun W ho=>(HX3.out.only ho (fun k hk=>by have:=HS5.out;rw [List.mem_singleton.1 hk];simp;omega)).low (by simp;omega)) HO34.out HO4.out (Nat.le_succ _) ⟨k0,k1,k2,k3,k4,k5,k6,k7,k8⟩
  case rest =>
    obtain ⟨x2,rfl,hr1,hc1,hx1,ho1⟩:=hcut;have HRP:Hid (RpAt wc x2 kc):=hr1;have HAF:Hid (AftR w.heap.size w5.heap.size R wc):=hc1
    have HOL:Hid (Only L w wc):=(HO5.out.mono (L':=L) (fun _ hk=>by cases hk)).trans ho1 (fun k hk=>by
      rcases List.mem_cons.1 hk with e | e
      · rw [e];exact Or.inr (Nat.le_refl _)
      · exact Or.inl e)
    have HWS:Hid (w.heap.size≤wc.heap.size):=HOL.out.size
    have HGN:Hid (g5∉w.heap.size::L):=fun hm=>by
      rcases List.mem_cons.1 hm with e | e
      · exact HGC.out e
      · have:=HLL.out _ e
        omega
    have HROW:Hid (wc.ownsRow w.heap.size 169 9 (.slice (some ⟨g5,0,none⟩) 1 c5) 1 (rpC (rpv 0,Value.slice none 0 0))):=ho1.owns HV5.out (fun k hk=>by cases hk;exact HGN.out);obtain ⟨q0,q1,q2,q3,q4,q5,q6,q7,q8⟩:=hr1;have hx2l:=lt_of_cell q0
    have hxg:x2∉[g5]:=by simp;omega
    have HX2:Hid (x2∉[g5]):=hxg;clear hc1 ho1 hx1 p0 p1 p2 p3 p4 p5 p6 p7 p8 hxg
    by_cases hkc:kc=0
    · have hkb:(kc != 0)=false:=by simp [hkc]
      clear hkc
      go_wp2_with (first
        | (at_builtin;refine wpList_append_lies _ rfl (.tmp 36) (.tmp 38) 243 rfl w.heap.size 169 i0 _ 9 96 rpsUnd hi0 hz0 hz1 hz2 rfl (by decide) (.slice (some ⟨g5,0,none⟩) 1 c5) 1 (rpC (rpv 0,Value.slice none 0 0)) rfl (World.ownsRow.alloc HROW.out _) ⟨wc.heap.size,0,none⟩ 1 1 (rpC (rpv kc,Value.slice none 0 0)) rfl rfl (rp_news2 (rpv kc) (.slice none 0 0) _) (rpC_one2 (rpv kc) none 0 0) (by decide) (by unfold maxLen;omega) (by omega) (by rw [World.size_alloc];have:=HWS.out;omega) (wc.heap.size+1) (by simp) ?_;intro g8 c8 w8 hown hgr hat hlt;have HG:Hid (Only [g5] wc w8):=grown_only hgr (fun b hb=>(by cases hb;exact Or.inl (by simp)));have HV:Hid (w8.ownsRow w.heap.size 169 9 (.slice (some ⟨g8,0,none⟩) 2 c8) 2 (rpC (rpv 0,Value.slice none 0 0)++rpC (rpv kc,Value.slice none 0 0))):=hown;have HAT:Hid (Value.ownBlock (.slice (some ⟨g5,0,none⟩) 1 c5)=some g8∨g8=wc.heap.size+1):=hat;have hc0:w8.cell? ⟨x2,0,none⟩=some (.int .i64 kc):=(HRP.out.only HG.out HX2.out).c0;clear hown hgr hat hlt)
        | go_in)
      rw [rounds_succ]
      go_wp2
      go_ret2
      exact ⟨g8,c8,rfl,HV.out,(HAF.out.only HG.out (fun k hk=>by rw [List.mem_singleton.1 hk];exact ⟨hg5a,hg5b⟩)).low HS5.out,HOL.out.trans HG.out (fun k hk=>by rw [List.mem_singleton.1 hk];exact Or.inr hg5a)⟩
    · have hkb:(kc != 0)=true:=by simpa using hkc
      clear hkc
      go_wp2_with (first
        | (at_builtin;refine wpList_append_lies _ rfl (.tmp 36) (.tmp 38) 243 rfl w.heap.size 169 i0 _ 9 96 rpsUnd hi0 hz0 hz1 hz2 rfl (by decide) (.slice (some ⟨g5,0,none⟩) 1 c5) 1 (rpC (rpv 0,Value.slice none 0 0)) rfl (World.ownsRow.alloc HROW.out _) ⟨wc.heap.size,0,none⟩ 1 1 (rpC (rpv kc,Value.slice none 0 0)) rfl rfl (rp_news2 (rpv kc) (.slice none 0 0) _) (rpC_one2 (rpv kc) none 0 0) (by decide) (by unfold maxLen;omega) (by omega) (by rw [World.size_alloc];have:=HWS.out;omega) (wc.heap.size+1) (by simp) ?_;intro g8 c8 w8 hown hgr hat hlt;have HG:Hid (Only [g5] wc w8):=grown_only hgr (fun b hb=>(by cases hb;exact Or.inl (by simp)));have HV:Hid (w8.ownsRow w.heap.size 169 9 (.slice (some ⟨g8,0,none⟩) 2 c8) 2 (rpC (rpv 0,Value.slice none 0 0)++rpC (rpv kc,Value.slice none 0 0))):=hown;have HAT:Hid (Value.ownBlock (.slice (some ⟨g5,0,none⟩) 1 c5)=some g8∨g8=wc.heap.size+1):=hat;have hc0:w8.cell? ⟨x2,0,none⟩=some (.int .i64 kc):=(HRP.out.only HG.out HX2.out).c0;clear hown hgr hat hlt)
        | go_in)
      go_ret2
      exact ⟨g8,c8,rfl,HV.out,(HAF.out.only HG.out (fun k hk=>by rw [List.mem_singleton.1 hk];exact ⟨hg5a,hg5b⟩)).low HS5.out,HOL.out.trans HG.out (fun k hk=>by rw [List.mem_singleton.1 hk];exact Or.inr hg5a)⟩
end
end Go.Proofs.YtodldddakjmonaaGreatDoor
