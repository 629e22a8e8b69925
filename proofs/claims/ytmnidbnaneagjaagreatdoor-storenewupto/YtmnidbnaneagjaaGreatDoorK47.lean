import Derived.Test.YtmnidbnaneagjaaGreatDoorK46
import Derived.Test.YtmnidbnaneagjaaGreatDoorK44
import Derived.Maps.AppendAt
set_option maxRecDepth 100000
set_option maxHeartbeats 8000000
namespace Go.Proofs.YtmnidbnaneagjaaGreatDoor
section
open Go Go.RowKit Go.Deep Go.Maps
def opMD (nm:ByteArray):OpV:=⟨kM,nm,⟨#[]⟩,2,0,0,0,0,0⟩
abbrev opVMD (nm:ByteArray):Value := .agg #[.string kM,.string nm,.string ⟨#[]⟩,.int .i64 2,.int .i64 0,.int .i64 0,.int .i64 0,.int .i64 0,.int .i64 0]
abbrev opCMD (nm:ByteArray):Array Value:=#[.string kM,.string nm,.string ⟨#[]⟩,.int .i64 2,.int .i64 0,.int .i64 0,.int .i64 0,.int .i64 0,.int .i64 0]
theorem op_cellsRD {w:World}{B g:Nat}{nm:ByteArray}(h:Rws w B opC 9 (some ⟨g,0,none⟩) [opR,opMD nm]):w.cell? ⟨g,0,none⟩=some (.string kR)∧w.cell? ⟨g,1,none⟩=some (.string ⟨#[]⟩)∧w.cell? ⟨g,2,none⟩=some (.string ⟨#[]⟩)∧w.cell? ⟨g,3,none⟩=some (.int .i64 0)∧w.cell? ⟨g,4,none⟩=some (.int .i64 0)∧w.cell? ⟨g,5,none⟩=some (.int .i64 0)∧w.cell? ⟨g,6,none⟩=some (.int .i64 0)∧w.cell? ⟨g,7,none⟩=some (.int .i64 0)∧w.cell? ⟨g,8,none⟩=some (.int .i64 0):=op_cells (i:=0) h rfl
theorem op_cellsMD {w:World}{B g:Nat}{nm:ByteArray}(h:Rws w B opC 9 (some ⟨g,0,none⟩) [opR,opMD nm]):w.cell? ⟨g,9,none⟩=some (.string kM)∧w.cell? ⟨g,10,none⟩=some (.string nm)∧w.cell? ⟨g,11,none⟩=some (.string ⟨#[]⟩)∧w.cell? ⟨g,12,none⟩=some (.int .i64 2)∧w.cell? ⟨g,13,none⟩=some (.int .i64 0)∧w.cell? ⟨g,14,none⟩=some (.int .i64 0)∧w.cell? ⟨g,15,none⟩=some (.int .i64 0)∧w.cell? ⟨g,16,none⟩=some (.int .i64 0)∧w.cell? ⟨g,17,none⟩=some (.int .i64 0):=op_cells (i:=1) h rfl
theorem compound_twoD (w:World)(s tr g cap:Nat)(nm:ByteArray)(er:Value)(kc:Int)(R:World→World→Prop)(L:List Nat)(hs:w.cell? ⟨s,0,none⟩=some (.pointer (some ⟨tr,0,none⟩)))
  (hr:Rws w w.heap.size opC 9 (some ⟨g,0,none⟩) [opR,opMD nm]) (_hg:g < w.heap.size) (hL:∀ k∈L,k < w.heap.size)
  (hM:∀ W c x,Only [] w W→w.heap.size≤c→CmpAt W c s 0 0 true→BoxF W x 174 (fn0 180)→Calls Tryz.prog 263 #[.pointer (some ⟨c,0,none⟩),opVMD nm,.pointer (some ⟨x,0,none⟩)] W fun e w'=>e = .returned (.tuple #[rpK 0,er])∧AftR w.heap.size W.heap.size R w'∧Only (c::L) W w')
  (hD:∀ W,Only L w W→Calls Tryz.prog 63 #[rpK 0,er] W fun e w'=>e = .returned (rpK kc)∧Only [] W w') :
  Calls Tryz.prog 35 #[.pointer (some ⟨s,0,none⟩),.slice (some ⟨g,0,none⟩) 2 cap] w fun e w'=>TwoR w kc L R e w':=by
 obtain ⟨i0,hi0,hz0,hz1,hz2⟩:=rpInfo;have HA:Hid (Only [] w (w.alloc (.cells (cmpCells s) 166))):=(Only.refl [] w).alloc _;have HCM:Hid (CmpAt (w.alloc (.cells (cmpCells s) 166)) w.heap.size s 0 0 false):=cmp_new w s;have HF:Hid (Calls Tryz.prog 62 #[] (w.alloc (.cells (cmpCells s) 166)) fun e w'=>FoundR (w.alloc (.cells (cmpCells s) 166)) w' e):=finder_any _;have HRW:Hid (Rws w w.heap.size opC 9 (some ⟨g,0,none⟩) [opR,opMD nm]):=hr;have HM:Hid (∀ W c x,Only [] w W→w.heap.size≤c→CmpAt W c s 0 0 true→BoxF W x 174 (fn0 180)→Calls Tryz.prog 263 #[.pointer (some ⟨c,0,none⟩),opVMD nm,.pointer (some ⟨x,0,none⟩)] W fun e w'=>e = .returned (.tuple #[rpK 0,er])∧AftR w.heap.size W.heap.size R w'∧Only (c::L) W w'):=hM;have HD:Hid (∀ W,Only L w W→Calls Tryz.prog 63 #[rpK 0,er] W fun e w'=>e = .returned (rpK kc)∧Only [] W w'):=hD;have HS:Hid (w.cell? ⟨s,0,none⟩=some (.pointer (some ⟨tr,0,none⟩))):=hs;have HLL:Hid (∀ k∈L,k < w.heap.size):=hL;clear hM hD hr hs hL
 go_enter Tryz.func35,Tryz.ntmps35
 go_wp2_with (go_at_call 62;go_must (refine HF.out.mono ?_);rintro e w2 ⟨fb,r,bm,f,x,rfl,hq⟩;have HQ:Hid (FinderAt w2 fb r bm f∧f 0 [114,111,111,116]=some ⟨170,none⟩∧f 0 [109,97,107,101]=some ⟨263,some x⟩∧BoxF w2 x 174 (fn0 180)∧Only [] (w.alloc (.cells (cmpCells s) 166)) w2):=hq;clear hq)
 have HO2:Hid (Only [] w w2):=HA.out.trans HQ.out.2.2.2.2 (fun _ hk=>by cases hk);have HC2:Hid (CmpAt w2 w.heap.size s 0 0 false):=HCM.out.only HQ.out.2.2.2.2 (by simp);obtain ⟨p0,p1,p2,p3,p4,p5,p6,p7,p8⟩:=op_cellsRD (HRW.out.in_ HO2.out);have HFI:Hid (∀ W,Only [] w2 W→Calls Tryz.prog 121 #[.string kR,.pointer (some ⟨fb,0,none⟩)] W fun e w'=>e = .returned (fn0 170)∧w'=W):=fun W ho=>find_first W fb r bm f kR (by decide) ⟨170,none⟩ _ _ _ (HQ.out.1.only ho) HQ.out.2.1 rfl;have HRT:Hid (∀ W,Only [] w2 W→Calls Tryz.prog 170 #[.pointer (some ⟨w.heap.size,0,none⟩),opVR] W fun e w'=>e = .returned (.tuple #[rpK 0,.nilIface])∧CmpAt w' w.heap.size s 0 0 true∧Only [w.heap.size] W w'):=fun W ho=>root_ok W w.heap.size s tr 0 0 false opR (HC2.out.only ho (by simp)) (((HO2.out.trans ho (fun _ hk=>by cases hk)).cell (p:=⟨s,0,none⟩) (lt_of_cell HS.out) (by simp)).trans HS.out);have HCN:Hid (∀ W,Only [w.heap.size] w2 W→Calls Tryz.prog 63 #[rpK 0,.nilIface] W fun e w'=>e = .returned (rpK 0)∧Only [] W w'):=fun W _=>codedS_nil W 0;have hcl:w.heap.size < w2.heap.size:=HC2.out.lt;have HCB:Hid (w2.heap[w.heap.size]?=some (.cells (cmpCells s) 166 (0,0))):=(HQ.out.2.2.2.2.block w.heap.size (by simp) (by simp)).trans (show (w.heap.push _)[w.heap.size]?=_ by simp);have HFA:Hid (∀ W,Only [w.heap.size] w2 W→FinderAt W fb r bm f):=fun W ho=>HQ.out.1.only1 HCB.out ho;refine wp_loop_rounds 3 ?_;rw [rounds_succ]
 go_wp2_with fail
 go_cut [11] (fun v wx=>DidR w2 0 [w.heap.size] (fun W=>CmpAt W w.heap.size s 0 0 true) v wx)
 case first =>
  have o0:Only [] w2 (w2.alloc (.cells opCR 49)):=(Only.refl [] w2).alloc _;have HO0:Hid (Only [] w2 (w2.alloc (.cells opCR 49))):=o0;have HS0:Hid (OpS w2.heap.size kR ⟨#[]⟩ 0 (w2.alloc (.cells opCR 49)).drew):=opS_new w2 kR ⟨#[]⟩ 0 _;have HSZ:Hid (OpS w2.heap.size kR ⟨#[]⟩ 0 ((w2.alloc (.cells opCR 49)).alloc (.cells (rpCells 0) 170)).drew):=opS_only HS0.out (((Only.refl [] (w2.alloc (.cells opCR 49)).drew).alloc (.cells (rpCells 0) 170))) (by simp);have HOZ:Hid (Only [] w2 ((w2.alloc (.cells opCR 49)).alloc (.cells (rpCells 0) 170)).drew):=(HO0.out.alloc _).drew;clear o0 p0 p1 p2 p3 p4 p5 p6 p7 p8
  go_region_held3 (OpS w2.heap.size kR ⟨#[]⟩ 0)
    (with_reducible first | exact HS0.out | exact HSZ.out | exact HS1.out | exact HS2.out | exact HS1z.out | exact HS2z.out | exact HS2k.out | exact HS3.out)
    (first
      | (go_at_call 121;(with_reducible refine (HFI.out _ HO0.out.drew).mono ?_);rintro e w3 ⟨rfl,rfl⟩)
      | (go_at_call 121;(with_reducible refine (HFI.out _ HOZ.out).mono ?_);rintro e w3 ⟨rfl,rfl⟩)
      | (go_at_call 170;(with_reducible refine (HRT.out _ HO0.out.drew).mono ?_);rintro e w3 ⟨rfl,hx,ho⟩;have HS1:Hid (OpS w2.heap.size kR ⟨#[]⟩ 0 w3):=opS_only HS0.out ho (by simp;omega);have HS1z:Hid (OpS w2.heap.size kR ⟨#[]⟩ 0 (w3.alloc (.cells (rpCells 0) 170))):=opS_only HS1.out ((Only.refl [] _).alloc _) (by simp);have HX3:Hid (CmpAt w3 w.heap.size s 0 0 true):=hx;have HO3:Hid (Only [w.heap.size] w2 w3):=(HO0.out.drew.mono (L':=[w.heap.size]) (fun _ hk=>by cases hk)).trans ho (fun k hk=>Or.inl hk);clear hx ho)
      | (go_at_call 170;(with_reducible refine (HRT.out _ HOZ.out).mono ?_);rintro e w3 ⟨rfl,hx,ho⟩;have HS1:Hid (OpS w2.heap.size kR ⟨#[]⟩ 0 w3):=opS_only HSZ.out ho (by simp;omega);have HX3:Hid (CmpAt w3 w.heap.size s 0 0 true):=hx;have HO3:Hid (Only [w.heap.size] w2 w3):=(HOZ.out.mono (L':=[w.heap.size]) (fun _ hk=>by cases hk)).trans ho (fun k hk=>Or.inl hk);have HZ3:Hid (Only [w.heap.size] ((w2.alloc (.cells opCR 49)).alloc (.cells (rpCells 0) 170)) w3):=((Only.refl [w.heap.size] _).drew).trans ho (fun k hk=>Or.inl hk);clear hx ho)
      | (go_at_call 63;(with_reducible refine (HCN.out _ (by first | exact HO3.out | exact HO3.out.alloc _)).mono ?_);rintro e w4 ⟨rfl,ho⟩;obtain ⟨k0,k1,k2,k3,k4,k5,k6,k7,k8,kf⟩:=rp_kept (x:=w2.heap.size+1) (World.size_alloc _ _) (HZ3.out.trans ho (fun _ hk=>by cases hk)) (by simp;omega);have z0:=kf 0;have z1:=kf 1;have z2:=kf 2;have z3:=kf 3;have z4:=kf 4;have z5:=kf 5;have z6:=kf 6;have z7:=kf 7;have z8:=kf 8;have HS2:Hid (OpS w2.heap.size kR ⟨#[]⟩ 0 w4):=opS_only HS1.out ho (by simp);have HS3:Hid (OpS w2.heap.size kR ⟨#[]⟩ 0 (put9 w4 (w2.heap.size+1) (.int .i64 0) (.string ⟨#[]⟩) (.int .i64 0) (.int .i64 0) (.int .i64 0) (.int .i64 0) (.slice none 0 0) (.int .i64 0) (.bool false))):=opS_only HS2.out put9_only (by simp);have HO34:Hid (Only [] w3 w4):=ho;have HO4:Hid (Only [w.heap.size] w2 w4):=HO3.out.trans ho (fun _ hk=>by cases hk);clear ho kf)
      | (go_at_call 63;(with_reducible refine (HCN.out _ (by first | exact HO3.out | exact HO3.out.alloc _)).mono ?_);rintro e w4 ⟨rfl,ho⟩;have HO4:Hid (Only [w.heap.size] w2 w4):=HO3.out.trans ho (fun _ hk=>by cases hk);have HO34:Hid (Only [] w3 w4):=ho;have HS2:Hid (OpS w2.heap.size kR ⟨#[]⟩ 0 w4):=opS_only HS1.out ho (by simp);have HS2z:Hid (OpS w2.heap.size kR ⟨#[]⟩ 0 (w4.alloc (.cells (rpCells 0) 170))):=opS_only HS2.out ((Only.refl [] _).alloc _) (by simp);have HS2k:Hid (OpS w2.heap.size kR ⟨#[]⟩ 0 (w4.alloc (.cells (rpCells 0) 170))):=opS_only HS2.out ((Only.refl [] _).alloc _) (by simp);clear ho)
      | (go_at_call 63;(with_reducible refine (HCN.out _ (by first | exact HO3.out | exact HO3.out.alloc _)).mono ?_);rintro e w4 ⟨rfl,ho⟩;have HO4:Hid (Only [w.heap.size] w2 w4):=(HO3.out.alloc _).trans ho (fun _ hk=>by cases hk);have HO34:Hid (Only [] w3 w4):=((Only.refl [] w3).alloc _).trans ho (fun _ hk=>by cases hk);have HXl:Hid (w2.heap.size < w3.heap.size):=lt_of_cell HS1.out.1;obtain ⟨k0,k1,k2,k3,k4,k5,k6,k7,k8,kf⟩:=rp_kept (x:=w3.heap.size) rfl ho (by simp);have z0:=kf 0;have z1:=kf 1;have z2:=kf 2;have z3:=kf 3;have z4:=kf 4;have z5:=kf 5;have z6:=kf 6;have z7:=kf 7;have z8:=kf 8;have HS2:Hid (OpS w2.heap.size kR ⟨#[]⟩ 0 w4):=opS_only HS1z.out ho (by simp);have HS3:Hid (OpS w2.heap.size kR ⟨#[]⟩ 0 (put9 w4 w3.heap.size (.int .i64 0) (.string ⟨#[]⟩) (.int .i64 0) (.int .i64 0) (.int .i64 0) (.int .i64 0) (.slice none 0 0) (.int .i64 0) (.bool false))):=opS_only HS2.out put9_only (by have:=HXl.out;simp;omega);clear ho kf))
  all_goals go_wp2
  all_goals go_meet
  · exact DidR.new (fun W ho=>HX3.out.only ho (by simp)) HO34.out HO4.out
  · exact DidR.mid (fun W ho=>HX3.out.only ho (by simp)) HO34.out HO4.out (Nat.le_of_lt HXl.out) ⟨k0,k1,k2,k3,k4,k5,k6,k7,k8⟩
  · exact DidR.old (fun W ho=>HX3.out.only ho (by simp;omega)) HO34.out HO4.out (Nat.le_succ _) ⟨k0,k1,k2,k3,k4,k5,k6,k7,k8⟩
  · exact DidR.old (fun W ho=>HX3.out.only ho (by simp;omega)) HO34.out HO4.out (Nat.le_succ _) ⟨k0,k1,k2,k3,k4,k5,k6,k7,k8⟩
 case rest =>
  generalize wc=wa at hcut ⊢;obtain ⟨x1,rfl,hr1,hc1,hx1,ho1⟩:=hcut;have HRP:Hid (RpAt wa x1 0):=hr1;have HC3:Hid (CmpAt wa w.heap.size s 0 0 true):=hc1;have HOW:Hid (Only [] w wa):=HO2.out.trans ho1 (fun k hk=>by rw [List.mem_singleton.1 hk];exact Or.inr (Nat.le_refl _));have HO23:Hid (Only [w.heap.size] w2 wa):=ho1;have HWS:Hid (w.heap.size≤wa.heap.size):=HOW.out.size;have HROW:Hid (wa.ownsRow w.heap.size 170 9 (.slice none 0 0) 0 []):=World.ownsRow_nil _ _ _ _;obtain ⟨q0,q1,q2,q3,q4,q5,q6,q7,q8⟩:=hr1;have hx1l:=lt_of_cell q0;clear hc1 ho1 hx1 p0 p1 p2 p3 p4 p5 p6 p7 p8
  go_wp2_with (first
    | (at_builtin;refine wpList_append_lies _ rfl (.tmp 36) (.tmp 38) 43 rfl w.heap.size 170 i0 _ 9 96 rpsUnd hi0 hz0 hz1 hz2 rfl (by decide) (.slice none 0 0) 0 [] rfl (World.ownsRow.alloc HROW.out _) ⟨wa.heap.size,0,none⟩ 1 1 (rpC (rpv 0,Value.slice none 0 0)) rfl rfl (rp_news2 (rpv 0) (.slice none 0 0) _) (rpC_one2 (rpv 0) none 0 0) (by decide) (by unfold maxLen;omega) (by omega) (by rw [World.size_alloc];have:=HWS.out;omega) (wa.heap.size+1) (by simp) ?_;intro g5 c5 w5 hown hgr hat hlt;have HG:Hid (Only [] wa w5):=grown_only hgr (fun b hb=>by cases hb);have HV:Hid (w5.ownsRow w.heap.size 170 9 (.slice (some ⟨g5,0,none⟩) 1 c5) 1 ([]++rpC (rpv 0,Value.slice none 0 0))):=hown;have HAT:Hid (Value.ownBlock (.slice none 0 0)=some g5∨g5=wa.heap.size+1):=hat;have hc0:w5.cell? ⟨x1,0,none⟩=some (.int .i64 0):=(HRP.out.only HG.out (by simp)).c0;clear hown hgr hat hlt)
    | go_in)
  rw [rounds_succ];have HO5:Hid (Only [] w w5):=HOW.out.trans HG.out (fun _ hk=>by cases hk);have HC5:Hid (CmpAt w5 w.heap.size s 0 0 true):=HC3.out.only HG.out (by simp);have HV5:Hid (w5.ownsRow w.heap.size 170 9 (.slice (some ⟨g5,0,none⟩) 1 c5) 1 (rpC (rpv 0,Value.slice none 0 0))):=HV.out;obtain ⟨hg5a,hg5b,_⟩:=own_at HV.out (b:=g5) rfl
  have HGC:Hid (g5≠w.heap.size):=by
    show g5≠w.heap.size;rcases HAT.out with e | e
    · cases e
    · have:=HC3.out.lt;omega
  have HO25:Hid (Only [w.heap.size] w2 w5):=HO23.out.trans HG.out (fun _ hk=>by cases hk);have HXB:Hid (BoxF w5 x 174 (fn0 180)):=HQ.out.2.2.2.1.only HO25.out (HQ.out.2.2.2.1.ne HCB.out (by decide));have HFI2:Hid (∀ W,Only [] w5 W→Calls Tryz.prog 121 #[.string kM,.pointer (some ⟨fb,0,none⟩)] W fun e w'=>e = .returned (fn1 263 x)∧w'=W):=fun W ho=>find_first W fb r bm f kM (by decide) ⟨263,some x⟩ _ _ _ ((HFA.out w5 HO25.out).only ho) HQ.out.2.2.1 rfl;have HDO2:Hid (∀ W,Only [] w5 W→Calls Tryz.prog 263 #[.pointer (some ⟨w.heap.size,0,none⟩),opVMD nm,.pointer (some ⟨x,0,none⟩)] W fun e w'=>e = .returned (.tuple #[rpK 0,er])∧AftR w.heap.size W.heap.size R w'∧Only (w.heap.size::L) W w'):=fun W ho=>HM.out W w.heap.size x (HO5.out.trans ho (fun _ hk=>by cases hk)) (Nat.le_refl _) (HC5.out.only ho (by simp)) (HXB.out.only ho (by simp))
  have HCN2:Hid (∀ W,Only (w.heap.size::L) w5 W→Calls Tryz.prog 63 #[rpK 0,er] W fun e w'=>e = .returned (rpK kc)∧Only [] W w'):=fun W ho=>HD.out W ((HO5.out.mono (L':=L) (fun _ hk=>by cases hk)).trans ho (fun k hk=>by
    rcases List.mem_cons.1 hk with e | e
    · rw [e];exact Or.inr (Nat.le_refl _)
    · exact Or.inl e))
  have HNM:Hid (∀ k,w5.heap.size≤k→k∉w.heap.size::L):=fun k hk hm=>by
    have h1:=HC5.out.lt;rcases List.mem_cons.1 hm with e | e
    · omega
    · have:=HLL.out k e
      omega
  obtain ⟨p0,p1,p2,p3,p4,p5,p6,p7,p8⟩:=op_cellsMD (HRW.out.in_ HO5.out);have HS5:Hid (w.heap.size≤w5.heap.size):=HO5.out.size;clear hc0 q0 q1 q2 q3 q4 q5 q6 q7 q8 HV HG HROW HRP HC3
  go_wp2_with fail
  go_cut [11] (fun v wx=>DidR w5 kc (w.heap.size::L) (fun W=>AftR w.heap.size w5.heap.size R W) v wx)
  case first =>
    have o0:Only [] w5 (w5.alloc (.cells (opCMD nm) 49)):=(Only.refl [] w5).alloc _;have HO0:Hid (Only [] w5 (w5.alloc (.cells (opCMD nm) 49))):=o0;have HS0:Hid (OpS w5.heap.size kM nm 2 (w5.alloc (.cells (opCMD nm) 49)).drew):=opS_new w5 kM nm 2 _;have HSZ:Hid (OpS w5.heap.size kM nm 2 ((w5.alloc (.cells (opCMD nm) 49)).alloc (.cells (rpCells 0) 170)).drew):=opS_only HS0.out (((Only.refl [] (w5.alloc (.cells (opCMD nm) 49)).drew).alloc (.cells (rpCells 0) 170))) (by simp);have HOZ:Hid (Only [] w5 ((w5.alloc (.cells (opCMD nm) 49)).alloc (.cells (rpCells 0) 170)).drew):=(HO0.out.alloc _).drew;clear o0 p0 p1 p2 p3 p4 p5 p6 p7 p8
    go_region_held3 (OpS w5.heap.size kM nm 2)
      (with_reducible first | exact HS0.out | exact HSZ.out | exact HS1.out | exact HS2.out | exact HS1z.out | exact HS2z.out | exact HS2k.out | exact HS3.out)
      (first
        | (go_at_call 121;(with_reducible refine (HFI2.out _ HO0.out.drew).mono ?_);rintro e w3 ⟨rfl,rfl⟩)
        | (go_at_call 121;(with_reducible refine (HFI2.out _ HOZ.out).mono ?_);rintro e w3 ⟨rfl,rfl⟩)
        | (go_at_call 263;(with_reducible refine (HDO2.out _ HO0.out.drew).mono ?_);rintro e w3 ⟨rfl,hx,ho⟩;have HS1:Hid (OpS w5.heap.size kM nm 2 w3):=opS_only HS0.out ho (HNM.out _ (Nat.le_refl _));have HS1z:Hid (OpS w5.heap.size kM nm 2 (w3.alloc (.cells (rpCells 0) 170))):=opS_only HS1.out ((Only.refl [] _).alloc _) (by simp);have HX3:Hid (AftR w.heap.size ((w5.alloc (.cells (opCMD nm) 49)).drew).heap.size R w3):=hx;have HO3:Hid (Only (w.heap.size::L) w5 w3):=(HO0.out.drew.mono (L':=(w.heap.size::L)) (fun _ hk=>by cases hk)).trans ho (fun k hk=>Or.inl hk);clear hx ho)
        | (go_at_call 263;(with_reducible refine (HDO2.out _ HOZ.out).mono ?_);rintro e w3 ⟨rfl,hx,ho⟩;have HS1:Hid (OpS w5.heap.size kM nm 2 w3):=opS_only HSZ.out ho (HNM.out _ (Nat.le_refl _));have HX3:Hid (AftR w.heap.size (((w5.alloc (.cells (opCMD nm) 49)).alloc (.cells (rpCells 0) 170)).drew).heap.size R w3):=hx;have HO3:Hid (Only (w.heap.size::L) w5 w3):=(HOZ.out.mono (L':=(w.heap.size::L)) (fun _ hk=>by cases hk)).trans ho (fun k hk=>Or.inl hk);have HZ3:Hid (Only (w.heap.size::L) ((w5.alloc (.cells (opCMD nm) 49)).alloc (.cells (rpCells 0) 170)) w3):=((Only.refl (w.heap.size::L) _).drew).trans ho (fun k hk=>Or.inl hk);clear hx ho)
        | (go_at_call 63;(with_reducible refine (HCN2.out _ (by first | exact HO3.out | exact HO3.out.alloc _)).mono ?_);rintro e w4 ⟨rfl,ho⟩;obtain ⟨k0,k1,k2,k3,k4,k5,k6,k7,k8,kf⟩:=rp_kept (x:=w5.heap.size+1) (World.size_alloc _ _) (HZ3.out.trans ho (fun _ hk=>by cases hk)) (HNM.out _ (Nat.le_succ _));have z0:=kf 0;have z1:=kf 1;have z2:=kf 2;have z3:=kf 3;have z4:=kf 4;have z5:=kf 5;have z6:=kf 6;have z7:=kf 7;have z8:=kf 8;have HS2:Hid (OpS w5.heap.size kM nm 2 w4):=opS_only HS1.out ho (by simp);have HS3:Hid (OpS w5.heap.size kM nm 2 (put9 w4 (w5.heap.size+1) (.int .i64 kc) (.string ⟨#[]⟩) (.int .i64 0) (.int .i64 0) (.int .i64 0) (.int .i64 0) (.slice none 0 0) (.int .i64 0) (.bool false))):=opS_only HS2.out put9_only (by simp);have HO34:Hid (Only [] w3 w4):=ho;have HO4:Hid (Only (w.heap.size::L) w5 w4):=HO3.out.trans ho (fun _ hk=>by cases hk);clear ho kf)
        | (go_at_call 63;(with_reducible refine (HCN2.out _ (by first | exact HO3.out | exact HO3.out.alloc _)).mono ?_);rintro e w4 ⟨rfl,ho⟩;have HO4:Hid (Only (w.heap.size::L) w5 w4):=HO3.out.trans ho (fun _ hk=>by cases hk);have HO34:Hid (Only [] w3 w4):=ho;have HS2:Hid (OpS w5.heap.size kM nm 2 w4):=opS_only HS1.out ho (by simp);have HS2z:Hid (OpS w5.heap.size kM nm 2 (w4.alloc (.cells (rpCells 0) 170))):=opS_only HS2.out ((Only.refl [] _).alloc _) (by simp);have HS2k:Hid (OpS w5.heap.size kM nm 2 (w4.alloc (.cells (rpCells kc) 170))):=opS_only HS2.out ((Only.refl [] _).alloc _) (by simp);clear ho)
        | (go_at_call 63;(with_reducible refine (HCN2.out _ (by first | exact HO3.out | exact HO3.out.alloc _)).mono ?_);rintro e w4 ⟨rfl,ho⟩;have HO4:Hid (Only (w.heap.size::L) w5 w4):=(HO3.out.alloc _).trans ho (fun _ hk=>by cases hk);have HO34:Hid (Only [] w3 w4):=((Only.refl [] w3).alloc _).trans ho (fun _ hk=>by cases hk);have HXl:Hid (w5.heap.size < w3.heap.size):=lt_of_cell HS1.out.1;obtain ⟨k0,k1,k2,k3,k4,k5,k6,k7,k8,kf⟩:=rp_kept (x:=w3.heap.size) rfl ho (by simp);have z0:=kf 0;have z1:=kf 1;have z2:=kf 2;have z3:=kf 3;have z4:=kf 4;have z5:=kf 5;have z6:=kf 6;have z7:=kf 7;have z8:=kf 8;have HS2:Hid (OpS w5.heap.size kM nm 2 w4):=opS_only HS1z.out ho (by simp);have HS3:Hid (OpS w5.heap.size kM nm 2 (put9 w4 w3.heap.size (.int .i64 kc) (.string ⟨#[]⟩) (.int .i64 0) (.int .i64 0) (.int .i64 0) (.int .i64 0) (.slice none 0 0) (.int .i64 0) (.bool false))):=opS_only HS2.out put9_only (by have:=HXl.out;simp;omega);clear ho kf))
    all_goals go_wp2
    all_goals go_meet
    · exact DidR.new (fun W ho=>(HX3.out.only ho (fun _ hk=>by cases hk)).low (by have:=HS5.out;simp)) HO34.out HO4.out
    · exact DidR.mid (fun W ho=>(HX3.out.only ho (fun _ hk=>by cases hk)).low (by have:=HS5.out;simp)) HO34.out HO4.out (Nat.le_of_lt HXl.out) ⟨k0,k1,k2,k3,k4,k5,k6,k7,k8⟩
    · exact DidR.old (fun W ho=>(HX3.out.only ho (fun k hk=>by have:=HS5.out;rw [List.mem_singleton.1 hk];simp;omega)).low (by simp;omega)) HO34.out HO4.out (Nat.le_succ _) ⟨k0,k1,k2,k3,k4,k5,k6,k7,k8⟩
    · exact DidR.old (fun W ho=>(HX3.out.only ho (fun k hk=>by have:=HS5.out;rw [List.mem_singleton.1 hk];simp;omega)).low (by simp;omega)) HO34.out HO4.out (Nat.le_succ _) ⟨k0,k1,k2,k3,k4,k5,k6,k7,k8⟩
  case rest =>
    obtain ⟨x2,rfl,hr1,hc1,hx1,ho1⟩:=hcut;have HRP:Hid (RpAt wc x2 kc):=hr1;have HAF:Hid (AftR w.heap.size w5.heap.size R wc):=hc1
    have HOL:Hid (Only L w wc):=(HO5.out.mono (L':=L) (fun _ hk=>by cases hk)).trans ho1 (fun k hk=>by
      rcases List.mem_cons.1 hk with e | e
      · rw [e];exact Or.inr (Nat.le_refl _)
      · exact Or.inl e)
    have HWS:Hid (w.heap.size≤wc.heap.size):=HOL.out.size
    have HGN:Hid (g5∉w.heap.size::L):=fun hm=>by
      rcases List.mem_cons.1 hm with e | e
      · exact HGC.out e
      · have:=HLL.out _ e
        omega
    have HROW:Hid (wc.ownsRow w.heap.size 170 9 (.slice (some ⟨g5,0,none⟩) 1 c5) 1 (rpC (rpv 0,Value.slice none 0 0))):=ho1.owns HV5.out (fun k hk=>by cases hk;exact HGN.out);obtain ⟨q0,q1,q2,q3,q4,q5,q6,q7,q8⟩:=hr1;have hx2l:=lt_of_cell q0
    have hxg:x2∉[g5]:=by simp;omega
    have HX2:Hid (x2∉[g5]):=hxg;clear hc1 ho1 hx1 p0 p1 p2 p3 p4 p5 p6 p7 p8 hxg
    by_cases hkc:kc=0
    · have hkb:(kc != 0)=false:=by simp [hkc]
      clear hkc
      go_wp2_with (first
        | (at_builtin;refine wpList_append_lies _ rfl (.tmp 36) (.tmp 38) 43 rfl w.heap.size 170 i0 _ 9 96 rpsUnd hi0 hz0 hz1 hz2 rfl (by decide) (.slice (some ⟨g5,0,none⟩) 1 c5) 1 (rpC (rpv 0,Value.slice none 0 0)) rfl (World.ownsRow.alloc HROW.out _) ⟨wc.heap.size,0,none⟩ 1 1 (rpC (rpv kc,Value.slice none 0 0)) rfl rfl (rp_news2 (rpv kc) (.slice none 0 0) _) (rpC_one2 (rpv kc) none 0 0) (by decide) (by unfold maxLen;omega) (by omega) (by rw [World.size_alloc];have:=HWS.out;omega) (wc.heap.size+1) (by simp) ?_;intro g8 c8 w8 hown hgr hat hlt;have HG:Hid (Only [g5] wc w8):=grown_only hgr (fun b hb=>(by cases hb;exact Or.inl (by simp)));have HV:Hid (w8.ownsRow w.heap.size 170 9 (.slice (some ⟨g8,0,none⟩) 2 c8) 2 (rpC (rpv 0,Value.slice none 0 0)++rpC (rpv kc,Value.slice none 0 0))):=hown;have HAT:Hid (Value.ownBlock (.slice (some ⟨g5,0,none⟩) 1 c5)=some g8∨g8=wc.heap.size+1):=hat;have hc0:w8.cell? ⟨x2,0,none⟩=some (.int .i64 kc):=(HRP.out.only HG.out HX2.out).c0;clear hown hgr hat hlt)
        | go_in)
      rw [rounds_succ]
      go_wp2
      go_ret2
      exact ⟨g8,c8,rfl,HV.out,(HAF.out.only HG.out (fun k hk=>by rw [List.mem_singleton.1 hk];exact ⟨hg5a,hg5b⟩)).low HS5.out,HOL.out.trans HG.out (fun k hk=>by rw [List.mem_singleton.1 hk];exact Or.inr hg5a)⟩
    · have hkb:(kc != 0)=true:=by simpa using hkc
      clear hkc
      go_wp2_with (first
        | (at_builtin;refine wpList_append_lies _ rfl (.tmp 36) (.tmp 38) 43 rfl w.heap.size 170 i0 _ 9 96 rpsUnd hi0 hz0 hz1 hz2 rfl (by decide) (.slice (some ⟨g5,0,none⟩) 1 c5) 1 (rpC (rpv 0,Value.slice none 0 0)) rfl (World.ownsRow.alloc HROW.out _) ⟨wc.heap.size,0,none⟩ 1 1 (rpC (rpv kc,Value.slice none 0 0)) rfl rfl (rp_news2 (rpv kc) (.slice none 0 0) _) (rpC_one2 (rpv kc) none 0 0) (by decide) (by unfold maxLen;omega) (by omega) (by rw [World.size_alloc];have:=HWS.out;omega) (wc.heap.size+1) (by simp) ?_;intro g8 c8 w8 hown hgr hat hlt;have HG:Hid (Only [g5] wc w8):=grown_only hgr (fun b hb=>(by cases hb;exact Or.inl (by simp)));have HV:Hid (w8.ownsRow w.heap.size 170 9 (.slice (some ⟨g8,0,none⟩) 2 c8) 2 (rpC (rpv 0,Value.slice none 0 0)++rpC (rpv kc,Value.slice none 0 0))):=hown;have HAT:Hid (Value.ownBlock (.slice (some ⟨g5,0,none⟩) 1 c5)=some g8∨g8=wc.heap.size+1):=hat;have hc0:w8.cell? ⟨x2,0,none⟩=some (.int .i64 kc):=(HRP.out.only HG.out HX2.out).c0;clear hown hgr hat hlt)
        | go_in)
      go_ret2
      exact ⟨g8,c8,rfl,HV.out,(HAF.out.only HG.out (fun k hk=>by rw [List.mem_singleton.1 hk];exact ⟨hg5a,hg5b⟩)).low HS5.out,HOL.out.trans HG.out (fun k hk=>by rw [List.mem_singleton.1 hk];exact Or.inr hg5a)⟩
theorem foot_stepS {tr k:Nat}{T T':Tr}(h1:T'.t=T.t)(h2:T'.db=T.db)(h3:T'.pb=T.pb)(hk:FootT tr T' k):FootT tr T k∨T'.p.a=some k∨(∃ j x,T'.nd j=some x∧k∈x.foot)∨∃ j x,T'.ds j=some x∧k=x.b:=by
 rcases hk with e | e | e | h | hk
 · exact Or.inl (Or.inl e)
 · exact Or.inl (Or.inr (Or.inl (e.trans h2)))
 · exact Or.inl (Or.inr (Or.inr (Or.inl (e.trans h3))))
 · exact Or.inr (Or.inr (Or.inr h))
 · rcases hk with e | e | h
   · exact Or.inl (Or.inr (Or.inr (Or.inr (Or.inr (Or.inl (e.trans h1))))))
   · exact Or.inr (Or.inl e)
   · exact Or.inr (Or.inr (Or.inl h))
theorem foot_dirS {tr a k:Nat}{T:Tr}{d:DirM}(hd:T.ds a=some d)(hk:k=d.b):FootT tr T k:=Or.inr (Or.inr (Or.inr (Or.inl ⟨a,d,hd,hk⟩)))
theorem foot_pS {tr k:Nat}{T:Tr}(h:T.p.a=some k):FootT tr T k:=Or.inr (Or.inr (Or.inr (Or.inr (Or.inr (Or.inl h)))))
theorem foot_nodeS {tr i k:Nat}{T:Tr}{n:Nod}(h:T.nd i=some n)(hk:k∈n.foot):FootT tr T k:=Or.inr (Or.inr (Or.inr (Or.inr (.node h hk))))
def MadeD (tr N0:Nat)(W w':World):Prop:=∃ T,TreeAt w' tr T∧absT T=cqC2 1 1∧T.p.N=2∧∀ k,FootT tr T k→k < N0∨W.heap.size≤k
theorem create_freshD (A:Nat→Addr)(w:World)(tr t most:Nat)(p:Row)(b db B pb:Nat)(hm:2≤most)(hE:Errs w A)(hT:TreeAt w tr (Tr.fresh t p most b db B pb))(hN:p.N=1)(N0:Nat)(hF:∀ k,FootT tr (Tr.fresh t p most b db B pb) k→k < N0):
   Calls Tryz.prog 181 #[.pointer (some ⟨tr,0,none⟩),.agg #[.int .i64 0,.int .i64 0],.string (bs [97]),.int .i64 2] w fun e w'=>e = .returned (.tuple #[.agg #[.int .i64 1,.int .i64 0],.nilIface])∧MadeD tr N0 w w'∧Only (B::b::db::t::p.a.toList) w w':=by
 have hcount:countTo (Tr.fresh t p most b db B pb).nd (Tr.fresh t p most b db B pb).p.N < (Tr.fresh t p most b db B pb).most:=by
   have:=count_leQ (Tr.fresh t p most b db B pb).nd (Tr.fresh t p most b db B pb).p.N;show _ < most
   rw [show (Tr.fresh t p most b db B pb).p.N=1 from hN] at this ⊢
   omega
 have hcall:=create_dir w tr (Tr.fresh t p most b db B pb) A 0 1 { newNod b 2 with Z:=0,L:=2 } ⟨B,[]⟩ (bs [97]) hT hE rfl rfl rfl ⟨(show (0:Int)≤0 by decide),(show (0:Int)≤9000000000000000000 by decide)⟩ okQ (by rw [bs_size];decide) rfl (by simp) (fun e he=>by cases he) (by decide) hcount rfl rfl (fun j hj=>by obtain rfl:j=0:=(by omega);rfl);refine hcall.mono fun e w' hh=>?_;obtain ⟨he,p',b',B',hT0,hN',hb',hB',hpa,ho⟩:=hh
 obtain ⟨T',hT',t1,t2,t3,t4,t5,t6,t7,t8⟩:∃ T':Tr,TreeAt w' tr T'∧T'.t=t∧T'.db=db∧T'.pb=pb∧T'.p=p'∧T'.g=(fun _=>0)∧T'.nd=setN (setN (setN (fun _=>none) 0 (some { newNod b 2 with Z:=0,L:=2 })) 1 (some { newNod b' 2 with Z:=0,L:=2,UN:=0,UG:=0 })) 0 (some { newNod b 2 with Z:=1,L:=3,C:=1 })∧T'.ds=setN (setN (setN (fun _=>none) 0 (some ⟨B,[]⟩)) 1 (some ⟨B',[]⟩)) 0 (some ⟨B,[⟨[97],1,0⟩]⟩)∧True :=
   ⟨_,hT0,rfl,rfl,rfl,rfl,rfl,rfl,rfl,trivial⟩
 have hN2:T'.p.N=2:=by
   rw [t4,hN'];show max p.N 2=2;rw [hN];rfl
 refine ⟨he,⟨T',hT',made_cq hN2 t5 t6 t7,hN2,fun k hk=>?_⟩,ho⟩;rcases foot_stepS (T:=Tr.fresh t p most b db B pb) t1 t2 t3 hk with h1 | h1 | ⟨j,x,hx,hf⟩ | ⟨j,x,hx,hf⟩
 · exact Or.inl (hF k h1)
 · rw [t4] at h1
   rcases hpa k h1 with h2 | h2
   · exact Or.inl (hF k (foot_pS h2))
   · exact Or.inr h2
 · rw [t6] at hx
   by_cases e0:j=0
   · subst e0
     rw [setN_same] at hx
     cases hx
     have:k=b:=by simpa [newNod,Nod.foot,footD] using hf
     rw [this];exact Or.inl (hF b (foot_nodeS (i:=0) (n:={ newNod b 2 with Z:=0,L:=2 }) rfl (Nod.b_foot _)))
   · rw [setN_other _ _ e0] at hx
     by_cases e1:j=1
     · subst e1
       rw [setN_same] at hx
       cases hx
       have:k=b':=by simpa [newNod,Nod.foot,footD] using hf
       rw [this];exact Or.inr hb'
     · rw [setN_other _ _ e1,setN_other _ _ e0] at hx
       cases hx
 · rw [t7] at hx
   by_cases e0:j=0
   · subst e0
     rw [setN_same] at hx
     cases hx
     rw [hf];exact Or.inl (hF _ (foot_dirS (a:=0) (d:=⟨B,[]⟩) rfl rfl))
   · rw [setN_other _ _ e0] at hx
     by_cases e1:j=1
     · subst e1
       rw [setN_same] at hx
       cases hx
       rw [hf];exact Or.inr hB'
     · rw [setN_other _ _ e1,setN_other _ _ e0] at hx
       cases hx
theorem fresh_lt {tr t most:Nat}{p:Row}{b db B pb:Nat}:∀ k∈B::b::db::t::p.a.toList,FootT tr (Tr.fresh t p most b db B pb) k:=fun k hk=>by
 rcases List.mem_cons.1 hk with e | hk
 · exact foot_dirS (a:=0) (d:=⟨B,[]⟩) rfl e
 · rcases List.mem_cons.1 hk with e | hk
   · rw [e];exact foot_nodeS (i:=0) (n:={ newNod b 2 with Z:=0,L:=2 }) rfl (Nod.b_foot _)
   · rcases List.mem_cons.1 hk with e | hk
     · exact Or.inr (Or.inl e)
     · rcases List.mem_cons.1 hk with e | hk
       · rw [e];exact Or.inr (Or.inr (Or.inr (Or.inr (Or.inl rfl))))
       · exact foot_pS (show p.a=some k by simpa using hk)
theorem compound_madeD (A:Nat→Addr)(w:World)(s tr t most:Nat)(p:Row)(b db B pb g cap:Nat)(hm:2≤most)(hE:Errs w A)(hs:w.cell? ⟨s,0,none⟩=some (.pointer (some ⟨tr,0,none⟩)))(hT:TreeAt w tr (Tr.fresh t p most b db B pb))(hN:p.N=1)(N0:Nat)(hF:∀ k,FootT tr (Tr.fresh t p most b db B pb) k→k < N0)
  (hr:Rws w w.heap.size opC 9 (some ⟨g,0,none⟩) [opR,opMD (bs [97])]) (hg:g < w.heap.size) :
  Calls Tryz.prog 35 #[.pointer (some ⟨s,0,none⟩),.slice (some ⟨g,0,none⟩) 2 cap] w fun e w'=>TwoR w 0 (B::b::db::t::p.a.toList) (MadeD tr N0) e w':=by
 have hlt:=lt_of_cell hs;have hL:∀ k∈B::b::db::t::p.a.toList,k < w.heap.size:=fun k hk=>hT.foot_lt k (fresh_lt k hk);refine compound_twoD w s tr g cap (bs [97]) .nilIface 0 (MadeD tr N0) (B::b::db::t::p.a.toList) hs hr hg hL ?_ (fun W _=>codedS_nil W 0);intro W c x ho hc hC hX
 have hcL:c∉B::b::db::t::p.a.toList:=fun h=>by have:=hL c h;omega
 refine (needCur_make W c s x 0 0 1 0 (opMD (bs [97])) .nilIface w.heap.size hc (MadeD tr N0) (B::b::db::t::p.a.toList) hC hX (fun k hk=>Nat.lt_of_lt_of_le (hL k hk) ho.size) ?_).mono fun e w' q=>⟨q.1,q.2.2.1,q.2.2.2⟩;intro W1 ho1;have ho2:=ho.trans ho1 (fun _ hk=>by cases hk);have hs1:W1.cell? ⟨s,0,none⟩=some (.pointer (some ⟨tr,0,none⟩)):=(ho2.cell (p:=⟨s,0,none⟩) hlt (by simp)).trans hs;refine make_ok W1 c s tr 0 0 (opMD (bs [97])) 1 0 w.heap.size hc (MadeD tr N0) (B::b::db::t::p.a.toList) (hC.only ho1 (by simp)) hs1 hcL (fun k hk=>Nat.lt_of_lt_of_le (hL k hk) ho2.size) (fun W2 ho3=>?_);have ho4:=ho2.trans ho3 (fun _ hk=>by cases hk);exact create_freshD A W2 tr t most p b db B pb hm (hE.below (ho4.to_below (Nat.le_refl _) (fun _ h=>by cases h)) (Nat.le_refl _)) (hT.only ho4) hN N0 hF
theorem Ds.onlyT {g:Dv}{w w':World}{s:DSt}{tr:Nat}{T:Tr}{L:List Nat}(h:Ds g w s)(hT:TreeAt w tr T)(hr:TreeRow w tr)(ho:Only L w w')(hL:∀ k∈L,FootT tr T k∧g.W0.heap.size≤k):Ds g w' s:=by
 obtain ⟨vw,hd⟩:=h.dk;refine ⟨⟨vw,hd.only ho (fun k hk hm=>?_)⟩,h.er,h.bel.trans (ho.to_below h.bel.size (fun k hk=>(hL k hk).2)),h.ge,Nat.le_trans h.bs ho.size,h.pl⟩;have hlt:=hT.foot_lt k (hL k hm).1;have hob:w.heap[k]?=some w.heap[k]:=Array.getElem?_eq_getElem hlt;rcases hT.obj hr (hL k hm).1 hob with hn | ⟨cs,ty,fr,he,h1,h2,h3,_⟩
 · rcases mem_foot.1 hk with e | e | e
   · subst e
     exact hn _ _ _ (Option.some.inj (hob.symm.trans hd.blk))
   · obtain ⟨_,_,cur,hq⟩:=own_blkD hd.secs e
     exact hn _ _ _ (Option.some.inj (hob.symm.trans hq))
   · obtain ⟨_,_,cur,hq⟩:=own_blkD hd.wts e
     exact hn _ _ _ (Option.some.inj (hob.symm.trans hq))
 · exact foot_type hd (hob.trans (by rw [he])) h1 h2 h3 hk
theorem SvS.onlyT {w w':World}{s tr lt mb:Nat}{T T':Tr}{L:List Nat}(h:SvS w s tr lt mb T)(ho:Only L w w')(h1:s∉L)(h2:lt∉L)(h3:mb∉L)(h4:tr∉L)(hT:TreeAt w' tr T'):SvS w' s tr lt mb T':=by
 obtain ⟨a,c,hr⟩:=h.row;exact ⟨⟨a,c,(ho.block s (Array.getElem?_eq_some_iff.1 hr).1 h1).trans hr⟩,h.ls.kept ho h2 h3,h.trow.only ho h4,hT⟩
theorem fresh_own {w:World}{tr t most:Nat}{p:Row}{b db B pb:Nat}(h:TreeAt w tr (Tr.fresh t p most b db B pb))(hr:TreeRow w tr):tr∉B::b::db::t::p.a.toList:=fun hm=>by
 obtain ⟨row,hr⟩:=hr
 have mp:∀ {K:TypeId} {R:Value→Option (DataW Unit×List MemPlace)} {n:Nat} {D:DataW Unit} {k:Nat},w.ownsMap Tryz.prog K R k n D→tr≠k:=fun h e=>by
   obtain ⟨es,clock,hb,_⟩:=h;rw [← e,hr] at hb
   cases hb
 rcases List.mem_cons.1 hm with e | hm
 · exact mp (h.dir 0 ⟨B,[]⟩ rfl) e
 · rcases List.mem_cons.1 hm with e | hm
   · exact h.ftr (.node (i:=0) (n:={ newNod b 2 with Z:=0,L:=2 }) rfl (by rw [e];exact Nod.b_foot _))
   · rcases List.mem_cons.1 hm with e | hm
     · obtain ⟨D,n,h1,_⟩:=h.dirs
       exact mp h1 e
     · rcases List.mem_cons.1 hm with e | hm
       · exact h.ftr (Or.inl e)
       · exact h.ftr (Or.inr (Or.inl (show p.a=some tr by simpa using hm)))
section
variable {g:Dv}{w:World}{s:DSt}
def DirS (g:Dv)(w':World)(N st sv tr lt mb l:Nat)(e:Ending):Prop:=∃ v T s',e = .returned (.tuple #[v,.nilIface])∧StS g w' s' st sv tr lt mb l T∧absT T=cqC2 1 1∧s'.sec.length=N
theorem scompound_made (A:Nat→Addr)(hA:g.A=A)(hE0:Errs g.W0 A)(st sv tr lt mb l t most:Nat)(p:Row)(b db B pb gg cap:Nat)(h:StS g w s st sv tr lt mb l (Tr.fresh t p most b db B pb))(hm:2≤most)(hN:p.N=1)(hF:∃ N0,(∀ k,FootT tr (Tr.fresh t p most b db B pb) k→k < N0)∧N0≤sv∧N0≤lt∧N0≤mb∧N0≤st)(hlo:∀ k∈B::b::db::t::p.a.toList,g.W0.heap.size≤k)
   (hr:Rws w w.heap.size opC 9 (some ⟨gg,0,none⟩) [opR,opMD (bs [97])]) (hg:gg < w.heap.size) (hroom:roomS s.sec true [cqT 1,[]]) :
   Calls Tryz.prog 14 #[.pointer (some ⟨st,0,none⟩),.slice (some ⟨gg,0,none⟩) 2 cap] w fun e w'=>DirS g w' s.sec.length st sv tr lt mb l e:=by
 obtain ⟨N0,n0,n1,n2,n3,n4⟩:=hF;have hEw:Errs w A:=hE0.below h.ds.bel (Nat.le_refl _);have HC:Hid (Calls Tryz.prog 35 #[.pointer (some ⟨sv,0,none⟩),.slice (some ⟨gg,0,none⟩) 2 cap] w fun e w'=>TwoR w 0 (B::b::db::t::p.a.toList) (MadeD tr N0) e w'):=compound_madeD A w sv tr t most p b db B pb gg cap hm hEw h.srv.c0 h.srv.tree hN N0 n0 hr hg;have k0:w.cell? ⟨st,0,none⟩=some (.pointer (some ⟨sv,0,none⟩)):=cell_of_row _ _ 0 _ _ _ h.row;have k6:w.cell? ⟨st,6,none⟩=some .nilIface:=cell_of_row _ _ 6 _ _ _ h.row;have kl:=lt_of_cell k0;have HH:Hid (StS g w s st sv tr lt mb l (Tr.fresh t p most b db B pb)):=h;have HI:Hid (g.A=A∧Errs g.W0 A∧(∀ k∈B::b::db::t::p.a.toList,g.W0.heap.size≤k)∧(∀ k,FootT tr (Tr.fresh t p most b db B pb) k→k < N0)∧N0≤sv∧N0≤lt∧N0≤mb∧N0≤st∧p.N=1∧roomS s.sec true [cqT 1,[]]):=⟨hA,hE0,hlo,n0,n1,n2,n3,n4,hN,hroom⟩;clear h hEw hA hE0 hlo hr hg n0 n1 n2 n3 n4 hN hm hroom
 go_enter Tryz.func14,Tryz.ntmps14
 go_upto_region 6 with (go_at_call 35;refine HC.out.mono ?_;rintro e w2 ⟨ga,ca,rfl,hrows,haft,ho⟩;have H2:Hid (AftR w.heap.size w.heap.size (MadeD tr N0) w2∧Only (B::b::db::t::p.a.toList) w w2):=⟨haft,ho⟩;clear HC hrows haft ho k0 k6 kl)
 obtain ⟨⟨W0,w1,M,a1,⟨T,b1,b2,b3,b4⟩,a3,a4⟩,ho⟩:=H2.out;obtain ⟨A0,E0,lo,n0,n1,n2,n3,n4,hN,hroom⟩:=HI.out;have hh:=HH.out;obtain ⟨q1,q2,q3,q4⟩:=hh.srv.lt;have qs:st < w.heap.size:=(Array.getElem?_eq_some_iff.1 hh.row).1;have hL0:∀ k∈B::b::db::t::p.a.toList,k < N0:=fun k hk=>n0 k (fresh_lt k hk)
 have hsz0:N0≤w.heap.size:=by omega
 have hT2:TreeAt w2 tr T:=b1.kept a3 (fun k hk hm=>by
   have h4:=a4 k hm
   rcases b4 k hk with e | e<;>omega)
 have hoff:∀ j,N0≤j→j < w.heap.size→∀ k,FootT tr T k→k≠j:=fun j hj1 hj2 k hk=>by
   rcases b4 k hk with e | e<;>omega
 have nin:∀ j,N0≤j→j∉B::b::db::t::p.a.toList:=fun j hj hm=>by have:=hL0 j hm;omega
 have hS2:SvS w2 sv tr lt mb T:=hh.srv.onlyT ho (nin sv n1) (nin lt n2) (nin mb n3) (fresh_own hh.srv.tree hh.srv.trow) hT2;have hD2:Ds g w2 s:=hh.ds.onlyT hh.srv.tree hh.srv.trow ho (fun k hk=>⟨fresh_lt k hk,lo k hk⟩)
 have hl2:LogAt w2 g l false:=⟨(ho.block l (Array.getElem?_eq_some_iff.1 hh.log.blk).1 (fun hm=>by
   rcases hh.srv.tree.obj hh.srv.trow (fresh_lt l hm) hh.log.blk with hn | ⟨cs,ty,fr,he,_,_,_,h4⟩
   · exact hn _ _ _ rfl
   · simp only [Obj.cells.injEq] at he
     exact h4 he.2.1.symm)).trans hh.log.blk,hh.log.ge⟩
 have hr2:w2.heap[st]?=some (.cells (stC (.pointer (some ⟨sv,0,none⟩)) 0 (.slice none 0 0) (.pointer (some ⟨l,0,none⟩)) (bs (cqT 0)) ⟨#[]⟩ .nilIface) 74 (0,0)):=by
   rw [ho.block st qs (nin st n4),hh.row,snap_cq (fresh_cq hN)]
 have hE2:Errs w2 A:=E0.below hD2.bel (Nat.le_refl _);have hsn:snapT T=cqT 1:=snap_cq b2;have hsv:=save_ok A A0 st sv tr l 0 (bs (cqT 0)) .nilIface (snapT T) hr2 hh.ge (by rw [hsn];have:=chT_len (n:=1) (by decide);omega) (hS2.reads hE2 (saveOk_cq b2 (by rw [b3];decide))) hD2 hl2 hh.wt hh.pw hh.ok;have H5:Hid (SvS w2 sv tr lt mb T∧absT T=cqC2 1 1∧snapT T=cqT 1∧w2.heap[st]?=some (.cells (stC (.pointer (some ⟨sv,0,none⟩)) 0 (.slice none 0 0) (.pointer (some ⟨l,0,none⟩)) (bs (cqT 0)) ⟨#[]⟩ .nilIface) 74 (0,0))∧∀ k,FootT tr T k→k≠st):=⟨hS2,b2,hsn,hr2,hoff st n4 qs⟩;clear a1 b1 b2 b3 b4 a3 a4 ho A0 E0 lo n0 n1 n2 n3 n4 hN hroom hh q1 q2 q3 q4 qs hL0 hsz0 hT2 hoff nin hS2 hD2 hl2 hr2 hE2 hsn
 go_wp2_with fail
 refine hsv.mono ?_;rintro e w4 (⟨hq,_⟩ | ⟨_,hr,_⟩ | ⟨_,_,rfl,s',w5,q1,q2,q3,q4,q5,q6,q7,q8,q9⟩)
 · exfalso
   rw [H5.out.2.2.1] at hq;have:=congrArg ByteArray.size hq;rw [bs_size,bs_size] at this
   revert this
   decide
 · exact absurd (by rw [H5.out.2.2.1];exact HI.out.2.2.2.2.2.2.2.2.2) hr
 · have hr5:=q7.block st _ _ _ H5.out.2.2.2.1 (by decide) (by decide) (by decide) (by decide)
   have hh:=HH.out
   have hll:l≠st:=fun e=>by
     have h1:=q2.blk;rw [e,hr5] at h1;simp at h1
   have HQ:Hid (StS g w4 s' st sv tr lt mb l T∧absT T=cqC2 1 1∧s'.sec.length=s.sec.length):=by
     refine ⟨⟨q9,hh.ge,(H5.out.1.othL q7).onlyS q8 hh.off.1 hh.off.2.1 hh.off.2.2.1 H5.out.2.2.2.2,⟨hh.off.1,hh.off.2.1,hh.off.2.2.1,H5.out.2.2.2.2⟩,q1.onlyS hr5 (by decide) (by decide) (by decide) hh.ge q8,q2.onlyS q8 hll,q3,q4,q6⟩,H5.out.2.1,q5⟩
   clear hsv hr5 hh hll q1 q2 q3 q4 q5 q6 q7 q8 q9
   go_wp2
   go_ret2
   exact ⟨_,T,s',rfl,HQ.out⟩
end
theorem coded5_err (A:Nat→Addr)(c:Nat)(hc:c < 15)(k:Nat)(w:World)(h:Errs w A):
   Calls Tryz.prog 8 #[.iface 535 (.pointer (some (A c))),.int .i64 (k:Nat)] w fun e w'=>e = .returned (.bool (decide (c+1=k)))∧Only [] w w':=by
 have H:Hid (Errs w A):=h;clear h
 by_cases hk:c+1=k
 · rw [decide_eq_true hk]
   have hb:((c:Int)+1==(k:Int))=true:=by simp;omega
   clear hk
   go_enter Tryz.func8,Tryz.ntmps8
   go_wp2_with (go_at_call 24;refine (code_err A c hc _ H.out).mono ?_;rintro e w2 ⟨rfl,hb2⟩;have HB:Hid (Below w.heap.size w w2):=hb2;clear hb2)
   go_ret
   exact ⟨rfl,Only.of_below HB.out []⟩
 · rw [decide_eq_false hk]
   have hb:((c:Int)+1==(k:Int))=false:=by simp;omega
   clear hk
   go_enter Tryz.func8,Tryz.ntmps8
   go_wp2_with (go_at_call 24;refine (code_err A c hc _ H.out).mono ?_;rintro e w2 ⟨rfl,hb2⟩;have HB:Hid (Below w.heap.size w w2):=hb2;clear hb2)
   go_ret
   exact ⟨rfl,Only.of_below HB.out []⟩
theorem new_ds (A:Nat→Addr)(W0 w:World)(hE:Err5 W0 A)(hb:Below W0.heap.size W0 w)(N:Nat)(h1:1≤N)(h2:N≤4000):Calls Tryz.prog 6 #[.int .i64 (N:Nat)] w fun e w'=>∃ t vs,e = .returned (.tuple #[.pointer (some ⟨t,0,none⟩),.nilIface])∧Ds ⟨W0,A,w.heap.size,t,vs⟩ w' ⟨none,List.replicate N zeroS,[]⟩∧Only [] w w' :=
 (dnew_ok w N h1 h2).mono fun e w' q=>by
  obtain ⟨t,vs,he,hd,ho⟩:=q;exact ⟨t,vs,he,⟨⟨_,hd⟩,hE,hb.trans (ho.to_below hb.size (fun _ h=>by cases h)),hb.size,ho.size,fun k e=>(by cases e)⟩,ho⟩
section
variable {g:Dv}{w w':World}{s:DSt}
theorem StS.only {st sv tr lt mb l:Nat}{T:Tr}(h:StS g w s st sv tr lt mb l T)(ho:Only [] w w'):StS g w' s st sv tr lt mb l T :=
 ⟨(ho.block st (Array.getElem?_eq_some_iff.1 h.row).1 (by simp)).trans h.row,h.ge,h.srv.only ho,h.off,h.ds.keep ho,h.log.keep (Oth.of_only ho),h.wt,h.ok,h.pw⟩
end
def Fmt (g:Dv)(w':World)(st:Nat):Prop:=∃ sv tr lt mb l t p b db B pb s',StS g w' s' st sv tr lt mb l (Tr.fresh t p 5 b db B pb)∧p.N=1∧s'.sec.length=200∧(∃ N0,(∀ k,FootT tr (Tr.fresh t p 5 b db B pb) k→k < N0)∧N0≤sv∧N0≤lt∧N0≤mb∧N0≤st)∧∀ k∈B::b::db::t::p.a.toList,g.W0.heap.size≤k
def Cmp1 (g:Dv)(w':World):Prop:=∃ st sv tr lt mb l T s',StS g w' s' st sv tr lt mb l T∧absT T=cqC2 1 1
theorem room_any {sec:List Sec}(h:sec.length=200){n:Nat}(hn:secsN (blkT [cqT n,[]]).length≤99):roomS sec true [cqT n,[]]:=by
 unfold roomS;rw [h]
 simpa using hn
abbrev twoMD:Obj := .cells #[.string kR,.string ⟨#[]⟩,.string ⟨#[]⟩,.int .i64 0,.int .i64 0,.int .i64 0,.int .i64 0,.int .i64 0,.int .i64 0,.string kM,.string ⟨#[97]⟩,.string ⟨#[]⟩,.int .i64 2,.int .i64 0,.int .i64 0,.int .i64 0,.int .i64 0,.int .i64 0] 49
theorem twoMD_rws (w:World):Rws (w.alloc twoMD) (w.alloc twoMD).heap.size opC 9 (some ⟨w.heap.size,0,none⟩) [opR,opMD (bs [97])]:=by
 have hh:=heap_alloc_last w twoMD;refine ⟨fun i x hx=>⟨w.heap.size,rfl,by simp,fun j u hu=>?_⟩⟩;rw [cell_of_row _ _ _ _ _ _ hh];rcases i with _ | _ | i
 · obtain rfl:opR=x:=by simpa using hx
   rcases j with _ | _ | _ | _ | _ | _ | _ | _ | _ | j<;>first | exact hu | (simp [opC] at hu)
 · obtain rfl:opMD (bs [97])=x:=by simpa using hx
   rcases j with _ | _ | _ | _ | _ | _ | _ | _ | _ | j<;>first | exact hu | (simp [opC] at hu)
 · simp at hx
theorem stServer (w:World)(st sv:Nat)(h:w.cell? ⟨st,0,none⟩=some (.pointer (some ⟨sv,0,none⟩))):Calls Tryz.prog 15 #[.pointer (some ⟨st,0,none⟩)] w fun e w'=>e = .returned (.pointer (some ⟨sv,0,none⟩))∧Only [] w w':=by
 have hl:=lt_of_cell h
 go_enter Tryz.func15,Tryz.ntmps15
 go_wp2
 go_ret
 exact ⟨rfl,Only.refl _ _⟩
theorem lasting_ok (A:Nat→Addr)(w:World)(m:Int)(hE:Errs w A)(hm:w.cell? ⟨16,0,none⟩=some (.int .i64 m)):Calls Tryz.prog 4 #[] w fun e w'=>e = .returned (.bool true)∧Below w.heap.size w w':=by
 have HNW:Hid (Calls Tryz.prog 6 #[.int .i64 200] w fun e w'=>∃ t vs,e = .returned (.tuple #[.pointer (some ⟨t,0,none⟩),.nilIface])∧Ds ⟨w,A,w.heap.size,t,vs⟩ w' ⟨none,List.replicate 200 zeroS,[]⟩):=(new_ds A w w hE.five (Below.refl _ _) 200 (by decide) (by decide)).mono fun e w' q=>by
  obtain ⟨t,vs,a,b,_⟩:=q;exact ⟨t,vs,a,b⟩
 have HF:Hid (∀ t vs W,Ds ⟨w,A,w.heap.size,t,vs⟩ W ⟨none,List.replicate 200 zeroS,[]⟩→Calls Tryz.prog 9 #[.pointer (some ⟨t,0,none⟩),.int .i64 5] W fun e w'=>∃ st,e = .returned (.tuple #[.pointer (some ⟨st,0,none⟩),.nilIface])∧Fmt ⟨w,A,w.heap.size,t,vs⟩ w' st):=fun t vs W hW=>(sformat_ok A rfl hE 5 (by decide) (by decide) hW rfl (by decide) rfl rfl).mono fun e w' q=>by
  rcases q with ⟨hn,_⟩ | ⟨_,st,sv,tr,lt,mb,l,t1,p,b,db,B,pb,s',he,h1,h2,h3,h4,h5⟩
  · exact absurd (room_any (by simp [newSec]) (by decide)) hn
  · exact ⟨st,he,sv,tr,lt,mb,l,t1,p,b,db,B,pb,s',h1,h2,h3,h4,fun k hk=>Nat.le_trans hW.bel.size (h5 k hk)⟩
 have HC:Hid (∀ t vs W st,Fmt ⟨w,A,w.heap.size,t,vs⟩ W st→Calls Tryz.prog 14 #[.pointer (some ⟨st,0,none⟩),.slice (some ⟨W.heap.size,0,none⟩) 2 2] (W.alloc twoMD) fun e w'=>∃ v,e = .returned (.tuple #[v,.nilIface])∧Cmp1 ⟨w,A,w.heap.size,t,vs⟩ w'):=fun t vs W st hW=>by
  obtain ⟨sv,tr,lt,mb,l,t1,p,b,db,B,pb,s',h1,h2,h3,h4,h5⟩:=hW;refine (scompound_made (w:=W.alloc twoMD) A rfl hE st sv tr lt mb l t1 5 p b db B pb W.heap.size 2 (h1.only ((Only.refl [] W).alloc _)) (by decide) h2 h4 h5 (twoMD_rws W) (by simp) (room_any h3 (by decide))).mono fun e w' q=>?_;obtain ⟨v,T,s2,he,q1,q2,_⟩:=q;exact ⟨v,he,st,sv,tr,lt,mb,l,T,s2,q1,q2⟩
 have HO:Hid (∀ t vs W,Cmp1 ⟨w,A,w.heap.size,t,vs⟩ W→Calls Tryz.prog 7 #[.pointer (some ⟨t,0,none⟩),.int .i64 5] W fun e w'=>∃ st sv tr T,e = .returned (.tuple #[.pointer (some ⟨st,0,none⟩),.nilIface])∧(w'.cell? ⟨st,0,none⟩=some (.pointer (some ⟨sv,0,none⟩))∧w'.cell? ⟨sv,0,none⟩=some (.pointer (some ⟨tr,0,none⟩))∧TreeAt w' tr T∧countTo T.nd T.p.N=2)∧Below w.heap.size w w'):=fun t vs W hW=>by
  obtain ⟨st,sv,tr,lt,mb,l,T,s',h1,h2⟩:=hW;have hsn:snapT T=cqT 1:=snap_cq h2
  have hop:openL s'.sec=some [cqT 1,[]]:=by rw [← hsn];exact h1.ok.opens
  have hbel:=h1.ds.bel;refine (sopen_any A m 5 h1.ds rfl h1.wt (hE.below hbel (Nat.le_refl _)) ((hbel.cell (p:=⟨16,0,none⟩) (lt_of_cell hm)).trans hm) (by decide) (by decide) (fun R hR=>?_)).mono fun e w' q=>?_
  · rw [hop] at hR
    obtain rfl:=Option.some.inj hR;intro r hr;rcases List.mem_cons.1 hr with rfl | hr
    · exact chT_len (by decide)
    · rw [List.mem_singleton.1 hr]
      decide
  · obtain ⟨q,ho⟩:=q
    rcases q with ⟨st2,sv2,tr2,T2,c,q,t2,u2,he,h3,h4,h5,h6,h7,h8⟩ | ⟨_,h3⟩
    · have e1:t2=cqT 1:=by
        rcases h3 with h3 | ⟨rfl,rfl⟩
        · rw [hop] at h3
          exact ((List.cons.inj (Option.some.inj h3)).1).symm
        · exfalso
          have h9:(pLoad 5 (bs [])).isNone=true:=by first | kernel_rfl | decide
          rw [h6] at h9
          cases h9
      subst e1;have e2:c=cqC2 1 1:=Option.some.inj (h6.symm.trans (cqLoad (by decide)));exact ⟨st2,sv2,tr2,T2,he,⟨h4,h5,h8.at_,two_cq (h8.abs.trans e2)⟩,hbel.trans (ho.to_below hbel.size (fun _ h=>by cases h))⟩
    · exfalso
      rcases h3 with h3 | ⟨R,h3,h4⟩
      · rw [hop] at h3
        cases h3
      · rw [hop] at h3
        exact h4 _ _ (Option.some.inj h3).symm rfl T (by rw [h2];exact cqLoad (by decide)) (by rw [hsn])
 clear hE hm
 go_enter Tryz.func4,Tryz.ntmps4
 go_wp2_with (first
  | (go_at_call 6;refine HNW.out.mono ?_;rintro e w1 ⟨t,vs,rfl,h1⟩;have H1:Hid (Ds ⟨w,A,w.heap.size,t,vs⟩ w1 ⟨none,List.replicate 200 zeroS,[]⟩):=h1;clear h1 HNW)
  | (go_at_call 9;refine (HF.out t vs _ H1.out).mono ?_;rintro e w2 ⟨st,rfl,h1⟩;have H2:Hid (Fmt ⟨w,A,w.heap.size,t,vs⟩ w2 st):=h1;clear h1 HF H1)
  | (go_at_call 14;refine (HC.out t vs w2 st H2.out).mono ?_;rintro e w3 ⟨v,rfl,h1⟩;have H3:Hid (Cmp1 ⟨w,A,w.heap.size,t,vs⟩ w3):=h1;clear h1 HC H2)
  | (go_at_call 7;refine (HO.out t vs w3 H3.out).mono ?_;rintro e w4 ⟨st2,sv2,tr2,T2,rfl,h1,h2⟩;have H4:Hid (∀ W,Only [] w4 W→(Calls Tryz.prog 15 #[.pointer (some ⟨st2,0,none⟩)] W fun e w'=>e = .returned (.pointer (some ⟨sv2,0,none⟩))∧Only [] W w')∧(Calls Tryz.prog 16 #[.pointer (some ⟨sv2,0,none⟩)] W fun e w'=>e = .returned (.pointer (some ⟨tr2,0,none⟩))∧Only [] W w')∧Calls Tryz.prog 17 #[.pointer (some ⟨tr2,0,none⟩)] W fun e w'=>e = .returned (.int .i64 2)∧Only [] W w'):=(fun W ho=>⟨stServer W st2 sv2 ((ho.cell (lt_of_cell h1.1) (by simp)).trans h1.1),svTree W sv2 tr2 ((ho.cell (lt_of_cell h1.2.1) (by simp)).trans h1.2.1),by have:=nodes_any W tr2 T2 (h1.2.2.1.only ho);rw [h1.2.2.2] at this;exact this⟩);have HB:Hid (Below w.heap.size w w4):=h2;have HZ:Hid (Only [] w4 w4):=Only.refl _ _;clear h1 h2 HO H3)
  | (go_at_call 15;refine ((H4.out _ HZ.out).1).mono ?_;rintro e w5 ⟨rfl,ho⟩;replace HZ:Hid (Only [] w4 w5):=HZ.out.trans ho (fun _ h=>by cases h);clear ho)
  | (go_at_call 16;refine ((H4.out _ HZ.out).2.1).mono ?_;rintro e w5 ⟨rfl,ho⟩;replace HZ:Hid (Only [] w4 w5):=HZ.out.trans ho (fun _ h=>by cases h);clear ho)
  | (go_at_call 17;refine ((H4.out _ HZ.out).2.2).mono ?_;rintro e w5 ⟨rfl,ho⟩;replace HZ:Hid (Only [] w4 w5):=HZ.out.trans ho (fun _ h=>by cases h);clear ho))
 go_ret
 exact ⟨rfl,HB.out.trans (HZ.out.to_below HB.out.size (fun _ h=>by cases h))⟩
section
variable {g:Dv}{w:World}{s:DSt}
theorem sopen_none (hd:Ds g w s)(hn:newestL s.sec=none)(most:Int):Calls Tryz.prog 7 #[.pointer (some ⟨g.t,0,none⟩),.int .i64 most] w fun e w'=>e = .returned (.tuple #[.pointer none,.iface 535 (.pointer (some (g.A 0)))])∧Only [] w w':=by
 have hop:=open_none hd hn;clear hd hn
 go_enter Tryz.func7,Tryz.ntmps7
 go_wp2_with fail
 refine hop.mono ?_;rintro e w1 ⟨rfl,ho⟩;have H1:Hid (Only [] w w1):=ho;clear hop ho
 go_wp2
 go_ret2
 exact ⟨rfl,H1.out⟩
theorem sformat_bad (A:Nat→Addr)(v:Value)(w:World)(most:Int)(hE:Errs w A)(h:most < 1∨300 < most):Calls Tryz.prog 9 #[v,.int .i64 most] w fun e w'=>e = .returned (.tuple #[.pointer none,eS A 1])∧Only [] w w':=by
 have hb:=serveNew_bad w most A hE h;clear hE h
 go_enter Tryz.func9,Tryz.ntmps9
 go_wp2_with fail
 refine hb.mono ?_;rintro e w1 ⟨rfl,ho⟩;have H1:Hid (Only [] w w1):=ho;clear hb ho
 go_wp2
 go_ret2
 exact ⟨rfl,H1.out⟩
theorem sformat_full (hd:Ds g w s)(most:Nat)(h1:1≤most)(h2:most≤300)(hn:newestL s.sec=none)(hN:s.sec.length < 8):Calls Tryz.prog 9 #[.pointer (some ⟨g.t,0,none⟩),.int .i64 (most:Nat)] w fun e w'=>e = .returned (.tuple #[.pointer none,.iface 535 (.pointer (some (g.A 8)))])∧Only [] w w':=by
 have HNW:Hid (Calls Tryz.prog 25 #[.int .i64 (most:Nat)] w fun e w'=>∃ sv,e = .returned (.tuple #[.pointer (some ⟨sv,0,none⟩),.nilIface])∧Only [] w w'):=(serveNewS w most h1 h2).mono fun e w' q=>by
  obtain ⟨sv,tr,lt,mb,t,p,b,db,B,pb,he,_,_,_,_,ho⟩:=q;exact ⟨sv,he,ho⟩
 have HLG:Hid (∀ W,Only [] w W→Calls Tryz.prog 26 #[.pointer (some ⟨g.t,0,none⟩)] W fun e w'=>e = .returned (.tuple #[.pointer none,.iface 535 (.pointer (some (g.A 8)))])∧Only [] W w'):=fun W ho=>logOf_full (hd.keep ho) hn hN;clear hd h1 h2 hn hN
 go_enter Tryz.func9,Tryz.ntmps9
 go_wp2_with (first
  | (go_at_call 25;refine HNW.out.mono ?_;rintro e w1 ⟨sv,rfl,ho⟩;have H1:Hid (Only [] w w1):=ho;clear HNW ho)
  | (go_at_call 26;refine (HLG.out _ H1.out).mono ?_;rintro e w2 ⟨rfl,ho⟩;have H2:Hid (Only [] w w2):=H1.out.trans ho (fun _ h=>by cases h);clear HLG ho))
 go_ret2
 exact ⟨rfl,H2.out⟩
end
theorem room_new {N:Nat}(hN:8≤N):roomS (newSec N) true [cqT 0,[]]:=by
 have h:secsN (blkT [cqT 0,[]]).length≤3:=by decide
 have hl:(newSec N).length=N:=by simp [newSec]
 unfold roomS;rw [hl];simp only [if_true];omega
theorem rB_short (k:Nat)(r:Rst):(rB k r).1.length≤(leftR r).length:=by
 unfold rB leftR
 cases r with
 | none=>simp
 | some l =>
  simp only
  split
  · simp
  · rw [List.length_take]
    exact Nat.min_le_right _ _
theorem rB_rest (k:Nat)(r:Rst):(leftR (rB k r).2).length≤(leftR r).length:=Nat.le_trans (rB_left k r) (Nat.sub_le _ _)
theorem rRecs_short {M k:Nat}{r q:Rst}{acc a:List (List UInt8)}(h:rRecs k r acc=some (a,q))(hr:(leftR r).length≤M)(ha:∀ s∈acc,s.length≤M):∀ s∈a,s.length≤M:=by
 induction k generalizing r acc with
 | zero =>
  simp only [rRecs,Option.some.injEq,Prod.mk.injEq] at h;rw [← h.1];exact ha
 | succ k ih =>
  simp only [rRecs] at h;have h1:(leftR (rW r).2).length≤M:=Nat.le_trans (rB_rest 4 r) hr
  cases hq:(rB (rW r).1 (rW r).2).2 with
  | none=>rw [hq] at h;cases h
  | some l =>
   rw [hq] at h;refine ih h ?_ ?_
   · have:=rB_rest (rW r).1 (rW r).2
     rw [hq] at this;exact Nat.le_trans this h1
   · intro s hs
     rcases List.mem_append.1 hs with e | e
     · exact ha s e
     · rw [List.mem_singleton.1 e]
       exact Nat.le_trans (rB_short _ _) h1
theorem rBlks_short {M:Nat}(f:Nat){r:Rst}{acc a:List (List UInt8)}(h:rBlks f r acc=some a)(hr:(leftR r).length≤M)(ha:∀ s∈acc,s.length≤M):∀ s∈a,s.length≤M:=by
 induction f generalizing r acc with
 | zero =>
  simp only [rBlks,Option.some.injEq] at h;rw [← h];exact ha
 | succ f ih =>
  simp only [rBlks] at h
  split at h
  · simp only [Option.some.injEq] at h
    rw [← h];exact ha
  · have h1:(leftR (rW r).2).length≤M:=Nat.le_trans (rB_rest 4 r) hr
    cases hq:rRecs (rW r).1 (rW r).2 acc with
    | none=>rw [hq] at h;cases h
    | some x =>
     obtain ⟨a',q⟩:=x;rw [hq] at h;exact ih h (Nat.le_trans (rB_rest _ _) (Nat.le_trans (rRecs_left hq) h1)) (rRecs_short hq h1 ha)
theorem open_short {sec:List Sec}{R:List (List UInt8)}(h:openL sec=some R):ShortR R (sec.length*64):=by
 unfold openL at h
 cases hn:newestL sec with
 | none=>rw [hn] at h;cases h
 | some d =>
  rw [hn] at h
  exact rBlks_short _ (show rBlks _ _ _=some R from h) (by
   show (textOf d sec).length≤_;unfold textOf;have h1:=concatS_len ((sec.drop (d.first sec.length)).take d.used)
   have h2:((sec.drop (d.first sec.length)).take d.used).length≤sec.length:=by rw [List.length_take,List.length_drop];omega
   omega) (fun s hs=>by cases hs)
section
variable {g:Dv}{w w':World}{s:DSt}{l:Nat}
theorem Ds.crash (hd:Ds g w s)(ka:Option Addr)(kn kc:Nat)(keep:Nat→Bool)(hk:∀ j,j < kn→∃ kb ko,ka=some ⟨kb,ko,none⟩∧kb < w.heap.size∧(∃ cs fr,w.heap[kb]?=some (.cells cs 4 fr))∧w.cell? ⟨kb,ko+j,none⟩=some (.bool (keep j)))(hkn:∀ j,kn≤j→keep j=false)(hw:s.wt.length≤100001):
   Calls Tryz.prog 13 #[.pointer (some ⟨g.t,0,none⟩),.slice ka kn kc] w fun e w'=>∃ v,e = .returned v∧Ds g w' ⟨none,crashS keep s,[]⟩∧Oth w w':=by
 obtain ⟨vw,hk2⟩:=hd.dk;refine (callsIn_wide.1 (crash_in hk2 ka kn kc keep (fun j hj=>?_) hkn hw)).mono fun e w' q=>?_
 · obtain ⟨kb,ko,h1,h2,⟨cs,fr,h3⟩,h4⟩:=hk j hj
   exact ⟨kb,ko,h1,h2,foot_type hk2 h3 (by decide) (by decide) (by decide),h4⟩
 · obtain ⟨⟨v,he⟩,h1,h2⟩:=q
   exact ⟨v,he,hd.step (s':=⟨none,crashS keep s,[]⟩) hk2 h1 h2 (fun k e=>by cases e),Oth.of_foot hk2 h2⟩
theorem Ds.crash_nil (hd:Ds g w s)(hw:s.wt.length≤100001):Calls Tryz.prog 13 #[.pointer (some ⟨g.t,0,none⟩),.slice none 0 0] w fun e w'=>∃ v,e = .returned v∧Ds g w' ⟨none,crashS (fun _=>false) s,[]⟩∧Oth w w' :=
 hd.crash none 0 0 (fun _=>false) (fun j hj=>by omega) (fun _ _=>rfl) hw
end
theorem new_dv (A:Nat→Addr)(W0 w:World)(hE:Err5 W0 A)(hb:Below W0.heap.size W0 w)(N:Nat)(h1:1≤N)(h2:N≤4000):Calls Tryz.prog 6 #[.int .i64 (N:Nat)] w fun e w'=>∃ g:Dv,e = .returned (.tuple #[.pointer (some ⟨g.t,0,none⟩),.nilIface])∧Ds g w' ⟨none,List.replicate N zeroS,[]⟩∧g.W0=W0∧g.A=A :=
 (new_ds A W0 w hE hb N h1 h2).mono fun e w' q=>by
  obtain ⟨t,vs,he,hd,ho⟩:=q;exact ⟨⟨W0,A,w.heap.size,t,vs⟩,he,hd,rfl,rfl⟩
end
end Go.Proofs.YtmnidbnaneagjaaGreatDoor
