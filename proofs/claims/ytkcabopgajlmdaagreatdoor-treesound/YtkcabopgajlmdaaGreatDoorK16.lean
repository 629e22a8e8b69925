import Derived.Test.YtkcabopgajlmdaaGreatDoorK15
set_option maxRecDepth 100000
set_option maxHeartbeats 8000000
namespace Go.Proofs.YtkcabopgajlmdaaGreatDoor
section
open Go Go.RowKit Go.Deep Go.Maps
section
variable (w:World)(tr db d1 d2:Nat)(A:Nat→Addr)(N G M F:Int)(s u:ByteArray)(i gi k gk:Nat)
theorem rename_same (h1:∀ W,zQ w W→zO 44 #[zP tr,zG N G] W .nilIface)(h2:∀ W,zQ w W→zO 44 #[zP tr,zG M F] W .nilIface)(h3:∀ W,zQ w W→zO 45 #[.string s] W .nilIface)(h4:∀ W,zQ w W→zO 45 #[.string u] W .nilIface)(hl1:∀ W,zQ w W→W.cell? (zA tr 1)=some (.map (some db))∧(Instr.lookup 102 (.map (some db)) (zG N G) false).run Tryz.prog W = .ok (.map (some d1)) W∧(Instr.lookup 101 (.map (some d1)) (.string s) true).run Tryz.prog W = .ok (.tuple #[zG i gi,.bool true]) W)(his:∀ W,zQ w W→zO 64 #[zP tr,zG M F,zG i gi] W (.bool false))(hl2:∀ W,zQ w W→W.cell? (zA tr 1)=some (.map (some db))∧(Instr.lookup 102 (.map (some db)) (zG M F) false).run Tryz.prog W = .ok (.map (some d2)) W∧(Instr.lookup 101 (.map (some d2)) (.string u) true).run Tryz.prog W = .ok (.tuple #[zG k gk,.bool true]) W)(hk:k=i)(hg:gk=gi):
  zO 33 #[zP tr,zG N G,.string s,zG M F,.string u] w .nilIface:=by
 subst hk hg;have HL1:Hid (∀ W,zQ w W→W.cell? (zA tr 1)=some (.map (some db))∧(Instr.lookup 102 (.map (some db)) (zG N G) false).run Tryz.prog W = .ok (.map (some d1)) W∧(Instr.lookup 101 (.map (some d1)) (.string s) true).run Tryz.prog W = .ok (.tuple #[zG k gk,.bool true]) W):=hl1;have HL2:Hid (∀ W,zQ w W→W.cell? (zA tr 1)=some (.map (some db))∧(Instr.lookup 102 (.map (some db)) (zG M F) false).run Tryz.prog W = .ok (.map (some d2)) W∧(Instr.lookup 101 (.map (some d2)) (.string u) true).run Tryz.prog W = .ok (.tuple #[zG k gk,.bool true]) W):=hl2;have HIS:Hid (∀ W,zQ w W→_):=his;clear hl1 his hl2;have HA:Hid (zQ w ((w.alloc (zH N G)).alloc (zH M F))):=((Only.refl [] w).alloc _).alloc _;have HW0:Hid (zQ ((w.alloc (zH N G)).alloc (zH M F)) ((w.alloc (zH N G)).alloc (zH M F)).drew):=(Only.refl [] _).drew;have K0:Hid (TwoB w N G M F ((w.alloc (zH N G)).alloc (zH M F)).drew):=two_ints HW0.out (not_nil _);have HC1:Hid (∀ W,zQ w W→_):=h1;have HC2:Hid (∀ W,zQ w W→_):=h2;have HN1:Hid (∀ W,zQ w W→_):=h3;have HN2:Hid (∀ W,zQ w W→_):=h4;have HF:Hid (∀ w3:World,_):=fun w3=>first_four w3 none none none none
 change Hid (∀ w3:World,Calls _ _ #[.slice (some ⟨w3.heap.size,0,none⟩) 4 4] (w3.alloc (.cells #[.nilIface,.nilIface,.nilIface,.nilIface] 28)) fun e w'=>e = .returned .nilIface∧(w3.alloc (.cells #[.nilIface,.nilIface,.nilIface,.nilIface] 28))=w') at HF
 clear h1 h2 h3 h4
 go_enter Tryz.func33,Tryz.ntmps33
 go_upto_region 1 with fail
 go_cut [11] from 17 to 28 (fun q wx=>q = .nilIface∧zQ ((w.alloc (zH N G)).alloc (zH M F)) wx)
 case first =>
  go_region_held3 (fun W=>W.cell? (zA w.heap.size 0)=some (zI N)∧W.cell? (zA w.heap.size 1)=some (zI G)∧W.cell? (zA (w.heap.size+1) 0)=some (zI M)∧W.cell? (zA (w.heap.size+1) 1)=some (zI F))
   (with_reducible first | exact K0.out | exact K2.out | exact K3.out | exact K4.out | exact K5.out | exact two_alloc K5.out)
   (first
    | (go_at_call 44;refine (HC1.out _ (zo HA.out HW0.out)).mono ?_;rintro e2 w2 ⟨rfl,ho2⟩;have HW2:Hid (zQ ((w.alloc (zH N G)).alloc (zH M F)) w2):=zo HW0.out ho2;have K2:Hid (TwoB w N G M F w2):=two_ints HW2.out (not_nil _);clear ho2 HW0)
    | (go_at_call 44;refine (HC2.out _ (zo HA.out HW2.out)).mono ?_;rintro e3 w3 ⟨rfl,ho3⟩;have HW3:Hid (zQ ((w.alloc (zH N G)).alloc (zH M F)) w3):=zo HW2.out ho3;have K3:Hid (TwoB w N G M F w3):=two_ints HW3.out (not_nil _);clear ho3 HW2)
    | (go_at_call 45;refine (HN1.out _ (zo HA.out HW3.out)).mono ?_;rintro e4 w4 ⟨rfl,ho4⟩;have HW4:Hid (zQ ((w.alloc (zH N G)).alloc (zH M F)) w4):=zo HW3.out ho4;have K4:Hid (TwoB w N G M F w4):=two_ints HW4.out (not_nil _);clear ho4 HW3)
    | (go_at_call 45;refine (HN2.out _ (zo HA.out HW4.out)).mono ?_;rintro e5 w5 ⟨rfl,ho5⟩;have HW5:Hid (zQ ((w.alloc (zH N G)).alloc (zH M F)) w5):=zo HW4.out ho5;have K5:Hid (TwoB w N G M F w5):=two_ints HW5.out (not_nil _);clear ho5 HW4)
    | (go_at_call 43;refine (HF.out _).mono ?_;rintro e6 w6 ⟨rfl,rfl⟩))
  all_goals go_wp2
  all_goals go_meet
  all_goals exact ⟨rfl,HW5.out.alloc _⟩
 case rest =>
  obtain ⟨rfl,hoc⟩:=hcut;generalize wc=wa at hoc ⊢;have HOa:Hid (zQ ((w.alloc (zH N G)).alloc (zH M F)) wa):=hoc;have hla:w.heap.size+1 < wa.heap.size:=Nat.lt_of_lt_of_le (by simp) hoc.size;have hla0:w.heap.size < wa.heap.size:=Nat.lt_of_succ_lt hla;obtain ⟨x0,x1,x2,x3⟩:=two_ints hoc (not_nil _);clear hoc K0 HW0 HC1 HC2 HN1 HN2 HF;obtain ⟨p1,p2,p3⟩:=HL1.out _ (zo HA.out HOa.out.drew);obtain ⟨r1,r2,r3⟩:=HL1.out _ (zo HA.out (HOa.out.alloc (zH 0 0)).drew);have k0:=(HL1.out wa (zo HA.out HOa.out)).1;have hk0:=zv k0;have HBN:Hid (HBox (wa.alloc (zH k gk)).drew wa.heap.size k gk):=zh wa _
  go_upto_region 4 with fail
  go_cut [12,13] from 32 to 42 (fun q r wx=>∃ B,q=zP B∧r = .bool true∧w.heap.size+1 < B∧HBox wx B k gk∧zQ wa wx)
  case first =>
   go_region
   all_goals go_wp2
   all_goals go_meet
   all_goals exact ⟨wa.heap.size,rfl,rfl,hla,HBN.out,((Only.refl [] _).alloc _).drew⟩
  case rest =>
   obtain ⟨B,rfl,rfl,hB,hbx,hob⟩:=hcut;generalize wc=wb at hbx hob ⊢;have HOb:Hid (zQ ((w.alloc (zH N G)).alloc (zH M F)) wb):=zo HOa.out hob;have HBb:Hid (HBox wb B k gk):=hbx;clear x0 x1 x2 x3 p1 p2 p3 r1 r2 r3 k0 hk0 HBN;obtain ⟨x0,x1,x2,x3⟩:=two_ints HOb.out (not_nil _);obtain ⟨z0,z1⟩:=hbx.cells;clear hbx hob
   go_upto_region 9 with (first
    | (go_at_call 64;refine (HIS.out _ (zo HA.out HOb.out)).mono ?_;rintro e7 w7 ⟨rfl,ho7⟩;have HO7:Hid (zQ ((w.alloc (zH N G)).alloc (zH M F)) w7):=zo HOb.out ho7;have HB7:Hid (HBox w7 B k gk):=HBb.out.kept ho7 (by simp);clear ho7 x0 x1 x2 x3 z0 z1 HBb HOb;obtain ⟨x0,x1,x2,x3⟩:=two_ints HO7.out (not_nil _);obtain ⟨z0,z1⟩:=HB7.out.cells))
   have hl7:B < w7.heap.size:=HB7.out.lt;have hla7:w.heap.size+1 < w7.heap.size:=Nat.lt_trans hB hl7;have hla8:w.heap.size < w7.heap.size:=Nat.lt_of_succ_lt hla7;obtain ⟨p1,p2,p3⟩:=HL2.out _ (zo HA.out HO7.out.drew);obtain ⟨r1,r2,r3⟩:=HL2.out _ (zo HA.out (HO7.out.alloc (zH 0 0)).drew);have k0:=(HL2.out w7 (zo HA.out HO7.out)).1;have hk0:=zv k0;have HBN:Hid (HBox (w7.alloc (zH k gk)).drew w7.heap.size k gk):=zh w7 _
   go_cut [14,15] from 51 to 61 (fun q r wx=>∃ D,q=zP D∧r = .bool true∧B < D∧HBox wx D k gk∧zQ w7 wx)
   case first =>
    go_region
    all_goals go_wp2
    all_goals go_meet
    all_goals exact ⟨w7.heap.size,rfl,rfl,hl7,HBN.out,((Only.refl [] _).alloc _).drew⟩
   case rest =>
    obtain ⟨D,rfl,rfl,hD,hbd,hod⟩:=hcut;generalize wc=wd at hbd hod ⊢;have HOd:Hid (zQ ((w.alloc (zH N G)).alloc (zH M F)) wd):=zo HO7.out hod;have HDd:Hid (HBox wd D k gk):=hbd;have HBd:Hid (HBox wd B k gk):=HB7.out.kept hod (by simp);clear x0 x1 x2 x3 z0 z1 p1 p2 p3 r1 r2 r3 k0 hk0 HBN;obtain ⟨x0,x1,x2,x3⟩:=two_ints HOd.out (not_nil _);obtain ⟨z0,z1⟩:=HBd.out.cells;obtain ⟨y0,y1⟩:=hbd.cells;have hld:D < wd.heap.size:=hbd.lt;clear hbd hod HB7 HO7 hl7 hla7 hla8
    go_wp2
    go_ret
    exact ⟨rfl,zo HA.out HOd.out⟩
theorem rename_over (ad:Addr)(h1:∀ W,zQ w W→zO 44 #[zP tr,zG N G] W .nilIface)(h2:∀ W,zQ w W→zO 44 #[zP tr,zG M F] W .nilIface)(h3:∀ W,zQ w W→zO 45 #[.string s] W .nilIface)(h4:∀ W,zQ w W→zO 45 #[.string u] W .nilIface)(hl1:∀ W,zQ w W→W.cell? (zA tr 1)=some (.map (some db))∧(Instr.lookup 102 (.map (some db)) (zG N G) false).run Tryz.prog W = .ok (.map (some d1)) W∧(Instr.lookup 101 (.map (some d1)) (.string s) true).run Tryz.prog W = .ok (.tuple #[zG i gi,.bool true]) W)(his:∀ W,zQ w W→zO 64 #[zP tr,zG M F,zG i gi] W (.bool false))(hl2:∀ W,zQ w W→W.cell? (zA tr 1)=some (.map (some db))∧(Instr.lookup 102 (.map (some db)) (zG M F) false).run Tryz.prog W = .ok (.map (some d2)) W∧(Instr.lookup 101 (.map (some d2)) (.string u) true).run Tryz.prog W = .ok (.tuple #[zG k gk,.bool true]) W)(hki:k≠i)(hov:∀ W,zQ w W→zO 65 #[zP tr,zG i gi,zG k gk] W (.iface 228 (.pointer (some ad)))):
  zO 33 #[zP tr,zG N G,.string s,zG M F,.string u] w (.iface 228 (.pointer (some ad))):=by
 have hne:((k:Nat):Int)≠(i:Nat):=fun e=>hki (Int.ofNat_inj.1 e);have HOV:Hid (∀ W,zQ w W→_):=hov;clear hov;have HL1:Hid (∀ W,zQ w W→W.cell? (zA tr 1)=some (.map (some db))∧(Instr.lookup 102 (.map (some db)) (zG N G) false).run Tryz.prog W = .ok (.map (some d1)) W∧(Instr.lookup 101 (.map (some d1)) (.string s) true).run Tryz.prog W = .ok (.tuple #[zG i gi,.bool true]) W):=hl1;have HL2:Hid (∀ W,zQ w W→W.cell? (zA tr 1)=some (.map (some db))∧(Instr.lookup 102 (.map (some db)) (zG M F) false).run Tryz.prog W = .ok (.map (some d2)) W∧(Instr.lookup 101 (.map (some d2)) (.string u) true).run Tryz.prog W = .ok (.tuple #[zG k gk,.bool true]) W):=hl2;have HIS:Hid (∀ W,zQ w W→_):=his;clear hl1 his hl2;have HA:Hid (zQ w ((w.alloc (zH N G)).alloc (zH M F))):=((Only.refl [] w).alloc _).alloc _;have HW0:Hid (zQ ((w.alloc (zH N G)).alloc (zH M F)) ((w.alloc (zH N G)).alloc (zH M F)).drew):=(Only.refl [] _).drew;have K0:Hid (TwoB w N G M F ((w.alloc (zH N G)).alloc (zH M F)).drew):=two_ints HW0.out (not_nil _);have HC1:Hid (∀ W,zQ w W→_):=h1;have HC2:Hid (∀ W,zQ w W→_):=h2;have HN1:Hid (∀ W,zQ w W→_):=h3;have HN2:Hid (∀ W,zQ w W→_):=h4;have HF:Hid (∀ w3:World,_):=fun w3=>first_four w3 none none none none
 change Hid (∀ w3:World,Calls _ _ #[.slice (some ⟨w3.heap.size,0,none⟩) 4 4] (w3.alloc (.cells #[.nilIface,.nilIface,.nilIface,.nilIface] 28)) fun e w'=>e = .returned .nilIface∧(w3.alloc (.cells #[.nilIface,.nilIface,.nilIface,.nilIface] 28))=w') at HF
 clear h1 h2 h3 h4
 go_enter Tryz.func33,Tryz.ntmps33
 go_upto_region 1 with fail
 go_cut [11] from 17 to 28 (fun q wx=>q = .nilIface∧zQ ((w.alloc (zH N G)).alloc (zH M F)) wx)
 case first =>
  go_region_held3 (fun W=>W.cell? (zA w.heap.size 0)=some (zI N)∧W.cell? (zA w.heap.size 1)=some (zI G)∧W.cell? (zA (w.heap.size+1) 0)=some (zI M)∧W.cell? (zA (w.heap.size+1) 1)=some (zI F))
   (with_reducible first | exact K0.out | exact K2.out | exact K3.out | exact K4.out | exact K5.out | exact two_alloc K5.out)
   (first
    | (go_at_call 44;refine (HC1.out _ (zo HA.out HW0.out)).mono ?_;rintro e2 w2 ⟨rfl,ho2⟩;have HW2:Hid (zQ ((w.alloc (zH N G)).alloc (zH M F)) w2):=zo HW0.out ho2;have K2:Hid (TwoB w N G M F w2):=two_ints HW2.out (not_nil _);clear ho2 HW0)
    | (go_at_call 44;refine (HC2.out _ (zo HA.out HW2.out)).mono ?_;rintro e3 w3 ⟨rfl,ho3⟩;have HW3:Hid (zQ ((w.alloc (zH N G)).alloc (zH M F)) w3):=zo HW2.out ho3;have K3:Hid (TwoB w N G M F w3):=two_ints HW3.out (not_nil _);clear ho3 HW2)
    | (go_at_call 45;refine (HN1.out _ (zo HA.out HW3.out)).mono ?_;rintro e4 w4 ⟨rfl,ho4⟩;have HW4:Hid (zQ ((w.alloc (zH N G)).alloc (zH M F)) w4):=zo HW3.out ho4;have K4:Hid (TwoB w N G M F w4):=two_ints HW4.out (not_nil _);clear ho4 HW3)
    | (go_at_call 45;refine (HN2.out _ (zo HA.out HW4.out)).mono ?_;rintro e5 w5 ⟨rfl,ho5⟩;have HW5:Hid (zQ ((w.alloc (zH N G)).alloc (zH M F)) w5):=zo HW4.out ho5;have K5:Hid (TwoB w N G M F w5):=two_ints HW5.out (not_nil _);clear ho5 HW4)
    | (go_at_call 43;refine (HF.out _).mono ?_;rintro e6 w6 ⟨rfl,rfl⟩))
  all_goals go_wp2
  all_goals go_meet
  all_goals exact ⟨rfl,HW5.out.alloc _⟩
 case rest =>
  obtain ⟨rfl,hoc⟩:=hcut;generalize wc=wa at hoc ⊢;have HOa:Hid (zQ ((w.alloc (zH N G)).alloc (zH M F)) wa):=hoc;have hla:w.heap.size+1 < wa.heap.size:=Nat.lt_of_lt_of_le (by simp) hoc.size;have hla0:w.heap.size < wa.heap.size:=Nat.lt_of_succ_lt hla;obtain ⟨x0,x1,x2,x3⟩:=two_ints hoc (not_nil _);clear hoc K0 HW0 HC1 HC2 HN1 HN2 HF;obtain ⟨p1,p2,p3⟩:=HL1.out _ (zo HA.out HOa.out.drew);obtain ⟨r1,r2,r3⟩:=HL1.out _ (zo HA.out (HOa.out.alloc (zH 0 0)).drew);have k0:=(HL1.out wa (zo HA.out HOa.out)).1;have hk0:=zv k0;have HBN:Hid (HBox (wa.alloc (zH i gi)).drew wa.heap.size i gi):=zh wa _
  go_upto_region 4 with fail
  go_cut [12,13] from 32 to 42 (fun q r wx=>∃ B,q=zP B∧r = .bool true∧w.heap.size+1 < B∧HBox wx B i gi∧zQ wa wx)
  case first =>
   go_region
   all_goals go_wp2
   all_goals go_meet
   all_goals exact ⟨wa.heap.size,rfl,rfl,hla,HBN.out,((Only.refl [] _).alloc _).drew⟩
  case rest =>
   obtain ⟨B,rfl,rfl,hB,hbx,hob⟩:=hcut;generalize wc=wb at hbx hob ⊢;have HOb:Hid (zQ ((w.alloc (zH N G)).alloc (zH M F)) wb):=zo HOa.out hob;have HBb:Hid (HBox wb B i gi):=hbx;clear x0 x1 x2 x3 p1 p2 p3 r1 r2 r3 k0 hk0 HBN;obtain ⟨x0,x1,x2,x3⟩:=two_ints HOb.out (not_nil _);obtain ⟨z0,z1⟩:=hbx.cells;clear hbx hob
   go_upto_region 9 with (first
    | (go_at_call 64;refine (HIS.out _ (zo HA.out HOb.out)).mono ?_;rintro e7 w7 ⟨rfl,ho7⟩;have HO7:Hid (zQ ((w.alloc (zH N G)).alloc (zH M F)) w7):=zo HOb.out ho7;have HB7:Hid (HBox w7 B i gi):=HBb.out.kept ho7 (by simp);clear ho7 x0 x1 x2 x3 z0 z1 HBb HOb;obtain ⟨x0,x1,x2,x3⟩:=two_ints HO7.out (not_nil _);obtain ⟨z0,z1⟩:=HB7.out.cells))
   have hl7:B < w7.heap.size:=HB7.out.lt;have hla7:w.heap.size+1 < w7.heap.size:=Nat.lt_trans hB hl7;have hla8:w.heap.size < w7.heap.size:=Nat.lt_of_succ_lt hla7;obtain ⟨p1,p2,p3⟩:=HL2.out _ (zo HA.out HO7.out.drew);obtain ⟨r1,r2,r3⟩:=HL2.out _ (zo HA.out (HO7.out.alloc (zH 0 0)).drew);have k0:=(HL2.out w7 (zo HA.out HO7.out)).1;have hk0:=zv k0;have HBN:Hid (HBox (w7.alloc (zH k gk)).drew w7.heap.size k gk):=zh w7 _
   go_cut [14,15] from 51 to 61 (fun q r wx=>∃ D,q=zP D∧r = .bool true∧B < D∧HBox wx D k gk∧zQ w7 wx)
   case first =>
    go_region
    all_goals go_wp2
    all_goals go_meet
    all_goals exact ⟨w7.heap.size,rfl,rfl,hl7,HBN.out,((Only.refl [] _).alloc _).drew⟩
   case rest =>
    obtain ⟨D,rfl,rfl,hD,hbd,hod⟩:=hcut;generalize wc=wd at hbd hod ⊢;have HOd:Hid (zQ ((w.alloc (zH N G)).alloc (zH M F)) wd):=zo HO7.out hod;have HDd:Hid (HBox wd D k gk):=hbd;have HBd:Hid (HBox wd B i gi):=HB7.out.kept hod (by simp);clear x0 x1 x2 x3 z0 z1 p1 p2 p3 r1 r2 r3 k0 hk0 HBN;obtain ⟨x0,x1,x2,x3⟩:=two_ints HOd.out (not_nil _);obtain ⟨z0,z1⟩:=HBd.out.cells;obtain ⟨y0,y1⟩:=hbd.cells;have hld:D < wd.heap.size:=hbd.lt;clear hbd hod HB7 HO7 hl7 hla7 hla8
    go_wp2_with (first
     | (go_at_call 65;refine (HOV.out _ (zo HA.out HOd.out)).mono ?_;rintro e8 w8 ⟨rfl,ho8⟩;have HO8:Hid (zQ ((w.alloc (zH N G)).alloc (zH M F)) w8):=zo HOd.out ho8;clear ho8))
    go_ret
    exact ⟨rfl,zo HA.out HO8.out⟩
theorem rename_full (n:Nat)(hn:60≤n)(hE:Errs w A)(h1:∀ W,zQ w W→zO 44 #[zP tr,zG N G] W .nilIface)(h2:∀ W,zQ w W→zO 44 #[zP tr,zG M F] W .nilIface)(h3:∀ W,zQ w W→zO 45 #[.string s] W .nilIface)(h4:∀ W,zQ w W→zO 45 #[.string u] W .nilIface)(hl1:∀ W,zQ w W→W.cell? (zA tr 1)=some (.map (some db))∧(Instr.lookup 102 (.map (some db)) (zG N G) false).run Tryz.prog W = .ok (.map (some d1)) W∧(Instr.lookup 101 (.map (some d1)) (.string s) true).run Tryz.prog W = .ok (.tuple #[zG i gi,.bool true]) W)(his:∀ W,zQ w W→zO 64 #[zP tr,zG M F,zG i gi] W (.bool false))(hl2:∀ W,zQ w W→W.cell? (zA tr 1)=some (.map (some db))∧(Instr.lookup 102 (.map (some db)) (zG M F) false).run Tryz.prog W = .ok (.map (some d2)) W∧(Instr.lookup 101 (.map (some d2)) (.string u) true).run Tryz.prog W = .ok (.tuple #[zG k gk,.bool false]) W)(hNM:N≠M)(hlen:∀ W,zQ w W→(Builtin.len_ #[101] 3 #[.map (some d2)]).run Tryz.prog W = .ok (zI n) W):
  zO 33 #[zP tr,zG N G,.string s,zG M F,.string u] w (.iface 228 (.pointer (some (A 8)))):=by
 have HEr:Hid (∀ W,zQ w W→W.cell? ⟨4,0,none⟩=some (.iface 228 (.pointer (some (A 8))))):=fun W ho=>(errs_only hE ho).cell 8 (by decide);clear hE;have HLEN:Hid (∀ W,zQ w W→_):=hlen;clear hlen;have HL1:Hid (∀ W,zQ w W→W.cell? (zA tr 1)=some (.map (some db))∧(Instr.lookup 102 (.map (some db)) (zG N G) false).run Tryz.prog W = .ok (.map (some d1)) W∧(Instr.lookup 101 (.map (some d1)) (.string s) true).run Tryz.prog W = .ok (.tuple #[zG i gi,.bool true]) W):=hl1;have HL2:Hid (∀ W,zQ w W→W.cell? (zA tr 1)=some (.map (some db))∧(Instr.lookup 102 (.map (some db)) (zG M F) false).run Tryz.prog W = .ok (.map (some d2)) W∧(Instr.lookup 101 (.map (some d2)) (.string u) true).run Tryz.prog W = .ok (.tuple #[zG k gk,.bool false]) W):=hl2;have HIS:Hid (∀ W,zQ w W→_):=his;clear hl1 his hl2;have HA:Hid (zQ w ((w.alloc (zH N G)).alloc (zH M F))):=((Only.refl [] w).alloc _).alloc _;have HW0:Hid (zQ ((w.alloc (zH N G)).alloc (zH M F)) ((w.alloc (zH N G)).alloc (zH M F)).drew):=(Only.refl [] _).drew;have K0:Hid (TwoB w N G M F ((w.alloc (zH N G)).alloc (zH M F)).drew):=two_ints HW0.out (not_nil _);have HC1:Hid (∀ W,zQ w W→_):=h1;have HC2:Hid (∀ W,zQ w W→_):=h2;have HN1:Hid (∀ W,zQ w W→_):=h3;have HN2:Hid (∀ W,zQ w W→_):=h4;have HF:Hid (∀ w3:World,_):=fun w3=>first_four w3 none none none none
 change Hid (∀ w3:World,Calls _ _ #[.slice (some ⟨w3.heap.size,0,none⟩) 4 4] (w3.alloc (.cells #[.nilIface,.nilIface,.nilIface,.nilIface] 28)) fun e w'=>e = .returned .nilIface∧(w3.alloc (.cells #[.nilIface,.nilIface,.nilIface,.nilIface] 28))=w') at HF
 clear h1 h2 h3 h4
 go_enter Tryz.func33,Tryz.ntmps33
 go_upto_region 1 with fail
 go_cut [11] from 17 to 28 (fun q wx=>q = .nilIface∧zQ ((w.alloc (zH N G)).alloc (zH M F)) wx)
 case first =>
  go_region_held3 (fun W=>W.cell? (zA w.heap.size 0)=some (zI N)∧W.cell? (zA w.heap.size 1)=some (zI G)∧W.cell? (zA (w.heap.size+1) 0)=some (zI M)∧W.cell? (zA (w.heap.size+1) 1)=some (zI F))
   (with_reducible first | exact K0.out | exact K2.out | exact K3.out | exact K4.out | exact K5.out | exact two_alloc K5.out)
   (first
    | (go_at_call 44;refine (HC1.out _ (zo HA.out HW0.out)).mono ?_;rintro e2 w2 ⟨rfl,ho2⟩;have HW2:Hid (zQ ((w.alloc (zH N G)).alloc (zH M F)) w2):=zo HW0.out ho2;have K2:Hid (TwoB w N G M F w2):=two_ints HW2.out (not_nil _);clear ho2 HW0)
    | (go_at_call 44;refine (HC2.out _ (zo HA.out HW2.out)).mono ?_;rintro e3 w3 ⟨rfl,ho3⟩;have HW3:Hid (zQ ((w.alloc (zH N G)).alloc (zH M F)) w3):=zo HW2.out ho3;have K3:Hid (TwoB w N G M F w3):=two_ints HW3.out (not_nil _);clear ho3 HW2)
    | (go_at_call 45;refine (HN1.out _ (zo HA.out HW3.out)).mono ?_;rintro e4 w4 ⟨rfl,ho4⟩;have HW4:Hid (zQ ((w.alloc (zH N G)).alloc (zH M F)) w4):=zo HW3.out ho4;have K4:Hid (TwoB w N G M F w4):=two_ints HW4.out (not_nil _);clear ho4 HW3)
    | (go_at_call 45;refine (HN2.out _ (zo HA.out HW4.out)).mono ?_;rintro e5 w5 ⟨rfl,ho5⟩;have HW5:Hid (zQ ((w.alloc (zH N G)).alloc (zH M F)) w5):=zo HW4.out ho5;have K5:Hid (TwoB w N G M F w5):=two_ints HW5.out (not_nil _);clear ho5 HW4)
    | (go_at_call 43;refine (HF.out _).mono ?_;rintro e6 w6 ⟨rfl,rfl⟩))
  all_goals go_wp2
  all_goals go_meet
  all_goals exact ⟨rfl,HW5.out.alloc _⟩
 case rest =>
  obtain ⟨rfl,hoc⟩:=hcut;generalize wc=wa at hoc ⊢;have HOa:Hid (zQ ((w.alloc (zH N G)).alloc (zH M F)) wa):=hoc;have hla:w.heap.size+1 < wa.heap.size:=Nat.lt_of_lt_of_le (by simp) hoc.size;have hla0:w.heap.size < wa.heap.size:=Nat.lt_of_succ_lt hla;obtain ⟨x0,x1,x2,x3⟩:=two_ints hoc (not_nil _);clear hoc K0 HW0 HC1 HC2 HN1 HN2 HF;obtain ⟨p1,p2,p3⟩:=HL1.out _ (zo HA.out HOa.out.drew);obtain ⟨r1,r2,r3⟩:=HL1.out _ (zo HA.out (HOa.out.alloc (zH 0 0)).drew);have k0:=(HL1.out wa (zo HA.out HOa.out)).1;have hk0:=zv k0;have HBN:Hid (HBox (wa.alloc (zH i gi)).drew wa.heap.size i gi):=zh wa _
  go_upto_region 4 with fail
  go_cut [12,13] from 32 to 42 (fun q r wx=>∃ B,q=zP B∧r = .bool true∧w.heap.size+1 < B∧HBox wx B i gi∧zQ wa wx)
  case first =>
   go_region
   all_goals go_wp2
   all_goals go_meet
   all_goals exact ⟨wa.heap.size,rfl,rfl,hla,HBN.out,((Only.refl [] _).alloc _).drew⟩
  case rest =>
   obtain ⟨B,rfl,rfl,hB,hbx,hob⟩:=hcut;generalize wc=wb at hbx hob ⊢;have HOb:Hid (zQ ((w.alloc (zH N G)).alloc (zH M F)) wb):=zo HOa.out hob;have HBb:Hid (HBox wb B i gi):=hbx;clear x0 x1 x2 x3 p1 p2 p3 r1 r2 r3 k0 hk0 HBN;obtain ⟨x0,x1,x2,x3⟩:=two_ints HOb.out (not_nil _);obtain ⟨z0,z1⟩:=hbx.cells;clear hbx hob
   go_upto_region 9 with (first
    | (go_at_call 64;refine (HIS.out _ (zo HA.out HOb.out)).mono ?_;rintro e7 w7 ⟨rfl,ho7⟩;have HO7:Hid (zQ ((w.alloc (zH N G)).alloc (zH M F)) w7):=zo HOb.out ho7;have HB7:Hid (HBox w7 B i gi):=HBb.out.kept ho7 (by simp);clear ho7 x0 x1 x2 x3 z0 z1 HBb HOb;obtain ⟨x0,x1,x2,x3⟩:=two_ints HO7.out (not_nil _);obtain ⟨z0,z1⟩:=HB7.out.cells))
   have hl7:B < w7.heap.size:=HB7.out.lt;have hla7:w.heap.size+1 < w7.heap.size:=Nat.lt_trans hB hl7;have hla8:w.heap.size < w7.heap.size:=Nat.lt_of_succ_lt hla7;obtain ⟨p1,p2,p3⟩:=HL2.out _ (zo HA.out HO7.out.drew);obtain ⟨r1,r2,r3⟩:=HL2.out _ (zo HA.out (HO7.out.alloc (zH 0 0)).drew);have k0:=(HL2.out w7 (zo HA.out HO7.out)).1;have hk0:=zv k0;have HBN:Hid (HBox (w7.alloc (zH k gk)).drew w7.heap.size k gk):=zh w7 _
   go_cut [14,15] from 51 to 61 (fun q r wx=>∃ D,q=zP D∧r = .bool false∧B < D∧HBox wx D k gk∧zQ w7 wx)
   case first =>
    go_region
    all_goals go_wp2
    all_goals go_meet
    all_goals exact ⟨w7.heap.size,rfl,rfl,hl7,HBN.out,((Only.refl [] _).alloc _).drew⟩
   case rest =>
    obtain ⟨D,rfl,rfl,hD,hbd,hod⟩:=hcut;generalize wc=wd at hbd hod ⊢;have HOd:Hid (zQ ((w.alloc (zH N G)).alloc (zH M F)) wd):=zo HO7.out hod;have HDd:Hid (HBox wd D k gk):=hbd;have HBd:Hid (HBox wd B i gi):=HB7.out.kept hod (by simp);clear x0 x1 x2 x3 z0 z1 p1 p2 p3 r1 r2 r3 k0 hk0 HBN;obtain ⟨x0,x1,x2,x3⟩:=two_ints HOd.out (not_nil _);obtain ⟨z0,z1⟩:=HBd.out.cells;obtain ⟨y0,y1⟩:=hbd.cells;have hld:D < wd.heap.size:=hbd.lt;clear hbd hod HB7 HO7 hl7 hla7 hla8
    go_upto_region 17 with fail
    have a0:∀ p:OnlyBy wd,p.w.cell? (zA w.heap.size 0)=some (zI N):=fun p=>(two_ints (zo HOd.out p.ho) (not_nil _)).1;have a1:∀ p:OnlyBy wd,p.w.cell? (zA w.heap.size 1)=some (zI G):=fun p=>(two_ints (zo HOd.out p.ho) (not_nil _)).2.1;have a2:∀ p:OnlyBy wd,p.w.cell? (zA (w.heap.size+1) 0)=some (zI M):=fun p=>(two_ints (zo HOd.out p.ho) (not_nil _)).2.2.1;have a3:∀ p:OnlyBy wd,p.w.cell? (zA (w.heap.size+1) 1)=some (zI F):=fun p=>(two_ints (zo HOd.out p.ho) (not_nil _)).2.2.2;have b0:∀ p:OnlyBy wd,p.w.cell? (zA tr 1)=some (.map (some db)):=fun p=>(HL2.out p.w (zo HA.out (zo HOd.out p.ho))).1;have b1:∀ p:OnlyBy wd,(Instr.lookup 102 (.map (some db)) (zG M F) false).run Tryz.prog p.w = .ok (.map (some d2)) p.w:=fun p=>(HL2.out p.w (zo HA.out (zo HOd.out p.ho))).2.1;have b2:∀ p:OnlyBy wd,(Builtin.len_ #[101] 3 #[.map (some d2)]).run Tryz.prog p.w = .ok (zI n) p.w:=fun p=>HLEN.out p.w (zo HA.out (zo HOd.out p.ho))
    haveI:Nonempty (OnlyBy wd):=⟨⟨_,Only.refl _ _⟩⟩
    refine wp_region_quiet_only (w0:=wd) (Only.refl [] _) (by kernel_rfl) (by kernel_rfl) ?_
    repeat (first | go_big_quiet_skip | quiet_step (fail))
    refine wpQuiet_nil ?_;intro _ hw';obtain ⟨p,hw2⟩:=hw';subst hw2;have e8:=HEr.out p.w (zo HA.out (zo HOd.out p.ho))
    go_wp2
    go_ret
    exact ⟨rfl,zo HA.out (zo HOd.out p.ho)⟩
end
end
end Go.Proofs.YtkcabopgajlmdaaGreatDoor
