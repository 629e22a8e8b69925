import Derived.Test.YtbdfjbmocifhmaaGreatDoorK50
set_option maxRecDepth 100000
set_option maxHeartbeats 8000000
namespace Go.Proofs.YtbdfjbmocifhmaaGreatDoor
section
open Go Go.RowKit Go.Deep Go.Maps
theorem new_bad (w:World)(most:Int)(A:Nat→Addr)(hE:Errs w A)(h:most < 1∨300 < most):
  Calls Tryz.prog 8 #[.int .i64 most] w fun e w'=>e = .returned (.tuple #[.pointer none,eV A 1])∧Only [] w w':=by
 have hnew:=tnew_bound w most (.iface 300 (.pointer (some (A 1)))) (hE.cell 1 (by decide)) h
 go_enter Tryz.func8,Tryz.ntmps8
 go_wp2_with (first
  | (go_at_call 21;refine hnew.mono ?_;rintro e w1 ⟨rfl,ho1⟩)
  | go_in)
 refine bodyPost_ret (v := .tuple #[.pointer none,.iface 300 (.pointer (some (A 1)))]) (by simp [results,Tryz.results8,go_sem]) rfl ⟨rfl,?_⟩
 first | exact ho1 | exact ho1.alloc _ | exact (ho1.alloc _).drew
theorem load_bad (A:Nat→Addr)(w:World)(s:ByteArray)(most:Int)(hE:Errs w A)(h:most < 1∨300 < most):
  Calls Tryz.prog 14 #[.string s,.int .i64 most] w fun e w'=>e = .returned (.tuple #[.pointer none,eV A 1])∧Only [] w w':=by
 have o1:Only [] w ((w.alloc (.cells #[.pointer none] 25)).alloc (.cells #[.nilIface] 27)):=((Only.refl [] w).alloc _).alloc _;have b1:=heap_alloc_last w (.cells #[.pointer none] 25);have b2:=heap_alloc_last (w.alloc (.cells #[.pointer none] 25)) (.cells #[.nilIface] 27);rw [World.size_alloc] at b2;have b1':((w.alloc (.cells #[.pointer none] 25)).alloc (.cells #[.nilIface] 27)).heap[w.heap.size]?=some (.cells #[.pointer none] 25 (0,0)):=(((Only.refl [] (w.alloc (.cells #[.pointer none] 25))).alloc (.cells #[.nilIface] 27)).block _ (Array.getElem?_eq_some_iff.1 b1).1 (by simp)).trans b1;have hnew:=new_bad ((w.alloc (.cells #[.pointer none] 25)).alloc (.cells #[.nilIface] 27)) most A (hE.below (o1.to_below (Nat.le_refl _) (fun k hk=>by cases hk)) (Nat.le_refl _)) h;generalize hw1:(w.alloc (.cells #[.pointer none] 25)).alloc (.cells #[.nilIface] 27)=w1 at o1 b1' b2 hnew;have HW1:Hid ((w.alloc (.cells #[.pointer none] 25)).alloc (.cells #[.nilIface] 27)=w1):=hw1;obtain ⟨pt,hpt⟩:∃ pt,w.heap.size=pt:=⟨_,rfl⟩;obtain ⟨pe,hpe⟩:∃ pe,w.heap.size+1=pe:=⟨_,rfl⟩;have HPS:Hid (w.heap.size=pt∧w.heap.size+1=pe):=⟨hpt,hpe⟩;rw [hpt] at b1';rw [hpe] at b2
 have HST:Hid (∀ W,Only [] w1 W→W.cell? ⟨pt,0,none⟩=some (.pointer none)∧W.cell? ⟨pe,0,none⟩=some .nilIface∧W.frozen? ⟨pt,0,none⟩=false∧W.frozen? ⟨pe,0,none⟩=false∧((W.setCell ⟨pt,0,none⟩ (.pointer none)).setCell ⟨pe,0,none⟩ (eV A 1)).cell? ⟨pt,0,none⟩=some (.pointer none)∧((W.setCell ⟨pt,0,none⟩ (.pointer none)).setCell ⟨pe,0,none⟩ (eV A 1)).cell? ⟨pe,0,none⟩=some (eV A 1)∧Only [] w ((W.setCell ⟨pt,0,none⟩ (.pointer none)).setCell ⟨pe,0,none⟩ (eV A 1))):=fun W ho=>by
  have e1:=(ho.block pt (Array.getElem?_eq_some_iff.1 b1').1 (by simp)).trans b1';have e2:=(ho.block pe (Array.getElem?_eq_some_iff.1 b2).1 (by simp)).trans b2;have oa:Only [pt] W (W.setCell ⟨pt,0,none⟩ (.pointer none)):=(Only.refl [pt] W).setCell (Or.inl (by simp)) _;have ob:Only [pe] (W.setCell ⟨pt,0,none⟩ (.pointer none)) ((W.setCell ⟨pt,0,none⟩ (.pointer none)).setCell ⟨pe,0,none⟩ (eV A 1)):=(Only.refl [pe] _).setCell (Or.inl (by simp)) _;have f1:=heap_setCell_same W pt 0 _ _ (.pointer none) e1;have f1':=(ob.block pt (Array.getElem?_eq_some_iff.1 f1).1 (by simp;omega)).trans f1;have e2':=(oa.block pe (Array.getElem?_eq_some_iff.1 e2).1 (by simp;omega)).trans e2;have f2:=heap_setCell_same _ pe 0 _ _ (eV A 1) e2';exact ⟨cell_of_row _ _ 0 _ _ _ e1,cell_of_row _ _ 0 _ _ _ e2,frozen_of_row _ _ _ _ _ e1,frozen_of_row _ _ _ _ _ e2,cell_of_row _ _ 0 _ _ _ f1',cell_of_row _ _ 0 _ _ _ f2,((o1.trans ho (fun _ hk=>by cases hk)).trans oa (fun k hk=>Or.inr (by simp at hk;omega))).trans ob (fun k hk=>Or.inr (by simp at hk;omega))⟩
 have hne1:¬ pt=pe:=by omega
 have hne2:¬ pe=pt:=by omega
 clear o1 b1 b2 b1' hw1 hE h hpt hpe
 go_enter_defers Tryz.func14,Tryz.ntmps14
 go_upto_region 1 with fail
 rw [HW1.out,HPS.out.2,HPS.out.1]
 go_wp2_with (go_at_call 8;refine hnew.mono ?_;rintro e w2 ⟨rfl,o2⟩;obtain ⟨a0,a1,a2,a3,a4⟩:=HST.out w2 o2;have hptl:=lt_of_cell a0;have hpel:=lt_of_cell a1;have HZ:Hid (((w2.setCell ⟨pt,0,none⟩ (.pointer none)).setCell ⟨pe,0,none⟩ (eV A 1)).cell? ⟨pt,0,none⟩=some (.pointer none)∧((w2.setCell ⟨pt,0,none⟩ (.pointer none)).setCell ⟨pe,0,none⟩ (eV A 1)).cell? ⟨pe,0,none⟩=some (eV A 1)∧Only [] w ((w2.setCell ⟨pt,0,none⟩ (.pointer none)).setCell ⟨pe,0,none⟩ (eV A 1))):=a4;clear hnew o2 a4)
 obtain ⟨z0,z1,z2⟩:=HZ.out;exact ⟨.tuple #[.pointer none,eV A 1],by simp [results,Tryz.results14,go_sem,z0,z1],rfl,z2⟩
theorem loads_walk (s:ByteArray)(most:Int)(A:Nat→Addr)(w:World)(hE:Errs w A)(hs:s.size≤3000):Calls Tryz.prog 4 #[.string s,.int .i64 most] w fun e w'=>e = .returned (.bool true)∧Below w.heap.size w w':=by
 have hroot:=rooted_any A w hE;have HE:Hid (∀ W,Below w.heap.size w W→Errs W A):=fun W hb=>hE.below hb (Nat.le_refl _);have g1:decide (3000 < (s.size:Int))=false:=decide_eq_false (by omega);have HCO:Hid (∀ W k,k < 15→Below w.heap.size w W→Calls Tryz.prog 16 #[.iface 300 (.pointer (some (A k))),.int .i64 ((k:Int)+1)] W fun e w'=>e = .returned (.bool true)∧Below w.heap.size w w'):=fun W k hk hb=>(coded_err A k hk W (HE.out W hb)).mono fun e w' hh=>⟨hh.1,hb.trans (hh.2.mono hb.size)⟩;clear hE
 by_cases hm:most < 1∨300 < most
 · have HLB:Hid (∀ W,Below w.heap.size w W→Calls Tryz.prog 14 #[.string s,.int .i64 most] W fun e w'=>e = .returned (.tuple #[.pointer none,.iface 300 (.pointer (some (A 1)))])∧Below w.heap.size w w'):=fun W hb=>(load_bad A W s most (HE.out W hb) hm).mono fun e w' hh=>⟨hh.1,hb.trans (hh.2.to_below hb.size (fun k hk=>by cases hk))⟩
   have HC2:Hid (∀ W,Below w.heap.size w W→Calls Tryz.prog 16 #[.iface 300 (.pointer (some (A 1))),.int .i64 2] W fun e w'=>e = .returned (.bool true)∧Below w.heap.size w w'):=fun W hb=>HCO.out W 1 (by decide) hb
   by_cases h0:most < 1
   · have d0:decide (most < 1)=true:=decide_eq_true h0
     clear hm
     go_enter Tryz.func4,Tryz.ntmps4
     go_wp2_with (first
      |  (go_at_call 6;refine hroot.mono ?_;rintro e w1 ⟨rfl,hb1⟩;have hld:=HLB.out w1 hb1;clear hroot hb1)
      |  (go_at_call 14;refine hld.mono ?_;rintro e w2 ⟨rfl,hb2⟩;have hcd:=HC2.out w2 hb2;clear hld hb2)
      |  (go_at_call 16;refine hcd.mono ?_;rintro e w3 ⟨rfl,hb3⟩;have HB3:Hid (Below w.heap.size w w3):=hb3;clear hcd hb3))
     go_ret
     exact ⟨rfl,HB3.out⟩
   · have d0:decide (most < 1)=false:=decide_eq_false h0
     have d1:decide (300 < most)=true:=decide_eq_true (by omega);clear hm
     go_enter Tryz.func4,Tryz.ntmps4
     go_wp2_with (first
      |  (go_at_call 6;refine hroot.mono ?_;rintro e w1 ⟨rfl,hb1⟩;have hld:=HLB.out w1 hb1;clear hroot hb1)
      |  (go_at_call 14;refine hld.mono ?_;rintro e w2 ⟨rfl,hb2⟩;have hcd:=HC2.out w2 hb2;clear hld hb2)
      |  (go_at_call 16;refine hcd.mono ?_;rintro e w3 ⟨rfl,hb3⟩;have HB3:Hid (Below w.heap.size w w3):=hb3;clear hcd hb3))
     go_ret
     exact ⟨rfl,HB3.out⟩
 · obtain ⟨k,rfl⟩:∃ k:Nat,most=(k:Int):=⟨most.toNat,by omega⟩
   have hk1:1≤k:=by omega
   have hk2:k≤300:=by omega
   have d0:decide ((k:Int) < 1)=false:=decide_eq_false (by omega);have d1:decide ((300:Int) < (k:Int))=false:=decide_eq_false (by omega);have HC1:Hid (∀ W,Below w.heap.size w W→Calls Tryz.prog 16 #[.iface 300 (.pointer (some (A 0))),.int .i64 1] W fun e w'=>e = .returned (.bool true)∧Below w.heap.size w w'):=fun W hb=>HCO.out W 0 (by decide) hb;have HLD:Hid (∀ W,Below w.heap.size w W→Calls Tryz.prog 14 #[.string s,.int .i64 (k:Nat)] W fun e w'=>LoadR A s k W w' e):=fun W hb=>load_any A W s k (HE.out W hb) (by omega) hk1 hk2;clear hm
   go_enter Tryz.func4,Tryz.ntmps4
   go_wp2_with (first
     | (go_at_call 6;refine hroot.mono ?_;rintro e w1 ⟨rfl,hb1⟩;have HB1:Hid (Below w.heap.size w w1):=hb1;clear hroot hb1)
     | fail)
   have hld:=HLD.out w1 HB1.out
   go_wp2_with fail
   refine hld.mono ?_;rintro e w2 ⟨(⟨tr,T,c,q,rfl,hp,hsn,hT⟩ | ⟨hno,rfl⟩),ho2⟩
   · have HB2:Hid (Below w.heap.size w w2):=HB1.out.trans (ho2.to_below HB1.out.size (fun k hk=>by cases hk))
     have HPL:Hid (pLoad k s=some c):=hp;have HSN:Hid (bs (snapT T)=s):=hsn;have HT2:Hid (LoadT w1 w2 tr T c k q):=hT;have HFEW:Hid (countTo T.nd T.p.N≤k):=hT.few
     have HKEY:Hid (∀ W W' e,LoadR A s k W W' e→∃ ur U d r,e = .returned (.tuple #[.pointer (some ⟨ur,0,none⟩),.nilIface])∧LoadT W W' ur U d k r∧Only [] W W'∧countTo U.nd U.p.N=countTo T.nd T.p.N∧snapT U=snapT T):=fun W W' e hR=>by
      obtain ⟨(⟨ur,U,d,r,he,hpu,hsu,hTu⟩ | ⟨hno,_⟩),hou⟩:=hR
      ·  have hcd:c=d:=Option.some.inj (HPL.out.symm.trans hpu)
         have habs:absT U=absT T:=hTu.abs.trans (hcd ▸ HT2.out.abs.symm);exact ⟨ur,U,d,r,he,hTu,hou,count_abs habs,snap_abs habs⟩
      ·  exact absurd HSN.out (hno T (by rw [HT2.out.abs];exact HPL.out))
     have HND:Hid (∀ W,Only [] w2 W→Calls Tryz.prog 17 #[.pointer (some ⟨tr,0,none⟩)] W fun e w'=>e = .returned (.int .i64 (countTo T.nd T.p.N:Nat))∧Only [] W w'):=fun W ho=>nodes_any W tr T (HT2.out.only ho).at_
     have HSP:Hid (∀ W,Only [] w2 W→Calls Tryz.prog 11 #[.pointer (some ⟨tr,0,none⟩)] W fun e w'=>e = .returned (.string s)∧Only [] W w'):=fun W ho=>by
      have:=snapshot_any A W tr T (HT2.out.only ho).at_ (HE.out W (HB2.out.trans (ho.to_below HB2.out.size (fun k hk=>by cases hk)))) HT2.out.save;rw [HSN.out] at this;exact this
     have HBW:Hid (∀ W,Only [] w2 W→Below w.heap.size w W):=fun W ho=>HB2.out.trans (ho.to_below HB2.out.size (fun k hk=>by cases hk));have hfew:=HFEW.out;clear hp hsn hT ho2 hld;generalize countTo T.nd T.p.N=n at HND HKEY hfew;have d2:decide ((k:Int) < (n:Int))=false:=decide_eq_false (by omega);have hnd:=HND.out w2 (Only.refl _ _)
     go_upto_region 11 with (go_at_call 17;refine hnd.mono ?_;rintro e w3 ⟨rfl,o3⟩;have HO3:Hid (Only [] w2 w3):=o3;clear hnd o3)
     have hsp:=HSP.out w3 HO3.out
     go_wp2_with (first
      |  (go_at_call 11;refine hsp.mono ?_;rintro e w4 ⟨rfl,o4⟩;have HO4:Hid (Only [] w2 w4):=HO3.out.trans o4 (fun _ hk=>by cases hk);clear hsp o4)
      | fail)
     have hld:=HLD.out w4 (HBW.out w4 HO4.out)
     go_wp2_with fail
     refine hld.mono ?_;rintro e w5 hR;obtain ⟨ur,U,d,r,rfl,hTu,o5,hcu,hsu⟩:=HKEY.out w4 w5 e hR;have HO5:Hid (Only [] w2 w5):=HO4.out.trans o5 (fun _ hk=>by cases hk);have HU5:Hid (∀ W,Only [] w5 W→TreeAt W ur U):=fun W ho=>(hTu.only ho).at_;have HUS:Hid (SaveOk U):=hTu.save;have HUC:Hid (countTo U.nd U.p.N=n∧bs (snapT U)=s):=⟨hcu,by rw [hsu];exact HSN.out⟩
     have HNU:Hid (∀ W,Only [] w5 W→Calls Tryz.prog 17 #[.pointer (some ⟨ur,0,none⟩)] W fun e w'=>e = .returned (.int .i64 (n:Nat))∧Only [] W w'):=fun W ho=>by
      have:=nodes_any W ur U (HU5.out W ho);rw [HUC.out.1] at this;exact this
     have HSU:Hid (∀ W,Only [] w5 W→Calls Tryz.prog 11 #[.pointer (some ⟨ur,0,none⟩)] W fun e w'=>e = .returned (.string s)∧Only [] W w'):=fun W ho=>by
      have:=snapshot_any A W ur U (HU5.out W ho) (HE.out W (HBW.out W (HO5.out.trans ho (fun _ hk=>by cases hk)))) HUS.out;rw [HUC.out.2] at this;exact this
     have hss:(s.toList==s.toList)=true:=by simp
     clear hR hTu o5 hcu hsu hld;have hnu:=HNU.out w5 (Only.refl _ _)
     go_wp2_with (first
      |  (go_at_call 17;first
           | (refine hnt.mono ?_;rintro e w7 ⟨rfl,o7⟩;have HO7:Hid (Only [] w5 w7):=HO6.out.trans o7 (fun _ hk=>by cases hk);have hsu:=HSU.out w7 HO7.out;clear hnt o7)
           | (refine hnu.mono ?_;rintro e w6 ⟨rfl,o6⟩;have HO6:Hid (Only [] w5 w6):=o6;have hnt:=HND.out w6 (HO5.out.trans o6 (fun _ hk=>by cases hk));clear hnu o6))
      |  (go_at_call 11;first
           | (refine hst.mono ?_;rintro e w9 ⟨rfl,o9⟩;have HB9:Hid (Below w.heap.size w w9):=HBW.out w9 (HO5.out.trans (HO8.out.trans o9 (fun _ hk=>by cases hk)) (fun _ hk=>by cases hk));clear hst o9)
           | (refine hsu.mono ?_;rintro e w8 ⟨rfl,o8⟩;have HO8:Hid (Only [] w5 w8):=HO7.out.trans o8 (fun _ hk=>by cases hk);have hst:=HSP.out w8 (HO5.out.trans HO8.out (fun _ hk=>by cases hk));clear hsu o8)))
     go_ret
     exact ⟨rfl,HB9.out⟩
   · have HB2:Hid (Below w.heap.size w w2):=HB1.out.trans (ho2.to_below HB1.out.size (fun k hk=>by cases hk))
     have hcd:=HC1.out w2 HB2.out;clear hno ho2 hld
     go_wp2_with (go_at_call 16;refine hcd.mono ?_;rintro e w3 ⟨rfl,hb3⟩;have HB3:Hid (Below w.heap.size w w3):=hb3;clear hcd hb3)
     go_ret
     exact ⟨rfl,HB3.out⟩
theorem loads_long (s:ByteArray)(most:Int)(A:Nat→Addr)(w:World)(hE:Errs w A)(hs:3000 < s.size):Calls Tryz.prog 4 #[.string s,.int .i64 most] w fun e w'=>e = .returned (.bool true)∧Below w.heap.size w w':=by
 have hroot:=rooted_any A w hE;have g1:decide (3000 < (s.size:Int))=true:=decide_eq_true (by omega);clear hE
 go_enter Tryz.func4,Tryz.ntmps4
 go_wp2_with (go_at_call 6;refine hroot.mono ?_;rintro e w1 ⟨rfl,hb1⟩;have HB:Hid (Below w.heap.size w w1):=hb1;clear hroot hb1)
 go_ret
 exact ⟨rfl,HB.out⟩
theorem loads_all (s:ByteArray)(most:Int)(A:Nat→Addr)(w:World)(hE:Errs w A):Calls Tryz.prog 4 #[.string s,.int .i64 most] w fun e w'=>e = .returned (.bool true)∧Below w.heap.size w w':=by
 by_cases h:s.size≤3000
 · exact loads_walk s most A w hE h
 · exact loads_long s most A w hE (by omega)
end
end Go.Proofs.YtbdfjbmocifhmaaGreatDoor
