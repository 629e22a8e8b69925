import Derived.Test.YtmnidbnaneagjaaGreatDoorK47
import Derived.Test.YtmnidbnaneagjaaGreatDoorRows
import Derived.Deep.Strs
import Derived.Deep.Slices
import Derived.OpenShut
import Derived.Lib.SmallJoins
set_option maxRecDepth 100000
set_option maxHeartbeats 8000000
namespace Go.Proofs.YtmnidbnaneagjaaGreatDoor
section
open Go Go.RowKit Go.Deep Go.Maps
theorem Ds.actS {g:Dv}{w:World}{s:DSt}(hd:Ds g w s)(x:Ac)(hx:AcKeep w x)(hl:x.B.length≤1048576)(ht:x.N < 9223372036854775808)(hw:s.wt.length≤100000):
  Calls Tryz.prog 12 #[.pointer (some ⟨g.t,0,none⟩),.agg #[.string x.K,.int .i64 x.N,.string x.S,.slice x.ka x.B.length x.kc]] w fun e w'=>∃ v s',e = .returned v∧Ds g w' s'∧s'.wt.length≤s.wt.length+1∧s'.sec.length=s.sec.length:=by
 obtain ⟨vw,hk⟩:=hd.dk;refine (doAct_ok g.A hd.err.three hk x hx (by omega) hd.pl hw hd.bs).mono fun e w' q=>?_;obtain ⟨he,vw',h1,h2,_⟩:=q;exact ⟨_,(stepD x s).2,he,hd.step hk h1 h2 (stepD_pw x s ht hd.pl),stepD_wt x s,stepD_len x s⟩
theorem snew_short (A:Nat→Addr)(w:World)(m:Int)(n most:Int)(ad:Option Addr)(cap:Nat)(L:List Ac)(hE:Errs w A)(hm:w.cell? ⟨16,0,none⟩=some (.int .i64 m))(hI:ActsIn w ad L)(hL:L.length≤1048576)(hc:200 < bulkN L∨n < 1∨100 < n):
   Calls Tryz.prog 3 #[.int .i64 n,.int .i64 most,.slice ad L.length cap] w fun e w'=>e = .returned (.bool true)∧Below w.heap.size w w':=by
 have HSP:Hid (Calls Tryz.prog 4 #[] w fun e w'=>e = .returned (.bool true)∧Below w.heap.size w w'):=lasting_ok A w m hE hm;have HBK:Hid (∀ W,Below w.heap.size w W→Calls Tryz.prog 5 #[.slice ad L.length cap] W fun e w'=>e = .returned (.bool (decide ((200:Int) < (bulkN L:Nat))))∧Only [] W w'):=fun W hb=>bulky_any W ad cap L (hI.below hb) hL;clear hE hI hm
 by_cases hc0:200 < bulkN L
 · skip
   have e0:decide ((200:Int) < (bulkN L:Nat))=true:=decide_eq_true (by omega)
   go_enter Tryz.func3,Tryz.ntmps3
   go_wp2_with (first
     | (go_at_call 4;refine HSP.out.mono ?_;rintro e w1 ⟨rfl,hb⟩;have B1:Hid (Below w.heap.size w w1):=hb;clear hb HSP)
     | (go_at_call 5;refine (HBK.out w1 B1.out).mono ?_;rintro e w2 ⟨rfl,hb⟩;have B2:Hid (Below w.heap.size w w2):=B1.out.trans (hb.to_below B1.out.size (fun _ h=>by cases h));clear hb HBK))
   go_ret
   exact ⟨rfl,B2.out⟩
 · have e0:decide ((200:Int) < (bulkN L:Nat))=false:=decide_eq_false (by omega)
   by_cases hc1:n < 1
   · skip
     have e1:decide (n < 1)=true:=decide_eq_true hc1
     go_enter Tryz.func3,Tryz.ntmps3
     go_wp2_with (first
      | (go_at_call 4;refine HSP.out.mono ?_;rintro e w1 ⟨rfl,hb⟩;have B1:Hid (Below w.heap.size w w1):=hb;clear hb HSP)
      | (go_at_call 5;refine (HBK.out w1 B1.out).mono ?_;rintro e w2 ⟨rfl,hb⟩;have B2:Hid (Below w.heap.size w w2):=B1.out.trans (hb.to_below B1.out.size (fun _ h=>by cases h));clear hb HBK))
     go_ret
     exact ⟨rfl,B2.out⟩
   · skip
     have e1:decide (n < 1)=false:=decide_eq_false hc1;have e2:decide (100 < n)=true:=decide_eq_true (by omega)
     go_enter Tryz.func3,Tryz.ntmps3
     go_wp2_with (first
      | (go_at_call 4;refine HSP.out.mono ?_;rintro e w1 ⟨rfl,hb⟩;have B1:Hid (Below w.heap.size w w1):=hb;clear hb HSP)
      | (go_at_call 5;refine (HBK.out w1 B1.out).mono ?_;rintro e w2 ⟨rfl,hb⟩;have B2:Hid (Below w.heap.size w w2):=B1.out.trans (hb.to_below B1.out.size (fun _ h=>by cases h));clear hb HBK))
     go_ret
     exact ⟨rfl,B2.out⟩
theorem snew_bad (A:Nat→Addr)(w:World)(m:Int)(N:Nat)(most:Int)(ad:Option Addr)(cap:Nat)(L:List Ac)(hE:Errs w A)(hm:w.cell? ⟨16,0,none⟩=some (.int .i64 m))(hI:ActsIn w ad L)(hL:L.length≤1048576)(hc0:bulkN L≤200)(hN1:1≤N)(hN2:N≤100)(hb:most < 1∨300 < most):
   Calls Tryz.prog 3 #[.int .i64 (N:Nat),.int .i64 most,.slice ad L.length cap] w fun e w'=>e = .returned (.bool true)∧Below w.heap.size w w':=by
 have HSP:Hid (Calls Tryz.prog 4 #[] w fun e w'=>e = .returned (.bool true)∧Below w.heap.size w w'):=lasting_ok A w m hE hm;have HBK:Hid (∀ W,Below w.heap.size w W→Calls Tryz.prog 5 #[.slice ad L.length cap] W fun e w'=>e = .returned (.bool (decide ((200:Int) < (bulkN L:Nat))))∧Only [] W w'):=fun W hb=>bulky_any W ad cap L (hI.below hb) hL;have HNW:Hid (∀ W,Below w.heap.size w W→Calls Tryz.prog 6 #[.int .i64 (N:Nat)] W fun e w'=>∃ g:Dv,e = .returned (.tuple #[.pointer (some ⟨g.t,0,none⟩),.nilIface])∧Ds g w' ⟨none,List.replicate N zeroS,[]⟩∧g.W0=w∧g.A=A):=fun W hb=>new_dv A w W hE.five hb N hN1 (by omega);have HOP:Hid (∀ g W,Ds g W ⟨none,List.replicate N zeroS,[]⟩→Calls Tryz.prog 7 #[.pointer (some ⟨g.t,0,none⟩),.int .i64 most] W fun e w'=>e = .returned (.tuple #[.pointer none,.iface 535 (.pointer (some (g.A 0)))])∧Only [] W w'):=fun g W hW=>sopen_none hW (newest_zero N) _
 have HC1:Hid (∀ (g:Dv) W s,Ds g W s→g.W0=w∧g.A=A→Calls Tryz.prog 8 #[.iface 535 (.pointer (some (g.A 0))),.int .i64 1] W fun e w'=>e = .returned (.bool true)∧Only [] W w'):=fun g W s hW e=>by
   have hb:=hW.bel;rw [e.1] at hb;rw [e.2];exact coded5_err A 0 (by decide) 1 W (hE.below hb (Nat.le_refl _))
 have e0:decide ((200:Int) < (bulkN L:Nat))=false:=decide_eq_false (by omega);have e1:decide ((N:Int) < 1)=false:=decide_eq_false (by omega);have e2:decide ((100:Int) < (N:Int))=false:=decide_eq_false (by omega)
 have HBW:Hid (∀ (g:Dv) W s,g.W0=w∧g.A=A→Ds g W s→Below w.heap.size w W):=fun g W s e h=>by have:=h.bel;rw [e.1] at this;exact this
 have HFB:Hid (∀ (g:Dv) W s,Ds g W s→g.W0=w∧g.A=A→Calls Tryz.prog 9 #[.pointer (some ⟨g.t,0,none⟩),.int .i64 most] W fun e w'=>e = .returned (.tuple #[.pointer none,.iface 535 (.pointer (some (A 1)))])∧Only [] W w'):=fun g W s hW e=>sformat_bad A _ W most (hE.below (HBW.out g W s e hW) (Nat.le_refl _)) hb;have HC2:Hid (∀ (g:Dv) W s,Ds g W s→g.W0=w∧g.A=A→Calls Tryz.prog 8 #[.iface 535 (.pointer (some (A 1))),.int .i64 2] W fun e w'=>e = .returned (.bool true)∧Only [] W w'):=fun g W s hW e=>coded5_err A 1 (by decide) 2 W (hE.below (HBW.out g W s e hW) (Nat.le_refl _));clear hE hI hm
 by_cases hb1:most < 1
 · have f1:decide (most < 1)=true:=decide_eq_true hb1
   go_enter Tryz.func3,Tryz.ntmps3
   go_wp2_with (first
    | (go_at_call 4;refine HSP.out.mono ?_;rintro e w1 ⟨rfl,hb⟩;have B1:Hid (Below w.heap.size w w1):=hb;clear hb HSP)
    | (go_at_call 5;refine (HBK.out w1 B1.out).mono ?_;rintro e w2 ⟨rfl,hb⟩;have B2:Hid (Below w.heap.size w w2):=B1.out.trans (hb.to_below B1.out.size (fun _ h=>by cases h));clear hb HBK)
    | (go_at_call 6;refine (HNW.out w2 B2.out).mono ?_;rintro e w3 ⟨g,rfl,h1,h2,h3⟩;have HG:Hid (g.W0=w∧g.A=A):=⟨h2,h3⟩;have HD3:Hid (Ds g w3 ⟨none,List.replicate N zeroS,[]⟩):=h1;clear h1 h2 h3 HNW)
    | (go_at_call 7;refine (HOP.out g w3 HD3.out).mono ?_;rintro e w4 ⟨rfl,h1⟩;have HD4:Hid (Ds g w4 ⟨none,List.replicate N zeroS,[]⟩):=HD3.out.keep h1;clear h1 HOP HD3)
    | (go_at_call 8;refine (HC1.out g w4 _ HD4.out HG.out).mono ?_;rintro e w5 ⟨rfl,h1⟩;have HD5:Hid (Ds g w5 ⟨none,List.replicate N zeroS,[]⟩):=HD4.out.keep h1;clear h1 HC1 HD4)
    | (go_at_call 9;refine (HFB.out g w5 _ HD5.out HG.out).mono ?_;rintro e w6 ⟨rfl,h1⟩;have HD6:Hid (Ds g w6 ⟨none,List.replicate N zeroS,[]⟩):=HD5.out.keep h1;clear h1 HFB HD5)
    | (go_at_call 8;refine (HC2.out g w6 _ HD6.out HG.out).mono ?_;rintro e w7 ⟨rfl,h1⟩;have HD7:Hid (Ds g w7 ⟨none,List.replicate N zeroS,[]⟩):=HD6.out.keep h1;clear h1 HC2 HD6))
   go_ret
   exact ⟨rfl,HBW.out g w7 _ HG.out HD7.out⟩
 · have f1:decide (most < 1)=false:=decide_eq_false hb1
   have f2:decide (300 < most)=true:=decide_eq_true (by omega)
   go_enter Tryz.func3,Tryz.ntmps3
   go_wp2_with (first
    | (go_at_call 4;refine HSP.out.mono ?_;rintro e w1 ⟨rfl,hb⟩;have B1:Hid (Below w.heap.size w w1):=hb;clear hb HSP)
    | (go_at_call 5;refine (HBK.out w1 B1.out).mono ?_;rintro e w2 ⟨rfl,hb⟩;have B2:Hid (Below w.heap.size w w2):=B1.out.trans (hb.to_below B1.out.size (fun _ h=>by cases h));clear hb HBK)
    | (go_at_call 6;refine (HNW.out w2 B2.out).mono ?_;rintro e w3 ⟨g,rfl,h1,h2,h3⟩;have HG:Hid (g.W0=w∧g.A=A):=⟨h2,h3⟩;have HD3:Hid (Ds g w3 ⟨none,List.replicate N zeroS,[]⟩):=h1;clear h1 h2 h3 HNW)
    | (go_at_call 7;refine (HOP.out g w3 HD3.out).mono ?_;rintro e w4 ⟨rfl,h1⟩;have HD4:Hid (Ds g w4 ⟨none,List.replicate N zeroS,[]⟩):=HD3.out.keep h1;clear h1 HOP HD3)
    | (go_at_call 8;refine (HC1.out g w4 _ HD4.out HG.out).mono ?_;rintro e w5 ⟨rfl,h1⟩;have HD5:Hid (Ds g w5 ⟨none,List.replicate N zeroS,[]⟩):=HD4.out.keep h1;clear h1 HC1 HD4)
    | (go_at_call 9;refine (HFB.out g w5 _ HD5.out HG.out).mono ?_;rintro e w6 ⟨rfl,h1⟩;have HD6:Hid (Ds g w6 ⟨none,List.replicate N zeroS,[]⟩):=HD5.out.keep h1;clear h1 HFB HD5)
    | (go_at_call 8;refine (HC2.out g w6 _ HD6.out HG.out).mono ?_;rintro e w7 ⟨rfl,h1⟩;have HD7:Hid (Ds g w7 ⟨none,List.replicate N zeroS,[]⟩):=HD6.out.keep h1;clear h1 HC2 HD6))
   go_ret
   exact ⟨rfl,HBW.out g w7 _ HG.out HD7.out⟩
theorem snew_full (A:Nat→Addr)(w:World)(m:Int)(N most:Nat)(ad:Option Addr)(cap:Nat)(L:List Ac)(hE:Errs w A)(hm:w.cell? ⟨16,0,none⟩=some (.int .i64 m))(hI:ActsIn w ad L)(hL:L.length≤1048576)(hc0:bulkN L≤200)(hN1:1≤N)(hN2:N < 8)(h1:1≤most)(h2:most≤300):
  Calls Tryz.prog 3 #[.int .i64 (N:Nat),.int .i64 (most:Nat),.slice ad L.length cap] w fun e w'=>e = .returned (.bool true)∧Below w.heap.size w w':=by
 have HSP:Hid (Calls Tryz.prog 4 #[] w fun e w'=>e = .returned (.bool true)∧Below w.heap.size w w'):=lasting_ok A w m hE hm;have HBK:Hid (∀ W,Below w.heap.size w W→Calls Tryz.prog 5 #[.slice ad L.length cap] W fun e w'=>e = .returned (.bool (decide ((200:Int) < (bulkN L:Nat))))∧Only [] W w'):=fun W hb=>bulky_any W ad cap L (hI.below hb) hL;have HNW:Hid (∀ W,Below w.heap.size w W→Calls Tryz.prog 6 #[.int .i64 (N:Nat)] W fun e w'=>∃ g:Dv,e = .returned (.tuple #[.pointer (some ⟨g.t,0,none⟩),.nilIface])∧Ds g w' ⟨none,List.replicate N zeroS,[]⟩∧g.W0=w∧g.A=A):=fun W hb=>new_dv A w W hE.five hb N hN1 (by omega);have HOP:Hid (∀ g W,Ds g W ⟨none,List.replicate N zeroS,[]⟩→Calls Tryz.prog 7 #[.pointer (some ⟨g.t,0,none⟩),.int .i64 (most:Nat)] W fun e w'=>e = .returned (.tuple #[.pointer none,.iface 535 (.pointer (some (g.A 0)))])∧Only [] W w'):=fun g W hW=>sopen_none hW (newest_zero N) _
 have HC1:Hid (∀ (g:Dv) W s,Ds g W s→g.W0=w∧g.A=A→Calls Tryz.prog 8 #[.iface 535 (.pointer (some (g.A 0))),.int .i64 1] W fun e w'=>e = .returned (.bool true)∧Only [] W w'):=fun g W s hW e=>by
  have hb:=hW.bel;rw [e.1] at hb;rw [e.2];exact coded5_err A 0 (by decide) 1 W (hE.below hb (Nat.le_refl _))
 have e0:decide ((200:Int) < (bulkN L:Nat))=false:=decide_eq_false (by omega);have e1:decide ((N:Int) < 1)=false:=decide_eq_false (by omega);have e2:decide ((100:Int) < (N:Int))=false:=decide_eq_false (by omega)
 have HBW:Hid (∀ (g:Dv) W s,g.W0=w∧g.A=A→Ds g W s→Below w.heap.size w W):=fun g W s e h=>by have:=h.bel;rw [e.1] at this;exact this
 have HFB:Hid (∀ (g:Dv) W,Ds g W ⟨none,List.replicate N zeroS,[]⟩→Calls Tryz.prog 9 #[.pointer (some ⟨g.t,0,none⟩),.int .i64 (most:Nat)] W fun e w'=>e = .returned (.tuple #[.pointer none,.iface 535 (.pointer (some (g.A 8)))])∧Only [] W w'):=fun g W hW=>sformat_full hW most h1 h2 (newest_zero N) (by simpa using hN2)
 have HC2:Hid (∀ (g:Dv) W s,Ds g W s→g.W0=w∧g.A=A→Calls Tryz.prog 8 #[.iface 535 (.pointer (some (g.A 8))),.int .i64 9] W fun e w'=>e = .returned (.bool true)∧Only [] W w'):=fun g W s hW e=>by
  have hb:=hE.below (HBW.out g W s e hW) (Nat.le_refl _);rw [e.2];exact coded5_err A 8 (by decide) 9 W hb
 have f1:decide ((most:Int) < 1)=false:=decide_eq_false (by omega);have f2:decide ((300:Int) < (most:Int))=false:=decide_eq_false (by omega);have f3:decide ((N:Int) < 8)=true:=decide_eq_true (by omega);clear hE hI hm
 go_enter Tryz.func3,Tryz.ntmps3
 go_wp2_with (first
  | (go_at_call 4;refine HSP.out.mono ?_;rintro e w1 ⟨rfl,hb⟩;have B1:Hid (Below w.heap.size w w1):=hb;clear hb HSP)
  | (go_at_call 5;refine (HBK.out w1 B1.out).mono ?_;rintro e w2 ⟨rfl,hb⟩;have B2:Hid (Below w.heap.size w w2):=B1.out.trans (hb.to_below B1.out.size (fun _ h=>by cases h));clear hb HBK)
  | (go_at_call 6;refine (HNW.out w2 B2.out).mono ?_;rintro e w3 ⟨g,rfl,h1,h2,h3⟩;have HG:Hid (g.W0=w∧g.A=A):=⟨h2,h3⟩;have HD3:Hid (Ds g w3 ⟨none,List.replicate N zeroS,[]⟩):=h1;clear h1 h2 h3 HNW)
  | (go_at_call 7;refine (HOP.out g w3 HD3.out).mono ?_;rintro e w4 ⟨rfl,h1⟩;have HD4:Hid (Ds g w4 ⟨none,List.replicate N zeroS,[]⟩):=HD3.out.keep h1;clear h1 HOP HD3)
  | (go_at_call 8;refine (HC1.out g w4 _ HD4.out HG.out).mono ?_;rintro e w5 ⟨rfl,h1⟩;have HD5:Hid (Ds g w5 ⟨none,List.replicate N zeroS,[]⟩):=HD4.out.keep h1;clear h1 HC1 HD4)
  | (go_at_call 9;refine (HFB.out g w5 HD5.out).mono ?_;rintro e w6 ⟨rfl,h1⟩;have HD6:Hid (Ds g w6 ⟨none,List.replicate N zeroS,[]⟩):=HD5.out.keep h1;clear h1 HFB HD5)
  | (go_at_call 8;refine (HC2.out g w6 _ HD6.out HG.out).mono ?_;rintro e w7 ⟨rfl,h1⟩;have HD7:Hid (Ds g w7 ⟨none,List.replicate N zeroS,[]⟩):=HD6.out.keep h1;clear h1 HC2 HD6))
 go_ret
 exact ⟨rfl,HBW.out g w7 _ HG.out HD7.out⟩
theorem snew_good (A:Nat→Addr)(w:World)(m:Int)(N most:Nat)(ad:Option Addr)(cap:Nat)(L:List Ac)(hE:Errs w A)(hm:w.cell? ⟨16,0,none⟩=some (.int .i64 m))(hI:ActsIn w ad L)(hL:L.length≤1048576)(hc0:bulkN L≤200)(hN1:8≤N)(hN2:N≤100)(h1:1≤most)(h2:most≤300):
  Calls Tryz.prog 3 #[.int .i64 (N:Nat),.int .i64 (most:Nat),.slice ad L.length cap] w fun e w'=>e = .returned (.bool true)∧Below w.heap.size w w':=by
 have HSP:Hid (Calls Tryz.prog 4 #[] w fun e w'=>e = .returned (.bool true)∧Below w.heap.size w w'):=lasting_ok A w m hE hm;have HBK:Hid (∀ W,Below w.heap.size w W→Calls Tryz.prog 5 #[.slice ad L.length cap] W fun e w'=>e = .returned (.bool (decide ((200:Int) < (bulkN L:Nat))))∧Only [] W w'):=fun W hb=>bulky_any W ad cap L (hI.below hb) hL;have HNW:Hid (∀ W,Below w.heap.size w W→Calls Tryz.prog 6 #[.int .i64 (N:Nat)] W fun e w'=>∃ g:Dv,e = .returned (.tuple #[.pointer (some ⟨g.t,0,none⟩),.nilIface])∧Ds g w' ⟨none,List.replicate N zeroS,[]⟩∧g.W0=w∧g.A=A):=fun W hb=>new_dv A w W hE.five hb N (by omega) (by omega);have HOP:Hid (∀ g W,Ds g W ⟨none,List.replicate N zeroS,[]⟩→Calls Tryz.prog 7 #[.pointer (some ⟨g.t,0,none⟩),.int .i64 (most:Nat)] W fun e w'=>e = .returned (.tuple #[.pointer none,.iface 535 (.pointer (some (g.A 0)))])∧Only [] W w'):=fun g W hW=>sopen_none hW (newest_zero N) _
 have HC1:Hid (∀ (g:Dv) W s,Ds g W s→g.W0=w∧g.A=A→Calls Tryz.prog 8 #[.iface 535 (.pointer (some (g.A 0))),.int .i64 1] W fun e w'=>e = .returned (.bool true)∧Only [] W w'):=fun g W s hW e=>by
  have hb:=hW.bel;rw [e.1] at hb;rw [e.2];exact coded5_err A 0 (by decide) 1 W (hE.below hb (Nat.le_refl _))
 have e0:decide ((200:Int) < (bulkN L:Nat))=false:=decide_eq_false (by omega);have e1:decide ((N:Int) < 1)=false:=decide_eq_false (by omega);have e2:decide ((100:Int) < (N:Int))=false:=decide_eq_false (by omega)
 have HBW:Hid (∀ (g:Dv) W s,g.W0=w∧g.A=A→Ds g W s→Below w.heap.size w W):=fun g W s e h=>by have:=h.bel;rw [e.1] at this;exact this
 have HFM:Hid (∀ (g:Dv) W,Ds g W ⟨none,List.replicate N zeroS,[]⟩→g.W0=w∧g.A=A→Calls Tryz.prog 9 #[.pointer (some ⟨g.t,0,none⟩),.int .i64 (most:Nat)] W fun e w'=>∃ st s',e = .returned (.tuple #[.pointer (some ⟨st,0,none⟩),.nilIface])∧Ds g w' s'∧s'.wt=[]∧s'.sec.length=N):=fun g W hW e=>(sformat_ok A e.2 (by rw [e.1];exact hE) most h1 h2 hW rfl hN1 rfl rfl).mono fun e w' q=>by
  rcases q with ⟨hn,_⟩ | ⟨_,st,sv,tr,lt,mb,l,t1,p,b,db,B,pb,s',he,h1,_,h3,_⟩
  · exact absurd (room_new hN1) hn
  · exact ⟨st,s',he,h1.ds,h1.wt,h3⟩
 have HCX:Hid (∀ W,Below w.heap.size w W→Calls Tryz.prog 8 #[.iface 535 (.pointer (some (A 0))),.int .i64 1] W fun e w'=>e = .returned (.bool true)∧Only [] W w'):=fun W hb=>coded5_err A 0 (by decide) 1 W (hE.below hb (Nat.le_refl _))
 have HOX:Hid (∀ (g:Dv) W S1,g.W0=w∧g.A=A→S1.length=N→Ds g W ⟨none,S1,[]⟩→Calls Tryz.prog 7 #[.pointer (some ⟨g.t,0,none⟩),.int .i64 (most:Nat)] W fun e w'=>((∃ st,e = .returned (.tuple #[.pointer (some ⟨st,0,none⟩),.nilIface]))∨e = .returned (.tuple #[.pointer none,.iface 535 (.pointer (some (A 0)))]))∧Below w.heap.size w w'):=fun g W S1 e hS hW=>by
  have hb:=HBW.out g W _ e hW;refine (sopen_any A m most hW e.2 rfl (hE.below hb (Nat.le_refl _)) ((hb.cell (p:=⟨16,0,none⟩) (lt_of_cell hm)).trans hm) h1 h2 (fun R hR r hr=>?_)).mono fun e w' q=>?_
  · have:=open_short hR r hr
    have h3:(DSt.sec ⟨none,S1,[]⟩).length=N:=hS;rw [h3] at this;omega
  · obtain ⟨q,ho⟩:=q
    refine ⟨?_,hb.trans (ho.to_below hb.size (fun _ h=>by cases h))⟩;rcases q with ⟨st2,sv2,tr2,T2,c,q,t2,u2,he,_⟩ | ⟨he,_⟩
    · exact Or.inl ⟨st2,he⟩
    · exact Or.inr he
 have f1:decide ((most:Int) < 1)=false:=decide_eq_false (by omega);have f2:decide ((300:Int) < (most:Int))=false:=decide_eq_false (by omega);have f3:decide ((N:Int) < 8)=false:=decide_eq_false (by omega);have HIN:Hid (ActsIn w ad L):=hI;obtain ⟨len,hlen⟩:∃ len,L.length=len:=⟨_,rfl⟩
 have hl200:len≤200:=by
  have:=bulkN_ge L L.length (Nat.le_refl _);rw [List.take_length] at this;omega
 have HLN:Hid (L.length=len):=hlen;rw [hlen] at HBK ⊢;clear hE hI hL hc0 hlen hm
 go_enter Tryz.func3,Tryz.ntmps3
 go_upto_region 18 with (first
  | (go_at_call 4;refine HSP.out.mono ?_;rintro e w1 ⟨rfl,hb⟩;have B1:Hid (Below w.heap.size w w1):=hb;clear hb HSP)
  | (go_at_call 5;refine (HBK.out w1 B1.out).mono ?_;rintro e w2 ⟨rfl,hb⟩;have B2:Hid (Below w.heap.size w w2):=B1.out.trans (hb.to_below B1.out.size (fun _ h=>by cases h));clear hb HBK)
  | (go_at_call 6;refine (HNW.out w2 B2.out).mono ?_;rintro e w3 ⟨g,rfl,h1,h2,h3⟩;have HG:Hid (g.W0=w∧g.A=A):=⟨h2,h3⟩;have HD3:Hid (Ds g w3 ⟨none,List.replicate N zeroS,[]⟩):=h1;clear h1 h2 h3 HNW)
  | (go_at_call 7;refine (HOP.out g w3 HD3.out).mono ?_;rintro e w4 ⟨rfl,h1⟩;have HD4:Hid (Ds g w4 ⟨none,List.replicate N zeroS,[]⟩):=HD3.out.keep h1;clear h1 HOP HD3)
  | (go_at_call 8;refine (HC1.out g w4 _ HD4.out HG.out).mono ?_;rintro e w5 ⟨rfl,h1⟩;have HD5:Hid (Ds g w5 ⟨none,List.replicate N zeroS,[]⟩):=HD4.out.keep h1;clear h1 HC1 HD4)
  | (go_at_call 9;refine (HFM.out g w5 HD5.out HG.out).mono ?_;rintro e w6 ⟨st,s6,rfl,q1,q2,q3⟩;have HD6:Hid (Ds g w6 s6∧s6.wt=[]∧s6.sec.length=N):=⟨q1,q2,q3⟩;clear q1 q2 q3 HFM HD5))
 clear e0 e1 e2 f1 f2 f3
 go_loopw [12] (fun i wr=>∃ (j:Nat) (s:DSt),i = .int .i64 (j:Nat)∧j≤len∧Ds g wr s∧s.wt.length≤j∧s.sec.length=N) (fun i _=>len - (intOf i).toNat)
 case atStart=>exact ⟨0,s6,rfl,Nat.zero_le _,HD6.out.1,by rw [HD6.out.2.1];exact Nat.le_refl _,HD6.out.2.2⟩
 case round =>
  clear HD6;obtain ⟨j,s,rfl,hj,hD,hwl,hsl⟩:=hrel
  by_cases hlt:j < len
  · have hl:decide ((j:Int) < (len:Int))=true:=decide_eq_true (by omega)
    obtain ⟨x,hx⟩:∃ x,L[j]?=some x:=⟨L[j]'(by have:=HLN.out;omega),List.getElem?_eq_getElem _⟩;obtain ⟨b,o,rfl,hb,hA⟩:=(HIN.out.below (HBW.out g wr s HG.out hD)) j x hx;have c0:=hA.k;have c1:=hA.n;have c2:=hA.s;have c3:=hA.p
    have b1:(j:Int) < (len:Int):=by omega
    have HDO:Hid (Calls Tryz.prog 12 #[.pointer (some ⟨g.t,0,none⟩),.agg #[.string x.K,.int .i64 x.N,.string x.S,.slice x.ka x.B.length x.kc]] wr fun e w'=>∃ v s',e = .returned v∧Ds g w' s'∧s'.wt.length≤j+1∧s'.sec.length=N):=(hD.actS x hA.keep hA.bl hA.top (by omega)).mono fun e w' q=>by
      obtain ⟨v,s',a1,a2,a3,a4⟩:=q;exact ⟨v,s',a1,a2,by omega,by omega⟩
    clear hD hA hx hwl hsl
    go_wp2_with (go_at_call 12;refine HDO.out.mono ?_;rintro e w7 ⟨v,s7,rfl,h1,h2,h3⟩;have H7:Hid (Ds g w7 s7∧s7.wt.length≤j+1∧s7.sec.length=N):=⟨h1,h2,h3⟩;clear h1 h2 h3)
    go_roundw
    case rel=>exact ⟨j+1,s7,by go_num,by omega,H7.out.1,H7.out.2.1,H7.out.2.2⟩
    case measure=>simp [intOf];omega
  · have hl:decide ((j:Int) < (len:Int))=false:=decide_eq_false (by omega)
    obtain ⟨S1,hS1⟩:∃ S1,crashS (fun _=>false) s=S1:=⟨_,rfl⟩
    have HSL:Hid (S1.length=N):=by
      have:(crashS (fun _=>false) s).length=N:=by rw [crashS,redo_len,undo_len];exact hsl
      rw [← hS1];exact this
    have HCR:Hid (Calls Tryz.prog 13 #[.pointer (some ⟨g.t,0,none⟩),.slice none 0 0] wr fun e w'=>∃ u,e = .returned u∧Ds g w' ⟨none,S1,[]⟩):=(hD.crash_nil (by omega)).mono fun e w' q=>by
      obtain ⟨u,a1,a2,_⟩:=q;rw [hS1] at a2;exact ⟨u,a1,a2⟩
    clear hD hwl hS1 hsl
    go_wp2_with (go_at_call 13;refine HCR.out.mono ?_;rintro e w8 ⟨u,rfl,h1⟩;have H8:Hid (Ds g w8 ⟨none,S1,[]⟩):=h1;clear h1 HCR)
    refine (HOX.out g w8 S1 HG.out HSL.out H8.out).mono ?_;rintro e w9 ⟨⟨st9,rfl⟩ | rfl,hb⟩
    · have B9:Hid (Below w.heap.size w w9):=hb
      clear hb
      go_wp2
      go_ret
      exact ⟨rfl,B9.out⟩
    · have B9:Hid (Below w.heap.size w w9):=hb
      clear hb
      go_wp2_with (go_at_call 8;refine (HCX.out w9 B9.out).mono ?_;rintro e w10 ⟨rfl,h1⟩;have B10:Hid (Below w.heap.size w w10):=B9.out.trans (h1.to_below B9.out.size (fun _ h=>by cases h));clear h1)
      go_ret
      exact ⟨rfl,B10.out⟩
theorem snew_all (A:Nat→Addr)(w:World)(m n most:Int)(ad:Option Addr)(cap:Nat)(L:List Ac)(hE:Errs w A)(hm:w.cell? ⟨16,0,none⟩=some (.int .i64 m))(hI:ActsIn w ad L)(hL:L.length≤1048576):
   Calls Tryz.prog 3 #[.int .i64 n,.int .i64 most,.slice ad L.length cap] w fun e w'=>e = .returned (.bool true)∧Below w.heap.size w w':=by
 by_cases hc:200 < bulkN L∨n < 1∨100 < n
 · exact snew_short A w m n most ad cap L hE hm hI hL hc
 · obtain ⟨N,rfl⟩:∃ N:Nat,n=(N:Int):=⟨n.toNat,by omega⟩
   by_cases hb:most < 1∨300 < most
   · exact snew_bad A w m N most ad cap L hE hm hI hL (by omega) (by omega) (by omega) hb
   · obtain ⟨M,rfl⟩:∃ M:Nat,most=(M:Int):=⟨most.toNat,by omega⟩
     by_cases h8:N < 8
     · exact snew_full A w m N M ad cap L hE hm hI hL (by omega) (by omega) h8 (by omega) (by omega)
     · exact snew_good A w m N M ad cap L hE hm hI hL (by omega) (by omega) (by omega) (by omega) (by omega)
end
section
open Go Go.RowKit Go.Deep Go.WideShapes
theorem bulk_part {H:Type}{d:DataW H}{l:List (DataW H)}(h:d∈l):Rows.uptoBulk d≤Rows.uptoBulkAll l:=by
 induction l with
 | nil=>cases h
 | cons x r ih =>
  simp only [Rows.uptoBulkAll];rcases List.mem_cons.1 h with e | e
  · subst e;omega
  · have:=ih e;omega
theorem bulk_one {H:Type}(d:DataW H):1≤Rows.uptoBulk d:=by
 cases d with
 | lit l=>cases l<;>simp [Rows.uptoBulk]
 | nil=>simp [Rows.uptoBulk]
 | ptr d=>simp [Rows.uptoBulk]
 | slice elems spare=>simp [Rows.uptoBulk]
 | agg parts=>simp [Rows.uptoBulk]
 | iface t d=>simp [Rows.uptoBulk]
 | map entries=>simp [Rows.uptoBulk]
 | held h=>simp [Rows.uptoBulk]
theorem bulk_len {H:Type}(l:List (DataW H)):l.length≤Rows.uptoBulkAll l:=by
 induction l with
 | nil=>simp [Rows.uptoBulkAll]
 | cons x r ih=>have:=bulk_one x;simp only [Rows.uptoBulkAll,List.length_cons];omega
theorem choose_ltD {α:Type}[Inhabited α]{n:Nat}{p:Nat→α→Prop}(h:∀ i,i < n→∃ a,p i a):∃ f:Nat→α,∀ i,i < n→p i (f i) :=
 ⟨fun i=>if hi:i < n then (h i hi).choose else default,fun i hi=>by simp only [hi,dite_true];exact (h i hi).choose_spec⟩
theorem Tryz.cellsActD:Tryz.prog.cellsOf 40=4:=by kernel_rfl
theorem Tryz.cellsIntD:Tryz.prog.cellsOf 3=1:=by kernel_rfl
theorem Tryz.cellsStrD:Tryz.prog.cellsOf 9=1:=by kernel_rfl
theorem Tryz.cellsBoolD:Tryz.prog.cellsOf 4=1:=by kernel_rfl
theorem Tryz.cellsBoolsD:Tryz.prog.cellsOf 38=1:=by kernel_rfl
theorem four_ofD {l:List Value}(h:l.length=4):∃ a b c d,l=[a,b,c,d]:=by
 match l,h with
 | [a,b,c,d],_=>exact ⟨a,b,c,d,rfl⟩
section
variable {H:Type}{enc:TypeId×Value→H}{w:World}{base n:Nat}{sp:Nat→Bool}{held:Bool}{cs:List Value}{x:DataW H×List MemPlace}
theorem bulk_elem {D:Nat→DataW H}{len m i N:Nat}(hi:i < len)(hN:Rows.uptoBulk (.slice ((List.range len).map D) ((List.range m).map fun j=>D (len+j)))≤N):Rows.uptoBulk (D i)≤N:=by
 simp only [Rows.uptoBulk] at hN;have:=bulk_part (l:=(List.range len).map D) (d:=D i) (List.mem_map.2 ⟨i,List.mem_range.2 hi,rfl⟩);omega
theorem bulk_count {D:Nat→DataW H}{len m N:Nat}(hN:Rows.uptoBulk (.slice ((List.range len).map D) ((List.range m).map fun j=>D (len+j)))≤N):len≤N:=by
 simp only [Rows.uptoBulk] at hN;have:=bulk_len ((List.range len).map D);simp only [List.length_map,List.length_range] at this;omega
theorem bools_of {N:Nat}(h:DataW.trod enc Tryz.prog w base sp held n 38 cs=some x)(hN:Rows.uptoBulk x.1≤N):∃ (a:Option Addr) (cap:Nat) (B:List Bool),cs=[.slice a B.length cap]∧B.length≤N∧((a=none∧B=[]∧cap=0)∨∃ ad,a=some ad∧∀ j v,(B.map Value.bool)[j]?=some v→w.cell? (ad.add j)=some v):=by
 rcases open_slice Tryz.underlying38 h with ⟨rfl,_⟩ | ⟨ad,len,cap,m,n',D,Pl,rfl,_,hl,hm,hmm,rfl,hx⟩
 · exact ⟨none,0,[],rfl,Nat.zero_le _,Or.inl ⟨rfl,rfl,rfl⟩⟩
 · have hle:len≤m:=by rw [hmm];split<;>omega
   rw [Tryz.cellsBoolD] at hx
   obtain ⟨P,hP⟩:=choose_ltD (α:=Bool) (n:=len) (p:=fun i b=>w.cell? (ad.add i)=some (.bool b)) (fun i hi=>by
    obtain ⟨cs',c1,c2⟩:=hx i (by omega);obtain ⟨b,e,_⟩:=DataW.trod_bool Tryz.underlying4 c2;have h1:=(World.cells?_some c1).2.2 0 (by decide)
    have hadd:(ad.add (i*1)).add 0=ad.add i:=by
     rw [Nat.mul_one];unfold Addr.add
     split<;>split<;>simp_all
    rw [hadd,e] at h1
    exact ⟨b,h1⟩)
   have hBl:((List.range len).map P).length=len:=by simp
   refine ⟨some ad,cap,(List.range len).map P,by rw [hBl],by rw [hBl];exact bulk_count hN,Or.inr ⟨ad,rfl,fun j v hv=>?_⟩⟩;rw [List.getElem?_map,List.getElem?_map] at hv;obtain ⟨b,hb,rfl⟩:=Option.map_eq_some_iff.1 hv;obtain ⟨i,hi,rfl⟩:=Option.map_eq_some_iff.1 hb;obtain ⟨hlt,e⟩:=List.getElem?_eq_some_iff.1 hi;rw [List.getElem_range] at e;subst e;exact hP j (by simpa using hlt)
theorem act_fields (h:DataW.trod enc Tryz.prog w base sp held n 40 cs=some x)(hN:Rows.uptoBulk x.1≤1048576):
  ∃ p:Ac,cs=[.string p.K,.int .i64 p.N,.string p.S,.slice p.ka p.B.length p.kc]∧AcKeep w p∧p.S.size≤1048576∧p.B.length≤1048576∧p.N < 9223372036854775808:=by
 have hst:=DataW.trod_struct Tryz.underlying40 h;rw [Tryz.cellsActD] at hst;obtain ⟨xs,k,_,hxx,hcl,hlen,hx⟩:=hst;obtain ⟨c0,c1,c2,c3,rfl⟩:=four_ofD (l:=cs) (by simpa using hcl);have g:∀ i (hi:i < xs.length),xs[i]?=some xs[i]:=fun i hi=>List.getElem?_eq_getElem hi;have hl4:xs.length=4:=hlen;have y0:=(hx 0 _ rfl).trans (g 0 (by omega));have y1:=(hx 1 _ rfl).trans (g 1 (by omega));have y2:=(hx 2 _ rfl).trans (g 2 (by omega));have y3:=(hx 3 _ rfl).trans (g 3 (by omega))
 have hpart:∀ i (hi:i < xs.length),Rows.uptoBulk (xs[i]'hi).1≤1048576:=fun i hi=>by
  rw [hxx] at hN;simp only [Rows.uptoBulk] at hN;have hm:=bulk_part (l:=xs.map (·.1)) (d:=(xs[i]'hi).1) (List.mem_map.2 ⟨xs[i],List.getElem_mem _,rfl⟩);omega
 obtain ⟨s0,e0,_,_⟩:=DataW.trod_string Tryz.underlying9 y0;obtain ⟨n1,e1,_,r1⟩:=DataW.trod_int Tryz.underlying3 y1;obtain ⟨s2,e2,d2,_⟩:=DataW.trod_string Tryz.underlying9 y2;obtain ⟨ka,kc,B,e3,l3,hk3⟩:=bools_of y3 (hpart 3 (by omega))
 have hs:s2.size≤1048576:=by
  have:=hpart 2 (by omega);rw [d2] at this;simp only [Rows.uptoBulk] at this
  have h3:s2.data.toList.length=s2.size:=by simp
  omega
 have hn:n1 < 9223372036854775808:=by
  simp [Lit.wf,IntKind.min,IntKind.max,IntKind.signed,IntKind.bits] at r1;omega
 simp [Tryz.cellsIntD,Tryz.cellsStrD,Tryz.cellsBoolsD] at e0 e1 e2 e3;subst e0 e1 e2 e3;exact ⟨⟨s0,n1,s2,ka,kc,B⟩,rfl,hk3,hs,l3,hn⟩
end
def IsDActs (w:World)(ad:Option Addr)(len:Nat):Prop:=len≤1048576∧∃ L:List Ac,L.length=len∧ActsIn w ad L
theorem isDActs_of {H:Type}{enc:TypeId×Value→H}{w:World}{base n:Nat}{sp:Nat→Bool}{held:Bool}{a:Option Addr}{len cap:Nat}{x:DataW H×List MemPlace}(h:DataW.trod enc Tryz.prog w base sp held n 22 [.slice a len cap]=some x)(hN:Rows.uptoBulk x.1≤1048576):IsDActs w a len:=by
 rcases open_slice Tryz.underlying22 h with ⟨e,_⟩ | ⟨ad,len',cap',m,n',D,Pl,e,_,hl,hm,hmm,rfl,hx⟩
 · simp at e
   obtain ⟨rfl,rfl,rfl⟩:=e;exact ⟨Nat.zero_le _,[],rfl,fun i x e=>by cases e⟩
 · simp at e
   obtain ⟨rfl,rfl,rfl⟩:=e
   have hle:len≤m:=by rw [hmm];split<;>omega
   rcases Nat.eq_zero_or_pos len with h0 | h0
   · subst h0
     exact ⟨Nat.zero_le _,[],rfl,fun i x e=>by cases e⟩
   rw [Tryz.cellsActD] at hx;have inst:Inhabited Ac:=⟨⟨⟨#[]⟩,0,⟨#[]⟩,none,0,[]⟩⟩
   obtain ⟨P,hP⟩:=choose_ltD (α:=Ac) (n:=len) (p:=fun i p=>w.cells? base (ad.add (i*4)) 4=some [.string p.K,.int .i64 p.N,.string p.S,.slice p.ka p.B.length p.kc]∧AcKeep w p∧p.S.size≤1048576∧p.B.length≤1048576∧p.N < 9223372036854775808) (fun i hi=>by
     obtain ⟨cs',c1,c2⟩:=hx i (by omega);obtain ⟨p,rfl,hq⟩:=act_fields c2 (bulk_elem hi hN)
     exact ⟨p,c1,hq⟩)
   obtain ⟨ab,ao,spot⟩:=ad;have cell:∀ i,i < len→∀ k,k < 4→w.cell? (((⟨ab,ao,spot⟩:Addr).add (i*4)).add k)=[Value.string (P i).K,.int .i64 (P i).N,.string (P i).S,.slice (P i).ka (P i).B.length (P i).kc][k]?:=fun i hi k hk=>(World.cells?_some (hP i hi).1).2.2 k hk
   have hspot:spot=none:=by
     have h1:=cell 0 h0 0 (by decide);simp [Addr.add] at h1;exact World.cell?_spot h1
   subst hspot
   have hadd:∀ i j,((⟨ab,ao,none⟩:Addr).add (i*4)).add j=⟨ab,ao+i*4+j,none⟩:=fun i j=>by
     unfold Addr.add
     split<;>split<;>simp_all
   refine ⟨bulk_count hN,(List.range len).map P,by simp,fun i y hy=>?_⟩;rw [List.getElem?_map] at hy;obtain ⟨i',hi',rfl⟩:=Option.map_eq_some_iff.1 hy;obtain ⟨hlt,e⟩:=List.getElem?_eq_some_iff.1 hi';rw [List.getElem_range] at e;subst e
   have hil:i < len:=by simpa using hlt
   have q0:=cell i hil 0 (by decide);have q1:=cell i hil 1 (by decide);have q2:=cell i hil 2 (by decide);have q3:=cell i hil 3 (by decide);rw [hadd] at q0 q1 q2 q3;exact ⟨ab,ao,rfl,lt_of_cell q0,q0,q1,q2,q3,(hP i hil).2.1,(hP i hil).2.2.1,(hP i hil).2.2.2.1,(hP i hil).2.2.2.2⟩
end
section
open Go Go.RowKit Go.Deep Go.Maps
theorem snew_in (A:Nat→Addr)(w:World)(m n most:Int)(ad:Option Addr)(len cap:Nat)(hE:Errs w A)(hm:w.cell? ⟨16,0,none⟩=some (.int .i64 m))(hI:IsDActs w ad len):
  Calls Tryz.prog 3 #[.int .i64 n,.int .i64 most,.slice ad len cap] w fun e w'=>e = .returned (.bool true)∧Below w.heap.size w w':=by
 obtain ⟨hl,L,rfl,hA⟩:=hI;exact snew_all A w m n most ad cap L hE hm hA hl
end
end Go.Proofs.YtmnidbnaneagjaaGreatDoor
