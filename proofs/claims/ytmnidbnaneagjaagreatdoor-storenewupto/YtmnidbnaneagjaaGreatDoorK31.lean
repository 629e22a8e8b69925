import Derived.Test.YtmnidbnaneagjaaGreatDoorK30
set_option maxRecDepth 100000
set_option maxHeartbeats 8000000
namespace Go.Proofs.YtmnidbnaneagjaaGreatDoor
section
open Go Go.RowKit Go.Deep Go.Maps
theorem isThrownL (v:Value)(w:World):(Instr.typeAssert (.iface 194 v) 20 194 false).run Tryz.prog w = .ok v w:=by kernel_rfl
theorem ofThrownL (E:Value)(w:World):(Instr.field 194 (.agg #[E]) 0).run Tryz.prog w = .ok E w:=by kernel_rfl
theorem load1_idle (p q:Addr)(w:World):
  CallsD Tryz.prog 73 #[.pointer (some p),.pointer (some q)] .returning w fun e u' w'=>e = .returned (.tuple #[])∧u' = .returning∧w'=w:=by
 refine callsD_of_wpS Tryz.func73 rfl fun c₀ cs hu=>?_;apply wpS_seq;apply wpS_region;simp [wpOpsS,go_sem,recoverD,hu,Tryz.ntmps73,Exit.thenS]
 rw [show (#[Value.pointer (some p),Value.pointer (some q)]++((Array.replicate 7 undef).setIfInBounds 1 Value.nilIface).setIfInBounds 0 Value.nilIface:Array Value)=#[.pointer (some p),.pointer (some q),.nilIface,.nilIface,undef,undef,undef,undef,undef] from rfl]
 refine wpS_of_wp ?_
 go_wp2
 exact ⟨rfl,_,by rw [← hu],_,results_none rfl _ _ _,rfl,rfl,rfl⟩
theorem load1_panic (p q:Nat)(u0 u1:Value)(T:TypeId)(x:Value)(older:List PanicEntry)(w:World)(hp:w.cell? ⟨p,0,none⟩=some u0)(hpz:w.frozen? ⟨p,0,none⟩=false)(hq:w.cell? ⟨q,0,none⟩=some u1)(hqz:w.frozen? ⟨q,0,none⟩=false)(hpq:p≠q):
  CallsD Tryz.prog 73 #[.pointer (some ⟨p,0,none⟩),.pointer (some ⟨q,0,none⟩)] (.panicking ({ v := .iface 194 (.agg #[.iface T x]),recovered:=false }::older)) w fun e u' w' =>
   e = .returned (.tuple #[])∧u' = .panicking ({ v := .iface 194 (.agg #[.iface T x]),recovered:=true }::older)∧w'=(w.drew.setCell ⟨p,0,none⟩ (.pointer none)).setCell ⟨q,0,none⟩ (.iface T x):=by
 have h1:=isThrownL;have h2:=ofThrownL;refine callsD_of_wpS Tryz.func73 rfl fun c₀ cs hu=>?_;apply wpS_seq;apply wpS_region;simp [wpOpsS,go_sem,recoverD,hu,Tryz.ntmps73,Exit.thenS]
 rw [show (#[Value.pointer (some ⟨p,0,none⟩),Value.pointer (some ⟨q,0,none⟩)]++((Array.replicate 7 undef).setIfInBounds 1 (.iface 194 (.agg #[.iface T x]))).setIfInBounds 0 (.iface 194 (.agg #[.iface T x])):Array Value)=#[.pointer (some ⟨p,0,none⟩),.pointer (some ⟨q,0,none⟩),.iface 194 (.agg #[.iface T x]),.iface 194 (.agg #[.iface T x]),undef,undef,undef,undef,undef] from rfl]
 refine wpS_of_wp ?_
 go_wp2
 go_region
 all_goals go_wp2
 all_goals exact ⟨rfl,_,rfl,_,results_none rfl _ _ _,rfl,rfl,rfl⟩
def pLoad (most:Nat)(s:ByteArray):Option Lc:=match pTab most s with
 | none=>none
 | some (l,t1)=>match pConts l (tabC l l.length) t1 with
  | none=>none
  | some (c,_)=>if chkC l c=true then some c else none
theorem pLoad_tab {most:Nat}{s:ByteArray}(h:pTab most s=none):pLoad most s=none:=by simp [pLoad,h]
theorem pLoad_conts {most:Nat}{s t1:ByteArray}{l:List Nmb}(h:pTab most s=some (l,t1))(h2:pConts l (tabC l l.length) t1=none):pLoad most s=none:=by simp [pLoad,h,h2]
theorem pLoad_chk {most:Nat}{s t1 t2:ByteArray}{l:List Nmb}{c:Lc}(h:pTab most s=some (l,t1))(h2:pConts l (tabC l l.length) t1=some (c,t2))(h3:chkC l c=false):pLoad most s=none:=by simp [pLoad,h,h2,h3]
theorem pLoad_some {most:Nat}{s t1 t2:ByteArray}{l:List Nmb}{c:Lc}(h:pTab most s=some (l,t1))(h2:pConts l (tabC l l.length) t1=some (c,t2))(h3:chkC l c=true):pLoad most s=some c:=by simp [pLoad,h,h2,h3]
theorem pTab_head {most:Nat}{s t1:ByteArray}{l:List Nmb}(h:pTab most s=some (l,t1)):pHead l=true∧cntN l≤most:=by
 unfold pTab at h
 cases h1:pNum 300 s with
 | none=>rw [bindP_none h1] at h;cases h
 | some x =>
  obtain ⟨n,t2⟩:=x;rw [bindP_some h1] at h
  cases h3:pTimes pGiven n t2 with
  | none=>rw [bindP_none h3] at h;cases h
  | some y =>
   obtain ⟨l',t3⟩:=y;rw [bindP_some h3] at h
   by_cases hc:(pHead l'&&pGood l' most)=true
   · rw [if_pos hc] at h
     simp only [retP,Option.some.injEq,Prod.mk.injEq] at h;obtain ⟨rfl,rfl⟩:=h;rw [Bool.and_eq_true] at hc;exact ⟨hc.1,((pGood_iff _ _).1 hc.2).2⟩
   · rw [if_neg hc] at h
     cases h
theorem pHead_len {l:List Nmb}(h:pHead l=true):1≤l.length:=by
 unfold pHead at h
 cases l with
 | nil=>simp at h
 | cons x l=>simp
theorem fit_count {l:List Nmb}{T:Tr}(h:Fit l (absT T)):countTo T.nd T.p.N=cntN l:=by
 unfold cntN;have hN:T.p.N=l.length:=h.1;rw [hN];refine countTo_some (fun i=>?_) _;have:=congrArg Option.isSome (h.2.2 i);simp only [Option.isSome_map] at this;rw [Option.isSome_map,← this];show _=((T.nd i).map bareN).isSome;rw [Option.isSome_map]
structure LoadT (w w':World)(tr:Nat)(T:Tr)(c:Lc)(most q:Nat):Prop where
 at_:TreeAt w' tr T
 abs:absT T=c
 ok:LcOk c q
 small:16*q≤15000
 mst:T.most=most
 few:countTo T.nd T.p.N≤most
 pn:T.pn=fun _=>0
 fresh:∀ k,FootT tr T k→w.heap.size≤k
theorem LoadT.only {w w' w'':World}{tr most q:Nat}{T:Tr}{c:Lc}(h:LoadT w w' tr T c most q)(ho:Only [] w' w''):LoadT w w'' tr T c most q:=⟨h.at_.only ho,h.abs,h.ok,h.small,h.mst,h.few,h.pn,h.fresh⟩
def LoadR (A:Nat→Addr)(s:ByteArray)(most:Nat)(w w':World)(e:Ending):Prop :=
 ((∃ tr T c q,e = .returned (.tuple #[.pointer (some ⟨tr,0,none⟩),.nilIface])∧pLoad most s=some c∧bs (snapT T)=s∧LoadT w w' tr T c most q)∨((∀ T:Tr,pLoad most s=some (absT T)→bs (snapT T)≠s)∧e = .returned (.tuple #[.pointer none,eV A 0])))∧Only [] w w'
theorem same_bytes {s r:ByteArray}(h:s=r):(s.toList==r.toList)=true:=by rw [h];simp
theorem other_bytes {s r:ByteArray}(h:¬ s=r):(s.toList==r.toList)=false:=by
 rw [Lib.toList_data,Lib.toList_data];exact beq_eq_false_iff_ne.2 (fun e=>h (data_inj e))
theorem load_any (A:Nat→Addr)(w:World)(s:ByteArray)(most:Nat)(hE:Errs w A)(hs:s.size≤15000)(h1:1≤most)(h2:most≤300):
   Calls Tryz.prog 40 #[.string s,.int .i64 (most:Nat)] w fun e w'=>LoadR A s most w w' e:=by
 have o1:Only [] w ((w.alloc (.cells #[.pointer none] 53)).alloc (.cells #[.nilIface] 27)):=((Only.refl [] w).alloc _).alloc _;have b1:=heap_alloc_last w (.cells #[.pointer none] 53);have b2:=heap_alloc_last (w.alloc (.cells #[.pointer none] 53)) (.cells #[.nilIface] 27);rw [World.size_alloc] at b2;have b1':((w.alloc (.cells #[.pointer none] 53)).alloc (.cells #[.nilIface] 27)).heap[w.heap.size]?=some (.cells #[.pointer none] 53 (0,0)):=(((Only.refl [] (w.alloc (.cells #[.pointer none] 53))).alloc (.cells #[.nilIface] 27)).block _ (Array.getElem?_eq_some_iff.1 b1).1 (by simp)).trans b1;have hnew:=tree_new ((w.alloc (.cells #[.pointer none] 53)).alloc (.cells #[.nilIface] 27)) most h1 h2;obtain ⟨w1,hw1⟩:∃ w1,(w.alloc (.cells #[.pointer none] 53)).alloc (.cells #[.nilIface] 27)=w1:=⟨_,rfl⟩;rw [hw1] at o1 b1' b2 hnew;have HW1:Hid ((w.alloc (.cells #[.pointer none] 53)).alloc (.cells #[.nilIface] 27)=w1):=hw1;have hlow:Low A w.heap.size:=⟨fun k hk=>⟨lt_of_cell (hE.cell k hk),by obtain ⟨c,t,e⟩:=hE.row k hk;exact (Array.getElem?_eq_some_iff.1 e).1⟩,lt_of_cell hE.typ⟩;have HLOW:Hid (Low A w.heap.size):=hlow;have HEE:Hid (∀ W,Only [] w W→Errs W A):=fun W ho=>hE.below (ho.to_below (Nat.le_refl _) (fun k hk=>by cases hk)) (Nat.le_refl _);obtain ⟨pt,hpt⟩:∃ pt,w.heap.size=pt:=⟨_,rfl⟩;obtain ⟨pe,hpe⟩:∃ pe,w.heap.size+1=pe:=⟨_,rfl⟩;have HPS:Hid (w.heap.size=pt∧w.heap.size+1=pe):=⟨hpt,hpe⟩
 have HNE:Hid (pt≠pe):=by show _≠_;omega
 rw [hpt] at b1';rw [hpe] at b2
 have HPT:Hid (∀ W,Only [] w1 W→W.cell? ⟨pt,0,none⟩=some (.pointer none)∧W.cell? ⟨pe,0,none⟩=some .nilIface∧W.frozen? ⟨pt,0,none⟩=false∧W.frozen? ⟨pe,0,none⟩=false):=fun W ho=>by
   have e1:=(ho.block pt (Array.getElem?_eq_some_iff.1 b1').1 (by simp)).trans b1';have e2:=(ho.block pe (Array.getElem?_eq_some_iff.1 b2).1 (by simp)).trans b2;exact ⟨cell_of_row _ _ 0 _ _ _ e1,cell_of_row _ _ 0 _ _ _ e2,frozen_of_row _ _ _ _ _ e1,frozen_of_row _ _ _ _ _ e2⟩
 have hst:∀ W u v,Only [] w1 W→(((W.setCell ⟨pt,0,none⟩ u).setCell ⟨pe,0,none⟩ v).cell? ⟨pt,0,none⟩=some u∧((W.setCell ⟨pt,0,none⟩ u).setCell ⟨pe,0,none⟩ v).cell? ⟨pe,0,none⟩=some v∧Only [] w ((W.setCell ⟨pt,0,none⟩ u).setCell ⟨pe,0,none⟩ v)):=fun W u v ho=>by
   have e1:=(ho.block pt (Array.getElem?_eq_some_iff.1 b1').1 (by simp)).trans b1';have e2:=(ho.block pe (Array.getElem?_eq_some_iff.1 b2).1 (by simp)).trans b2;have oa:Only [pt] W (W.setCell ⟨pt,0,none⟩ u):=(Only.refl [pt] W).setCell (Or.inl (by simp)) _;have ob:Only [pe] (W.setCell ⟨pt,0,none⟩ u) ((W.setCell ⟨pt,0,none⟩ u).setCell ⟨pe,0,none⟩ v):=(Only.refl [pe] _).setCell (Or.inl (by simp)) _;have f1:=heap_setCell_same W pt 0 _ _ u e1;have f1':=(ob.block pt (Array.getElem?_eq_some_iff.1 f1).1 (by have:=HNE.out;simpa using this)).trans f1;have e2':=(oa.block pe (Array.getElem?_eq_some_iff.1 e2).1 (by have:=HNE.out;simp;omega)).trans e2;have f2:=heap_setCell_same _ pe 0 _ _ v e2';exact ⟨cell_of_row _ _ 0 _ _ _ f1',cell_of_row _ _ 0 _ _ _ f2,((o1.trans ho (fun _ hk=>by cases hk)).trans oa (fun k hk=>Or.inr (by simp at hk;omega))).trans ob (fun k hk=>Or.inr (by simp at hk;omega))⟩
 have HST:Hid (∀ W u v,Only [] w1 W→(((W.setCell ⟨pt,0,none⟩ u).setCell ⟨pe,0,none⟩ v).cell? ⟨pt,0,none⟩=some u∧((W.setCell ⟨pt,0,none⟩ u).setCell ⟨pe,0,none⟩ v).cell? ⟨pe,0,none⟩=some v∧Only [] w ((W.setCell ⟨pt,0,none⟩ u).setCell ⟨pe,0,none⟩ v))):=hst;have HFIN:Hid (∀ W,Only [] w1 W→(((W.drew.setCell ⟨pt,0,none⟩ (.pointer none)).setCell ⟨pe,0,none⟩ (eV A 0)).cell? ⟨pt,0,none⟩=some (.pointer none)∧((W.drew.setCell ⟨pt,0,none⟩ (.pointer none)).setCell ⟨pe,0,none⟩ (eV A 0)).cell? ⟨pe,0,none⟩=some (eV A 0)∧Only [] w ((W.drew.setCell ⟨pt,0,none⟩ (.pointer none)).setCell ⟨pe,0,none⟩ (eV A 0)))):=fun W ho=>hst W.drew _ _ ho.drew;have HO1:Hid (Only [] w w1):=o1
 have hmf:∀ (fn:Fn) (first cap:Array Value) (w:World),(Instr.makeFunc fn first cap).run Tryz.prog w = .ok (.func fn first cap) w:=fun _ _ _ _=>rfl
 have HM:Hid (1≤most∧most≤300):=⟨h1,h2⟩;have HS5:Hid (s.size≤15000):=hs;clear o1 b1 b2 b1' hw1 hlow hE hst hpt hpe h1 h2 hs
 go_enter_defers Tryz.func40,Tryz.ntmps40
 go_upto_region 1 with fail
 rw [HW1.out,HPS.out.2,HPS.out.1]
 go_upto_region 5 with (go_at_call 48;refine hnew.mono ?_;rintro e w2 ⟨tr0,_,_,_,_,_,_,rfl,-,o2,-⟩;have HO2:Hid (Only [] w1 w2):=o2;clear hnew o2)
 have hrd:=newReader_any s w2
 go_upto_region 6 with (go_at_call 74;refine hrd.mono ?_;rintro e w3 ⟨rfl,rfl⟩;clear hrd)
 have HO12:Hid (Only [] w w2):=HO1.out.trans HO2.out (fun _ hk=>by cases hk);have b3:=heap_alloc_last w2 (.cells #[.string s] 261);have b4:=heap_alloc_last (w2.alloc (.cells #[.string s] 261)) (.cells #[.pointer (some ⟨w2.heap.size,0,none⟩),.pointer none,.slice none 0 0] 200);rw [World.size_alloc] at b4;have o3:Only [] w2 ((w2.alloc (.cells #[.string s] 261)).alloc (.cells #[.pointer (some ⟨w2.heap.size,0,none⟩),.pointer none,.slice none 0 0] 200)):=((Only.refl [] w2).alloc _).alloc _;have b3':=(((Only.refl [] (w2.alloc (.cells #[.string s] 261))).alloc (.cells #[.pointer (some ⟨w2.heap.size,0,none⟩),.pointer none,.slice none 0 0] 200)).block _ (Array.getElem?_eq_some_iff.1 b3).1 (by simp)).trans b3;generalize hw3:(w2.alloc (.cells #[.string s] 261)).alloc (.cells #[.pointer (some ⟨w2.heap.size,0,none⟩),.pointer none,.slice none 0 0] 200)=w3 at b3' b4 o3 ⊢;clear hw3;obtain ⟨xb,hxb⟩:∃ xb,w2.heap.size=xb:=⟨_,rfl⟩;obtain ⟨lb,hlb⟩:∃ lb,w2.heap.size+1=lb:=⟨_,rfl⟩;have HXB:Hid (w2.heap.size=xb∧w2.heap.size+1=lb):=⟨hxb,hlb⟩
 have hL:LdR w3 A lb xb (.pointer none) (.slice none 0 0) s:=by
   have hs:=HO12.out.size;rw [hlb,hxb] at b4;rw [hxb] at b3';exact ⟨b4,b3',HEE.out w3 (HO12.out.trans o3 (fun _ hk=>by cases hk)),HS5.out,fun k hk=>by have:=HLOW.out.1 k hk;omega,by have:=HLOW.out.2;omega⟩
 have htab:=table_ends A w3 lb xb most s hL (HLOW.out.mono (Nat.le_trans HO12.out.size o3.size)) HM.out.1 HM.out.2;rw [hlb,hxb];have HO3:Hid (Only [] w2 w3):=o3;clear b3 b3' b4 o3 hL hxb hlb;have HX2:Hid (∀ W,Only [lb,xb] w3 W→Only [] w2 W):=fun W ho=>HO3.out.trans ho (fun k hk=>Or.inr (by have:=HXB.out;simp at hk;omega))
 go_wp2_with fail
 refine htab.mono ?_;rintro e w4 (⟨l,t1,R,B,tr,T,v,hpt,rfl,hLd,habs,hmo,o4,hB,hl3,hks⟩ | ⟨hpn,rfl,o4⟩)
 · obtain ⟨hhd,hcn⟩:=pTab_head hpt
   have hl1:=pHead_len hhd;have hFill:Fill w2 w4 A R B lb xb tr most v l (tabC l l.length) t1 T 0:=⟨hLd,habs,hmo,tabC_ok hhd hks,by have:=hLd.ld.le;omega,tabC_fit l,HX2.out w4 o4⟩
   have hbase:Base w2 B lb xb:=by
     have:=HO3.out.size;have:=HXB.out;exact ⟨by omega,by omega,by omega⟩
   have hcon:=contents_ends w2 w4 A R B lb xb tr most v l (tabC l l.length) t1 T 0 hFill hbase (fun k hk=>tabC_ds' hk) ⟨hl1,hl3⟩;have HTB:Hid (pTab most s=some (l,t1)):=hpt;have HLH:Hid (pHead l=true∧cntN l≤most∧1≤l.length∧l.length≤300):=⟨hhd,hcn,hl1,hl3⟩;have HBA:Hid (Base w2 B lb xb):=hbase;clear hpt hLd habs hmo o4 hB hl3 hks hhd hcn hl1 hFill hbase htab
   go_wp2_with fail
   refine hcon.mono ?_;rintro e w5 (⟨c,t2,T2,q2,hpc,rfl,hF5⟩ | ⟨hpn,rfl,o5⟩)
   · have hch:=check_ends w2 w5 A R B lb xb tr most v l c t2 T2 q2 hF5 HLH.out.2.2 HLH.out.1
     have HPC:Hid (pConts l (tabC l l.length) t1=some (c,t2)):=hpc;have HF5:Hid (Fill w2 w5 A R B lb xb tr most v l c t2 T2 q2):=hF5;clear hpc hF5 hcon
     go_wp2_with fail
     refine hch.mono ?_;rintro e w6 ⟨(⟨hck,rfl⟩ | ⟨hck,rfl⟩),o6⟩
     · have hF6:=HF5.out.sees o6
       have hsn:=snapshot_any A w6 tr T2 hF6.d.tree hF6.d.ld.err (saveOk_of (by rw [hF6.abs];exact hF6.ok) hF6.d.tree.small.N);have HF6:Hid (Fill w2 w6 A R B lb xb tr most v l c t2 T2 q2):=hF6;have HCK:Hid (chkC l c=true):=hck;have c1:=hF6.d.ld.c1;have hlb:=hF6.d.ld.lt;clear o6 hck hch hF6 HF5
       go_wp2_with fail
       refine hsn.mono ?_;rintro e w7 ⟨rfl,o7⟩;have hF7:=HF6.out.sees o7;have HF7:Hid (Fill w2 w7 A R B lb xb tr most v l c t2 T2 q2):=hF7;have HO7:Hid (Only [] w1 w7):=HO2.out.trans hF7.only (fun _ hk=>by cases hk);clear c1 hlb hsn o7 HF6 hF7
       by_cases hS:bs (snapT T2)=s
       · have dS:=same_bytes hS
         have HSS:Hid (bs (snapT T2)=s):=hS;clear hS
         go_wp2_with (go_at_call 78;refine (must_yes _ _).mono ?_;rintro e w8 ⟨rfl,rfl⟩;have c1:=HF7.out.d.ld.c1;have hlb:=HF7.out.d.ld.lt;obtain ⟨a0,a1,a2,a3⟩:=HPT.out w7 HO7.out;have hptl:=lt_of_cell a0;have hpel:=lt_of_cell a1;have hne1:¬ pt=pe:=HNE.out;have hne2:¬ pe=pt:=Ne.symm HNE.out)
         refine leaves_cons (f:=73) (args:=#[.pointer (some ⟨pt,0,none⟩),.pointer (some ⟨pe,0,none⟩)]) (by simp) (by simp [go_sem]) ?_;refine (load1_idle ⟨pt,0,none⟩ ⟨pe,0,none⟩ _).mono ?_;rintro e u' w'' ⟨rfl,rfl,rfl⟩;obtain ⟨z0,z1,z2⟩:=HST.out w7 (.pointer (some ⟨tr,0,none⟩)) .nilIface HO7.out;simp only [settle,Leaves];refine ⟨.tuple #[.pointer (some ⟨tr,0,none⟩),.nilIface],by simp [results,Tryz.results40,go_sem,z0,z1],Or.inl ⟨tr,T2,c,q2,rfl,pLoad_some HTB.out HPC.out HCK.out,HSS.out,?_⟩,z2⟩;have oz:Only [pt,pe] w7 ((w7.setCell ⟨pt,0,none⟩ (.pointer (some ⟨tr,0,none⟩))).setCell ⟨pe,0,none⟩ .nilIface):=((Only.refl [pt,pe] w7).setCell (Or.inl (by simp)) _).setCell (Or.inl (by simp)) _
         have hfr:∀ k,FootT tr T2 k→w.heap.size+2≤k:=fun k hk=>by
          have e1:=HF7.out.d.fresh k hk;have e2:=HBA.out.1;have e3:=HO2.out.size
          have e4:w1.heap.size=w.heap.size+2:=by rw [← HW1.out,World.size_alloc,World.size_alloc]
          omega
         exact ⟨HF7.out.d.tree.kept oz (fun k hk=>by have:=hfr k hk;have:=HPS.out;simp;omega),HF7.out.abs,HF7.out.ok,by have:=HF7.out.room;omega,HF7.out.most,by rw [fit_count (by rw [HF7.out.abs];exact HF7.out.fit)];exact HLH.out.2.1,HF7.out.d.pn,fun k hk=>by have:=hfr k hk;omega⟩
       · have dS:=other_bytes hS
         have HNO:Hid (∀ T:Tr,pLoad most s=some (absT T)→bs (snapT T)≠s):=fun T' hp he=>by
          rw [pLoad_some HTB.out HPC.out HCK.out] at hp;have:absT T2=absT T':=HF7.out.abs.trans (Option.some.inj hp);rw [snap_abs this] at hS;exact hS he
         have hmn:=must_no A lb w7 HF7.out.d.ld.err;clear hS
         go_wp2_with (go_at_call 78;refine hmn.mono ?_;rintro e w8 ⟨rfl,rfl⟩)
         go_wp2
         refine leaves_cons (f:=73) (args:=#[.pointer (some ⟨pt,0,none⟩),.pointer (some ⟨pe,0,none⟩)]) (by simp) (by simp [go_sem]) ?_;obtain ⟨a0,a1,a2,a3⟩:=HPT.out w7 (HO7.out);refine (load1_panic pt pe _ _ _ _ [] w7 a0 a2 a1 a3 HNE.out).mono ?_;rintro e u' w'' ⟨rfl,rfl,hwz⟩;obtain ⟨z0,z1,z2⟩:=HFIN.out w7 (HO7.out);rw [← hwz] at z0 z1 z2;clear hwz;simp only [settle,Leaves,List.dropWhile];exact ⟨.tuple #[.pointer none,eV A 0],by simp [results,Tryz.results40,go_sem,z0,z1],Or.inr ⟨HNO.out,rfl⟩,z2⟩
     · have HNO:Hid (∀ T:Tr,pLoad most s=some (absT T)→bs (snapT T)≠s):=fun T' hp=>by
         rw [pLoad_chk HTB.out HPC.out hck] at hp
         cases hp
       have HO6:Hid (Only [] w1 w6):=HO2.out.trans (HF5.out.sees o6).only (fun _ hk=>by cases hk);clear o6 hck hch
       go_wp2
       refine leaves_cons (f:=73) (args:=#[.pointer (some ⟨pt,0,none⟩),.pointer (some ⟨pe,0,none⟩)]) (by simp) (by simp [go_sem]) ?_;obtain ⟨a0,a1,a2,a3⟩:=HPT.out w6 (HO6.out);refine (load1_panic pt pe _ _ _ _ [] w6 a0 a2 a1 a3 HNE.out).mono ?_;rintro e u' w'' ⟨rfl,rfl,hwz⟩;obtain ⟨z0,z1,z2⟩:=HFIN.out w6 (HO6.out);rw [← hwz] at z0 z1 z2;clear hwz;simp only [settle,Leaves,List.dropWhile];exact ⟨.tuple #[.pointer none,eV A 0],by simp [results,Tryz.results40,go_sem,z0,z1],Or.inr ⟨HNO.out,rfl⟩,z2⟩
   · have HNO:Hid (∀ T:Tr,pLoad most s=some (absT T)→bs (snapT T)≠s):=fun T' hp=>by
       rw [pLoad_conts HTB.out hpn] at hp
       cases hp
     have HO5:Hid (Only [] w1 w5):=HO2.out.trans o5 (fun _ hk=>by cases hk);clear o5 hpn hcon
     go_wp2
     refine leaves_cons (f:=73) (args:=#[.pointer (some ⟨pt,0,none⟩),.pointer (some ⟨pe,0,none⟩)]) (by simp) (by simp [go_sem]) ?_;obtain ⟨a0,a1,a2,a3⟩:=HPT.out w5 (HO5.out);refine (load1_panic pt pe _ _ _ _ [] w5 a0 a2 a1 a3 HNE.out).mono ?_;rintro e u' w'' ⟨rfl,rfl,hwz⟩;obtain ⟨z0,z1,z2⟩:=HFIN.out w5 (HO5.out);rw [← hwz] at z0 z1 z2;clear hwz;simp only [settle,Leaves,List.dropWhile];exact ⟨.tuple #[.pointer none,eV A 0],by simp [results,Tryz.results40,go_sem,z0,z1],Or.inr ⟨HNO.out,rfl⟩,z2⟩
 · have HNO:Hid (∀ T:Tr,pLoad most s=some (absT T)→bs (snapT T)≠s):=fun T' hp=>by
     rw [pLoad_tab hpn] at hp
     cases hp
   have HO4:Hid (Only [] w1 w4):=HO2.out.trans (HX2.out w4 o4) (fun _ hk=>by cases hk);clear o4 hpn htab
   go_wp2
   refine leaves_cons (f:=73) (args:=#[.pointer (some ⟨pt,0,none⟩),.pointer (some ⟨pe,0,none⟩)]) (by simp) (by simp [go_sem]) ?_;obtain ⟨a0,a1,a2,a3⟩:=HPT.out w4 (HO4.out);refine (load1_panic pt pe _ _ _ _ [] w4 a0 a2 a1 a3 HNE.out).mono ?_;rintro e u' w'' ⟨rfl,rfl,hwz⟩;obtain ⟨z0,z1,z2⟩:=HFIN.out w4 (HO4.out);rw [← hwz] at z0 z1 z2;clear hwz;simp only [settle,Leaves,List.dropWhile];exact ⟨.tuple #[.pointer none,eV A 0],by simp [results,Tryz.results40,go_sem,z0,z1],Or.inr ⟨HNO.out,rfl⟩,z2⟩
theorem new_bad (w:World)(most:Int)(A:Nat→Addr)(hE:Errs w A)(h:most < 1∨300 < most):
  Calls Tryz.prog 48 #[.int .i64 most] w fun e w'=>e = .returned (.tuple #[.pointer none,eV A 1])∧Only [] w w':=by
 have hnew:=tnew_bound w most (.iface 535 (.pointer (some (A 1)))) (hE.cell 1 (by decide)) h
 go_enter Tryz.func48,Tryz.ntmps48
 go_wp2_with (first
  | (go_at_call 89;refine hnew.mono ?_;rintro e w1 ⟨rfl,ho1⟩)
  | go_in)
 refine bodyPost_ret (v := .tuple #[.pointer none,.iface 535 (.pointer (some (A 1)))]) (by simp [results,Tryz.results48,go_sem]) rfl ⟨rfl,?_⟩
 first | exact ho1 | exact ho1.alloc _ | exact (ho1.alloc _).drew
abbrev eS (A:Nat→Addr)(k:Nat):Value := .iface 535 (.pointer (some (A k)))
theorem imageOf_two (w:World)(g cap:Nat)(r0 r1:ByteArray)(h0:w.cell? ⟨g,0,none⟩=some (.string r0))(h1:w.cell? ⟨g,1,none⟩=some (.string r1)):Calls Tryz.prog 19 #[.slice (some ⟨g,0,none⟩) 2 cap] w fun e w'=>e = .returned (.agg #[.string r0,.string r1])∧Only [] w w':=by
 have hl:=lt_of_cell h0;have o1:Only [] w (w.alloc (.cells #[.string ⟨#[]⟩,.string ⟨#[]⟩] 67)):=(Only.refl [] w).alloc _;have HO:Hid (Only [] w (w.alloc (.cells #[.string ⟨#[]⟩,.string ⟨#[]⟩] 67))):=o1;have k0:=(o1.cell (p:=⟨g,0,none⟩) hl (by simp)).trans h0;have k1:=(o1.cell (p:=⟨g,1,none⟩) hl (by simp)).trans h1;clear h0 h1 o1
 go_enter Tryz.func19,Tryz.ntmps19
 go_upto_region 3 with (fail)
 go_region
 all_goals go_wp2
 all_goals exact bodyPost_ret (v := .agg #[.string r0,.string r1]) (by simp [results,Tryz.results19,go_sem]) rfl ⟨rfl,((Only.refl [] w).alloc _).drew⟩
theorem imageOf_not (w:World)(ad:Option Addr)(n cap:Nat)(hn:n≠2):Calls Tryz.prog 19 #[.slice ad n cap] w fun e w'=>e = .returned (.agg #[.string ⟨#[]⟩,.string ⟨#[]⟩])∧Only [] w w':=by
 have d0:((n:Int) != 2)=true:=by simp;omega
 have HO:Hid (Only [] w (w.alloc (.cells #[.string ⟨#[]⟩,.string ⟨#[]⟩] 67))):=(Only.refl [] w).alloc _;clear hn
 go_enter Tryz.func19,Tryz.ntmps19
 go_wp2
 exact bodyPost_ret (v := .agg #[.string ⟨#[]⟩,.string ⟨#[]⟩]) (by simp [results,Tryz.results19,go_sem]) rfl ⟨rfl,(Only.refl [] w).alloc _⟩
theorem readNames_any (A:Nat→Addr)(w:World)(s:ByteArray)(m:Int)(hE:Errs w A)(hs:s.size≤1000000)(hm:w.cell? ⟨16,0,none⟩=some (.int .i64 m)):
  Calls Tryz.prog 22 #[.string s] w fun e w'=>∃ v u,e = .returned (.tuple #[v,u])∧(∃ ad n cap,v = .slice ad n cap)∧(u = .nilIface∨(v = .slice none 0 0∧u=eS A 0∧(s.toList==([]:List UInt8))=false))∧Only [] w w':=by
 cases hb:(s.toList==([]:List UInt8)) with
 | true =>
  clear hE hs hm
  go_enter Tryz.func22,Tryz.ntmps22
  go_wp2
  go_ret2
  exact ⟨_,_,rfl,⟨_,_,_,rfl⟩,Or.inl rfl,Only.refl _ _⟩
 | false =>
  have HS:Hid (Calls Tryz.prog 44 #[.string s,.string ⟨#[47]⟩] w fun e w'=>e = .returned (.slice (some ⟨w.heap.size,0,none⟩) (pieces s.data.toList).length (pieces s.data.toList).length)∧w'=w.alloc (.cells (cellsT (pieces s.data.toList)).toArray 9)):=strokes_any s m w hs hm;have hpl:=pieces_len s.data.toList;have hsz:s.data.toList.length=s.size:=Array.length_toList
  have HT:Hid (∀ i,i < (pieces s.data.toList).length→∃ x:ByteArray,(w.alloc (.cells (cellsT (pieces s.data.toList)).toArray 9)).cell? ⟨w.heap.size,i,none⟩=some (.string x)):=fun i hi=>by
   rw [World.cell?_alloc_new];exact ⟨bs ((pieces s.data.toList).getD i []),by simp [cellsT,hi]⟩
  have HO:Hid (Only [] w (w.alloc (.cells (cellsT (pieces s.data.toList)).toArray 9))):=(Only.refl [] w).alloc _;have HE:Hid (∀ W,Only [] w W→Errs W A):=fun W ho=>hE.below (ho.to_below (Nat.le_refl _) (fun _ h=>by cases h)) (Nat.le_refl _);obtain ⟨n,hn⟩:∃ n,(pieces s.data.toList).length=n:=⟨_,rfl⟩;rw [hn] at HS HT hpl;generalize w.alloc (.cells (cellsT (pieces s.data.toList)).toArray 9)=w0 at HS HT HO
  have hn2:n≤1000001:=by omega
  clear hE hm hs hpl hn hsz
  go_enter Tryz.func22,Tryz.ntmps22
  go_wp2_with (go_at_call 44;refine HS.out.mono ?_;rintro e w1 ⟨rfl,h0⟩;have h1:=h0.symm;subst h1;clear h0)
  go_loopw [13] (fun i wr=>∃ j:Nat,i = .int .i64 (j:Nat)∧j≤n∧Only [] w0 wr) (fun i _=>n - (intOf i).toNat)
  case atStart=>exact ⟨0,rfl,Nat.zero_le _,Only.refl _ _⟩
  case round =>
   obtain ⟨j,rfl,hj,ho⟩:=hrel;have HR:Hid (Only [] w0 wr):=ho;have HW:Hid (Only [] w wr):=HO.out.trans ho (fun _ h=>by cases h)
   by_cases hlt:j < n
   · have hl:decide ((j:Int) < (n:Int))=true:=decide_eq_true (by omega)
     obtain ⟨x,hx⟩:=HT.out j hlt;have y0:=(ho.cell (p:=⟨w.heap.size,j,none⟩) (lt_of_cell hx) (by simp)).trans hx;have hxl:=lt_of_cell y0;have hck:=check_any x A wr (HE.out wr HW.out);clear ho hx
     go_upto_region 7 with (fail)
     go_wp2_with fail
     refine hck.mono ?_;rintro e w2 ⟨⟨_,rfl⟩ | ⟨_,rfl⟩,hb2⟩
     · have HB:Hid (Below wr.heap.size wr w2):=hb2
       clear hck hb2
       go_wp2
       go_roundw
       case rel=>exact ⟨j+1,by go_num,by omega,HR.out.trans (Only.of_below HB.out []) (fun _ h=>by cases h)⟩
       case measure=>simp [intOf];omega
     · have HB:Hid (Only [] w w2):=HW.out.trans (Only.of_below hb2 []) (fun _ h=>by cases h)
       have ce:w2.cell? ⟨1,0,none⟩=some (eS A 0):=(HE.out w2 HB.out).cell 0 (by decide);have cl:=lt_of_cell ce;clear hck hb2
       go_upto_region 8 with (fail)
       go_quiet (fail)
       go_wp2
       go_ret2
       exact ⟨_,_,rfl,⟨_,_,_,rfl⟩,Or.inr ⟨rfl,rfl,by first | exact hb | trivial⟩,HB.out.drewN _⟩
   · have hl:decide ((j:Int) < (n:Int))=false:=decide_eq_false (by omega)
     clear ho
     go_wp2
     go_ret2
     exact ⟨_,_,rfl,⟨_,_,_,rfl⟩,Or.inl rfl,HW.out⟩
def SLoadR (A:Nat→Addr)(s:ByteArray)(most:Nat)(w w':World)(e:Ending):Prop :=
 ((∃ sv tr T c q,e = .returned (.tuple #[.pointer (some ⟨sv,0,none⟩),.nilIface])∧w'.cell? ⟨sv,0,none⟩=some (.pointer (some ⟨tr,0,none⟩))∧w.heap.size≤sv∧pLoad most s=some c∧bs (snapT T)=s∧LoadT w w' tr T c most q)∨((∀ T:Tr,pLoad most s=some (absT T)→bs (snapT T)≠s)∧e = .returned (.tuple #[.pointer none,eS A 0])))∧Only [] w w'
theorem sload_any (A:Nat→Addr)(w:World)(s:ByteArray)(most:Nat)(fn:Fn)(x y:Array Value)(hE:Errs w A)(hs:s.size≤15000)(h1:1≤most)(h2:most≤300):
   Calls Tryz.prog 20 #[.string s,.int .i64 (most:Nat),.func fn x y] w fun e w'=>SLoadR A s most w w' e:=by
 have hld:=load_any A w s most hE hs h1 h2;clear hE hs h1 h2
 go_enter Tryz.func20,Tryz.ntmps20
 go_wp2_with fail
 refine hld.mono ?_;rintro e w1 ⟨⟨tr,T,c,q,rfl,hp,hb,hT⟩ | ⟨hn,rfl⟩,ho⟩
 · have HL:Hid (pLoad most s=some c∧bs (snapT T)=s∧LoadT w w1 tr T c most q∧Only [] w w1):=⟨hp,hb,hT,ho⟩
   clear hld hp hb hT ho
   go_wp2_with (go_at_call 41;go_must (refine (serve_over9 _ _).mono ?_);rintro e w2 ⟨sv,rfl,hc,hb2⟩;have H2:Hid ((∃ row:Array Value,w2.heap[sv]?=some (.cells row 123 (0,0))∧row.size=10∧row[0]?=some (.pointer (some ⟨tr,0,none⟩)))∧w1.heap.size≤sv∧Below w1.heap.size w1 w2):=⟨hc.1,hc.2,hb2⟩;obtain ⟨⟨row,hrow,hr9,hr0⟩,hsv⟩:=hc;have z9:∃ v,w2.cell? ⟨sv,9,none⟩=some v:=⟨row[9]'(by omega),by rw [cell_of_row _ _ 9 _ _ _ hrow];simp [hr9]⟩;obtain ⟨v9,z9⟩:=z9;have f9:=frozen_of_row w2 sv 9 _ _ hrow;have l9:=lt_of_cell z9;clear hrow hr9 hr0 hsv hb2)
   go_ret2
   obtain ⟨⟨row,hrow,hr9,hr0⟩,hsv,hb2⟩:=H2.out;obtain ⟨hp,hb,hT,ho⟩:=HL.out;have o2:Only [] w1 w2:=Only.of_below hb2 _;have o3:Only [] w1 (w2.setCell ⟨sv,9,none⟩ (.func fn x y)):=o2.setCell (Or.inr hsv) _;refine ⟨Or.inl ⟨sv,tr,T,c,q,rfl,?_,Nat.le_trans ho.size hsv,hp,hb,hT.only o3⟩,ho.trans o3 (fun _ h=>by cases h)⟩;rw [World.cell?_setCell_other _ _ _ _ (by simp)];exact (cell_of_row _ _ 0 _ _ _ hrow).trans hr0
 · have HL:Hid ((∀ T:Tr,pLoad most s=some (absT T)→bs (snapT T)≠s)∧Only [] w w1):=⟨hn,ho⟩
   clear hld hn ho
   go_wp2
   go_ret2
   exact ⟨Or.inr ⟨HL.out.1,rfl⟩,HL.out.2⟩
end
end Go.Proofs.YtmnidbnaneagjaaGreatDoor
