import Derived.Test.YtmnidbnaneagjaaGreatDoorK13
import Derived.Test.YtmnidbnaneagjaaGreatDoorK5
import Derived.Lib.AppendZerosOnto
import Derived.Test.YtmnidbnaneagjaaGreatDoorK7
import Derived.Shelf.Spec.SlicesInsert
import Derived.Lib.SliceRun
import Derived.Lib.Overlaps
set_option maxHeartbeats 8000000
namespace Go.Proofs.YtmnidbnaneagjaaGreatDoor
section
open Go Go.RowKit Go.Deep Go.Maps
theorem keepZ_only {w W:World}{tr t B:Nat}{N G:Int}(h:w.cell? ⟨tr,0,none⟩=some (.pointer (some ⟨t,0,none⟩))∧w.cell? ⟨B,0,none⟩=some (.int .i64 N)∧w.cell? ⟨B,1,none⟩=some (.int .i64 G))(ho:Only [] w W):W.cell? ⟨tr,0,none⟩=some (.pointer (some ⟨t,0,none⟩))∧W.cell? ⟨B,0,none⟩=some (.int .i64 N)∧W.cell? ⟨B,1,none⟩=some (.int .i64 G) :=
 ⟨(ho.cell (p:=⟨tr,0,none⟩) (lt_of_cell h.1) (by simp)).trans h.1,(ho.cell (p:=⟨B,0,none⟩) (lt_of_cell h.2.1) (by simp)).trans h.2.1,(ho.cell (p:=⟨B,1,none⟩) (lt_of_cell h.2.2) (by simp)).trans h.2.2⟩
theorem keepZ_alloc {W:World}{tr t B:Nat}{N G:Int}{o:Obj}(h:W.cell? ⟨tr,0,none⟩=some (.pointer (some ⟨t,0,none⟩))∧W.cell? ⟨B,0,none⟩=some (.int .i64 N)∧W.cell? ⟨B,1,none⟩=some (.int .i64 G)):(W.alloc o).cell? ⟨tr,0,none⟩=some (.pointer (some ⟨t,0,none⟩))∧(W.alloc o).cell? ⟨B,0,none⟩=some (.int .i64 N)∧(W.alloc o).cell? ⟨B,1,none⟩=some (.int .i64 G):=keepZ_only h ((Only.refl [] W).alloc _)
theorem keepZ_set {W:World}{tr t B blk o:Nat}{N G:Int}{u:Value}(h:W.cell? ⟨tr,0,none⟩=some (.pointer (some ⟨t,0,none⟩))∧W.cell? ⟨B,0,none⟩=some (.int .i64 N)∧W.cell? ⟨B,1,none⟩=some (.int .i64 G))(h1:tr≠blk)(h2:B≠blk):(W.setCell ⟨blk,o,none⟩ u).cell? ⟨tr,0,none⟩=some (.pointer (some ⟨t,0,none⟩))∧(W.setCell ⟨blk,o,none⟩ u).cell? ⟨B,0,none⟩=some (.int .i64 N)∧(W.setCell ⟨blk,o,none⟩ u).cell? ⟨B,1,none⟩=some (.int .i64 G):=by
 have ho:Only [blk] W (W.setCell ⟨blk,o,none⟩ u):=(Only.refl [blk] W).setCell (Or.inl (by simp)) _;exact ⟨(ho.cell (p:=⟨tr,0,none⟩) (lt_of_cell h.1) (by simpa using h1)).trans h.1,(ho.cell (p:=⟨B,0,none⟩) (lt_of_cell h.2.1) (by simpa using h2)).trans h.2.1,(ho.cell (p:=⟨B,1,none⟩) (lt_of_cell h.2.2) (by simpa using h2)).trans h.2.2⟩
section
variable (w:World)(tr t:Nat)(N G K Z L C UN UG:Int)
theorem checkDir_yes (ct:w.cell? ⟨tr,0,none⟩=some (.pointer (some ⟨t,0,none⟩)))
 (HC0:∀ w1,Only [] w w1→Calls Tryz.prog 239 #[.pointer (some ⟨t,0,none⟩),.agg #[.int .i64 N,.int .i64 G]] w1 fun e w'=>e = .returned (.tuple #[.agg #[.int .i64 2,.int .i64 Z,.int .i64 L,.int .i64 C,.int .i64 UN,.int .i64 UG],.nilIface])∧Only [] w1 w') :
 Calls Tryz.prog 266 #[.pointer (some ⟨tr,0,none⟩),.agg #[.int .i64 N,.int .i64 G]] w fun e w'=>e = .returned .nilIface∧Only [] w w':=by
 have htl:tr < w.heap.size:=lt_of_cell ct
 have H1:Hid ((w.alloc (.cells #[.int .i64 N,.int .i64 G] 94)).cell? ⟨tr,0,none⟩=some (.pointer (some ⟨t,0,none⟩))∧(w.alloc (.cells #[.int .i64 N,.int .i64 G] 94)).cell? ⟨w.heap.size,0,none⟩=some (.int .i64 N)∧(w.alloc (.cells #[.int .i64 N,.int .i64 G] 94)).cell? ⟨w.heap.size,1,none⟩=some (.int .i64 G)):=by
   have hh:=heap_alloc_last w (.cells #[.int .i64 N,.int .i64 G] 94);exact ⟨(((Only.refl [] w).alloc _).cell (p:=⟨tr,0,none⟩) (lt_of_cell ct) (by simp)).trans ct,cell_of_row _ _ 0 _ _ _ hh,cell_of_row _ _ 1 _ _ _ hh⟩
 have HW1:Hid (Only [] (w.alloc (.cells #[.int .i64 N,.int .i64 G] 94)) (w.alloc (.cells #[.int .i64 N,.int .i64 G] 94)).drew):=(Only.refl [] _).drew;have HW2:Hid (Only [] (w.alloc (.cells #[.int .i64 N,.int .i64 G] 94)) ((w.alloc (.cells #[.int .i64 N,.int .i64 G] 94)).alloc (.cells #[.int .i64 0,.int .i64 0,.int .i64 0,.int .i64 0,.int .i64 0,.int .i64 0] 293)).drew):=((Only.refl [] _).alloc _).drew;have HV1:Hid (Only [] w (w.alloc (.cells #[.int .i64 N,.int .i64 G] 94)).drew):=((Only.refl [] _).alloc _).drew;have HV2:Hid (Only [] w ((w.alloc (.cells #[.int .i64 N,.int .i64 G] 94)).alloc (.cells #[.int .i64 0,.int .i64 0,.int .i64 0,.int .i64 0,.int .i64 0,.int .i64 0] 293)).drew):=(((Only.refl [] _).alloc _).alloc _).drew;have K1:Hid ((w.alloc (.cells #[.int .i64 N,.int .i64 G] 94)).drew.cell? ⟨tr,0,none⟩=some (.pointer (some ⟨t,0,none⟩))∧(w.alloc (.cells #[.int .i64 N,.int .i64 G] 94)).drew.cell? ⟨w.heap.size,0,none⟩=some (.int .i64 N)∧(w.alloc (.cells #[.int .i64 N,.int .i64 G] 94)).drew.cell? ⟨w.heap.size,1,none⟩=some (.int .i64 G)):=keepZ_only H1.out HW1.out;have K2:Hid (((w.alloc (.cells #[.int .i64 N,.int .i64 G] 94)).alloc (.cells #[.int .i64 0,.int .i64 0,.int .i64 0,.int .i64 0,.int .i64 0,.int .i64 0] 293)).drew.cell? ⟨tr,0,none⟩=some (.pointer (some ⟨t,0,none⟩))∧((w.alloc (.cells #[.int .i64 N,.int .i64 G] 94)).alloc (.cells #[.int .i64 0,.int .i64 0,.int .i64 0,.int .i64 0,.int .i64 0,.int .i64 0] 293)).drew.cell? ⟨w.heap.size,0,none⟩=some (.int .i64 N)∧((w.alloc (.cells #[.int .i64 N,.int .i64 G] 94)).alloc (.cells #[.int .i64 0,.int .i64 0,.int .i64 0,.int .i64 0,.int .i64 0,.int .i64 0] 293)).drew.cell? ⟨w.heap.size,1,none⟩=some (.int .i64 G)):=keepZ_only H1.out HW2.out
 have HN2:Hid (tr≠w.heap.size+1):=show tr≠w.heap.size+1 from by omega
 have HB2:Hid (w.heap.size≠w.heap.size+1):=show w.heap.size≠w.heap.size+1 from by omega
 have HC:Hid (∀ w1,Only [] w w1→Calls Tryz.prog 239 #[.pointer (some ⟨t,0,none⟩),.agg #[.int .i64 N,.int .i64 G]] w1 fun e w'=>e = .returned (.tuple #[.agg #[.int .i64 2,.int .i64 Z,.int .i64 L,.int .i64 C,.int .i64 UN,.int .i64 UG],.nilIface])∧Only [] w1 w'):=HC0;clear HC0
 go_enter Tryz.func266,Tryz.ntmps266
 go_wp2
 go_region_held3 (fun W=>W.cell? ⟨tr,0,none⟩=some (.pointer (some ⟨t,0,none⟩))∧W.cell? ⟨w.heap.size,0,none⟩=some (.int .i64 N)∧W.cell? ⟨w.heap.size,1,none⟩=some (.int .i64 G))
   (with_reducible first
    | exact K1.out
    | exact K2.out
    | exact HS2.out
    | exact keepZ_alloc HS2.out
    | exact keepZ_set (keepZ_set (keepZ_set (keepZ_set (keepZ_set (keepZ_set (HS2.out) HN2.out HB2.out) HN2.out HB2.out) HN2.out HB2.out) HN2.out HB2.out) HN2.out HB2.out) HN2.out HB2.out)
   (first
    | (go_at_call 239;refine (HC.out _ HV1.out).mono ?_;rintro e w2 ⟨rfl,ho2⟩;have HO2:Hid (Only [] (w.alloc (.cells #[.int .i64 N,.int .i64 G] 94)) w2):=HW1.out.trans ho2 (fun _ hk=>by cases hk);have HS2:Hid (w2.cell? ⟨tr,0,none⟩=some (.pointer (some ⟨t,0,none⟩))∧w2.cell? ⟨w.heap.size,0,none⟩=some (.int .i64 N)∧w2.cell? ⟨w.heap.size,1,none⟩=some (.int .i64 G)):=keepZ_only H1.out HO2.out;clear ho2)
    | (go_at_call 239;refine (HC.out _ HV2.out).mono ?_;rintro e w2 ⟨rfl,ho2⟩;have HO2:Hid (Only [] (w.alloc (.cells #[.int .i64 N,.int .i64 G] 94)) w2):=HW2.out.trans ho2 (fun _ hk=>by cases hk);have HS2:Hid (w2.cell? ⟨tr,0,none⟩=some (.pointer (some ⟨t,0,none⟩))∧w2.cell? ⟨w.heap.size,0,none⟩=some (.int .i64 N)∧w2.cell? ⟨w.heap.size,1,none⟩=some (.int .i64 G)):=keepZ_only H1.out HO2.out;obtain ⟨q0,q1,q2,q3,q4,q5,f1,hl1⟩:=own_six_drew (B:=w.heap.size+1) ho2 (by simp);clear ho2))
 all_goals have HO:Hid (Only [] w w2):=((Only.refl [] w).alloc _).trans HO2.out (fun _ hk=>by cases hk)
 all_goals have hsz:w.heap.size+1≤w2.heap.size:=by have:=HO2.out.size;simpa using this
 all_goals go_wp2
 all_goals go_ret
 all_goals have hle:w.heap.size≤w.heap.size+1:=Nat.le_succ _
 · exact ⟨rfl,HO.out.alloc _⟩
 · exact ⟨rfl,HO.out.six hle⟩
end
theorem foot_added_tree {w w':World}{t most i b:Nat}{p p':Row}{nd:Nat→Option Nod}{K:Int}{k:Nat}(hr:Roomed w w' t p p' i)(hb:w.heap.size≤b)(hk:InFoot t p' most (setN nd i (some (newNod b K))) k):InFoot t p most nd k∨w.heap.size≤k:=by
 rcases hk with h | h | ⟨j,n,hs,hm⟩
 · exact Or.inl (Or.inl h)
 · rcases hr.2.2 with h1 | ⟨q,h1,h2⟩
   · exact Or.inl (Or.inr (Or.inl (by rw [← h1];exact h)))
   · rw [h1] at h
     cases h
     exact Or.inr h2
 · by_cases e:j=i
   · subst e
     rw [setN_same] at hs
     cases hs
     have:k=b:=by simpa [newNod,Nod.foot,footD] using hm
     exact Or.inr (by omega)
   · rw [setN_other _ _ e] at hs
     exact Or.inl (Or.inr (Or.inr ⟨j,n,hs,hm⟩))
theorem roomed_a {w1 w2:World}{t i n:Nat}{p p':Row}(hr:Roomed w1 w2 t p p' i)(hn:n≤w1.heap.size):∀ k,p'.a=some k→p.a=some k∨n≤k:=fun k hk=>by
 rcases hr.2.2 with h | ⟨q,h,hq⟩
 · exact Or.inl (by rw [← h];exact hk)
 · rw [h] at hk
   cases hk
   exact Or.inr (Nat.le_trans hn hq)
theorem TreeAt.added {w w2:World}{tr i b:Nat}{T:Tr}{p':Row}{K:Int}(h:TreeAt w tr T)(hi:i < 1000)(ht:TabAt w2 T.t p' T.most T.g (setN T.nd i (some (newNod b K))))(hr:Roomed w w2 T.t T.p p' i)(hb:w.heap.size≤b):TreeAt w2 tr { T with p:=p',nd:=setN T.nd i (some (newNod b K)) } :=
 h.table (p':=p') (g':=T.g) ht hr.2.1 (fun k hk=>by
  rcases List.mem_cons.1 hk with e | e
  · exact Or.inl e
  · exact Or.inr (Or.inl (by simpa using e))) (fun k hk=>foot_added_tree hr hb hk) ⟨by have:=hr.1;have:=h.small.N;show p'.N≤1000;omega,h.small.g⟩ (by have:=hr.1;omega) (fun _=>rfl) (fun _=>rfl)
theorem foot_tree_added {w1 w2:World}{tr i b k:Nat}{T:Tr}{p':Row}{K:Int}(hr:Roomed w1 w2 T.t T.p p' i)(hb:w1.heap.size≤b)(hk:FootT tr { T with p:=p',nd:=setN T.nd i (some (newNod b K)) } k):FootT tr T k∨w1.heap.size≤k:=by
 rcases hk with h | h | h | h | h
 · exact Or.inl (Or.inl h)
 · exact Or.inl (Or.inr (Or.inl h))
 · exact Or.inl (Or.inr (Or.inr (Or.inl h)))
 · exact Or.inl (Or.inr (Or.inr (Or.inr (Or.inl h))))
 · rcases foot_added_tree hr hb h with h1 | h1
   · exact Or.inl (Or.inr (Or.inr (Or.inr (Or.inr h1))))
   · exact Or.inr h1
theorem foot_tree_dir {tr i b k B:Nat}{T:Tr}{p':Row}(hk:FootT tr { T with p:=p',nd:=setN T.nd i (some { newNod b 2 with Z:=0,L:=2 }),ds:=setN T.ds i (some ⟨B,[]⟩) } k):FootT tr { T with p:=p',nd:=setN T.nd i (some (newNod b 2)) } k∨k=B:=by
 rcases hk with h | h | h | ⟨j,d,hd,rfl⟩ | h
 · exact Or.inl (Or.inl h)
 · exact Or.inl (Or.inr (Or.inl h))
 · exact Or.inl (Or.inr (Or.inr (Or.inl h)))
 · by_cases e:j=i
   · subst e
     have hd':setN T.ds j (some (⟨B,[]⟩:DirM)) j=some d:=hd;rw [setN_same] at hd'
     cases hd'
     exact Or.inr rfl
   · have hd':setN T.ds i (some (⟨B,[]⟩:DirM)) j=some d:=hd
     rw [setN_other _ _ e] at hd';exact Or.inl (Or.inr (Or.inr (Or.inr (Or.inl ⟨j,d,hd',rfl⟩))))
 · refine Or.inl (Or.inr (Or.inr (Or.inr (Or.inr ?_))))
   rcases h with h | h | ⟨j,m,hj,hm⟩
   · exact Or.inl h
   · exact Or.inr (Or.inl h)
   · by_cases e:j=i
     · subst e
       have hj':setN T.nd j (some ({ newNod b 2 with Z:=0,L:=2 }:Nod)) j=some m:=hj;rw [setN_same] at hj'
       cases hj'
       exact .node (setN_same _ _ _) hm
     · have hj':setN T.nd i (some ({ newNod b 2 with Z:=0,L:=2 }:Nod)) j=some m:=hj
       rw [setN_other _ _ e] at hj';exact .node ((setN_other _ _ e).trans hj') hm
theorem add_dir (w:World)(tr:Nat)(T:Tr)(i:Nat)(h:TreeAt w tr T)(hi:i < 1000)(hc:countTo T.nd T.p.N < T.most)(hn:T.nd i=none)(hd0:T.ds i=none)(hb:∀ j,j < i→(T.nd j).isSome=true):
  Calls Tryz.prog 91 #[.pointer (some ⟨tr,0,none⟩),.int .i64 2] w fun e w'=>e = .returned (.tuple #[.agg #[.int .i64 i,.int .i64 (T.g i:Nat)],.nilIface])∧∃ p' b B,TreeAt w' tr { T with p:=p',nd:=setN T.nd i (some { newNod b 2 with Z:=0,L:=2 }),ds:=setN T.ds i (some ⟨B,[]⟩) }∧Only (T.db::T.t::T.p.a.toList) w w'∧w.heap.size≤b∧w.heap.size≤B∧p'.N=max T.p.N (i+1)∧∀ k,p'.a=some k→T.p.a=some k∨w.heap.size≤k:=by
 have hO1:Only [] w (w.alloc (.cells #[.int .i64 0,.int .i64 0] 94)):=(Only.refl [] w).alloc _;have hT1:=h.only hO1;have hadd:=tadd_ok (w.alloc (.cells #[.int .i64 0,.int .i64 0] 94)) T.t T.p T.most i T.g T.nd 2 hT1.tab h.small.N (Or.inr rfl) hc hn hb;have ct:=h.c0;have htl:tr < w.heap.size:=lt_of_cell ct;have H1:Hid (TreeAt (w.alloc (.cells #[.int .i64 0,.int .i64 0] 94)) tr T):=hT1;have HO1:Hid (Only [] w (w.alloc (.cells #[.int .i64 0,.int .i64 0] 94))):=hO1;have hpw:∀ q,T.p.a=some q→q < w.heap.size:=fun q hq=>h.tab.plt hq;have htw:=h.tab.tlt;have hdw:T.db < w.heap.size:=h.foot_lt _ (Or.inr (Or.inl rfl))
 have HNO:Hid (w.heap.size∉T.t::T.p.a.toList):=show w.heap.size∉T.t::T.p.a.toList from (fun hm=>by rcases List.mem_cons.1 hm with e | e;omega;have:=hpw w.heap.size (by simpa using e);omega)
 have H0:Hid (TreeAt w tr T):=h;have HD0:Hid (T.ds i=none):=hd0;clear h hT1 hO1 hn hb hc hpw hd0
 go_enter Tryz.func91,Tryz.ntmps91
 go_wp2_with (first
  | (go_at_call 144;go_must (refine hadd.mono ?_);rintro e w2 ⟨rfl,p',b,hT2,hr2,hb2⟩;have HT2:Hid (TreeAt w2 tr { T with p:=p',nd:=setN T.nd i (some (newNod b 2)) }):=H1.out.added hi hT2 hr2 hb2;have HR2:Hid (Roomed (w.alloc (.cells #[.int .i64 0,.int .i64 0] 94)) w2 T.t T.p p' i):=hr2;have HBB:Hid (((w.alloc (.cells #[.int .i64 0,.int .i64 0] 94))).heap.size≤b):=hb2;have HBL:Hid (b < w2.heap.size):=(show b < w2.heap.size from lt_of_cell (hT2.node i (newNod b 2) (setN_same _ _ _)).c0);have hh:=heap_alloc_last w (.cells #[.int .i64 0,.int .i64 0] 94);have r0:=(hr2.2.1.cell (p:=⟨w.heap.size,0,none⟩) (by simp) HNO.out).trans (cell_of_row _ _ 0 _ _ _ hh);have r1:=(hr2.2.1.cell (p:=⟨w.heap.size,1,none⟩) (by simp) HNO.out).trans (cell_of_row _ _ 1 _ _ _ hh);have f0:∀ o,w2.frozen? ⟨w.heap.size,o,none⟩=false:=(fun o=>(hr2.2.1.frozen (p:=⟨w.heap.size,o,none⟩) (by simp) HNO.out).trans (frozen_of_row _ _ _ _ _ hh));have hl0:=lt_of_cell r0;have hopen:Calls Tryz.prog 132 #[.pointer (some ⟨tr,0,none⟩),.agg #[.int .i64 i,.int .i64 (T.g i:Nat)]] (w2.alloc (.cells #[.int .i64 i,.int .i64 (T.g i:Nat)] 94)) fun e w'=>e = .returned (.tuple #[])∧∃ B,TreeAt w' tr { Tr.opened { T with p:=p',nd:=setN T.nd i (some (newNod b 2)) } i B with nd:=setN (setN T.nd i (some (newNod b 2))) i (some { newNod b 2 with Z:=0,L:=2 }) }∧Only [b,T.db] (w2.alloc (.cells #[.int .i64 i,.int .i64 (T.g i:Nat)] 94)) w'∧(w2.alloc (.cells #[.int .i64 i,.int .i64 (T.g i:Nat)] 94)).heap.size≤B:=open_ok (w2.alloc (.cells #[.int .i64 i,.int .i64 (T.g i:Nat)] 94)) tr { T with p:=p',nd:=setN T.nd i (some (newNod b 2)) } i (newNod b 2) (HT2.out.only ((Only.refl [] _).alloc _)) (setN_same _ _ _) rfl HD0.out;clear hT2 hr2 hb2 hadd hh)
  | (go_at_call 132;go_must (refine hopen.mono ?_);rintro e w4 ⟨rfl,B,hT4,ho4,hB4⟩;rw [setN_again] at hT4;have HT4:Hid (TreeAt w4 tr { T with p:=p',nd:=setN T.nd i (some { newNod b 2 with Z:=0,L:=2 }),ds:=setN T.ds i (some ⟨B,[]⟩) }):=hT4;have HO4:Hid (Only [b,T.db] (w2.alloc (.cells #[.int .i64 i,.int .i64 (T.g i:Nat)] 94)) w4):=ho4;have HB4:Hid (w2.heap.size+1≤B):=(show w2.heap.size+1≤B from by simpa using hB4);have hbw:w.heap.size+1≤b:=(by simpa using HBB.out);have nA:w.heap.size∉[b,T.db]:=(fun hm=>by simp at hm;omega);have nI:w2.heap.size∉[b,T.db]:=(fun hm=>by have:=HBL.out;simp at hm;omega);have s0:=(ho4.cell (p:=⟨w.heap.size,0,none⟩) (by simp;omega) nA).trans ((((Only.refl [] w2).alloc (.cells #[.int .i64 i,.int .i64 (T.g i:Nat)] 94)).cell (p:=⟨w.heap.size,0,none⟩) hl0 (by simp)).trans r0);have s1:=(ho4.cell (p:=⟨w.heap.size,1,none⟩) (by simp;omega) nA).trans ((((Only.refl [] w2).alloc (.cells #[.int .i64 i,.int .i64 (T.g i:Nat)] 94)).cell (p:=⟨w.heap.size,1,none⟩) hl0 (by simp)).trans r1);have g0:∀ o,w4.frozen? ⟨w.heap.size,o,none⟩=false:=(fun o=>(ho4.frozen (p:=⟨w.heap.size,o,none⟩) (by simp;omega) nA).trans ((((Only.refl [] w2).alloc (.cells #[.int .i64 i,.int .i64 (T.g i:Nat)] 94)).frozen (p:=⟨w.heap.size,o,none⟩) hl0 (by simp)).trans (f0 o)));have hk:=heap_alloc_last w2 (.cells #[.int .i64 i,.int .i64 (T.g i:Nat)] 94);have t0:=(ho4.cell (p:=⟨w2.heap.size,0,none⟩) (by simp) nI).trans (cell_of_row _ _ 0 _ _ _ hk);have t1:=(ho4.cell (p:=⟨w2.heap.size,1,none⟩) (by simp) nI).trans (cell_of_row _ _ 1 _ _ _ hk);have hl4:=lt_of_cell s0;clear hT4 ho4 hB4 hk nA nI hopen r0 r1 f0)
  | go_in)
 have hB:¬ FootT tr { T with p:=p',nd:=setN T.nd i (some { newNod b 2 with Z:=0,L:=2 }),ds:=setN T.ds i (some ⟨B,[]⟩) } w.heap.size:=fun hk=>by
  rcases foot_tree_dir hk with hk | hk
  · rcases foot_tree_added HR2.out HBB.out hk with h1 | h1
    · have:=H0.out.foot_lt _ h1
      omega
    · have:w.heap.size+1≤w.heap.size:=by simpa using h1
      omega
  · have:=HB4.out
    omega
 have oB:Only [w.heap.size] w4 ((w4.setCell ⟨w.heap.size,0,none⟩ (.int .i64 i)).setCell ⟨w.heap.size,1,none⟩ (.int .i64 (T.g i:Nat))):=((Only.refl [w.heap.size] w4).setCell (Or.inl (by simp)) _).setCell (Or.inl (by simp)) _
 have oA:Only (T.db::T.t::T.p.a.toList) w w4:=(((HO1.out.mono (L':=T.db::T.t::T.p.a.toList) (fun _ hk=>by cases hk)).trans HR2.out.2.1 (fun _ hk=>Or.inl (List.mem_cons_of_mem _ hk))).alloc _).trans HO4.out (fun k hk=>by
  simp only [List.mem_cons,List.not_mem_nil,or_false] at hk;rcases hk with rfl | rfl
  · exact Or.inr (by omega)
  · exact Or.inl (List.mem_cons_self ..))
 refine bodyPost_ret (v := .tuple #[.agg #[.int .i64 i,.int .i64 (T.g i:Nat)],.nilIface]) (by simp [results,Tryz.results91,go_sem,s0,s1]) rfl ⟨rfl,p',b,B,HT4.out.kept oB (fun k hk hm=>hB (by simp at hm;rw [← hm];exact hk)),oA.trans oB (fun k hk=>Or.inr (by simp at hk;omega)),by omega,by have:=HB4.out;omega,HR2.out.1,roomed_a HR2.out HO1.out.size⟩
def Tr.bare (t:Nat)(p:Row)(most:Nat)(g:Nat→Nat)(nd:Nat→Option Nod)(db pb:Nat):Tr:=⟨t,p,most,g,nd,db,fun _=>none,pb,fun _=>0⟩
theorem over_ok (w:World)(t:Nat)(p:Row)(most:Nat)(g:Nat→Nat)(nd:Nat→Option Nod)(h:TabAt w t p most g nd)(hN:p.N≤1000)(hg:∀ i,g i≤5000000000000000000):
   Calls Tryz.prog 90 #[.pointer (some ⟨t,0,none⟩)] w fun e w'=>∃ tr db pb,e = .returned (.pointer (some ⟨tr,0,none⟩))∧TreeAt w' tr (Tr.bare t p most g nd db pb)∧Only [] w w'∧w.heap.size≤tr∧w.heap.size≤db∧w.heap.size≤pb:=by
 have hm1:=run_makeMap (P:=Tryz.prog) 125 w;have hm2:=run_makeMap (P:=Tryz.prog) 126 (w.alloc (.map #[] 0));have H:Hid (TabAt w t p most g nd):=h;clear h
 go_enter Tryz.func90,Tryz.ntmps90
 go_wp2
 go_ret
 have ho:Only [] w (((w.alloc (.map #[] 0)).alloc (.map #[] 0)).alloc (.cells #[.pointer (some ⟨t,0,none⟩),.map (some w.heap.size),.map (some (w.heap.size+1))] 128)):=(((Only.refl [] w).alloc _).alloc _).alloc _;refine ⟨w.heap.size+1+1,w.heap.size,w.heap.size+1,rfl,?_,ho,by omega,by omega,by omega⟩;have hh:=heap_alloc_last ((w.alloc (.map #[] 0)).alloc (.map #[] 0)) (.cells #[.pointer (some ⟨t,0,none⟩),.map (some w.heap.size),.map (some (w.heap.size+1))] 128);simp only [World.size_alloc] at hh
 have hno:∀ k,w.heap.size≤k→¬ InFoot t p most nd k:=fun k hk hf=>by have:=H.out.foot_lt k hf;omega
 have hd:(((w.alloc (.map #[] 0)).alloc (.map #[] 0)).alloc (.cells #[.pointer (some ⟨t,0,none⟩),.map (some w.heap.size),.map (some (w.heap.size+1))] 128)).ownsMap Tryz.prog 94 mapElem w.heap.size 0 (.map []:DataW Unit):=((World.ownsMap_made (H:=Unit) w Tryz.prog 94 mapElem).alloc _).alloc _
 have hp:(((w.alloc (.map #[] 0)).alloc (.map #[] 0)).alloc (.cells #[.pointer (some ⟨t,0,none⟩),.map (some w.heap.size),.map (some (w.heap.size+1))] 128)).ownsMap Tryz.prog 94 (plainElem Tryz.prog 3) (w.heap.size+1) 0 (.map []:DataW Unit):=by
   have:=World.ownsMap_made (H:=Unit) (w.alloc (.map #[] 0)) Tryz.prog 94 (plainElem Tryz.prog 3);rw [World.size_alloc] at this;exact this.alloc _
 refine ⟨cell_of_row _ _ 0 _ _ _ hh,cell_of_row _ _ 1 _ _ _ hh,cell_of_row _ _ 2 _ _ _ hh,H.out.kept ho (fun _ _=>by simp),⟨_,0,hd,by omega,Reads.empty.congr (fun k=>?_)⟩,(fun i d e=>by cases e),⟨_,0,hp,by omega,Reads.empty.congr (fun k=>?_)⟩,(fun i j d d' e=>by cases e),⟨hN,hg⟩,hno (w.heap.size+1+1) (by omega),hno w.heap.size (Nat.le_refl _),hno (w.heap.size+1) (by omega),(fun i d e=>by cases e),?_,(fun i d e=>by cases e),(fun i e=>by cases e)⟩
 · show (if k.2=g k.1 then (none:Option DirM).map (·.b) else none)=none
   split<;>rfl
 · simp [Tr.pinsF,Tr.bare]
 · show w.heap.size≠w.heap.size+1
   omega
def Tr.fresh (t:Nat)(p:Row)(most b db B pb:Nat):Tr:=⟨t,p,most,fun _=>0,setN (fun _=>none) 0 (some { newNod b 2 with Z:=0,L:=2 }),db,setN (fun _=>none) 0 (some ⟨B,[]⟩),pb,fun _=>0⟩
theorem tree_new (w:World)(most:Nat)(h1:1≤most)(h2:most≤300):
  Calls Tryz.prog 48 #[.int .i64 most] w fun e w'=>∃ tr t p b db B pb,e = .returned (.tuple #[.pointer (some ⟨tr,0,none⟩),.nilIface])∧TreeAt w' tr (Tr.fresh t p most b db B pb)∧Only [] w w'∧p.N=1∧w.heap.size≤tr∧w.heap.size≤t∧w.heap.size≤b∧w.heap.size≤db∧w.heap.size≤B∧w.heap.size≤pb∧∀ k,p.a=some k→w.heap.size≤k:=by
 have hnew:=tnew w most h1 h2
 go_enter Tryz.func48,Tryz.ntmps48
 go_wp2_with (first
  | (go_at_call 89;go_must (refine hnew.mono ?_);rintro e w1 ⟨t,rfl,hT1,ho1,ht⟩;have hov:=over_ok w1 t noRow most (fun _=>0) (fun _=>none) hT1 (by decide) (fun _=>by omega);have HO1:Hid (Only [] w w1):=ho1;have HTT:Hid (w.heap.size≤t):=ht;clear hT1 ho1 hnew ht)
  | (go_at_call 90;go_must (refine hov.mono ?_);rintro e w2 ⟨tr,db,pb,rfl,hT2,ho2,htr,hdb,hpb⟩;have hadd:=add_dir w2 tr (Tr.bare t noRow most (fun _=>0) (fun _=>none) db pb) 0 hT2 (by decide) (show countTo (fun _=>none) 0 < most from h1) rfl rfl (fun j hj=>by omega);have HO2:Hid (Only [] w w2):=HO1.out.trans ho2 (fun _ hk=>by cases hk);have HS:Hid (w.heap.size≤tr∧w.heap.size≤db∧w.heap.size≤pb):=(show w.heap.size≤tr∧w.heap.size≤db∧w.heap.size≤pb from by have:=HO1.out.size;omega);clear hT2 ho2 hov htr hdb hpb)
  | (go_at_call 91;go_must (refine hadd.mono ?_);rintro e w3 ⟨rfl,p,b,B,hT3,ho3,hb3,hB3,hN3,hA3⟩;clear hadd)
  | go_in)
 have ho:Only [] w w3:=HO2.out.trans ho3 (fun k hk=>Or.inr (by
  have h1:=HS.out;have h2:=HTT.out;rcases List.mem_cons.1 hk with e | e
  · rw [e];exact h1.2.1
  · rcases List.mem_cons.1 e with e | e
    · rw [e];exact h2
    · cases e))
 have hs2:=HO2.out.size;refine bodyPost_ret (v := .tuple #[.pointer (some ⟨tr,0,none⟩),.nilIface]) (by simp [results,Tryz.results48,go_sem]) rfl ?_;exact ⟨tr,t,p,b,db,B,pb,rfl,TreeAt.only (T:=Tr.fresh t p most b db B pb) hT3 ((Only.refl [] w3).alloc _),ho.alloc _,by rw [hN3];rfl,HS.out.1,HTT.out,by omega,HS.out.2.1,by omega,HS.out.2.2,fun k hk=>(hA3 k hk).elim (fun e=>by cases e) (fun e=>by omega)⟩
end
section
open Go Go.RowKit
def sErr (A:Nat→Addr)(k:Nat):Value := .iface 535 (.pointer (some (A k)))
def errN (A:Nat→Addr)(c:Nat):Value:=if c=0 then .nilIface else sErr A (c - 1)
def overV (l:List Value)(o:Nat)(cs:List Value):List Value:=l.take o++cs++l.drop (o+cs.length)
theorem overV_len {l cs:List Value}{o:Nat}(h:o+cs.length≤l.length):(overV l o cs).length=l.length:=by
 simp only [overV,List.length_append,List.length_take,List.length_drop];omega
theorem overV_take {l cs:List Value}{o n:Nat}(h:o+cs.length≤n)(hn:n≤l.length):(overV l o cs).take n=overV (l.take n) o cs:=by
 have h1:(l.take n).drop (o+cs.length)=(l.drop (o+cs.length)).take (n - (o+cs.length)):=by rw [List.drop_take]
 unfold overV;rw [List.take_append,List.take_of_length_le (l:=l.take o++cs) (by simp;omega),List.take_take,Nat.min_eq_left (by omega),h1];congr 2;simp;omega
theorem only_rowS (w:World)(g:Nat)(c:Array Value):Only [g] w (w.setRow g c) :=
 ⟨rfl,rfl,rfl,by simp [World.setRow],fun k _ hk=>by
  simp only [World.setRow]
  rw [Array.getElem?_modify,if_neg (fun e=>hk (by simp [e]))]⟩
theorem own_open {w:World}{base:Nat}{e:TypeId}{k n:Nat}{v:Value}{xs:List Value}(h:w.ownsRow base e k v n xs)(hn:v ≠ .slice none 0 0):
   ∃ g cap cur,v = .slice (some ⟨g,0,none⟩) n cap∧base≤g∧w.heap[g]?=some (.cells cur e (0,0))∧n≤cap∧cap≤maxLen∧cur.size=cap*k∧cur.toList.take (n*k)=xs:=by
 rcases h.2 with ⟨h1,_⟩ | h1
 · exact absurd h1 hn
 · exact h1
end
section
open Go Go.RowKit Go.Deep Go.Maps
theorem leaseNew0 (w:World):Calls Tryz.prog 79 #[] w fun e w'=>(∃ t,e = .returned (.pointer (some ⟨t,0,none⟩)))∧Below w.heap.size w w':=by
 have hmm:=@run_makeMap Tryz.prog
 go_enter Tryz.func79,Tryz.ntmps79
 go_wp2
 go_ret
 exact ⟨⟨_,rfl⟩,((Below.refl _ _).alloc (Nat.le_refl _) _).alloc (by simp) _⟩
theorem cell_new0 (w:World)(a:Array Value)(ty:TypeId)(k:Nat)(v:Value)(h:k=w.heap.size∧a[0]?=some v):(w.alloc (.cells a ty)).cell? ⟨k,0,none⟩=some v:=by
 obtain ⟨rfl,h⟩:=h;rw [World.cell?_alloc_new];exact h
theorem serve_over (w:World)(tr:Nat):Calls Tryz.prog 41 #[.pointer (some ⟨tr,0,none⟩)] w fun e w'=>∃ s,e = .returned (.pointer (some ⟨s,0,none⟩))∧(w'.cell? ⟨s,0,none⟩=some (.pointer (some ⟨tr,0,none⟩))∧w.heap.size≤s∧s+1≤w'.heap.size)∧Below w.heap.size w w':=by
 have hmm:=@run_makeMap Tryz.prog
 go_enter Tryz.func41,Tryz.ntmps41
 go_wp2_with (go_at_call 79;go_must (refine (leaseNew0 _).mono ?_);rintro e w2 ⟨⟨lt,rfl⟩,hb2⟩)
 go_ret
 have hs:=hb2.size;exact ⟨w2.heap.size+1+1,rfl,⟨cell_new0 _ _ _ _ _ (by simp),by omega,by simp⟩,((hb2.alloc hs _).alloc (by simp;omega) _).alloc (by simp;omega) _⟩
theorem serve_over9 (w:World)(tr:Nat):Calls Tryz.prog 41 #[.pointer (some ⟨tr,0,none⟩)] w fun e w'=>∃ s,e = .returned (.pointer (some ⟨s,0,none⟩))∧((∃ row:Array Value,w'.heap[s]?=some (.cells row 123 (0,0))∧row.size=10∧row[0]?=some (.pointer (some ⟨tr,0,none⟩)))∧w.heap.size≤s)∧Below w.heap.size w w':=by
 have hmm:=@run_makeMap Tryz.prog
 go_enter Tryz.func41,Tryz.ntmps41
 go_wp2_with (go_at_call 79;go_must (refine (leaseNew0 _).mono ?_);rintro e w2 ⟨⟨lt,rfl⟩,hb2⟩)
 go_ret
 have hs:=hb2.size;refine ⟨w2.heap.size+1+1,rfl,⟨⟨#[.pointer (some ⟨tr,0,none⟩),.slice none 0 0,.slice none 0 0,.pointer (some ⟨lt,0,none⟩),.map none,.map (some w2.heap.size),.int .i64 0,.map (some (w2.heap.size+1)),.int .i64 0,.nilFunc],?_,rfl,rfl⟩,by omega⟩,((hb2.alloc hs _).alloc (by simp;omega) _).alloc (by simp;omega) _⟩;have:=heap_alloc_last ((w2.alloc (.map #[] 0)).alloc (.map #[] 0)) (.cells #[.pointer (some ⟨tr,0,none⟩),.slice none 0 0,.slice none 0 0,.pointer (some ⟨lt,0,none⟩),.map none,.map (some w2.heap.size),.int .i64 0,.map (some (w2.heap.size+1)),.int .i64 0,.nilFunc] 123)
 simpa using this
end
end Go.Proofs.YtmnidbnaneagjaaGreatDoor
