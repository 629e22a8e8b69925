import Derived.Test.YtmnidbnaneagjaaGreatDoorK22
set_option maxRecDepth 100000
set_option maxHeartbeats 8000000
namespace Go.Proofs.YtmnidbnaneagjaaGreatDoor
section
open Go Go.RowKit Go.Deep
theorem numFree_any (w:World)(x:Nmb):Calls Tryz.prog 309 #[nmV x] w fun e w'=>e = .returned (.bool (decide (x.k=0)))∧Only [] w w':=by
 have hd:((x.k:Int)==0)=decide (x.k=0):=by
  by_cases h:x.k=0
  · rw [h];rfl
  · rw [beq_eq_false_iff_ne.2 (show ¬ ((x.k:Int)=0) by omega),decide_eq_false h]
 go_enter Tryz.func309,Tryz.ntmps309
 go_wp2
 go_ret
 exact ⟨by rw [← hd];rfl,(Only.refl [] w).alloc _⟩
def Nmb.bad (x:Nmb):Prop:=x.k=0∧x.g=0
theorem numCheck_any (A:Nat→Addr)(w:World)(x:Nmb)(hE:Errs w A)(hk:x.k≤2):Calls Tryz.prog 225 #[nmV x] w fun e w'=>((x.bad∧e = .returned (eV A 2))∨(¬ x.bad∧e = .returned .nilIface))∧Only [] w w':=by
 have o1:Only [] w (w.alloc (.cells #[.int .i64 (x.g:Nat),.int .i64 (x.k:Nat),.int .i64 (x.c:Nat)] 233)):=(Only.refl [] w).alloc _;have hh:=heap_alloc_last w (.cells #[.int .i64 (x.g:Nat),.int .i64 (x.k:Nat),.int .i64 (x.c:Nat)] 233)
 have HB:Hid (∀ W,Only [] (w.alloc (.cells #[.int .i64 (x.g:Nat),.int .i64 (x.k:Nat),.int .i64 (x.c:Nat)] 233)) W→W.cell? ⟨w.heap.size,0,none⟩=some (.int .i64 (x.g:Nat))∧W.cell? ⟨w.heap.size,1,none⟩=some (.int .i64 (x.k:Nat))∧W.cell? ⟨w.heap.size,2,none⟩=some (.int .i64 (x.c:Nat))∧W.cell? ⟨3,0,none⟩=some (eV A 2)):=fun W ho=>by
   have hb:=(ho.block w.heap.size (Array.getElem?_eq_some_iff.1 hh).1 (by simp)).trans hh;have c2:w.cell? ⟨3,0,none⟩=some (eV A 2):=hE.cell 2 (by decide);exact ⟨cell_of_row _ _ 0 _ _ _ hb,cell_of_row _ _ 1 _ _ _ hb,cell_of_row _ _ 2 _ _ _ hb,((o1.trans ho (fun _ hk=>by cases hk)).cell (lt_of_cell c2) (by simp)).trans c2⟩
 have HO:Hid (Only [] w (w.alloc (.cells #[.int .i64 (x.g:Nat),.int .i64 (x.k:Nat),.int .i64 (x.c:Nat)] 233))):=o1;obtain ⟨y0,y1,y2,y3⟩:=HB.out _ (Only.refl _ _);have hf1:=numFree_any (w.alloc (.cells #[.int .i64 (x.g:Nat),.int .i64 (x.k:Nat),.int .i64 (x.c:Nat)] 233)) x;have HF:Hid (∀ W,Calls Tryz.prog 309 #[nmV x] W fun e w'=>e = .returned (.bool (decide (x.k=0)))∧Only [] W w'):=fun W=>numFree_any W x;have d0:decide ((x.g:Int) < 0)=false:=decide_eq_false (by omega);have d1:decide ((x.c:Int) < 0)=false:=decide_eq_false (by omega);clear hE o1 hh
 by_cases hk0:x.k=0
 · have e0:decide (x.k=0)=true:=decide_eq_true hk0
   rw [e0] at hf1 HF
   by_cases hg0:x.g=0
   · have d2:((x.g:Int)==0)=true:=by rw [hg0];rfl
     have HBD:Hid (x.bad):=⟨hk0,hg0⟩;clear e0 hk0 hg0 hk
     go_enter Tryz.func225,Tryz.ntmps225
     go_wp2_with (go_at_call 309;refine hf1.mono ?_;rintro e w2 ⟨rfl,o2⟩;have HO2:Hid (Only [] (w.alloc (.cells #[.int .i64 (x.g:Nat),.int .i64 (x.k:Nat),.int .i64 (x.c:Nat)] 233)) w2):=o2;clear y0 y1 y2 y3;obtain ⟨y0,y1,y2,y3⟩:=HB.out w2 o2;clear hf1 o2)
     go_ret
     exact ⟨Or.inl ⟨HBD.out,rfl⟩,HO.out.trans HO2.out (fun _ hk=>by cases hk)⟩
   · have d2:((x.g:Int)==0)=false:=beq_eq_false_iff_ne.2 (by omega)
     have HBD:Hid (¬ x.bad):=fun h=>hg0 h.2;clear e0 hk0 hg0 hk
     go_enter Tryz.func225,Tryz.ntmps225
     go_wp2_with (first
      | (go_at_call 309;refine hf1.mono ?_;rintro e w2 ⟨rfl,o2⟩;have HO2:Hid (Only [] (w.alloc (.cells #[.int .i64 (x.g:Nat),.int .i64 (x.k:Nat),.int .i64 (x.c:Nat)] 233)) w2):=o2;clear y0 y1 y2 y3;obtain ⟨y0,y1,y2,y3⟩:=HB.out w2 o2;have hf2:=HF.out w2;clear hf1 o2)
      | (go_at_call 309;refine hf2.mono ?_;rintro e w3 ⟨rfl,o3⟩;have HO3:Hid (Only [] (w.alloc (.cells #[.int .i64 (x.g:Nat),.int .i64 (x.k:Nat),.int .i64 (x.c:Nat)] 233)) w3):=HO2.out.trans o3 (fun _ hk=>by cases hk);clear hf2 o3))
     go_ret
     exact ⟨Or.inr ⟨HBD.out,rfl⟩,HO.out.trans HO3.out (fun _ hk=>by cases hk)⟩
 · have e0:decide (x.k=0)=false:=decide_eq_false hk0
   rw [e0] at hf1 HF;have HBD:Hid (¬ x.bad):=fun h=>hk0 h.1
   have hk12:x.k=1∨x.k=2:=by omega
   rcases hk12 with hk1 | hk1
   · have d2:((x.k:Int) != 1)=false:=by rw [hk1];rfl
     clear e0 hk0 hk hk1
     go_enter Tryz.func225,Tryz.ntmps225
     go_wp2_with (first
      | (go_at_call 309;refine hf1.mono ?_;rintro e w2 ⟨rfl,o2⟩;have HO2:Hid (Only [] (w.alloc (.cells #[.int .i64 (x.g:Nat),.int .i64 (x.k:Nat),.int .i64 (x.c:Nat)] 233)) w2):=o2;clear y0 y1 y2 y3;obtain ⟨y0,y1,y2,y3⟩:=HB.out w2 o2;have hf2:=HF.out w2;clear hf1 o2)
      | (go_at_call 309;refine hf2.mono ?_;rintro e w3 ⟨rfl,o3⟩;have HO3:Hid (Only [] (w.alloc (.cells #[.int .i64 (x.g:Nat),.int .i64 (x.k:Nat),.int .i64 (x.c:Nat)] 233)) w3):=HO2.out.trans o3 (fun _ hk=>by cases hk);clear y0 y1 y2 y3;obtain ⟨y0,y1,y2,y3⟩:=HB.out w3 HO3.out;clear hf2 o3))
     go_ret
     exact ⟨Or.inr ⟨HBD.out,rfl⟩,HO.out.trans HO3.out (fun _ hk=>by cases hk)⟩
   · have d2:((x.k:Int) != 1)=true:=by rw [hk1];rfl
     have d3:((x.k:Int) != 2)=false:=by rw [hk1];rfl
     clear e0 hk0 hk hk1
     go_enter Tryz.func225,Tryz.ntmps225
     go_wp2_with (first
      | (go_at_call 309;refine hf1.mono ?_;rintro e w2 ⟨rfl,o2⟩;have HO2:Hid (Only [] (w.alloc (.cells #[.int .i64 (x.g:Nat),.int .i64 (x.k:Nat),.int .i64 (x.c:Nat)] 233)) w2):=o2;clear y0 y1 y2 y3;obtain ⟨y0,y1,y2,y3⟩:=HB.out w2 o2;have hf2:=HF.out w2;clear hf1 o2)
      | (go_at_call 309;refine hf2.mono ?_;rintro e w3 ⟨rfl,o3⟩;have HO3:Hid (Only [] (w.alloc (.cells #[.int .i64 (x.g:Nat),.int .i64 (x.k:Nat),.int .i64 (x.c:Nat)] 233)) w3):=HO2.out.trans o3 (fun _ hk=>by cases hk);clear y0 y1 y2 y3;obtain ⟨y0,y1,y2,y3⟩:=HB.out w3 HO3.out;clear hf2 o3))
     go_ret
     exact ⟨Or.inr ⟨HBD.out,rfl⟩,HO.out.trans HO3.out (fun _ hk=>by cases hk)⟩
def resNod (b:Nat)(x:Nmb):Nod:={ newNod b (x.k:Int) with C:=(x.c:Int) }
def placeN (x:Nmb)(b:Nat):Option Nod:=if x.k=0 then none else some (resNod b x)
theorem resNod_at (w:World)(x:Nmb):NodAt (w.alloc (.cells #[.int .i64 (x.k:Nat),.int .i64 0,.int .i64 0,.int .i64 (x.c:Nat),.int .i64 0,.int .i64 0,.int .i64 0,.map none] 375)) (resNod w.heap.size x):=by
 have hh:=heap_alloc_last w (.cells #[.int .i64 (x.k:Nat),.int .i64 0,.int .i64 0,.int .i64 (x.c:Nat),.int .i64 0,.int .i64 0,.int .i64 0,.map none] 375);refine ⟨cell_of_row _ _ 0 _ _ _ hh,cell_of_row _ _ 1 _ _ _ hh,cell_of_row _ _ 2 _ _ _ hh,cell_of_row _ _ 3 _ _ _ hh,cell_of_row _ _ 4 _ _ _ hh,cell_of_row _ _ 5 _ _ _ hh,cell_of_row _ _ 6 _ _ _ hh,cell_of_row _ _ 7 _ _ _ hh,fun k=>?_,⟨_,_,hh⟩,_,Same.start,rfl⟩;exact frozen_of_row _ _ _ _ _ hh
theorem numPlace_any (w:World)(x:Nmb):Calls Tryz.prog 226 #[nmV x] w fun e w'=>∃ b,e = .returned (.agg #[.int .i64 (x.g:Nat),.pointer ((placeN x b).map (fun n=>⟨n.b,0,none⟩))])∧Only [] w w'∧w.heap.size≤b∧∀ n,placeN x b=some n→NodAt w' n∧n=resNod b x:=by
 have o2:Only [] w ((w.alloc (.cells #[.int .i64 (x.g:Nat),.int .i64 (x.k:Nat),.int .i64 (x.c:Nat)] 233)).alloc (.cells #[.int .i64 0,.pointer none] 180)):=((Only.refl [] w).alloc _).alloc _
 have hh1:((w.alloc (.cells #[.int .i64 (x.g:Nat),.int .i64 (x.k:Nat),.int .i64 (x.c:Nat)] 233)).alloc (.cells #[.int .i64 0,.pointer none] 180)).heap[w.heap.size+1]?=some (.cells #[.int .i64 0,.pointer none] 180 (0,0)):=by
   have:=heap_alloc_last (w.alloc (.cells #[.int .i64 (x.g:Nat),.int .i64 (x.k:Nat),.int .i64 (x.c:Nat)] 233)) (.cells #[.int .i64 0,.pointer none] 180);rw [World.size_alloc] at this;exact this
 have hh0:((w.alloc (.cells #[.int .i64 (x.g:Nat),.int .i64 (x.k:Nat),.int .i64 (x.c:Nat)] 233)).alloc (.cells #[.int .i64 0,.pointer none] 180)).heap[w.heap.size]?=some (.cells #[.int .i64 (x.g:Nat),.int .i64 (x.k:Nat),.int .i64 (x.c:Nat)] 233 (0,0)) :=
   (((Only.refl [] (w.alloc (.cells #[.int .i64 (x.g:Nat),.int .i64 (x.k:Nat),.int .i64 (x.c:Nat)] 233))).alloc _).block w.heap.size (by simp) (by simp)).trans (heap_alloc_last w _)
 have hf:=numFree_any ((w.alloc (.cells #[.int .i64 (x.g:Nat),.int .i64 (x.k:Nat),.int .i64 (x.c:Nat)] 233)).alloc (.cells #[.int .i64 0,.pointer none] 180)) x;generalize hw0:(w.alloc (.cells #[.int .i64 (x.g:Nat),.int .i64 (x.k:Nat),.int .i64 (x.c:Nat)] 233)).alloc (.cells #[.int .i64 0,.pointer none] 180)=w0 at o2 hh0 hh1 hf;obtain ⟨sz,hsz⟩:∃ sz,w.heap.size=sz:=⟨_,rfl⟩;have HSZ:Hid (w.heap.size=sz):=hsz;rw [hsz] at hh0 hh1;have HO0:Hid (Only [] w w0):=o2;have HB0:Hid (∀ W,Only [] w0 W→W.heap[sz]?=some (.cells #[.int .i64 (x.g:Nat),.int .i64 (x.k:Nat),.int .i64 (x.c:Nat)] 233 (0,0))∧W.heap[sz+1]?=some (.cells #[.int .i64 0,.pointer none] 180 (0,0))):=fun W ho=>⟨(ho.block sz (Array.getElem?_eq_some_iff.1 hh0).1 (by simp)).trans hh0,(ho.block (sz+1) (Array.getElem?_eq_some_iff.1 hh1).1 (by simp)).trans hh1⟩;have x0:w0.cell? ⟨sz,0,none⟩=some (.int .i64 (x.g:Nat)):=cell_of_row _ _ 0 _ _ _ hh0;have x1:w0.cell? ⟨sz,1,none⟩=some (.int .i64 (x.k:Nat)):=cell_of_row _ _ 1 _ _ _ hh0;have x2:w0.cell? ⟨sz,2,none⟩=some (.int .i64 (x.c:Nat)):=cell_of_row _ _ 2 _ _ _ hh0;clear o2 hh0 hh1
 go_enter Tryz.func226,Tryz.ntmps226
 go_upto_region 1 with fail
 clear hw0 hsz
 by_cases hk:x.k=0
 · have e0:decide (x.k=0)=true:=decide_eq_true hk
   rw [e0] at hf;have HPN:Hid (∀ b,placeN x b=none):=fun b=>if_pos hk;clear e0 hk
   go_wp2_with (go_at_call 309;refine hf.mono ?_;rintro e w2 ⟨rfl,o2⟩;have HO2:Hid (Only [] w0 w2):=o2;obtain ⟨b0,b1⟩:=HB0.out w2 o2;have y0:w2.cell? ⟨sz,0,none⟩=some (.int .i64 (x.g:Nat)):=cell_of_row _ _ 0 _ _ _ b0;have r0:w2.cell? ⟨sz+1,0,none⟩=some (.int .i64 0):=cell_of_row _ _ 0 _ _ _ b1;have r1:w2.cell? ⟨sz+1,1,none⟩=some (.pointer none):=cell_of_row _ _ 1 _ _ _ b1;have z0:w2.frozen? ⟨sz+1,0,none⟩=false:=frozen_of_row _ _ _ _ _ b1;have z1:w2.frozen? ⟨sz+1,1,none⟩=false:=frozen_of_row _ _ _ _ _ b1;have hl:=(Array.getElem?_eq_some_iff.1 b1).1;clear hf o2 b0 b1 x0 x1 x2)
   refine bodyPost_ret (v := .agg #[.int .i64 (x.g:Nat),.pointer none]) (by simp [results,Tryz.results226,go_sem,r0,r1]) rfl ⟨w.heap.size,by rw [HPN.out];rfl,?_,Nat.le_refl _,fun n hn=>by rw [HPN.out] at hn;cases hn⟩;exact (((HO0.out.trans HO2.out (fun _ hk=>by cases hk)).setCell (p:=⟨sz+1,0,none⟩) (Or.inr (by show w.heap.size≤sz+1;rw [HSZ.out];omega)) _).setCell (p:=⟨sz+1,1,none⟩) (Or.inr (by show w.heap.size≤sz+1;rw [HSZ.out];omega)) _)
 · have e0:decide (x.k=0)=false:=decide_eq_false hk
   rw [e0] at hf;have HPN:Hid (∀ b,placeN x b=some (resNod b x)):=fun b=>if_neg hk;clear e0 hk
   go_wp2_with (go_at_call 309;refine hf.mono ?_;rintro e w2 ⟨rfl,o2⟩;have HO2:Hid (Only [] w0 w2):=o2;obtain ⟨b0,b1⟩:=HB0.out w2 o2;have y0:w2.cell? ⟨sz,0,none⟩=some (.int .i64 (x.g:Nat)):=cell_of_row _ _ 0 _ _ _ b0;have y1:w2.cell? ⟨sz,1,none⟩=some (.int .i64 (x.k:Nat)):=cell_of_row _ _ 1 _ _ _ b0;have y2:w2.cell? ⟨sz,2,none⟩=some (.int .i64 (x.c:Nat)):=cell_of_row _ _ 2 _ _ _ b0;have r0:w2.cell? ⟨sz+1,0,none⟩=some (.int .i64 0):=cell_of_row _ _ 0 _ _ _ b1;have r1:w2.cell? ⟨sz+1,1,none⟩=some (.pointer none):=cell_of_row _ _ 1 _ _ _ b1;have z0:w2.frozen? ⟨sz+1,0,none⟩=false:=frozen_of_row _ _ _ _ _ b1;have z1:w2.frozen? ⟨sz+1,1,none⟩=false:=frozen_of_row _ _ _ _ _ b1;have hl:=(Array.getElem?_eq_some_iff.1 b1).1;clear hf o2 b0 b1 x0 x1 x2)
   have hs2:w.heap.size≤w2.heap.size:=Nat.le_trans HO0.out.size HO2.out.size;have hON:Only [] w (w2.alloc (.cells #[.int .i64 (x.k:Nat),.int .i64 0,.int .i64 0,.int .i64 (x.c:Nat),.int .i64 0,.int .i64 0,.int .i64 0,.map none] 375)):=(HO0.out.trans HO2.out (fun _ hk=>by cases hk)).alloc _;have hNA:=resNod_at w2 x
   have hne:sz+1≠w2.heap.size:=by omega
   have e1:((w2.setCell ⟨sz+1,0,none⟩ (.int .i64 (x.g:Nat))).setCell ⟨sz+1,1,none⟩ (.pointer (some ⟨w2.heap.size,0,none⟩))).alloc (.cells #[.int .i64 (x.k:Nat),.int .i64 0,.int .i64 0,.int .i64 (x.c:Nat),.int .i64 0,.int .i64 0,.int .i64 0,.map none] 375)=((w2.alloc (.cells #[.int .i64 (x.k:Nat),.int .i64 0,.int .i64 0,.int .i64 (x.c:Nat),.int .i64 0,.int .i64 0,.int .i64 0,.map none] 375)).setCell ⟨sz+1,0,none⟩ (.int .i64 (x.g:Nat))).setCell ⟨sz+1,1,none⟩ (.pointer (some ⟨w2.heap.size,0,none⟩)):=by
     rw [World.setCell_alloc_past (w:=w2) _ (sz+1) _ _ hl,World.setCell_alloc_past (w:=w2.setCell _ _) _ (sz+1) _ _ (by simpa using hl)]
   have hfin:Only [] w (((w2.alloc (.cells #[.int .i64 (x.k:Nat),.int .i64 0,.int .i64 0,.int .i64 (x.c:Nat),.int .i64 0,.int .i64 0,.int .i64 0,.map none] 375)).setCell ⟨sz+1,0,none⟩ (.int .i64 (x.g:Nat))).setCell ⟨sz+1,1,none⟩ (.pointer (some ⟨w2.heap.size,0,none⟩))):=(hON.setCell (p:=⟨sz+1,0,none⟩) (Or.inr (by show w.heap.size≤sz+1;rw [HSZ.out];omega)) _).setCell (p:=⟨sz+1,1,none⟩) (Or.inr (by show w.heap.size≤sz+1;rw [HSZ.out];omega)) _;have hOS:Only [sz+1] (w2.alloc (.cells #[.int .i64 (x.k:Nat),.int .i64 0,.int .i64 0,.int .i64 (x.c:Nat),.int .i64 0,.int .i64 0,.int .i64 0,.map none] 375)) (((w2.alloc (.cells #[.int .i64 (x.k:Nat),.int .i64 0,.int .i64 0,.int .i64 (x.c:Nat),.int .i64 0,.int .i64 0,.int .i64 0,.map none] 375)).setCell ⟨sz+1,0,none⟩ (.int .i64 (x.g:Nat))).setCell ⟨sz+1,1,none⟩ (.pointer (some ⟨w2.heap.size,0,none⟩))):=((Only.refl [sz+1] _).setCell (p:=⟨sz+1,0,none⟩) (Or.inl (by simp)) _).setCell (p:=⟨sz+1,1,none⟩) (Or.inl (by simp)) _
   have hNF:NodAt (((w2.alloc (.cells #[.int .i64 (x.k:Nat),.int .i64 0,.int .i64 0,.int .i64 (x.c:Nat),.int .i64 0,.int .i64 0,.int .i64 0,.map none] 375)).setCell ⟨sz+1,0,none⟩ (.int .i64 (x.g:Nat))).setCell ⟨sz+1,1,none⟩ (.pointer (some ⟨w2.heap.size,0,none⟩))) (resNod w2.heap.size x):=hNA.kept hOS (fun k hk hm=>by
     have e2:k=w2.heap.size:=by
      have:(resNod w2.heap.size x).foot=[w2.heap.size]:=rfl;rw [this] at hk
      simpa using hk
     rw [e2] at hm
     exact hne (List.mem_singleton.1 hm).symm)
   have r0':(w2.alloc (.cells #[.int .i64 (x.k:Nat),.int .i64 0,.int .i64 0,.int .i64 (x.c:Nat),.int .i64 0,.int .i64 0,.int .i64 0,.map none] 375)).cell? ⟨sz+1,0,none⟩=some (.int .i64 0):=(((Only.refl [] w2).alloc _).cell (p:=⟨sz+1,0,none⟩) hl (by simp)).trans r0;have r1':(w2.alloc (.cells #[.int .i64 (x.k:Nat),.int .i64 0,.int .i64 0,.int .i64 (x.c:Nat),.int .i64 0,.int .i64 0,.int .i64 0,.map none] 375)).cell? ⟨sz+1,1,none⟩=some (.pointer none):=(((Only.refl [] w2).alloc _).cell (p:=⟨sz+1,1,none⟩) hl (by simp)).trans r1
   try rw [e1]
   refine bodyPost_ret (v := .agg #[.int .i64 (x.g:Nat),.pointer (some ⟨w2.heap.size,0,none⟩)]) (by simp [results,Tryz.results226,go_sem,r0',r1']) rfl ⟨w2.heap.size,by rw [HPN.out];rfl,?_,hs2,fun n hn=>?_⟩
   · exact hfin
   · rw [HPN.out] at hn
     simp only [Option.some.injEq] at hn;subst hn;exact ⟨hNF,rfl⟩
theorem TabAt.app {w w1:World}{t most b cap gx:Nat}{p:Row}{g:Nat→Nat}{nd:Nat→Option Nod}{pn:Option Nod}(h:TabAt w t p most g nd)(ho:Only p.a.toList w w1)(hr:w1.ownsRow 0 180 2 (.slice (some ⟨b,0,none⟩) (p.N+1) cap) (p.N+1) (rowOf placeCells (places p.N g nd)++placeCells (gx,pn)))
   (hb:p.a=some b∨w.heap.size≤b) (hn:∀ n,pn=some n→NodAt w1 n∧∀ k∈n.foot,w.heap.size≤k∧k≠b):TabAt (w1.setCell ⟨t,1,none⟩ (.slice (some ⟨b,0,none⟩) (p.N+1) cap)) t ⟨some b,p.N+1,cap⟩ most (setN g p.N gx) (setN nd p.N pn)∧Only (t::p.a.toList) w (w1.setCell ⟨t,1,none⟩ (.slice (some ⟨b,0,none⟩) (p.N+1) cap)):=by
 have ht:=h.tlt;have htp:t∉p.a.toList:=fun hm=>h.pt (by simpa using hm)
 have hbt:b≠t:=by
   rcases hb with h1 | h1
   · exact fun e=>h.pt (by rw [h1,e])
   · omega
 have o2:Only (t::p.a.toList) w (w1.setCell ⟨t,1,none⟩ (.slice (some ⟨b,0,none⟩) (p.N+1) cap)):=(ho.mono (L':=t::p.a.toList) (fun i hi=>Or.inl (List.mem_cons_of_mem _ hi))).setCell (Or.inl (by simp)) _;have o1t:Only [t] w1 (w1.setCell ⟨t,1,none⟩ (.slice (some ⟨b,0,none⟩) (p.N+1) cap)):=(Only.refl [t] w1).setCell (p:=⟨t,1,none⟩) (Or.inl (by simp)) _;have c1:=(ho.cell (p:=⟨t,1,none⟩) ht htp).trans h.tab
 have hfoot:∀ i n,nd i=some n→∀ k∈n.foot,k∉t::p.a.toList:=fun i n hn k hk hm=>by
   obtain ⟨o1,o2⟩:=h.own i n hn;rcases List.mem_cons.1 hm with rfl | hm
   · exact o1 hk
   · exact o2 k (by simpa using hm) hk
 have old:∀ j n,j≠p.N→setN nd p.N pn j=some n→nd j=some n:=fun j n hne e=>by rw [setN_other _ _ hne] at e;exact e
 have hlt:∀ j n,nd j=some n→∀ k∈n.foot,k < w.heap.size:=fun j n e=>(h.node j n e).foot_lt;refine ⟨⟨?_,World.cell?_setCell_same _ _ _ c1,fun o=>?_,(h.ty.only ho htp).set _ _,?_,fun i hi=>?_,by simpa using hbt,fun i n e=>?_,fun i j n n' e e' hij=>?_,fun i n e=>?_⟩,o2⟩
 · rw [World.cell?_setCell_other _ _ _ _ (by simp)]
   exact (ho.cell (p:=⟨t,0,none⟩) ht htp).trans h.most
 · rw [World.frozen?_setCell]
   exact (ho.frozen (p:=⟨t,o,none⟩) ht htp).trans (h.tfz o)
 · have e1:places (p.N+1) (setN g p.N gx) (setN nd p.N pn)=places p.N g nd++[(gx,pn)]:=by
     rw [places_more,setN_same,setN_same];congr 1;exact places_congr (fun i hi=>setN_other _ _ (by omega)) (fun i hi=>setN_other _ _ (by omega))
   show World.ownsRow _ 0 _ 2 _ (p.N+1) (rowOf placeCells (places (p.N+1) _ _));rw [e1,rowOf_append,rowOf_single];exact o1t.owns hr (fun k hk=>by have e:b=k:=Option.some.inj ((Row.own ⟨some b,p.N+1,cap⟩).symm.trans hk);subst e;simpa using hbt)
 · have hi':p.N+1≤i:=hi
   rw [setN_other _ _ (by omega),setN_other _ _ (by omega)];exact h.out i (by omega)
 · by_cases hiN:i=p.N
   · subst hiN
     rw [setN_same] at e
     exact (hn n e).1.kept o1t (fun k hk hm=>by
       have:=((hn n e).2 k hk).1;rw [List.mem_singleton.1 hm] at this
       omega)
   · exact (h.node i n (old i n hiN e)).kept o2 (hfoot i n (old i n hiN e))
 · by_cases hiN:i=p.N
   · subst hiN
     rw [setN_same] at e;intro k hk hk';have h1:=((hn n e).2 k hk).1;have h2:=hlt j n' (old j n' (Ne.symm hij) e') k hk';omega
   · by_cases hjN:j=p.N
     · subst hjN
       rw [setN_same] at e';intro k hk hk';have h1:=((hn n' e').2 k hk').1;have h2:=hlt i n (old i n hiN e) k hk;omega
     · exact h.apart i j n n' (old i n hiN e) (old j n' hjN e') hij
 · by_cases hiN:i=p.N
   · subst hiN
     rw [setN_same] at e;refine ⟨fun hk=>by have:=((hn n e).2 t hk).1;omega,fun b' hb' hk=>?_⟩;simp only [Option.some.injEq] at hb';exact ((hn n e).2 b' hk).2 hb'.symm
   · refine ⟨(h.own i n (old i n hiN e)).1,fun b' hb' hk=>?_⟩
     simp only [Option.some.injEq] at hb';subst hb';rcases hb with h1 | h1
     · exact (h.own i n (old i n hiN e)).2 b h1 hk
     · have:=hlt i n (old i n hiN e) b hk
       omega
def gL (nums:List Nmb)(i:Nat):Nat:=match nums[i]? with | some x=>x.g | none=>0
def cL (nums:List Nmb)(i:Nat):Option Nmb:=match nums[i]? with | some x=>if x.k=0 then none else some x | none=>none
def NdIs (B:Nat)(nums:List Nmb)(nd:Nat→Option Nod):Prop:=∀ i,match cL nums i with | none=>nd i=none | some x=>∃ b,nd i=some (resNod b x)∧B≤b
theorem gL_app (l:List Nmb)(x:Nmb):gL (l++[x])=setN (gL l) l.length x.g:=by
 funext i;unfold gL setN
 by_cases h:i=l.length
 · rw [if_pos h,h]
   simp
 · rw [if_neg h]
   by_cases hi:i < l.length
   · rw [List.getElem?_append_left hi]
   · have e1:(l++[x])[i]?=none:=List.getElem?_eq_none (by simp;omega)
     have e2:l[i]?=none:=List.getElem?_eq_none (by omega);simp only [e1,e2]
theorem cL_app_same (l:List Nmb)(x:Nmb):cL (l++[x]) l.length=if x.k=0 then none else some x:=by
 unfold cL;simp
theorem cL_app_other (l:List Nmb)(x:Nmb){i:Nat}(h:i≠l.length):cL (l++[x]) i=cL l i:=by
 unfold cL
 by_cases hi:i < l.length
 · rw [List.getElem?_append_left hi]
 · rw [List.getElem?_eq_none (by simp;omega),List.getElem?_eq_none (by omega)]
theorem NdIs.nil (B:Nat):NdIs B [] (fun _=>none):=fun i=>by simp [cL]
theorem NdIs.app {B b:Nat}{l:List Nmb}{nd:Nat→Option Nod}(h:NdIs B l nd)(x:Nmb)(hb:B≤b):NdIs B (l++[x]) (setN nd l.length (placeN x b)):=fun i=>by
 by_cases e:i=l.length
 · subst e
   rw [cL_app_same,setN_same];unfold placeN
   by_cases hk:x.k=0
   · rw [if_pos hk,if_pos hk]
   · rw [if_neg hk,if_neg hk]
     exact ⟨b,rfl,hb⟩
 · rw [cL_app_other _ _ e,setN_other _ _ e]
   exact h i
def cntN (nums:List Nmb):Nat:=countTo (fun i=>(cL nums i).map (resNod 0)) nums.length
theorem countTo_some {nd nd':Nat→Option Nod}(h:∀ i,(nd i).isSome=(nd' i).isSome)(N:Nat):countTo nd N=countTo nd' N:=by
 induction N with
 | zero=>rfl
 | succ N ih =>
  rw [countTo_succ,countTo_succ,ih,h N]
theorem NdIs.count {B:Nat}{l:List Nmb}{nd:Nat→Option Nod}(h:NdIs B l nd):countTo nd l.length=cntN l:=countTo_some (fun i=>by
 have:=h i
 cases e:cL l i with
 | none=>rw [e] at this;simp only at this;rw [this];rfl
 | some x=>rw [e] at this;simp only at this;obtain ⟨b,hb,_⟩:=this;rw [hb];rfl) _
def ResOk (nums:List Nmb)(most:Nat):Prop:=(∀ x∈nums,¬ x.bad)∧cntN nums≤most
def RestR (A:Nat→Addr)(w w':World)(nums:List Nmb)(most:Nat)(e:Ending):Prop :=
 (¬ ResOk nums most∧(∃ k,e = .returned (.tuple #[.pointer none,eV A k]))∧Only [] w w') ∨
 (ResOk nums most∧∃ t p nd,e = .returned (.tuple #[.pointer (some ⟨t,0,none⟩),.nilIface])∧TabAt w' t p most (gL nums) nd∧p.N=nums.length∧NdIs w.heap.size nums nd∧Only [] w w'∧w.heap.size≤t∧∀ b,p.a=some b→w.heap.size≤b)
theorem two_one (x:Nat)(pa:Option Addr):∀ u∈[Value.int .i64 (x:Nat),Value.pointer pa],u.oneCell'=true:=by intro u hu;simp at hu;rcases hu with rfl | rfl<;>rfl
theorem restore_any (A:Nat→Addr)(w:World)(base:Nat)(v:Value)(nums:List Nmb)(most:Nat)(hE:Errs w A)(hR:Nrs w base v nums)(hn:nums.length≤300)(hk:∀ x∈nums,x.k≤2)(h1:1≤most)(h2:most≤300):
  Calls Tryz.prog 131 #[v,.int .i64 (most:Nat)] w fun e w'=>RestR A w w' nums most e:=by
 have hnew:=tnew w most h1 h2;obtain ⟨n,hnn⟩:∃ n,nums.length=n:=⟨_,rfl⟩;have HNN:Hid (nums.length=n):=hnn
 obtain ⟨ad,cap,hv⟩:∃ ad cap,v = .slice ad n cap:=by
  rcases hR.2 with ⟨e,e2⟩ | ⟨g,cap,cur,e,_⟩
  · exact ⟨none,0,by rw [e,← hnn,e2]⟩
  · exact ⟨_,cap,by rw [e,hnn]⟩
 have HR:Hid (∀ W,Only [] w W→Nrs W base v nums):=fun W ho=>hR.only ho (fun _ _=>by simp);have HE:Hid (∀ W,Only [] w W→Errs W A):=fun W ho=>hE.only ho (fun _ _=>⟨by simp,by simp⟩) (by simp)
 have HCELL:Hid (∀ W j x,Only [] w W→nums[j]?=some x→∃ g,ad=some ⟨g,0,none⟩∧g < W.heap.size∧W.cell? ⟨g,j*3,none⟩=some (.int .i64 (x.g:Nat))∧W.cell? ⟨g,j*3+1,none⟩=some (.int .i64 (x.k:Nat))∧W.cell? ⟨g,j*3+2,none⟩=some (.int .i64 (x.c:Nat))):=fun W j x ho hx=>by
  have hr:=HR.out W ho;have hlt:j < nums.length:=(List.getElem?_eq_some_iff.1 hx).1;rw [hv] at hr
  cases ad with
  | none =>
    rcases hr.2 with ⟨_,e2⟩ | ⟨g,cap',cur,e,_⟩
    · omega
    · simp at e
  | some a =>
    rcases hr.2 with ⟨e,_⟩ | ⟨g,cap',cur,e,_,hh,_⟩
    · simp at e
    · simp only [Value.slice.injEq,Option.some.injEq] at e
      obtain ⟨rfl,_,rfl⟩:=e;exact ⟨g,rfl,(Array.getElem?_eq_some_iff.1 hh).1,hr.cells HNN.out hx⟩
 have HK:Hid (∀ (j:Nat) (x:Nmb),nums[j]?=some x→x.k≤2):=fun j x hx=>hk x (List.mem_of_getElem? hx)
 have hn3:n≤300:=by omega
 rw [hv];clear hE hR hk hn hv hnn
 go_enter Tryz.func131,Tryz.ntmps131
 go_wp2_with (go_at_call 89;refine hnew.mono ?_;rintro e w1 ⟨t,rfl,hT,ho,ht⟩;have HT1:Hid (∃ p nd,TabAt w1 t p most (gL (nums.take 0)) nd∧p.N=0∧NdIs w.heap.size (nums.take 0) nd∧(∀ b,p.a=some b→w.heap.size≤b)):=⟨noRow,fun _=>none,hT,rfl,NdIs.nil _,fun b hb=>by cases hb⟩;have HO1:Hid (Only [] w w1):=ho;have HTT:Hid (w.heap.size≤t):=ht;clear hnew hT ho ht)
 go_loopw [21] (fun q wr=>∃ j:Nat,q = .int .i64 (j:Nat)∧j≤n∧(∃ p nd,TabAt wr t p most (gL (nums.take j)) nd∧p.N=j∧NdIs w.heap.size (nums.take j) nd∧(∀ b,p.a=some b→w.heap.size≤b))∧Only [] w wr∧∀ x∈nums.take j,¬ x.bad) (fun q _=>n - (intOf q).toNat)
 case atStart=>exact ⟨0,rfl,Nat.zero_le _,HT1.out,HO1.out,fun x hx=>by simp at hx⟩
 case round =>
  obtain ⟨j,rfl,hj,⟨p,nd,hT,hpN,hND,hpa⟩,hO,hbad⟩:=hrel;have HT:Hid (TabAt wr t p most (gL (nums.take j)) nd):=hT;have HPN:Hid (p.N=j):=hpN;have HND:Hid (NdIs w.heap.size (nums.take j) nd):=hND;have HPA:Hid (∀ b,p.a=some b→w.heap.size≤b):=hpa;have HO:Hid (Only [] w wr):=hO;have HBAD:Hid (∀ x∈nums.take j,¬ x.bad):=hbad;clear hT hpN hND hpa hO hbad HT1 HO1
  by_cases hlt:j < n
  · obtain ⟨x,hx⟩:∃ x,nums[j]?=some x:=⟨nums[j]'(by have:=HNN.out;omega),List.getElem?_eq_getElem _⟩
    have HX:Hid (nums[j]?=some x):=hx
    have HTK:Hid (nums.take (j+1)=nums.take j++[x]):=by show _=_;rw [List.take_add_one,hx];rfl
    have HTL:Hid ((nums.take j).length=j):=by show _=_;rw [List.length_take,HNN.out];omega
    obtain ⟨g,rfl,hgl,y0,y1,y2⟩:=HCELL.out wr j x HO.out hx;clear hx
    go_upto_region 7 with fail
    have oA:Only [] wr (wr.alloc (.cells #[.int .i64 (x.g:Nat),.int .i64 (x.k:Nat),.int .i64 (x.c:Nat)] 233)):=(Only.refl [] wr).alloc _;have HWA:Hid (Only [] w (wr.alloc (.cells #[.int .i64 (x.g:Nat),.int .i64 (x.k:Nat),.int .i64 (x.c:Nat)] 233))):=HO.out.trans oA (fun _ hk=>by cases hk);have HBX:Hid ((wr.alloc (.cells #[.int .i64 (x.g:Nat),.int .i64 (x.k:Nat),.int .i64 (x.c:Nat)] 233)).heap[wr.heap.size]?=some (.cells #[.int .i64 (x.g:Nat),.int .i64 (x.k:Nat),.int .i64 (x.c:Nat)] 233 (0,0))):=heap_alloc_last wr _;have HTA:Hid (TabAt (wr.alloc (.cells #[.int .i64 (x.g:Nat),.int .i64 (x.k:Nat),.int .i64 (x.c:Nat)] 233)) t p most (gL (nums.take j)) nd):=HT.out.kept oA (fun _ _=>by simp);have HBT:Hid (t≠wr.heap.size∧∀ b,p.a=some b→b≠wr.heap.size):=⟨Nat.ne_of_lt HT.out.tlt,fun b hb=>Nat.ne_of_lt (HT.out.plt hb)⟩;clear y0 y1 y2 oA hgl;generalize wr.alloc (.cells #[.int .i64 (x.g:Nat),.int .i64 (x.k:Nat),.int .i64 (x.c:Nat)] 233)=wb at HWA HBX HTA ⊢;generalize wr.heap.size=bx at HBX HBT ⊢
    have HBC:Hid (∀ W,Only [] wb W→W.cell? ⟨bx,0,none⟩=some (.int .i64 (x.g:Nat))∧W.cell? ⟨bx,1,none⟩=some (.int .i64 (x.k:Nat))∧W.cell? ⟨bx,2,none⟩=some (.int .i64 (x.c:Nat))):=fun W ho=>by
      have hb:=(ho.block bx (Array.getElem?_eq_some_iff.1 HBX.out).1 (by simp)).trans HBX.out;exact ⟨cell_of_row _ _ 0 _ _ _ hb,cell_of_row _ _ 1 _ _ _ hb,cell_of_row _ _ 2 _ _ _ hb⟩
    obtain ⟨x0,x1,x2⟩:=HBC.out wb (Only.refl _ _);have hck:=numCheck_any A wb x (HE.out wb HWA.out) (HK.out j x HX.out)
    go_wp2_with fail
    refine hck.mono ?_;rintro e w2 ⟨⟨hb,rfl⟩ | ⟨hb,rfl⟩,o2⟩
    · have HF:Hid (RestR A w w2 nums most (.returned (.tuple #[.pointer none,eV A 2]))):=Or.inl ⟨fun hk=>hk.1 x (List.mem_of_getElem? HX.out) hb,⟨2,rfl⟩,HWA.out.trans o2 (fun _ hk=>by cases hk)⟩
      clear hck hb o2 x0 x1 x2
      go_wp2
      go_ret2
      exact HF.out
    · have HNB:Hid (¬ x.bad):=hb
      have HO2:Hid (Only [] wb w2):=o2;have HW2:Hid (Only [] w w2):=HWA.out.trans o2 (fun _ hk=>by cases hk);have HT2:Hid (TabAt w2 t p most (gL (nums.take j)) nd):=HTA.out.kept o2 (fun _ _=>by simp);clear hck hb o2 x0 x1 x2
      go_upto_region 10 with fail
      obtain ⟨ad2,cap2,hpv⟩:∃ ad cap,p.v = .slice ad j cap:=⟨_,_,by unfold Row.v;rw [HPN.out]⟩;have HPV:Hid (p.v = .slice ad2 j cap2):=hpv;obtain ⟨i0,hi0,hz⟩:=Option.map_eq_some_iff.1 placeInfo;simp only [Prod.mk.injEq] at hz;obtain ⟨hz0,hz1,hz2⟩:=hz;have hpl:=numPlace_any w2.drew x
      have HC2:Hid (∀ W,Only [] w2 W→W.cell? ⟨t,1,none⟩=some (.slice ad2 j cap2)∧W.cell? ⟨bx,0,none⟩=some (.int .i64 (x.g:Nat))∧W.cell? ⟨bx,1,none⟩=some (.int .i64 (x.k:Nat))∧W.cell? ⟨bx,2,none⟩=some (.int .i64 (x.c:Nat))∧t < W.heap.size):=fun W ho=>by
       have hT:=HT2.out.kept ho (fun _ _=>by simp);have hc:=hT.tab;rw [HPV.out] at hc;exact ⟨hc,(HBC.out W (HO2.out.trans ho (fun _ hk=>by cases hk))).1,(HBC.out W (HO2.out.trans ho (fun _ hk=>by cases hk))).2.1,(HBC.out W (HO2.out.trans ho (fun _ hk=>by cases hk))).2.2,hT.tlt⟩
      obtain ⟨a1,a2,a3,a4,a5⟩:=HC2.out w2 (Only.refl _ _)
      have HAP:Hid (∀ (w3:World) (b:Nat) (pa:Option Addr) (w5:World) (g5 c5:Nat),Only [] w2 w3→w.heap.size≤b→pa=(placeN x b).map (fun n=>(⟨n.b,0,none⟩:Addr))→(∀ n,placeN x b=some n→NodAt w3 n∧n=resNod b x)→w2.heap.size≤b→(w3.alloc (.cells #[.int .i64 (x.g:Nat),.pointer pa] 180)).grownBy w5 (Value.slice ad2 j cap2).ownBlock→w5.ownsRow 0 180 2 (.slice (some ⟨g5,0,none⟩) (j+1) c5) (j+1) (rowOf placeCells (places j (gL (nums.take j)) nd)++[.int .i64 (x.g:Nat),.pointer pa])→((Value.slice ad2 j cap2).ownBlock=some g5∨g5=(w3.alloc (.cells #[.int .i64 (x.g:Nat),.pointer pa] 180)).heap.size) →
         w5.cell? ⟨t,1,none⟩=some (.slice ad2 j cap2)∧w5.frozen? ⟨t,1,none⟩=false∧t < w5.heap.size∧(∃ p' nd',TabAt (w5.setCell ⟨t,1,none⟩ (.slice (some ⟨g5,0,none⟩) (j+1) c5)) t p' most (gL (nums.take (j+1))) nd'∧p'.N=j+1∧NdIs w.heap.size (nums.take (j+1)) nd'∧(∀ b,p'.a=some b→w.heap.size≤b))∧Only [] w (w5.setCell ⟨t,1,none⟩ (.slice (some ⟨g5,0,none⟩) (j+1) c5))):=fun w3 b pa w5 g5 c5 o3 hb hpa hnod hb2 hgr hrow hat=>by
       have hob:(Value.slice ad2 j cap2).ownBlock=p.a:=by rw [← HPV.out,p.own]
       rw [hob] at hgr hat;have oA:Only [] w2 (w3.alloc (.cells #[.int .i64 (x.g:Nat),.pointer pa] 180)):=o3.alloc _;have o5:Only p.a.toList w2 w5:=(oA.mono (fun _ hk=>by cases hk)).grown hgr (fun k hk=>Or.inl (by rw [hk];simp));have hTl:=HT2.out.tlt;have htp:t∉p.a.toList:=fun hm=>HT2.out.pt (by simpa using hm);have hc:=HT2.out.tab;rw [HPV.out] at hc
       have hg5:p.a=some g5∨w2.heap.size≤g5:=by
         rcases hat with e | e
         · exact Or.inl e
         · exact Or.inr (by rw [e];exact oA.size)
       have hrow':w5.ownsRow 0 180 2 (.slice (some ⟨g5,0,none⟩) (p.N+1) c5) (p.N+1) (rowOf placeCells (places p.N (gL (nums.take j)) nd)++placeCells (x.g,placeN x b)):=by
         rw [HPN.out];unfold placeCells;rw [← hpa];exact hrow
       have hnn:∀ n,placeN x b=some n→NodAt w5 n∧∀ k∈n.foot,w2.heap.size≤k∧k≠g5:=fun n hn=>by
         obtain ⟨hN,rfl⟩:=hnod n hn;have hf:(resNod b x).foot=[b]:=rfl;have hbl:b < w3.heap.size:=hN.foot_lt b (by rw [hf];simp);have o35:Only p.a.toList w3 w5:=(((Only.refl [] w3).alloc _).mono (fun _ hk=>by cases hk)).grown hgr (fun k hk=>Or.inl (by rw [hk];simp))
         have hbp:b∉p.a.toList:=fun hm=>by
           have:p.a=some b:=by simpa using hm
           have:=HT2.out.plt this;omega
         refine ⟨hN.kept o35 (fun k hk=>by rw [hf] at hk;rw [List.mem_singleton.1 hk];exact hbp),fun k hk=>?_⟩;rw [hf] at hk;rw [List.mem_singleton.1 hk];refine ⟨hb2,fun e=>?_⟩;rcases hat with e2 | e2
         · exact hbp (by rw [e2,e];simp)
         · rw [World.size_alloc] at e2
           omega
       obtain ⟨hT6,o6⟩:=HT2.out.app o5 hrow' hg5 hnn;refine ⟨(o5.cell (p:=⟨t,1,none⟩) hTl htp).trans hc,(o5.frozen (p:=⟨t,1,none⟩) hTl htp).trans (HT2.out.tfz 1),Nat.lt_of_lt_of_le hTl o5.size,⟨⟨some g5,p.N+1,c5⟩,setN nd p.N (placeN x b),?_,by rw [HPN.out],?_,fun b' hb'=>?_⟩,?_⟩
       · rw [HTK.out,gL_app,HTL.out]
         rw [HPN.out] at hT6 ⊢;exact hT6
       · rw [HTK.out,HPN.out]
         have:=HND.out.app x hb;rw [HTL.out] at this;exact this
       · simp only [Option.some.injEq] at hb'
         rw [← hb'];rcases hg5 with e | e
         · exact HPA.out g5 e
         · exact Nat.le_trans HW2.out.size e
       · rw [HPN.out] at o6
         refine HW2.out.trans o6 (fun k hk=>Or.inr ?_);rcases List.mem_cons.1 hk with e | e
         · rw [e];exact HTT.out
         · exact HPA.out k (by simpa using e)
      have HROW:Hid (∀ W,Only [] w2 W→W.ownsRow 0 180 2 (.slice ad2 j cap2) j (rowOf placeCells (places j (gL (nums.take j)) nd))):=fun W ho=>by
       have hT:=(HT2.out.kept ho (fun _ _=>by simp)).row;rw [HPV.out,HPN.out] at hT;exact hT
      have mixed:Tryz.prog.follows Departure.mixedOrders=true:=by kernel_rfl
      clear hpv
      go_region_law_o (first
       | (refine step_append_lies _ (by rfl) (.tmp 34) (.tmp 37) 175 (by rfl) 0 180 i0 _ 2 16 placesUnd hi0 hz0 hz1 hz2 (by rfl) (by decide) (.slice ad2 j cap2) j (rowOf placeCells (places j (gL (nums.take j)) nd)) (by rfl) (HROW.out _ (HO3.out.alloc _)) ⟨w3.heap.size,0,none⟩ 1 1 [.int .i64 (x.g:Nat),.pointer pa] (by rfl) (by rfl) (two_news w3 _ _ _) (two_one _ _) (by decide) (by unfold maxLen;omega) (by omega) (Nat.zero_le _) (w3.heap.size+1) (by simp) ?_;intro g5 c5 w5 hown5 hgr5 hat5 hlt5;obtain ⟨k0,k1,k2,hR⟩:=HAP.out w3 b pa w5 g5 c5 HO3.out (Nat.le_trans HW2.out.size HP3.out.2.1) HP3.out.1 HP3.out.2.2 HP3.out.2.1 hgr5 hown5 (by rw [World.size_alloc];exact hat5);have HRR:Hid ((∃ p' nd',TabAt (w5.setCell ⟨t,1,none⟩ (.slice (some ⟨g5,0,none⟩) (j+1) c5)) t p' most (gL (nums.take (j+1))) nd'∧p'.N=j+1∧NdIs w.heap.size (nums.take (j+1)) nd'∧(∀ b,p'.a=some b→w.heap.size≤b))∧Only [] w (w5.setCell ⟨t,1,none⟩ (.slice (some ⟨g5,0,none⟩) (j+1) c5))):=hR;clear hown5 hgr5 hat5 hlt5 hR a1)
       | (go_simp;refine hpl.mono ?_;rintro e w3 ⟨b,rfl,o3,hb3,hnod⟩;obtain ⟨pa,hpa⟩:∃ pa,(placeN x b).map (fun n=>(⟨n.b,0,none⟩:Addr))=pa:=⟨_,rfl⟩;rw [hpa];have HP3:Hid (pa=(placeN x b).map (fun n=>(⟨n.b,0,none⟩:Addr))∧w2.heap.size≤b∧∀ n,placeN x b=some n→NodAt w3 n∧n=resNod b x):=⟨hpa.symm,hb3,hnod⟩;have HO3:Hid (Only [] w2 w3):=(Only.refl [] w2).drew.trans o3 (fun _ hk=>by cases hk);clear a1 a2 a3 a4 a5;obtain ⟨a1,a2,a3,a4,a5⟩:=HC2.out w3 HO3.out;clear hpl o3 hb3 hnod hpa))
      all_goals go_wp2
      all_goals go_roundw
      all_goals first
       | (exact ⟨j+1,by go_num,by omega,HRR.out.1,HRR.out.2,fun y hy=>by rw [HTK.out] at hy;rcases List.mem_append.1 hy with e | e;exact HBAD.out y e;rw [List.mem_singleton.1 e];exact HNB.out⟩)
       | (simp [intOf];omega)
  · obtain rfl:n=j:=by omega
    have hj2:decide ((n:Int) < n)=false:=decide_eq_false (by omega)
    have HALL:Hid (nums.take n=nums):=by show _=_;rw [← HNN.out,List.take_length]
    rw [HALL.out] at HT HND HBAD;have hct:=tcount wr t p most (gL nums) nd HT.out (by rw [HPN.out];omega);rw [HPN.out,← HNN.out,HND.out.count] at hct
    have hcl:cntN nums≤n:=by
      have:=countTo_le (fun i=>(cL nums i).map (resNod 0)) nums.length;rw [HNN.out] at this;unfold cntN;rw [HNN.out];exact this
    by_cases hm:most < cntN nums
    · have d1:decide ((most:Int) < (cntN nums:Int))=true:=decide_eq_true (by omega)
      have HNR:Hid (¬ ResOk nums most):=fun h=>by have:=h.2;omega
      clear hcl;generalize cntN nums=cn at hct d1 hm;have d2:decide (most < cn)=true:=decide_eq_true hm;clear d1;have HEE:Hid (∀ W,Only [] w W→W.cell? ⟨9,0,none⟩=some (eV A 8)):=fun W ho=>(HE.out W ho).cell 8 (by decide)
      go_wp2_with (go_at_call 36;refine hct.mono ?_;rintro e w2 ⟨rfl,o2⟩;have HW2:Hid (Only [] w w2):=HO.out.trans o2 (fun _ hk=>by cases hk);have cE:=HEE.out w2 HW2.out;clear hct o2)
      go_region
      all_goals go_wp2
      all_goals go_ret2
      all_goals exact Or.inl ⟨HNR.out,⟨8,rfl⟩,HW2.out.drew⟩
    · have d1:decide ((most:Int) < (cntN nums:Int))=false:=decide_eq_false (by omega)
      have HRK:Hid (ResOk nums most):=⟨HBAD.out,by omega⟩;clear hcl;generalize cntN nums=cn at hct d1 hm;have d2:decide (most < cn)=false:=decide_eq_false hm;clear d1
      go_wp2_with (go_at_call 36;refine hct.mono ?_;rintro e w2 ⟨rfl,o2⟩;have HW2:Hid (Only [] w w2):=HO.out.trans o2 (fun _ hk=>by cases hk);have HT2:Hid (TabAt w2 t p most (gL nums) nd):=HT.out.kept o2 (fun _ _=>by simp);clear hct o2)
      go_ret2
      exact Or.inr ⟨HRK.out,t,p,nd,rfl,HT2.out,by rw [HPN.out,HNN.out],HND.out,HW2.out,HTT.out,HPA.out⟩
def pHead (l:List Nmb):Bool:=match l[0]? with | some x=>decide (x.k=2)&&decide (x.g=0) | none=>false
def pGood (l:List Nmb)(most:Nat):Bool:=l.all (fun x=>!(decide (x.k=0)&&decide (x.g=0)))&&decide (cntN l≤most)
theorem pGood_iff (l:List Nmb)(most:Nat):pGood l most=true↔ResOk l most:=by
 unfold pGood ResOk Nmb.bad;simp only [Bool.and_eq_true,List.all_eq_true,decide_eq_true_eq,Bool.not_eq_true',Bool.and_eq_false_iff,decide_eq_false_iff_not]
 constructor
 · rintro ⟨h1,h2⟩
   exact ⟨fun x hx hb=>by rcases h1 x hx with h | h;exact h hb.1;exact h hb.2,h2⟩
 · rintro ⟨h1,h2⟩
   refine ⟨fun x hx=>?_,h2⟩
   by_cases h:x.k=0
   · exact Or.inr (fun hg=>h1 x hx ⟨h,hg⟩)
   · exact Or.inl h
def pTab (most:Nat):Par (List Nmb):=bindP (pNum 300) fun n=>bindP (pTimes pGiven n) fun l=>if (pHead l&&pGood l most)=true then retP l else fun _=>none
theorem pTimes_more {α:Type}{p:Par α}{n m:Nat}{t1 tj t':ByteArray}{l:List α}{x:α}(h:pTimes p n t1=(pTimes p (m+1) tj).map (fun y=>(l++y.1,y.2)))(hx:p tj=some (x,t')):pTimes p n t1=(pTimes p m t').map (fun y=>((l++[x])++y.1,y.2)):=by
 rw [h,show pTimes p (m+1)=bindP p (fun a=>bindP (pTimes p m) fun l=>retP (a::l)) from rfl,bindP_some hx]
 unfold bindP
 cases pTimes p m t' with
 | none=>rfl
 | some y=>simp [retP]
theorem pTimes_stop {α:Type}{p:Par α}{n m:Nat}{t1 tj:ByteArray}{l:List α}(h:pTimes p n t1=(pTimes p (m+1) tj).map (fun y=>(l++y.1,y.2)))(hx:p tj=none):pTimes p n t1=none:=by
 rw [h,show pTimes p (m+1)=bindP p (fun a=>bindP (pTimes p m) fun l=>retP (a::l)) from rfl,bindP_none hx]
 rfl
theorem pTimes_done {α:Type}{p:Par α}{n:Nat}{t1 tj:ByteArray}{l:List α}(h:pTimes p n t1=(pTimes p 0 tj).map (fun y=>(l++y.1,y.2))):pTimes p n t1=some (l,tj):=by
 rw [h];simp [pTimes,retP]
theorem pGiven_le {t t':ByteArray}{x:Nmb}(h:pGiven t=some (x,t')):x.k≤2∧x.g≤4611686018427387903∧x.c≤4611686018427387903∧t'.size≤t.size:=by
 unfold pGiven at h
 cases h1:pNum 2 t with
 | none=>rw [bindP_none h1] at h;cases h
 | some y =>
  obtain ⟨k,t1⟩:=y;rw [bindP_some h1] at h;have g1:=pNum_le h1
  cases h2:pNum manyT t1 with
  | none=>rw [bindP_none h2] at h;cases h
  | some y =>
   obtain ⟨g,t2⟩:=y;rw [bindP_some h2] at h;have g2:=pNum_le h2;unfold manyT at g2
   by_cases hk:k=0
   · rw [if_pos hk] at h
     simp only [retP,Option.some.injEq,Prod.mk.injEq] at h;obtain ⟨rfl,rfl⟩:=h;exact ⟨by show 0≤2;omega,by show g≤_;omega,by show 0≤_;omega,by omega⟩
   · rw [if_neg hk] at h
     cases h3:pNum manyT t2 with
     | none=>rw [bindP_none h3] at h;cases h
     | some y =>
      obtain ⟨c,t3⟩:=y;rw [bindP_some h3] at h;have g3:=pNum_le h3;unfold manyT at g3;simp only [retP,Option.some.injEq,Prod.mk.injEq] at h;obtain ⟨rfl,rfl⟩:=h;exact ⟨by show k≤2;omega,by show g≤_;omega,by show c≤_;omega,by omega⟩
def Low (A:Nat→Addr)(B:Nat):Prop:=(∀ k,k < 15→gOf k < B∧(A k).block < B)∧15 < B
theorem Low.mono {A:Nat→Addr}{B B':Nat}(h:Low A B)(hb:B≤B'):Low A B':=⟨fun k hk=>⟨by have:=(h.1 k hk).1;omega,by have:=(h.1 k hk).2;omega⟩,by have:=h.2;omega⟩
section
variable {w w':World}{A:Nat→Addr}{lb xb B:Nat}{tp v:Value}{t:ByteArray}
theorem LdR.kept {L:List Nat}(h:LdR w A lb xb tp v t)(ho:Only L w w')(hl:lb∉L)(hx:xb∉L)(he:Low A B)(hL:∀ k∈L,B≤k):LdR w' A lb xb tp v t :=
 ⟨(ho.block lb h.lt hl).trans h.blk,(ho.block xb h.ltx hx).trans h.rd,h.err.only ho (fun k hk=>⟨fun hm=>by have:=hL _ hm;have:=(he.1 k hk).1;omega,fun hm=>by have:=hL _ hm;have:=(he.1 k hk).2;omega⟩) (fun hm=>by have:=hL _ hm;have:=he.2;omega),h.le,h.old,h.typ⟩
theorem LdR.only_lb (h:LdR w A lb xb tp v t)(k:Nat)(u:Value):Errs (w.setCell ⟨lb,k,none⟩ u) A:=h.err.only ((Only.refl [lb] w).setCell (p:=⟨lb,k,none⟩) (Or.inl (by simp)) _) (fun k hk=>⟨by simpa using (h.old k hk).2.1,by simpa using (h.old k hk).2.2.2⟩) (by simpa using h.typ.2)
theorem LdR.put2 (h:LdR w A lb xb tp v t)(u:Value):LdR (w.setCell ⟨lb,2,none⟩ u) A lb xb tp u t :=
 ⟨heap_setCell_same w lb 2 _ _ _ h.blk,(Below.heap_setCell w ⟨lb,2,none⟩ u xb (Ne.symm h.ne)).trans h.rd,h.only_lb 2 u,h.le,h.old,h.typ⟩
theorem LdR.put1 (h:LdR w A lb xb tp v t)(u:Value):LdR (w.setCell ⟨lb,1,none⟩ u) A lb xb u v t :=
 ⟨heap_setCell_same w lb 1 _ _ _ h.blk,(Below.heap_setCell w ⟨lb,1,none⟩ u xb (Ne.symm h.ne)).trans h.rd,h.only_lb 1 u,h.le,h.old,h.typ⟩
theorem LdR.row_ne {l:List Nmb}{b:Nat}(h:LdR w A lb xb tp v t){u:Value}(hr:Nrs w b u l){k:Nat}(hk:u.ownBlock=some k):b≤k∧k < w.heap.size∧k≠lb∧k≠xb:=by
 rcases hr.2 with ⟨h1,_⟩ | ⟨g',cap',cur,h1,hb,hh,_⟩
 · rw [h1] at hk;cases hk
 · rw [h1] at hk
   obtain rfl:g'=k:=by simpa [Value.ownBlock] using hk
   refine ⟨hb,(Array.getElem?_eq_some_iff.1 hh).1,fun e=>?_,fun e=>?_⟩
   · rw [e,h.blk] at hh
     simp at hh
   · rw [e,h.rd] at hh
     simp at hh
end
theorem nmsUnd:Tryz.prog.underlying 198=some (.slice 233):=by kernel_rfl
theorem nm_one (x:Nmb):∀ u∈nmC x,u.oneCell'=true:=by
 intro u hu;simp [nmC] at hu;rcases hu with rfl | rfl | rfl<;>rfl
theorem num_more {w w3 w5:World}{A:Nat→Addr}{lb xb B g5 c5:Nat}{tp v:Value}{t:ByteArray}{l:List Nmb}{x:Nmb}{o:Obj}(h:LdR w3 A lb xb tp v t)(hr:Nrs w3 B v l)(he:Low A B)(hB:B=w.heap.size)(ho:Only [lb,xb] w w3)(hgr:(w3.alloc o).grownBy w5 v.ownBlock)(hown:w5.ownsRow B 233 3 (.slice (some ⟨g5,0,none⟩) (l.length+1) c5) (l.length+1) (rowOf nmC l++nmC x)):
   w5.cell? ⟨lb,2,none⟩=some v∧w5.frozen? ⟨lb,2,none⟩=false∧lb < w5.heap.size∧LdR (w5.setCell ⟨lb,2,none⟩ (.slice (some ⟨g5,0,none⟩) (l.length+1) c5)) A lb xb tp (.slice (some ⟨g5,0,none⟩) (l.length+1) c5) t∧Nrs (w5.setCell ⟨lb,2,none⟩ (.slice (some ⟨g5,0,none⟩) (l.length+1) c5)) B (.slice (some ⟨g5,0,none⟩) (l.length+1) c5) (l++[x])∧Only [lb,xb] w (w5.setCell ⟨lb,2,none⟩ (.slice (some ⟨g5,0,none⟩) (l.length+1) c5)):=by
 have o5:Only v.ownBlock.toList w3 w5:=(((Only.refl [] w3).alloc o).mono (L':=v.ownBlock.toList) (fun _ hk=>by cases hk)).grown hgr (fun k hk=>Or.inl (by rw [hk];simp));have hrow:∀ k∈v.ownBlock.toList,B≤k∧k < w3.heap.size∧k≠lb∧k≠xb:=fun k hk=>h.row_ne hr (by simpa using hk);have h5:LdR w5 A lb xb tp v t:=h.kept o5 (fun hm=>(hrow lb hm).2.2.1 rfl) (fun hm=>(hrow xb hm).2.2.2 rfl) he (fun k hk=>(hrow k hk).1)
 have hn5:Nrs w5 B (.slice (some ⟨g5,0,none⟩) (l.length+1) c5) (l++[x]):=by
   unfold Nrs;rw [List.length_append,rowOf_append]
   simpa [rowOf] using hown
 refine ⟨h5.c2,h5.fz 2,h5.lt,h5.put2 _,?_,?_⟩
 · refine hn5.only ((Only.refl [lb] w5).setCell (p:=⟨lb,2,none⟩) (Or.inl (by simp)) _) (fun k hk=>?_)
   have:=(h5.row_ne hn5 hk).2.2.1
   simpa using this
 · have o6:Only [lb,xb] w w5:=ho.trans o5 (fun k hk=>Or.inr (by rw [← hB];exact (hrow k hk).1))
   exact o6.setCell (p:=⟨lb,2,none⟩) (Or.inl (by simp)) _
theorem lhandle_ok (w:World)(A:Nat→Addr)(lb xb:Nat)(tp v:Value)(t:ByteArray)(base:Nat)(l:List Nmb)(i:Nat)(x:Nmb)(hL:LdR w A lb xb tp v t)(hR:Nrs w base v l)(hx:l[i]?=some x):
   Calls Tryz.prog 133 #[.pointer (some ⟨lb,0,none⟩),.int .i64 (i:Nat)] w fun e w'=>e = .returned (.agg #[.int .i64 (i:Nat),.int .i64 (x.g:Nat)])∧Only [] w w':=by
 have hlt:i < l.length:=(List.getElem?_eq_some_iff.1 hx).1;rcases hR.2 with ⟨e,e2⟩ | ⟨g,cap,cur,e,_,hh,_⟩
 · omega
 · obtain ⟨n,hn⟩:∃ n,l.length=n:=⟨_,rfl⟩
   rw [hn] at e hlt;rw [e] at hR hL;have hlb:=hL.lt;have c2:=hL.c2;have hgl:=(Array.getElem?_eq_some_iff.1 hh).1;obtain ⟨y0,y1,y2⟩:=hR.cells hn hx;have hz:=heap_alloc_last w (.cells #[.int .i64 0,.int .i64 0] 94);have HZ:Hid ((w.alloc (.cells #[.int .i64 0,.int .i64 0] 94)).heap[w.heap.size]?=some (.cells #[.int .i64 0,.int .i64 0] 94 (0,0))):=hz;have hho:=handleOf_any (w.alloc (.cells #[.int .i64 0,.int .i64 0] 94)) i x;have hi1:decide ((i:Int) < 0)=false:=decide_eq_false (by omega);have hi2:decide (i < n)=true:=decide_eq_true hlt;clear hz hL hR hx hh e hn
   go_enter Tryz.func133,Tryz.ntmps133
   go_wp2_with (go_at_call 102;refine hho.mono ?_;rintro e w1 ⟨rfl,o1⟩;have hb:=(o1.block w.heap.size (Array.getElem?_eq_some_iff.1 HZ.out).1 (by simp)).trans HZ.out;have q0:w1.cell? ⟨w.heap.size,0,none⟩=some (.int .i64 0):=cell_of_row _ _ 0 _ _ _ hb;have q1:w1.cell? ⟨w.heap.size,1,none⟩=some (.int .i64 0):=cell_of_row _ _ 1 _ _ _ hb;have f0:w1.frozen? ⟨w.heap.size,0,none⟩=false:=frozen_of_row _ _ _ _ _ hb;have f1:w1.frozen? ⟨w.heap.size,1,none⟩=false:=frozen_of_row _ _ _ _ _ hb;have hbl:=(Array.getElem?_eq_some_iff.1 hb).1;have HO:Hid (Only [] w w1):=((Only.refl [] w).alloc _).trans o1 (fun _ hk=>by cases hk);clear hho o1 hb)
   refine bodyPost_ret (v := .agg #[.int .i64 (i:Nat),.int .i64 (x.g:Nat)]) (by simp [results,Tryz.results133,go_sem,q0,q1]) rfl ⟨rfl,?_⟩;exact (HO.out.setCell (p:=⟨w.heap.size,0,none⟩) (Or.inr (Nat.le_refl _)) _).setCell (p:=⟨w.heap.size,1,none⟩) (Or.inr (Nat.le_refl _)) _
end
end Go.Proofs.YtmnidbnaneagjaaGreatDoor
