import Derived.Test.YtbdfjbmocifhmaaGreatDoorK34
set_option maxHeartbeats 8000000
namespace Go.Proofs.YtbdfjbmocifhmaaGreatDoor
section
open Go Go.RowKit Go.Deep
theorem numFree_any (w:World)(x:Nmb):Calls Tryz.prog 169 #[nmV x] w fun e w'=>e = .returned (.bool (decide (x.k=0)))∧Only [] w w':=by
 have hd:((x.k:Int)==0)=decide (x.k=0):=by
  by_cases h:x.k=0
  · rw [h];rfl
  · rw [beq_eq_false_iff_ne.2 (show ¬ ((x.k:Int)=0) by omega),decide_eq_false h]
 go_enter Tryz.func169,Tryz.ntmps169
 go_wp2
 go_ret
 exact ⟨by rw [← hd];rfl,(Only.refl [] w).alloc _⟩
def Nmb.bad (x:Nmb):Prop:=x.k=0∧x.g=0
theorem numCheck_any (A:Nat→Addr)(w:World)(x:Nmb)(hE:Errs w A)(hk:x.k≤2):Calls Tryz.prog 143 #[nmV x] w fun e w'=>((x.bad∧e = .returned (eV A 2))∨(¬ x.bad∧e = .returned .nilIface))∧Only [] w w':=by
 have o1:Only [] w (w.alloc (.cells #[.int .i64 (x.g:Nat),.int .i64 (x.k:Nat),.int .i64 (x.c:Nat)] 96)):=(Only.refl [] w).alloc _;have hh:=heap_alloc_last w (.cells #[.int .i64 (x.g:Nat),.int .i64 (x.k:Nat),.int .i64 (x.c:Nat)] 96)
 have HB:Hid (∀ W,Only [] (w.alloc (.cells #[.int .i64 (x.g:Nat),.int .i64 (x.k:Nat),.int .i64 (x.c:Nat)] 96)) W→W.cell? ⟨w.heap.size,0,none⟩=some (.int .i64 (x.g:Nat))∧W.cell? ⟨w.heap.size,1,none⟩=some (.int .i64 (x.k:Nat))∧W.cell? ⟨w.heap.size,2,none⟩=some (.int .i64 (x.c:Nat))∧W.cell? ⟨0,0,none⟩=some (eV A 2)):=fun W ho=>by
   have hb:=(ho.block w.heap.size (Array.getElem?_eq_some_iff.1 hh).1 (by simp)).trans hh;have c2:w.cell? ⟨0,0,none⟩=some (eV A 2):=hE.cell 2 (by decide);exact ⟨cell_of_row _ _ 0 _ _ _ hb,cell_of_row _ _ 1 _ _ _ hb,cell_of_row _ _ 2 _ _ _ hb,((o1.trans ho (fun _ hk=>by cases hk)).cell (lt_of_cell c2) (by simp)).trans c2⟩
 have HO:Hid (Only [] w (w.alloc (.cells #[.int .i64 (x.g:Nat),.int .i64 (x.k:Nat),.int .i64 (x.c:Nat)] 96))):=o1;obtain ⟨y0,y1,y2,y3⟩:=HB.out _ (Only.refl _ _);have hf1:=numFree_any (w.alloc (.cells #[.int .i64 (x.g:Nat),.int .i64 (x.k:Nat),.int .i64 (x.c:Nat)] 96)) x;have HF:Hid (∀ W,Calls Tryz.prog 169 #[nmV x] W fun e w'=>e = .returned (.bool (decide (x.k=0)))∧Only [] W w'):=fun W=>numFree_any W x;have d0:decide ((x.g:Int) < 0)=false:=decide_eq_false (by omega);have d1:decide ((x.c:Int) < 0)=false:=decide_eq_false (by omega);clear hE o1 hh
 by_cases hk0:x.k=0
 · have e0:decide (x.k=0)=true:=decide_eq_true hk0
   rw [e0] at hf1 HF
   by_cases hg0:x.g=0
   · have d2:((x.g:Int)==0)=true:=by rw [hg0];rfl
     have HBD:Hid (x.bad):=⟨hk0,hg0⟩;clear e0 hk0 hg0 hk
     go_enter Tryz.func143,Tryz.ntmps143
     go_wp2_with (go_at_call 169;refine hf1.mono ?_;rintro e w2 ⟨rfl,o2⟩;have HO2:Hid (Only [] (w.alloc (.cells #[.int .i64 (x.g:Nat),.int .i64 (x.k:Nat),.int .i64 (x.c:Nat)] 96)) w2):=o2;clear y0 y1 y2 y3;obtain ⟨y0,y1,y2,y3⟩:=HB.out w2 o2;clear hf1 o2)
     go_ret
     exact ⟨Or.inl ⟨HBD.out,rfl⟩,HO.out.trans HO2.out (fun _ hk=>by cases hk)⟩
   · have d2:((x.g:Int)==0)=false:=beq_eq_false_iff_ne.2 (by omega)
     have HBD:Hid (¬ x.bad):=fun h=>hg0 h.2;clear e0 hk0 hg0 hk
     go_enter Tryz.func143,Tryz.ntmps143
     go_wp2_with (first
      | (go_at_call 169;refine hf1.mono ?_;rintro e w2 ⟨rfl,o2⟩;have HO2:Hid (Only [] (w.alloc (.cells #[.int .i64 (x.g:Nat),.int .i64 (x.k:Nat),.int .i64 (x.c:Nat)] 96)) w2):=o2;clear y0 y1 y2 y3;obtain ⟨y0,y1,y2,y3⟩:=HB.out w2 o2;have hf2:=HF.out w2;clear hf1 o2)
      | (go_at_call 169;refine hf2.mono ?_;rintro e w3 ⟨rfl,o3⟩;have HO3:Hid (Only [] (w.alloc (.cells #[.int .i64 (x.g:Nat),.int .i64 (x.k:Nat),.int .i64 (x.c:Nat)] 96)) w3):=HO2.out.trans o3 (fun _ hk=>by cases hk);clear hf2 o3))
     go_ret
     exact ⟨Or.inr ⟨HBD.out,rfl⟩,HO.out.trans HO3.out (fun _ hk=>by cases hk)⟩
 · have e0:decide (x.k=0)=false:=decide_eq_false hk0
   rw [e0] at hf1 HF;have HBD:Hid (¬ x.bad):=fun h=>hk0 h.1
   have hk12:x.k=1∨x.k=2:=by omega
   rcases hk12 with hk1 | hk1
   · have d2:((x.k:Int) != 1)=false:=by rw [hk1];rfl
     clear e0 hk0 hk hk1
     go_enter Tryz.func143,Tryz.ntmps143
     go_wp2_with (first
      | (go_at_call 169;refine hf1.mono ?_;rintro e w2 ⟨rfl,o2⟩;have HO2:Hid (Only [] (w.alloc (.cells #[.int .i64 (x.g:Nat),.int .i64 (x.k:Nat),.int .i64 (x.c:Nat)] 96)) w2):=o2;clear y0 y1 y2 y3;obtain ⟨y0,y1,y2,y3⟩:=HB.out w2 o2;have hf2:=HF.out w2;clear hf1 o2)
      | (go_at_call 169;refine hf2.mono ?_;rintro e w3 ⟨rfl,o3⟩;have HO3:Hid (Only [] (w.alloc (.cells #[.int .i64 (x.g:Nat),.int .i64 (x.k:Nat),.int .i64 (x.c:Nat)] 96)) w3):=HO2.out.trans o3 (fun _ hk=>by cases hk);clear y0 y1 y2 y3;obtain ⟨y0,y1,y2,y3⟩:=HB.out w3 HO3.out;clear hf2 o3))
     go_ret
     exact ⟨Or.inr ⟨HBD.out,rfl⟩,HO.out.trans HO3.out (fun _ hk=>by cases hk)⟩
   · have d2:((x.k:Int) != 1)=true:=by rw [hk1];rfl
     have d3:((x.k:Int) != 2)=false:=by rw [hk1];rfl
     clear e0 hk0 hk hk1
     go_enter Tryz.func143,Tryz.ntmps143
     go_wp2_with (first
      | (go_at_call 169;refine hf1.mono ?_;rintro e w2 ⟨rfl,o2⟩;have HO2:Hid (Only [] (w.alloc (.cells #[.int .i64 (x.g:Nat),.int .i64 (x.k:Nat),.int .i64 (x.c:Nat)] 96)) w2):=o2;clear y0 y1 y2 y3;obtain ⟨y0,y1,y2,y3⟩:=HB.out w2 o2;have hf2:=HF.out w2;clear hf1 o2)
      | (go_at_call 169;refine hf2.mono ?_;rintro e w3 ⟨rfl,o3⟩;have HO3:Hid (Only [] (w.alloc (.cells #[.int .i64 (x.g:Nat),.int .i64 (x.k:Nat),.int .i64 (x.c:Nat)] 96)) w3):=HO2.out.trans o3 (fun _ hk=>by cases hk);clear y0 y1 y2 y3;obtain ⟨y0,y1,y2,y3⟩:=HB.out w3 HO3.out;clear hf2 o3))
     go_ret
     exact ⟨Or.inr ⟨HBD.out,rfl⟩,HO.out.trans HO3.out (fun _ hk=>by cases hk)⟩
def resNod (b:Nat)(x:Nmb):Nod:={ newNod b (x.k:Int) with C:=(x.c:Int) }
def placeN (x:Nmb)(b:Nat):Option Nod:=if x.k=0 then none else some (resNod b x)
theorem resNod_at (w:World)(x:Nmb):NodAt (w.alloc (.cells #[.int .i64 (x.k:Nat),.int .i64 0,.int .i64 0,.int .i64 (x.c:Nat),.int .i64 0,.int .i64 0,.int .i64 0,.map none] 205)) (resNod w.heap.size x):=by
 have hh:=heap_alloc_last w (.cells #[.int .i64 (x.k:Nat),.int .i64 0,.int .i64 0,.int .i64 (x.c:Nat),.int .i64 0,.int .i64 0,.int .i64 0,.map none] 205);refine ⟨cell_of_row _ _ 0 _ _ _ hh,cell_of_row _ _ 1 _ _ _ hh,cell_of_row _ _ 2 _ _ _ hh,cell_of_row _ _ 3 _ _ _ hh,cell_of_row _ _ 4 _ _ _ hh,cell_of_row _ _ 5 _ _ _ hh,cell_of_row _ _ 6 _ _ _ hh,cell_of_row _ _ 7 _ _ _ hh,fun k=>?_,⟨_,_,hh⟩,_,Same.start,rfl⟩;exact frozen_of_row _ _ _ _ _ hh
theorem numPlace_any (w:World)(x:Nmb):Calls Tryz.prog 144 #[nmV x] w fun e w'=>∃ b,e = .returned (.agg #[.int .i64 (x.g:Nat),.pointer ((placeN x b).map (fun n=>⟨n.b,0,none⟩))])∧Only [] w w'∧w.heap.size≤b∧∀ n,placeN x b=some n→NodAt w' n∧n=resNod b x:=by
 have o2:Only [] w ((w.alloc (.cells #[.int .i64 (x.g:Nat),.int .i64 (x.k:Nat),.int .i64 (x.c:Nat)] 96)).alloc (.cells #[.int .i64 0,.pointer none] 196)):=((Only.refl [] w).alloc _).alloc _
 have hh1:((w.alloc (.cells #[.int .i64 (x.g:Nat),.int .i64 (x.k:Nat),.int .i64 (x.c:Nat)] 96)).alloc (.cells #[.int .i64 0,.pointer none] 196)).heap[w.heap.size+1]?=some (.cells #[.int .i64 0,.pointer none] 196 (0,0)):=by
   have:=heap_alloc_last (w.alloc (.cells #[.int .i64 (x.g:Nat),.int .i64 (x.k:Nat),.int .i64 (x.c:Nat)] 96)) (.cells #[.int .i64 0,.pointer none] 196);rw [World.size_alloc] at this;exact this
 have hh0:((w.alloc (.cells #[.int .i64 (x.g:Nat),.int .i64 (x.k:Nat),.int .i64 (x.c:Nat)] 96)).alloc (.cells #[.int .i64 0,.pointer none] 196)).heap[w.heap.size]?=some (.cells #[.int .i64 (x.g:Nat),.int .i64 (x.k:Nat),.int .i64 (x.c:Nat)] 96 (0,0)) :=
   (((Only.refl [] (w.alloc (.cells #[.int .i64 (x.g:Nat),.int .i64 (x.k:Nat),.int .i64 (x.c:Nat)] 96))).alloc _).block w.heap.size (by simp) (by simp)).trans (heap_alloc_last w _)
 have hf:=numFree_any ((w.alloc (.cells #[.int .i64 (x.g:Nat),.int .i64 (x.k:Nat),.int .i64 (x.c:Nat)] 96)).alloc (.cells #[.int .i64 0,.pointer none] 196)) x;generalize hw0:(w.alloc (.cells #[.int .i64 (x.g:Nat),.int .i64 (x.k:Nat),.int .i64 (x.c:Nat)] 96)).alloc (.cells #[.int .i64 0,.pointer none] 196)=w0 at o2 hh0 hh1 hf;obtain ⟨sz,hsz⟩:∃ sz,w.heap.size=sz:=⟨_,rfl⟩;have HSZ:Hid (w.heap.size=sz):=hsz;rw [hsz] at hh0 hh1;have HO0:Hid (Only [] w w0):=o2;have HB0:Hid (∀ W,Only [] w0 W→W.heap[sz]?=some (.cells #[.int .i64 (x.g:Nat),.int .i64 (x.k:Nat),.int .i64 (x.c:Nat)] 96 (0,0))∧W.heap[sz+1]?=some (.cells #[.int .i64 0,.pointer none] 196 (0,0))):=fun W ho=>⟨(ho.block sz (Array.getElem?_eq_some_iff.1 hh0).1 (by simp)).trans hh0,(ho.block (sz+1) (Array.getElem?_eq_some_iff.1 hh1).1 (by simp)).trans hh1⟩;have x0:w0.cell? ⟨sz,0,none⟩=some (.int .i64 (x.g:Nat)):=cell_of_row _ _ 0 _ _ _ hh0;have x1:w0.cell? ⟨sz,1,none⟩=some (.int .i64 (x.k:Nat)):=cell_of_row _ _ 1 _ _ _ hh0;have x2:w0.cell? ⟨sz,2,none⟩=some (.int .i64 (x.c:Nat)):=cell_of_row _ _ 2 _ _ _ hh0;clear o2 hh0 hh1
 go_enter Tryz.func144,Tryz.ntmps144
 go_upto_region 1 with fail
 clear hw0 hsz
 by_cases hk:x.k=0
 · have e0:decide (x.k=0)=true:=decide_eq_true hk
   rw [e0] at hf;have HPN:Hid (∀ b,placeN x b=none):=fun b=>if_pos hk;clear e0 hk
   go_wp2_with (go_at_call 169;refine hf.mono ?_;rintro e w2 ⟨rfl,o2⟩;have HO2:Hid (Only [] w0 w2):=o2;obtain ⟨b0,b1⟩:=HB0.out w2 o2;have y0:w2.cell? ⟨sz,0,none⟩=some (.int .i64 (x.g:Nat)):=cell_of_row _ _ 0 _ _ _ b0;have r0:w2.cell? ⟨sz+1,0,none⟩=some (.int .i64 0):=cell_of_row _ _ 0 _ _ _ b1;have r1:w2.cell? ⟨sz+1,1,none⟩=some (.pointer none):=cell_of_row _ _ 1 _ _ _ b1;have z0:w2.frozen? ⟨sz+1,0,none⟩=false:=frozen_of_row _ _ _ _ _ b1;have z1:w2.frozen? ⟨sz+1,1,none⟩=false:=frozen_of_row _ _ _ _ _ b1;have hl:=(Array.getElem?_eq_some_iff.1 b1).1;clear hf o2 b0 b1 x0 x1 x2)
   refine bodyPost_ret (v := .agg #[.int .i64 (x.g:Nat),.pointer none]) (by simp [results,Tryz.results144,go_sem,r0,r1]) rfl ⟨w.heap.size,by rw [HPN.out];rfl,?_,Nat.le_refl _,fun n hn=>by rw [HPN.out] at hn;cases hn⟩;exact (((HO0.out.trans HO2.out (fun _ hk=>by cases hk)).setCell (p:=⟨sz+1,0,none⟩) (Or.inr (by show w.heap.size≤sz+1;rw [HSZ.out];omega)) _).setCell (p:=⟨sz+1,1,none⟩) (Or.inr (by show w.heap.size≤sz+1;rw [HSZ.out];omega)) _)
 · have e0:decide (x.k=0)=false:=decide_eq_false hk
   rw [e0] at hf;have HPN:Hid (∀ b,placeN x b=some (resNod b x)):=fun b=>if_neg hk;clear e0 hk
   go_wp2_with (go_at_call 169;refine hf.mono ?_;rintro e w2 ⟨rfl,o2⟩;have HO2:Hid (Only [] w0 w2):=o2;obtain ⟨b0,b1⟩:=HB0.out w2 o2;have y0:w2.cell? ⟨sz,0,none⟩=some (.int .i64 (x.g:Nat)):=cell_of_row _ _ 0 _ _ _ b0;have y1:w2.cell? ⟨sz,1,none⟩=some (.int .i64 (x.k:Nat)):=cell_of_row _ _ 1 _ _ _ b0;have y2:w2.cell? ⟨sz,2,none⟩=some (.int .i64 (x.c:Nat)):=cell_of_row _ _ 2 _ _ _ b0;have r0:w2.cell? ⟨sz+1,0,none⟩=some (.int .i64 0):=cell_of_row _ _ 0 _ _ _ b1;have r1:w2.cell? ⟨sz+1,1,none⟩=some (.pointer none):=cell_of_row _ _ 1 _ _ _ b1;have z0:w2.frozen? ⟨sz+1,0,none⟩=false:=frozen_of_row _ _ _ _ _ b1;have z1:w2.frozen? ⟨sz+1,1,none⟩=false:=frozen_of_row _ _ _ _ _ b1;have hl:=(Array.getElem?_eq_some_iff.1 b1).1;clear hf o2 b0 b1 x0 x1 x2)
   have hs2:w.heap.size≤w2.heap.size:=Nat.le_trans HO0.out.size HO2.out.size;have hON:Only [] w (w2.alloc (.cells #[.int .i64 (x.k:Nat),.int .i64 0,.int .i64 0,.int .i64 (x.c:Nat),.int .i64 0,.int .i64 0,.int .i64 0,.map none] 205)):=(HO0.out.trans HO2.out (fun _ hk=>by cases hk)).alloc _;have hNA:=resNod_at w2 x
   have hne:sz+1≠w2.heap.size:=by omega
   have e1:((w2.setCell ⟨sz+1,0,none⟩ (.int .i64 (x.g:Nat))).setCell ⟨sz+1,1,none⟩ (.pointer (some ⟨w2.heap.size,0,none⟩))).alloc (.cells #[.int .i64 (x.k:Nat),.int .i64 0,.int .i64 0,.int .i64 (x.c:Nat),.int .i64 0,.int .i64 0,.int .i64 0,.map none] 205)=((w2.alloc (.cells #[.int .i64 (x.k:Nat),.int .i64 0,.int .i64 0,.int .i64 (x.c:Nat),.int .i64 0,.int .i64 0,.int .i64 0,.map none] 205)).setCell ⟨sz+1,0,none⟩ (.int .i64 (x.g:Nat))).setCell ⟨sz+1,1,none⟩ (.pointer (some ⟨w2.heap.size,0,none⟩)):=by
     rw [World.setCell_alloc_past (w:=w2) _ (sz+1) _ _ hl,World.setCell_alloc_past (w:=w2.setCell _ _) _ (sz+1) _ _ (by simpa using hl)]
   have hfin:Only [] w (((w2.alloc (.cells #[.int .i64 (x.k:Nat),.int .i64 0,.int .i64 0,.int .i64 (x.c:Nat),.int .i64 0,.int .i64 0,.int .i64 0,.map none] 205)).setCell ⟨sz+1,0,none⟩ (.int .i64 (x.g:Nat))).setCell ⟨sz+1,1,none⟩ (.pointer (some ⟨w2.heap.size,0,none⟩))):=(hON.setCell (p:=⟨sz+1,0,none⟩) (Or.inr (by show w.heap.size≤sz+1;rw [HSZ.out];omega)) _).setCell (p:=⟨sz+1,1,none⟩) (Or.inr (by show w.heap.size≤sz+1;rw [HSZ.out];omega)) _;have hOS:Only [sz+1] (w2.alloc (.cells #[.int .i64 (x.k:Nat),.int .i64 0,.int .i64 0,.int .i64 (x.c:Nat),.int .i64 0,.int .i64 0,.int .i64 0,.map none] 205)) (((w2.alloc (.cells #[.int .i64 (x.k:Nat),.int .i64 0,.int .i64 0,.int .i64 (x.c:Nat),.int .i64 0,.int .i64 0,.int .i64 0,.map none] 205)).setCell ⟨sz+1,0,none⟩ (.int .i64 (x.g:Nat))).setCell ⟨sz+1,1,none⟩ (.pointer (some ⟨w2.heap.size,0,none⟩))):=((Only.refl [sz+1] _).setCell (p:=⟨sz+1,0,none⟩) (Or.inl (by simp)) _).setCell (p:=⟨sz+1,1,none⟩) (Or.inl (by simp)) _
   have hNF:NodAt (((w2.alloc (.cells #[.int .i64 (x.k:Nat),.int .i64 0,.int .i64 0,.int .i64 (x.c:Nat),.int .i64 0,.int .i64 0,.int .i64 0,.map none] 205)).setCell ⟨sz+1,0,none⟩ (.int .i64 (x.g:Nat))).setCell ⟨sz+1,1,none⟩ (.pointer (some ⟨w2.heap.size,0,none⟩))) (resNod w2.heap.size x):=hNA.kept hOS (fun k hk hm=>by
     have e2:k=w2.heap.size:=by
      have:(resNod w2.heap.size x).foot=[w2.heap.size]:=rfl;rw [this] at hk
      simpa using hk
     rw [e2] at hm
     exact hne (List.mem_singleton.1 hm).symm)
   have r0':(w2.alloc (.cells #[.int .i64 (x.k:Nat),.int .i64 0,.int .i64 0,.int .i64 (x.c:Nat),.int .i64 0,.int .i64 0,.int .i64 0,.map none] 205)).cell? ⟨sz+1,0,none⟩=some (.int .i64 0):=(((Only.refl [] w2).alloc _).cell (p:=⟨sz+1,0,none⟩) hl (by simp)).trans r0;have r1':(w2.alloc (.cells #[.int .i64 (x.k:Nat),.int .i64 0,.int .i64 0,.int .i64 (x.c:Nat),.int .i64 0,.int .i64 0,.int .i64 0,.map none] 205)).cell? ⟨sz+1,1,none⟩=some (.pointer none):=(((Only.refl [] w2).alloc _).cell (p:=⟨sz+1,1,none⟩) hl (by simp)).trans r1
   try rw [e1]
   refine bodyPost_ret (v := .agg #[.int .i64 (x.g:Nat),.pointer (some ⟨w2.heap.size,0,none⟩)]) (by simp [results,Tryz.results144,go_sem,r0',r1']) rfl ⟨w2.heap.size,by rw [HPN.out];rfl,?_,hs2,fun n hn=>?_⟩
   · exact hfin
   · rw [HPN.out] at hn
     simp only [Option.some.injEq] at hn;subst hn;exact ⟨hNF,rfl⟩
theorem TabAt.app {w w1:World}{t most b cap gx:Nat}{p:Row}{g:Nat→Nat}{nd:Nat→Option Nod}{pn:Option Nod}(h:TabAt w t p most g nd)(ho:Only p.a.toList w w1)(hr:w1.ownsRow 0 196 2 (.slice (some ⟨b,0,none⟩) (p.N+1) cap) (p.N+1) (rowOf placeCells (places p.N g nd)++placeCells (gx,pn)))
   (hb:p.a=some b∨w.heap.size≤b) (hn:∀ n,pn=some n→NodAt w1 n∧∀ k∈n.foot,w.heap.size≤k∧k≠b):TabAt (w1.setCell ⟨t,1,none⟩ (.slice (some ⟨b,0,none⟩) (p.N+1) cap)) t ⟨some b,p.N+1,cap⟩ most (setN g p.N gx) (setN nd p.N pn)∧Only (t::p.a.toList) w (w1.setCell ⟨t,1,none⟩ (.slice (some ⟨b,0,none⟩) (p.N+1) cap)):=by
 have ht:=h.tlt;have htp:t∉p.a.toList:=fun hm=>h.pt (by simpa using hm)
 have hbt:b≠t:=by
   rcases hb with h1 | h1
   · exact fun e=>h.pt (by rw [h1,e])
   · omega
 have o2:Only (t::p.a.toList) w (w1.setCell ⟨t,1,none⟩ (.slice (some ⟨b,0,none⟩) (p.N+1) cap)):=(ho.mono (L':=t::p.a.toList) (fun i hi=>Or.inl (List.mem_cons_of_mem _ hi))).setCell (Or.inl (by simp)) _;have o1t:Only [t] w1 (w1.setCell ⟨t,1,none⟩ (.slice (some ⟨b,0,none⟩) (p.N+1) cap)):=(Only.refl [t] w1).setCell (p:=⟨t,1,none⟩) (Or.inl (by simp)) _;have c1:=(ho.cell (p:=⟨t,1,none⟩) ht htp).trans h.tab
 have hfoot:∀ i n,nd i=some n→∀ k∈n.foot,k∉t::p.a.toList:=fun i n hn k hk hm=>by
   obtain ⟨o1,o2⟩:=h.own i n hn;rcases List.mem_cons.1 hm with rfl | hm
   · exact o1 hk
   · exact o2 k (by simpa using hm) hk
 have old:∀ j n,j≠p.N→setN nd p.N pn j=some n→nd j=some n:=fun j n hne e=>by rw [setN_other _ _ hne] at e;exact e
 have hlt:∀ j n,nd j=some n→∀ k∈n.foot,k < w.heap.size:=fun j n e=>(h.node j n e).foot_lt;refine ⟨⟨?_,World.cell?_setCell_same _ _ _ c1,fun o=>?_,(h.ty.only ho htp).set _ _,?_,fun i hi=>?_,by simpa using hbt,fun i n e=>?_,fun i j n n' e e' hij=>?_,fun i n e=>?_⟩,o2⟩
 · rw [World.cell?_setCell_other _ _ _ _ (by simp)]
   exact (ho.cell (p:=⟨t,0,none⟩) ht htp).trans h.most
 · rw [World.frozen?_setCell]
   exact (ho.frozen (p:=⟨t,o,none⟩) ht htp).trans (h.tfz o)
 · have e1:places (p.N+1) (setN g p.N gx) (setN nd p.N pn)=places p.N g nd++[(gx,pn)]:=by
     rw [places_more,setN_same,setN_same];congr 1;exact places_congr (fun i hi=>setN_other _ _ (by omega)) (fun i hi=>setN_other _ _ (by omega))
   show World.ownsRow _ 0 _ 2 _ (p.N+1) (rowOf placeCells (places (p.N+1) _ _));rw [e1,rowOf_append,rowOf_single];exact o1t.owns hr (fun k hk=>by have e:b=k:=Option.some.inj ((Row.own ⟨some b,p.N+1,cap⟩).symm.trans hk);subst e;simpa using hbt)
 · have hi':p.N+1≤i:=hi
   rw [setN_other _ _ (by omega),setN_other _ _ (by omega)];exact h.out i (by omega)
 · by_cases hiN:i=p.N
   · subst hiN
     rw [setN_same] at e
     exact (hn n e).1.kept o1t (fun k hk hm=>by
       have:=((hn n e).2 k hk).1;rw [List.mem_singleton.1 hm] at this
       omega)
   · exact (h.node i n (old i n hiN e)).kept o2 (hfoot i n (old i n hiN e))
 · by_cases hiN:i=p.N
   · subst hiN
     rw [setN_same] at e;intro k hk hk';have h1:=((hn n e).2 k hk).1;have h2:=hlt j n' (old j n' (Ne.symm hij) e') k hk';omega
   · by_cases hjN:j=p.N
     · subst hjN
       rw [setN_same] at e';intro k hk hk';have h1:=((hn n' e').2 k hk').1;have h2:=hlt i n (old i n hiN e) k hk;omega
     · exact h.apart i j n n' (old i n hiN e) (old j n' hjN e') hij
 · by_cases hiN:i=p.N
   · subst hiN
     rw [setN_same] at e;refine ⟨fun hk=>by have:=((hn n e).2 t hk).1;omega,fun b' hb' hk=>?_⟩;simp only [Option.some.injEq] at hb';exact ((hn n e).2 b' hk).2 hb'.symm
   · refine ⟨(h.own i n (old i n hiN e)).1,fun b' hb' hk=>?_⟩
     simp only [Option.some.injEq] at hb';subst hb';rcases hb with h1 | h1
     · exact (h.own i n (old i n hiN e)).2 b h1 hk
     · have:=hlt i n (old i n hiN e) b hk
       omega
end
end Go.Proofs.YtbdfjbmocifhmaaGreatDoor
