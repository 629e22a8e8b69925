import Derived.Test.YtbdfjbmocifhmaaGreatDoorK7
import Derived.OwnWalk
set_option maxHeartbeats 8000000
namespace Go.Proofs.YtbdfjbmocifhmaaGreatDoor
section
open Go Go.RowKit Go.Deep Go.Maps
theorem Only.drewN {L:List Nat}{a w:World}(h:Only L a w)(n:Nat):Only L a (w.drewN n):=⟨h.os,h.tape,h.output,h.size,h.block⟩
def FoundAt (c:Prop)(E:Value)(pa:Option Addr)(e:Ending):Prop:=(c∧e = .returned (.tuple #[.pointer none,E]))∨(¬ c∧e = .returned (.tuple #[.pointer pa,.nilIface]))
theorem find_at (w:World)(t:Nat)(p:Row)(most i:Nat)(g:Nat→Nat)(nd:Nat→Option Nod)(G:Int)(E:Value)(h:TabAt w t p most g nd)(hi:i < p.N)(hE:w.cell? ⟨10,0,none⟩=some E):
  Calls Tryz.prog 127 #[.pointer (some ⟨t,0,none⟩),.agg #[.int .i64 i,.int .i64 G]] w fun e w'=>FoundAt ((nd i).isNone=true∨(g i:Int)≠G) E ((nd i).map (fun n=>⟨n.b,0,none⟩)) e∧Only [] w w':=by
 have ct:=h.tab;obtain ⟨b,hb,c0,c1,_,hlt⟩:=h.place_at hi;have hpt:b≠t:=fun e=>h.pt (by rw [hb,e]);clear h;obtain ⟨a,most,cap⟩:=p;simp only at hb hi;subst hb;simp only [Row.v,Option.map_some] at ct;have htl:t < w.heap.size:=lt_of_cell ct;generalize hpa:(nd i).map (fun n=>(⟨n.b,0,none⟩:Addr))=pa at c1 ⊢
 have hn:(nd i).isNone=pa.isNone:=by subst hpa;cases nd i<;>rfl
 rw [hn];clear hpa hn nd;generalize g i=gi at c0 ⊢;clear g;have hd1:decide ((i:Int) < 0)=false:=decide_eq_false (by omega);have hd2:decide ((most:Int)≤(i:Int))=false:=decide_eq_false (by omega)
 go_enter Tryz.func127,Tryz.ntmps127
 go_wp2
 go_big_quiet (fail)
 go_wp2
 go_region
 have hcall:=isFree_any ((((w.alloc (.cells #[.int .i64 (i:Int),.int .i64 G] 34)).drewN (nq+1)).alloc (.cells #[.int .i64 (gi:Nat),.pointer pa] 196))) gi pa;have HO:Hid (Only [] w (((w.alloc (.cells #[.int .i64 (i:Int),.int .i64 G] 34)).drewN (nq+1)).alloc (.cells #[.int .i64 (gi:Nat),.pointer pa] 196))):=(((Only.refl _ _).alloc _).drewN _).alloc _
 have e0:(((w.alloc (.cells #[.int .i64 (i:Int),.int .i64 G] 34)).drewN (nq+1)).alloc (.cells #[.int .i64 (gi:Nat),.pointer pa] 196)).cell? ⟨w.heap.size,1,none⟩=some (.int .i64 G):=by
  rw [World.cell?_alloc_lt _ _ _ (by simp)];exact cell_of_row _ _ 1 _ _ _ (heap_alloc_last w _)
 have e1:(((w.alloc (.cells #[.int .i64 (i:Int),.int .i64 G] 34)).drewN (nq+1)).alloc (.cells #[.int .i64 (gi:Nat),.pointer pa] 196)).cell? ⟨w.heap.size+1,0,none⟩=some (.int .i64 gi):=by
  have:=heap_alloc_last ((w.alloc (.cells #[.int .i64 (i:Int),.int .i64 G] 34)).drewN (nq+1)) (.cells #[.int .i64 (gi:Nat),.pointer pa] 196);simp only [World.drewN,World.size_alloc] at this;exact cell_of_row _ _ 0 _ _ _ this
 have e2:(((w.alloc (.cells #[.int .i64 (i:Int),.int .i64 G] 34)).drewN (nq+1)).alloc (.cells #[.int .i64 (gi:Nat),.pointer pa] 196)).cell? ⟨w.heap.size+1,1,none⟩=some (.pointer pa):=by
  have:=heap_alloc_last ((w.alloc (.cells #[.int .i64 (i:Int),.int .i64 G] 34)).drewN (nq+1)) (.cells #[.int .i64 (gi:Nat),.pointer pa] 196);simp only [World.drewN,World.size_alloc] at this;exact cell_of_row _ _ 1 _ _ _ this
 have HE:Hid (w.cell? ⟨10,0,none⟩=some E):=hE;clear c0 c1 ct hE;generalize (((w.alloc (.cells #[.int .i64 (i:Int),.int .i64 G] 34)).drewN (nq+1)).alloc (.cells #[.int .i64 (gi:Nat),.pointer pa] 196))=wb at hcall HO e0 e1 e2 ⊢;have hl0:w.heap.size < wb.heap.size:=lt_of_cell e0;have hl1:w.heap.size+1 < wb.heap.size:=lt_of_cell e1;have hEl:10 < w.heap.size:=lt_of_cell HE.out
 cases pa with
 | none =>
  go_wp2_with (go_at_call 119;go_must (refine hcall.mono ?_);rintro e w2 ⟨rfl,ho2⟩;have HO2:Hid (Only [] w w2):=HO.out.trans ho2 (fun _ hk=>by cases hk);have cE:w2.cell? ⟨10,0,none⟩=some E:=(HO2.out.cell (p:=⟨10,0,none⟩) hEl (by simp)).trans HE.out)
  go_region
  go_wp2
  exact bodyPost_ret (v := .tuple #[.pointer none,E]) (by simp [results,Tryz.results127,go_sem]) rfl ⟨Or.inl ⟨Or.inl rfl,rfl⟩,HO2.out.drew⟩
 | some a =>
  by_cases hG:(gi:Int)=G
  · subst hG
    go_wp2_with (go_at_call 119;go_must (refine hcall.mono ?_);rintro e w2 ⟨rfl,ho2⟩;have HO2:Hid (Only [] w w2):=HO.out.trans ho2 (fun _ hk=>by cases hk);have x0:=(ho2.cell (p:=⟨w.heap.size,1,none⟩) hl0 (by simp)).trans e0;have x1:=(ho2.cell (p:=⟨w.heap.size+1,0,none⟩) hl1 (by simp)).trans e1;have x2:=(ho2.cell (p:=⟨w.heap.size+1,1,none⟩) hl1 (by simp)).trans e2)
    exact bodyPost_ret (v := .tuple #[.pointer (some a),.nilIface]) (by simp [results,Tryz.results127,go_sem]) rfl ⟨Or.inr ⟨by simp,rfl⟩,HO2.out⟩
  · go_wp2_with (go_at_call 119;go_must (refine hcall.mono ?_);rintro e w2 ⟨rfl,ho2⟩;have HO2:Hid (Only [] w w2):=HO.out.trans ho2 (fun _ hk=>by cases hk);have x0:=(ho2.cell (p:=⟨w.heap.size,1,none⟩) hl0 (by simp)).trans e0;have x1:=(ho2.cell (p:=⟨w.heap.size+1,0,none⟩) hl1 (by simp)).trans e1;have cE:w2.cell? ⟨10,0,none⟩=some E:=(HO2.out.cell (p:=⟨10,0,none⟩) hEl (by simp)).trans HE.out)
    go_region
    go_wp2
    exact bodyPost_ret (v := .tuple #[.pointer none,E]) (by simp [results,Tryz.results127,go_sem]) rfl ⟨Or.inl ⟨Or.inr hG,rfl⟩,HO2.out.drew⟩
theorem find_ok (w:World)(t:Nat)(p:Row)(most i:Nat)(g:Nat→Nat)(nd:Nat→Option Nod)(n:Nod)(h:TabAt w t p most g nd)(hn:nd i=some n):
  Calls Tryz.prog 127 #[.pointer (some ⟨t,0,none⟩),.agg #[.int .i64 i,.int .i64 (g i:Nat)]] w fun e w'=>e = .returned (.tuple #[.pointer (some ⟨n.b,0,none⟩),.nilIface])∧Only [] w w':=by
 have hi:=h.lt hn;have ct:=h.tab;obtain ⟨b,hb,c0,c1,_,hlt⟩:=h.place_at hi;have hpt:b≠t:=fun e=>h.pt (by rw [hb,e]);clear h;obtain ⟨a,most,cap⟩:=p;simp only at hb hi;subst hb;simp only [Row.v,Option.map_some] at ct;have htl:t < w.heap.size:=lt_of_cell ct;rw [hn,Option.map_some] at c1;clear hn nd;generalize n.b=nb at c1 ⊢;obtain ⟨pa,hpa⟩:∃ pa:Option Addr,pa=some ⟨nb,0,none⟩:=⟨_,rfl⟩;rw [← hpa] at c1;have HPA:Hid (pa=some ⟨nb,0,none⟩):=hpa;clear hpa;generalize g i=gi at c0 ⊢;clear g;have hd1:decide ((i:Int) < 0)=false:=decide_eq_false (by omega);have hd2:decide ((most:Int)≤(i:Int))=false:=decide_eq_false (by omega)
 go_enter Tryz.func127,Tryz.ntmps127
 go_wp2
 go_big_quiet (fail)
 go_wp2
 go_region
 have hcall:=isFree_any ((((w.alloc (.cells #[.int .i64 (i:Int),.int .i64 (gi:Nat)] 34)).drewN (nq+1)).alloc (.cells #[.int .i64 (gi:Nat),.pointer pa] 196))) gi pa;have HO:Hid (Only [] w (((w.alloc (.cells #[.int .i64 (i:Int),.int .i64 (gi:Nat)] 34)).drewN (nq+1)).alloc (.cells #[.int .i64 (gi:Nat),.pointer pa] 196))):=(((Only.refl _ _).alloc _).drewN _).alloc _
 have e0:(((w.alloc (.cells #[.int .i64 (i:Int),.int .i64 (gi:Nat)] 34)).drewN (nq+1)).alloc (.cells #[.int .i64 (gi:Nat),.pointer pa] 196)).cell? ⟨w.heap.size,1,none⟩=some (.int .i64 (gi:Nat)):=by
  rw [World.cell?_alloc_lt _ _ _ (by simp)];exact cell_of_row _ _ 1 _ _ _ (heap_alloc_last w _)
 have e1:(((w.alloc (.cells #[.int .i64 (i:Int),.int .i64 (gi:Nat)] 34)).drewN (nq+1)).alloc (.cells #[.int .i64 (gi:Nat),.pointer pa] 196)).cell? ⟨w.heap.size+1,0,none⟩=some (.int .i64 gi):=by
  have:=heap_alloc_last ((w.alloc (.cells #[.int .i64 (i:Int),.int .i64 (gi:Nat)] 34)).drewN (nq+1)) (.cells #[.int .i64 (gi:Nat),.pointer pa] 196);simp only [World.drewN,World.size_alloc] at this;exact cell_of_row _ _ 0 _ _ _ this
 have e2:(((w.alloc (.cells #[.int .i64 (i:Int),.int .i64 (gi:Nat)] 34)).drewN (nq+1)).alloc (.cells #[.int .i64 (gi:Nat),.pointer pa] 196)).cell? ⟨w.heap.size+1,1,none⟩=some (.pointer pa):=by
  have:=heap_alloc_last ((w.alloc (.cells #[.int .i64 (i:Int),.int .i64 (gi:Nat)] 34)).drewN (nq+1)) (.cells #[.int .i64 (gi:Nat),.pointer pa] 196);simp only [World.drewN,World.size_alloc] at this;exact cell_of_row _ _ 1 _ _ _ this
 clear c0 c1 ct;generalize (((w.alloc (.cells #[.int .i64 (i:Int),.int .i64 (gi:Nat)] 34)).drewN (nq+1)).alloc (.cells #[.int .i64 (gi:Nat),.pointer pa] 196))=wb at hcall HO e0 e1 e2 ⊢;have hl0:w.heap.size < wb.heap.size:=lt_of_cell e0;have hl1:w.heap.size+1 < wb.heap.size:=lt_of_cell e1;obtain rfl:=HPA.out;clear HPA
 go_wp2_with (go_at_call 119;go_must (refine hcall.mono ?_);rintro e w2 ⟨rfl,ho2⟩;have HO2:Hid (Only [] w w2):=HO.out.trans ho2 (fun _ hk=>by cases hk);have x0:=(ho2.cell (p:=⟨w.heap.size,1,none⟩) hl0 (by simp)).trans e0;have x1:=(ho2.cell (p:=⟨w.heap.size+1,0,none⟩) hl1 (by simp)).trans e1;have x2:=(ho2.cell (p:=⟨w.heap.size+1,1,none⟩) hl1 (by simp)).trans e2)
 exact bodyPost_ret (v := .tuple #[.pointer (some ⟨nb,0,none⟩),.nilIface]) (by simp [results,Tryz.results127,go_sem]) rfl ⟨rfl,HO2.out⟩
theorem placeInfo:(Tryz.prog.info? 196).map (fun i=>(i.zero,i.size,i.bytes))=some (some (.agg #[.int .i64 0,.pointer none]),2,16):=by kernel_rfl
theorem placesUnd:Tryz.prog.underlying 138=some (.slice 196):=by kernel_rfl
theorem tnew_bound (w:World)(most:Int)(E:Value)(hE:w.cell? ⟨2,0,none⟩=some E)(h:most < 1∨300 < most):
   Calls Tryz.prog 21 #[.int .i64 most] w fun e w'=>e = .returned (.tuple #[.pointer none,E])∧Only [] w w':=by
 by_cases h1:most < 1
 · have hd:decide (most < 1)=true:=decide_eq_true h1
   go_enter Tryz.func21,Tryz.ntmps21
   go_wp2
   go_region
   go_wp2
   exact bodyPost_ret (v := .tuple #[.pointer none,E]) (by simp [results,Tryz.results21,go_sem]) rfl ⟨rfl,(Only.refl _ _).drew⟩
 · have hd:decide (most < 1)=false:=decide_eq_false h1
   have hd2:decide (300 < most)=true:=decide_eq_true (by omega)
   go_enter Tryz.func21,Tryz.ntmps21
   go_wp2
   go_region
   go_wp2
   exact bodyPost_ret (v := .tuple #[.pointer none,E]) (by simp [results,Tryz.results21,go_sem]) rfl ⟨rfl,(Only.refl _ _).drew⟩
def noRow:Row:=⟨none,0,0⟩
theorem tnew (w:World)(most:Nat)(h1:1≤most)(h2:most≤300):
  Calls Tryz.prog 21 #[.int .i64 most] w fun e w'=>∃ t,e = .returned (.tuple #[.pointer (some ⟨t,0,none⟩),.nilIface])∧TabAt w' t noRow most (fun _=>0) (fun _=>none)∧Only [] w w'∧w.heap.size≤t:=by
 have hd:decide ((most:Int) < 1)=false:=decide_eq_false (by omega);have hd2:decide (300 < (most:Int))=false:=decide_eq_false (by omega)
 go_enter Tryz.func21,Tryz.ntmps21
 go_wp2
 refine bodyPost_ret (v := .tuple #[.pointer (some ⟨w.heap.size,0,none⟩),.nilIface]) (by simp [results,Tryz.results21,go_sem]) rfl ⟨w.heap.size,rfl,?_,(Only.refl _ _).alloc _,Nat.le_refl _⟩;have hh:=heap_alloc_last w (.cells #[.int .i64 (most:Nat),.slice none 0 0] 140);refine ⟨cell_of_row _ _ 0 _ _ _ hh,cell_of_row _ _ 1 _ _ _ hh,fun o=>frozen_of_row _ _ _ _ _ hh,⟨_,_,hh⟩,World.ownsRow_nil _ _ _ _,fun _ _=>⟨rfl,rfl⟩,by simp [noRow],(fun i n hn=>by cases hn),(fun i j n n' hn=>by cases hn),(fun i n hn=>by cases hn)⟩
theorem own_pair {w w2:World}{a b:Int}{ty:TypeId}(h:Only [] (w.alloc (.cells #[.int .i64 a,.int .i64 b] ty)) w2):
  w2.cell? ⟨w.heap.size,0,none⟩=some (.int .i64 a)∧w2.cell? ⟨w.heap.size,1,none⟩=some (.int .i64 b)∧(∀ o,w2.frozen? ⟨w.heap.size,o,none⟩=false)∧w.heap.size < w2.heap.size:=by
 have hh:=heap_alloc_last w (.cells #[.int .i64 a,.int .i64 b] ty)
 have hlt:w.heap.size < (w.alloc (.cells #[.int .i64 a,.int .i64 b] ty)).heap.size:=by simp
 refine ⟨(h.cell (p:=⟨w.heap.size,0,none⟩) hlt (by simp)).trans (cell_of_row _ _ 0 _ _ _ hh),(h.cell (p:=⟨w.heap.size,1,none⟩) hlt (by simp)).trans (cell_of_row _ _ 1 _ _ _ hh),fun o=>?_,Nat.lt_of_lt_of_le hlt h.size⟩;rw [h.frozen (p:=⟨w.heap.size,o,none⟩) hlt (by simp)];unfold World.frozen?;rw [hh];simp
theorem Only.of_drew {L:List Nat}{w w':World}(h:Only L w.drew w'):Only L w w':=⟨h.os,h.tape,h.output,h.size,h.block⟩
end
end Go.Proofs.YtbdfjbmocifhmaaGreatDoor
