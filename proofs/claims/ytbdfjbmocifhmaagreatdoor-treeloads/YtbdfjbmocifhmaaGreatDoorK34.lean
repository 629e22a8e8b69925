import Derived.Test.YtbdfjbmocifhmaaGreatDoorK33
set_option maxRecDepth 100000
set_option maxHeartbeats 8000000
namespace Go.Proofs.YtbdfjbmocifhmaaGreatDoor
section
open Go Go.RowKit Go.Deep
section
variable {w w':World}{A:Nat→Addr}{lb xb:Nat}{tp v:Value}{t t':ByteArray}
theorem LdR.of (h:LdR w A lb xb tp v t)(ho:Only [xb] w w')(hr:w'.heap[xb]?=some (.cells #[.string t'] 183 (0,0)))(hl:t'.size≤15000):LdR w' A lb xb tp v t' :=
 ⟨(ho.block lb h.lt (by simpa using h.ne)).trans h.blk,hr,h.err.only ho (fun k hk=>⟨by simpa using (h.old k hk).1,by simpa using (h.old k hk).2.2.1⟩) (by simpa using h.typ.1),hl,h.old,h.typ⟩
theorem LdR.put (h:LdR w A lb xb tp v t)(hw:LdR w' A lb xb tp v t')(ho:Only [xb] w w'){b o:Nat}(hb:w.heap.size≤b)(u:Value):LdR (w'.setCell ⟨b,o,none⟩ u) A lb xb tp v t'∧Only [xb] w (w'.setCell ⟨b,o,none⟩ u):=by
 have h1:Only [xb] w (w'.setCell ⟨b,o,none⟩ u):=ho.setCell (p:=⟨b,o,none⟩) (Or.inr hb) _;have hx:=h.ltx;exact ⟨h.of h1 ((Below.heap_setCell w' ⟨b,o,none⟩ u xb (by show xb≠b;omega)).trans hw.rd) hw.le,h1⟩
end
abbrev nmV (x:Nmb):Value := .agg #[.int .i64 (x.g:Nat),.int .i64 (x.k:Nat),.int .i64 (x.c:Nat)]
theorem given_ends (A:Nat→Addr)(lb xb:Nat)(tp v:Value)(t:ByteArray)(w:World)(h:LdR w A lb xb tp v t):
   Calls Tryz.prog 111 #[.pointer (some ⟨lb,0,none⟩)] w (REnd A lb xb tp v w t pGiven nmV):=by
 have H:Hid (LdR w A lb xb tp v t):=h;have o0:Only [] w ((w.alloc (.cells #[.int .i64 0,.int .i64 0,.int .i64 0] 96)).alloc (.cells #[.int .i64 0,.int .i64 0,.int .i64 0] 96)):=((Only.refl [] w).alloc _).alloc _
 have hh1:((w.alloc (.cells #[.int .i64 0,.int .i64 0,.int .i64 0] 96)).alloc (.cells #[.int .i64 0,.int .i64 0,.int .i64 0] 96)).heap[w.heap.size+1]?=some (.cells #[.int .i64 0,.int .i64 0,.int .i64 0] 96 (0,0)):=by
   have:=heap_alloc_last (w.alloc (.cells #[.int .i64 0,.int .i64 0,.int .i64 0] 96)) (.cells #[.int .i64 0,.int .i64 0,.int .i64 0] 96);rw [World.size_alloc] at this;exact this
 have hh0:((w.alloc (.cells #[.int .i64 0,.int .i64 0,.int .i64 0] 96)).alloc (.cells #[.int .i64 0,.int .i64 0,.int .i64 0] 96)).heap[w.heap.size]?=some (.cells #[.int .i64 0,.int .i64 0,.int .i64 0] 96 (0,0)) :=
   (((Only.refl [] (w.alloc (.cells #[.int .i64 0,.int .i64 0,.int .i64 0] 96))).alloc _).block w.heap.size (by simp) (by simp)).trans (heap_alloc_last w _)
 have h0:=h.only o0;have hn1:=number_ends A lb xb tp v t 2 _ h0;have HN:Hid (∀ W t' (m:Int),LdR W A lb xb tp v t'→Calls Tryz.prog 110 #[.pointer (some ⟨lb,0,none⟩),.int .i64 m] W (REnd A lb xb tp v W t' (pNum m) (fun n => .int .i64 (n:Nat)))):=fun W t' m k=>number_ends A lb xb tp v t' m W k;have hxl:=h.ltx;generalize hw0:(w.alloc (.cells #[.int .i64 0,.int .i64 0,.int .i64 0] 96)).alloc (.cells #[.int .i64 0,.int .i64 0,.int .i64 0] 96)=w0 at o0 hh0 hh1 h0 hn1;have HO0:Hid (Only [] w w0):=o0;have HXL:Hid (xb < w.heap.size):=hxl;have HB0:Hid (w0.heap[w.heap.size]?=some (.cells #[.int .i64 0,.int .i64 0,.int .i64 0] 96 (0,0))∧w0.heap[w.heap.size+1]?=some (.cells #[.int .i64 0,.int .i64 0,.int .i64 0] 96 (0,0))):=⟨hh0,hh1⟩;clear h o0 hh0 hh1 h0 hxl
 go_enter Tryz.func111,Tryz.ntmps111
 go_upto_region 2 with fail
 obtain ⟨sz,hsz⟩:∃ sz,w.heap.size=sz:=⟨_,rfl⟩;rw [hsz] at HXL HB0 ⊢;have HSZ:Hid (w.heap.size=sz):=hsz;clear hw0 hsz
 go_wp2_with fail
 refine hn1.mono ?_;rintro e w1 (⟨k,t1,hp1,rfl,o1,h1⟩ | ⟨hp1,rfl,o1⟩)
 · have HP1:Hid (pNum 2 t=some (k,t1)):=hp1
   have HO1:Hid (Only [xb] w w1):=(HO0.out.mono (fun _ hk=>by cases hk)).trans o1 (fun _ hk=>Or.inl hk);have HL1:Hid (LdR w1 A lb xb tp v t1):=h1;have hb0:w1.heap[sz]?=some (.cells #[.int .i64 0,.int .i64 0,.int .i64 0] 96 (0,0)):=(o1.block sz (Array.getElem?_eq_some_iff.1 HB0.out.1).1 (by have:=HXL.out;simp;omega)).trans HB0.out.1;have hb1:w1.heap[sz+1]?=some (.cells #[.int .i64 0,.int .i64 0,.int .i64 0] 96 (0,0)):=(o1.block (sz+1) (Array.getElem?_eq_some_iff.1 HB0.out.2).1 (by have:=HXL.out;simp;omega)).trans HB0.out.2;have HB1:Hid (w1.heap[sz]?=some (.cells #[.int .i64 0,.int .i64 0,.int .i64 0] 96 (0,0))∧w1.heap[sz+1]?=some (.cells #[.int .i64 0,.int .i64 0,.int .i64 0] 96 (0,0))):=⟨hb0,hb1⟩;have q1:w1.cell? ⟨sz+1,1,none⟩=some (.int .i64 0):=cell_of_row _ _ 1 _ _ _ hb1;have f1:w1.frozen? ⟨sz+1,1,none⟩=false:=frozen_of_row _ _ _ _ _ hb1;have hl1:=(Array.getElem?_eq_some_iff.1 hb1).1
   have HK2:Hid (k≤2):=by have:=(pNum_le hp1).1;show k≤2;omega
   clear hn1 hp1 o1 h1 hb0 hb1
   go_upto_region 3 with fail
   obtain ⟨hL2,hO2⟩:=H.out.put HL1.out HO1.out (b:=sz+1) (o:=1) (by rw [HSZ.out];omega) (.int .i64 (k:Nat));have HB2:Hid ((w1.setCell ⟨sz+1,1,none⟩ (.int .i64 (k:Nat))).heap[sz]?=some (.cells #[.int .i64 0,.int .i64 0,.int .i64 0] 96 (0,0))∧(w1.setCell ⟨sz+1,1,none⟩ (.int .i64 (k:Nat))).heap[sz+1]?=some (.cells #[.int .i64 0,.int .i64 (k:Nat),.int .i64 0] 96 (0,0))):=⟨(Below.heap_setCell w1 ⟨sz+1,1,none⟩ _ sz (by show sz≠sz+1;omega)).trans HB1.out.1,heap_setCell_same w1 (sz+1) 1 _ _ _ HB1.out.2⟩;have HO2:Hid (Only [xb] w (w1.setCell ⟨sz+1,1,none⟩ (.int .i64 (k:Nat)))):=hO2;have hn2:=HN.out _ t1 manyT hL2;clear q1 f1 hl1 hO2 hL2;generalize w1.setCell ⟨sz+1,1,none⟩ (.int .i64 (k:Nat))=w2 at HB2 HO2 hn2 ⊢;have hn2':Calls Tryz.prog 110 #[.pointer (some ⟨lb,0,none⟩),.int .i64 4611686018427387903] w2 (REnd A lb xb tp v w2 t1 (pNum manyT) (fun n => .int .i64 (n:Nat))):=hn2;clear hn2
   go_wp2_with fail
   refine hn2'.mono ?_;rintro e w3 (⟨g,t2,hp2,rfl,o3,h3⟩ | ⟨hp2,rfl,o3⟩)
   · have HP2:Hid (pNum manyT t1=some (g,t2)):=hp2
     have HO3:Hid (Only [xb] w w3):=HO2.out.trans o3 (fun _ hk=>Or.inl hk);have HL3:Hid (LdR w3 A lb xb tp v t2):=h3;have hb0:w3.heap[sz]?=some (.cells #[.int .i64 0,.int .i64 0,.int .i64 0] 96 (0,0)):=(o3.block sz (Array.getElem?_eq_some_iff.1 HB2.out.1).1 (by have:=HXL.out;simp;omega)).trans HB2.out.1;have hb1:w3.heap[sz+1]?=some (.cells #[.int .i64 0,.int .i64 (k:Nat),.int .i64 0] 96 (0,0)):=(o3.block (sz+1) (Array.getElem?_eq_some_iff.1 HB2.out.2).1 (by have:=HXL.out;simp;omega)).trans HB2.out.2;have HB3:Hid (w3.heap[sz]?=some (.cells #[.int .i64 0,.int .i64 0,.int .i64 0] 96 (0,0))∧w3.heap[sz+1]?=some (.cells #[.int .i64 0,.int .i64 (k:Nat),.int .i64 0] 96 (0,0))):=⟨hb0,hb1⟩;have q0:w3.cell? ⟨sz+1,0,none⟩=some (.int .i64 0):=cell_of_row _ _ 0 _ _ _ hb1;have f0:w3.frozen? ⟨sz+1,0,none⟩=false:=frozen_of_row _ _ _ _ _ hb1;have hl1:=(Array.getElem?_eq_some_iff.1 hb1).1;clear hn2' hp2 o3 h3 hb0 hb1
     go_upto_region 4 with fail
     obtain ⟨hL4,hO4⟩:=H.out.put HL3.out HO3.out (b:=sz+1) (o:=0) (by rw [HSZ.out];omega) (.int .i64 (g:Nat));have HB4:Hid ((w3.setCell ⟨sz+1,0,none⟩ (.int .i64 (g:Nat))).heap[sz]?=some (.cells #[.int .i64 0,.int .i64 0,.int .i64 0] 96 (0,0))∧(w3.setCell ⟨sz+1,0,none⟩ (.int .i64 (g:Nat))).heap[sz+1]?=some (.cells #[.int .i64 (g:Nat),.int .i64 (k:Nat),.int .i64 0] 96 (0,0))):=⟨(Below.heap_setCell w3 ⟨sz+1,0,none⟩ _ sz (by show sz≠sz+1;omega)).trans HB3.out.1,heap_setCell_same w3 (sz+1) 0 _ _ _ HB3.out.2⟩;have HO4:Hid (Only [xb] w (w3.setCell ⟨sz+1,0,none⟩ (.int .i64 (g:Nat)))):=hO4;have HL4:Hid (LdR (w3.setCell ⟨sz+1,0,none⟩ (.int .i64 (g:Nat))) A lb xb tp v t2):=hL4;clear q0 f0 hl1 hO4 hL4;generalize w3.setCell ⟨sz+1,0,none⟩ (.int .i64 (g:Nat))=w4 at HB4 HO4 HL4 ⊢;have u0:w4.cell? ⟨sz+1,0,none⟩=some (.int .i64 (g:Nat)):=cell_of_row _ _ 0 _ _ _ HB4.out.2;have u1:w4.cell? ⟨sz+1,1,none⟩=some (.int .i64 (k:Nat)):=cell_of_row _ _ 1 _ _ _ HB4.out.2;have u2:w4.cell? ⟨sz+1,2,none⟩=some (.int .i64 0):=cell_of_row _ _ 2 _ _ _ HB4.out.2;have r0:w4.cell? ⟨sz,0,none⟩=some (.int .i64 0):=cell_of_row _ _ 0 _ _ _ HB4.out.1;have r1:w4.cell? ⟨sz,1,none⟩=some (.int .i64 0):=cell_of_row _ _ 1 _ _ _ HB4.out.1;have r2:w4.cell? ⟨sz,2,none⟩=some (.int .i64 0):=cell_of_row _ _ 2 _ _ _ HB4.out.1
     have HRET:Hid (∀ W t3 (c:Nat),LdR W A lb xb tp v t3→Only [xb] w W→LdR (((W.setCell ⟨sz,0,none⟩ (.int .i64 (g:Nat))).setCell ⟨sz,1,none⟩ (.int .i64 (k:Nat))).setCell ⟨sz,2,none⟩ (.int .i64 (c:Nat))) A lb xb tp v t3∧Only [xb] w (((W.setCell ⟨sz,0,none⟩ (.int .i64 (g:Nat))).setCell ⟨sz,1,none⟩ (.int .i64 (k:Nat))).setCell ⟨sz,2,none⟩ (.int .i64 (c:Nat)))):=fun W t3 c hL hO=>by
       have hz:w.heap.size≤sz:=by rw [HSZ.out];exact Nat.le_refl _
       obtain ⟨a1,b1⟩:=H.out.put hL hO (b:=sz) (o:=0) hz (.int .i64 (g:Nat));obtain ⟨a2,b2⟩:=H.out.put a1 b1 (b:=sz) (o:=1) hz (.int .i64 (k:Nat));exact H.out.put a2 b2 (b:=sz) (o:=2) hz (.int .i64 (c:Nat))
     have zf:∀ o,w4.frozen? ⟨sz,o,none⟩=false:=fun o=>frozen_of_row _ _ _ _ _ HB4.out.1;have z0:=zf 0;have z1:=zf 1;have z2:=zf 2;have hl1:=(Array.getElem?_eq_some_iff.1 HB4.out.1).1;clear zf
     by_cases hk:k=0
     · subst hk
       have HPG:Hid (pGiven t=some (⟨g,0,0⟩,t2)):=by
         show _=_;unfold pGiven;rw [bindP_some HP1.out,bindP_some HP2.out,if_pos rfl];rfl
       go_wp2
       refine bodyPost_ret (v := .agg #[.int .i64 (g:Nat),.int .i64 0,.int .i64 0]) (by simp [results,Tryz.results111,go_sem,r0,r1,r2]) rfl (Or.inl ⟨⟨g,0,0⟩,t2,HPG.out,rfl,?_,?_⟩)
       · exact (HRET.out w4 t2 0 HL4.out HO4.out).2
       · exact (HRET.out w4 t2 0 HL4.out HO4.out).1
     · have d0:((k:Int) != 0)=true:=by simp;omega
       have hn3:Calls Tryz.prog 110 #[.pointer (some ⟨lb,0,none⟩),.int .i64 4611686018427387903] w4 (REnd A lb xb tp v w4 t2 (pNum manyT) (fun n => .int .i64 (n:Nat))):=HN.out w4 t2 manyT HL4.out
       go_wp2_with fail
       refine hn3.mono ?_;rintro e w5 (⟨c,t3,hp3,rfl,o5,h5⟩ | ⟨hp3,rfl,o5⟩)
       · have HPG:Hid (pGiven t=some (⟨g,k,c⟩,t3)):=by
           show _=_;unfold pGiven;rw [bindP_some HP1.out,bindP_some HP2.out,if_neg hk,bindP_some hp3];rfl
         have HO5:Hid (Only [xb] w w5):=HO4.out.trans o5 (fun _ hk=>Or.inl hk);have HL5:Hid (LdR w5 A lb xb tp v t3):=h5;have hb0:w5.heap[sz]?=some (.cells #[.int .i64 0,.int .i64 0,.int .i64 0] 96 (0,0)):=(o5.block sz (Array.getElem?_eq_some_iff.1 HB4.out.1).1 (by have:=HXL.out;simp;omega)).trans HB4.out.1;have hb1:w5.heap[sz+1]?=some (.cells #[.int .i64 (g:Nat),.int .i64 (k:Nat),.int .i64 0] 96 (0,0)):=(o5.block (sz+1) (Array.getElem?_eq_some_iff.1 HB4.out.2).1 (by have:=HXL.out;simp;omega)).trans HB4.out.2;have HB5:Hid (w5.heap[sz]?=some (.cells #[.int .i64 0,.int .i64 0,.int .i64 0] 96 (0,0))∧w5.heap[sz+1]?=some (.cells #[.int .i64 (g:Nat),.int .i64 (k:Nat),.int .i64 0] 96 (0,0))):=⟨hb0,hb1⟩;have q2:w5.cell? ⟨sz+1,2,none⟩=some (.int .i64 0):=cell_of_row _ _ 2 _ _ _ hb1;have f2:w5.frozen? ⟨sz+1,2,none⟩=false:=frozen_of_row _ _ _ _ _ hb1;have hl5:=(Array.getElem?_eq_some_iff.1 hb1).1;clear hn3 hp3 o5 h5 hb0 hb1 u0 u1 u2 r0 r1 r2 z0 z1 z2 hl1
         go_upto_region 6 with fail
         obtain ⟨hL6,hO6⟩:=H.out.put HL5.out HO5.out (b:=sz+1) (o:=2) (by rw [HSZ.out];omega) (.int .i64 (c:Nat));have HB6:Hid ((w5.setCell ⟨sz+1,2,none⟩ (.int .i64 (c:Nat))).heap[sz]?=some (.cells #[.int .i64 0,.int .i64 0,.int .i64 0] 96 (0,0))∧(w5.setCell ⟨sz+1,2,none⟩ (.int .i64 (c:Nat))).heap[sz+1]?=some (.cells #[.int .i64 (g:Nat),.int .i64 (k:Nat),.int .i64 (c:Nat)] 96 (0,0))):=⟨(Below.heap_setCell w5 ⟨sz+1,2,none⟩ _ sz (by show sz≠sz+1;omega)).trans HB5.out.1,heap_setCell_same w5 (sz+1) 2 _ _ _ HB5.out.2⟩;have HL6:Hid (LdR (w5.setCell ⟨sz+1,2,none⟩ (.int .i64 (c:Nat))) A lb xb tp v t3∧Only [xb] w (w5.setCell ⟨sz+1,2,none⟩ (.int .i64 (c:Nat)))):=⟨hL6,hO6⟩;clear q2 f2 hl5 hL6 hO6;generalize w5.setCell ⟨sz+1,2,none⟩ (.int .i64 (c:Nat))=w6 at HB6 HL6 ⊢;have u0:w6.cell? ⟨sz+1,0,none⟩=some (.int .i64 (g:Nat)):=cell_of_row _ _ 0 _ _ _ HB6.out.2;have u1:w6.cell? ⟨sz+1,1,none⟩=some (.int .i64 (k:Nat)):=cell_of_row _ _ 1 _ _ _ HB6.out.2;have u2:w6.cell? ⟨sz+1,2,none⟩=some (.int .i64 (c:Nat)):=cell_of_row _ _ 2 _ _ _ HB6.out.2;have r0:w6.cell? ⟨sz,0,none⟩=some (.int .i64 0):=cell_of_row _ _ 0 _ _ _ HB6.out.1;have r1:w6.cell? ⟨sz,1,none⟩=some (.int .i64 0):=cell_of_row _ _ 1 _ _ _ HB6.out.1;have r2:w6.cell? ⟨sz,2,none⟩=some (.int .i64 0):=cell_of_row _ _ 2 _ _ _ HB6.out.1;have z0:w6.frozen? ⟨sz,0,none⟩=false:=frozen_of_row _ _ _ _ _ HB6.out.1;have z1:w6.frozen? ⟨sz,1,none⟩=false:=frozen_of_row _ _ _ _ _ HB6.out.1;have z2:w6.frozen? ⟨sz,2,none⟩=false:=frozen_of_row _ _ _ _ _ HB6.out.1;have hl1:=(Array.getElem?_eq_some_iff.1 HB6.out.1).1
         go_wp2
         refine bodyPost_ret (v := .agg #[.int .i64 (g:Nat),.int .i64 (k:Nat),.int .i64 (c:Nat)]) (by simp [results,Tryz.results111,go_sem,r0,r1,r2]) rfl (Or.inl ⟨⟨g,k,c⟩,t3,HPG.out,rfl,?_,?_⟩)
         · exact (HRET.out w6 t3 c HL6.out.1 HL6.out.2).2
         · exact (HRET.out w6 t3 c HL6.out.1 HL6.out.2).1
       · have HPG:Hid (pGiven t=none):=by
           show _=_;unfold pGiven;rw [bindP_some HP1.out,bindP_some HP2.out,if_neg hk,bindP_none hp3]
         exact ⟨rfl,Or.inr ⟨HPG.out,rfl,HO4.out.trans o5 (fun _ hk=>Or.inl hk)⟩⟩
   · have HPG:Hid (pGiven t=none):=by
       show _=_;unfold pGiven;rw [bindP_some HP1.out,bindP_none hp2]
     exact ⟨rfl,Or.inr ⟨HPG.out,rfl,HO2.out.trans o3 (fun _ hk=>Or.inl hk)⟩⟩
 · have HPG:Hid (pGiven t=none):=by
     show _=_;unfold pGiven;rw [bindP_none hp1]
   exact ⟨rfl,Or.inr ⟨HPG.out,rfl,(HO0.out.mono (fun _ hk=>by cases hk)).trans o1 (fun _ hk=>Or.inl hk)⟩⟩
end
end Go.Proofs.YtbdfjbmocifhmaaGreatDoor
