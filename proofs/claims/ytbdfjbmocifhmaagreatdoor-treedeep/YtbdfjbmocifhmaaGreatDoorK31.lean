import Derived.Test.YtbdfjbmocifhmaaGreatDoorK30
set_option maxRecDepth 100000
set_option maxHeartbeats 8000000
namespace Go.Proofs.YtbdfjbmocifhmaaGreatDoor
section
open Go Go.RowKit Go.Deep
section
variable {w w':World}{A:Nat→Addr}{lb xb:Nat}{tp v:Value}{t t':ByteArray}
theorem LdR.of (h:LdR w A lb xb tp v t)(ho:Only [xb] w w')(hr:w'.heap[xb]?=some (.cells #[.string t'] 183 (0,0)))(hl:t'.size≤15000):LdR w' A lb xb tp v t' :=
 ⟨(ho.block lb h.lt (by simpa using h.ne)).trans h.blk,hr,h.err.only ho (fun k hk=>⟨by simpa using (h.old k hk).1,by simpa using (h.old k hk).2.2.1⟩) (by simpa using h.typ.1),hl,h.old,h.typ⟩
theorem LdR.put (h:LdR w A lb xb tp v t)(hw:LdR w' A lb xb tp v t')(ho:Only [xb] w w'){b o:Nat}(hb:w.heap.size≤b)(u:Value):LdR (w'.setCell ⟨b,o,none⟩ u) A lb xb tp v t'∧Only [xb] w (w'.setCell ⟨b,o,none⟩ u):=by
 have h1:Only [xb] w (w'.setCell ⟨b,o,none⟩ u):=ho.setCell (p:=⟨b,o,none⟩) (Or.inr hb) _;have hx:=h.ltx;exact ⟨h.of h1 ((Below.heap_setCell w' ⟨b,o,none⟩ u xb (by show xb≠b;omega)).trans hw.rd) hw.le,h1⟩
end
abbrev nmV (x:Nmb):Value := .agg #[.int .i64 (x.g:Nat),.int .i64 (x.k:Nat),.int .i64 (x.c:Nat)]
theorem given_ends (A:Nat→Addr)(lb xb:Nat)(tp v:Value)(t:ByteArray)(w:World)(h:LdR w A lb xb tp v t):
   Calls Tryz.prog 111 #[.pointer (some ⟨lb,0,none⟩)] w (REnd A lb xb tp v w t pGiven nmV):=by
 have H:Hid (LdR w A lb xb tp v t):=h;have o0:Only [] w ((w.alloc (.cells #[.int .i64 0,.int .i64 0,.int .i64 0] 96)).alloc (.cells #[.int .i64 0,.int .i64 0,.int .i64 0] 96)):=((Only.refl [] w).alloc _).alloc _
 have hh1:((w.alloc (.cells #[.int .i64 0,.int .i64 0,.int .i64 0] 96)).alloc (.cells #[.int .i64 0,.int .i64 0,.int .i64 0] 96)).heap[w.heap.size+1]?=some (.cells #[.int .i64 0,.int .i64 0,.int .i64 0] 96 (0,0)):=by
   have:=heap_alloc_last (w.alloc (.cells #[.int .i64 0,.int .i64 0,.int .i64 0] 96)) (.cells #[.int .i64 0,.int .i64 0,.int .i64 0] 96);rw [World.size_alloc] at this;exact this
 have hh0:((w.alloc (.cells #[.int .i64 0,.int .i64 0,.int .i64 0] 96)).alloc (.cells #[.int .i64 0,.int .i64 0,.int .i64 0] 96)).heap[w.heap.size]?=some (.cells #[.int .i64 0,.int .i64 0,.int .i64 0] 96 (0,0)) :=
   (((Only.refl [] (w.alloc (.cells #[.int .i64 0,.int .i64 0,.int .i64 0] 96))).alloc _).block w.heap.size (by simp) (by simp)).trans (heap_alloc_last w _)
 have h0:=h.only o0;have hn1:=number_ends A lb xb tp v t 2 _ h0;have HN:Hid (∀ W t' (m:Int),LdR W A lb xb tp v t'→Calls Tryz.prog 110 #[.pointer (some ⟨lb,0,none⟩),.int .i64 m] W (REnd A lb xb tp v W t' (pNum m) (fun n => .int .i64 (n:Nat)))):=fun W t' m k=>number_ends A lb xb tp v t' m W k;have hxl:=h.ltx;generalize hw0:(w.alloc (.cells #[.int .i64 0,.int .i64 0,.int .i64 0] 96)).alloc (.cells #[.int .i64 0,.int .i64 0,.int .i64 0] 96)=w0 at o0 hh0 hh1 h0 hn1;have HO0:Hid (Only [] w w0):=o0;have HXL:Hid (xb < w.heap.size):=hxl;have HB0:Hid (w0.heap[w.heap.size]?=some (.cells #[.int .i64 0,.int .i64 0,.int .i64 0] 96 (0,0))∧w0.heap[w.heap.size+1]?=some (.cells #[.int .i64 0,.int .i64 0,.int .i64 0] 96 (0,0))):=⟨hh0,hh1⟩;clear h o0 hh0 hh1 h0 hxl
 go_enter Tryz.func111,Tryz.ntmps111
 go_upto_region 2 with fail
 obtain ⟨sz,hsz⟩:∃ sz,w.heap.size=sz:=⟨_,rfl⟩;rw [hsz] at HXL HB0 ⊢;have HSZ:Hid (w.heap.size=sz):=hsz;clear hw0 hsz
 go_wp2_with fail
 refine hn1.mono ?_;rintro e w1 (⟨k,t1,hp1,rfl,o1,h1⟩ | ⟨hp1,rfl,o1⟩)
 · have HP1:Hid (pNum 2 t=some (k,t1)):=hp1
   have HO1:Hid (Only [xb] w w1):=(HO0.out.mono (fun _ hk=>by cases hk)).trans o1 (fun _ hk=>Or.inl hk);have HL1:Hid (LdR w1 A lb xb tp v t1):=h1;have hb0:w1.heap[sz]?=some (.cells #[.int .i64 0,.int .i64 0,.int .i64 0] 96 (0,0)):=(o1.block sz (Array.getElem?_eq_some_iff.1 HB0.out.1).1 (by have:=HXL.out;simp;omega)).trans HB0.out.1;have hb1:w1.heap[sz+1]?=some (.cells #[.int .i64 0,.int .i64 0,.int .i64 0] 96 (0,0)):=(o1.block (sz+1) (Array.getElem?_eq_some_iff.1 HB0.out.2).1 (by have:=HXL.out;simp;omega)).trans HB0.out.2;have HB1:Hid (w1.heap[sz]?=some (.cells #[.int .i64 0,.int .i64 0,.int .i64 0] 96 (0,0))∧w1.heap[sz+1]?=some (.cells #[.int .i64 0,.int .i64 0,.int .i64 0] 96 (0,0))):=⟨hb0,hb1⟩;have q1:w1.cell? ⟨sz+1,1,none⟩=some (.int .i64 0):=cell_of_row _ _ 1 _ _ _ hb1;have f1:w1.frozen? ⟨sz+1,1,none⟩=false:=frozen_of_row _ _ _ _ _ hb1;have hl1:=(Array.getElem?_eq_some_iff.1 hb1).1
   have HK2:Hid (k≤2):=by have:=(pNum_le hp1).1;show k≤2;omega
   clear hn1 hp1 o1 h1 hb0 hb1
   go_upto_region 3 with fail
   obtain ⟨hL2,hO2⟩:=H.out.put HL1.out HO1.out (b:=sz+1) (o:=1) (by rw [HSZ.out];omega) (.int .i64 (k:Nat));have HB2:Hid ((w1.setCell ⟨sz+1,1,none⟩ (.int .i64 (k:Nat))).heap[sz]?=some (.cells #[.int .i64 0,.int .i64 0,.int .i64 0] 96 (0,0))∧(w1.setCell ⟨sz+1,1,none⟩ (.int .i64 (k:Nat))).heap[sz+1]?=some (.cells #[.int .i64 0,.int .i64 (k:Nat),.int .i64 0] 96 (0,0))):=⟨(Below.heap_setCell w1 ⟨sz+1,1,none⟩ _ sz (by show sz≠sz+1;omega)).trans HB1.out.1,heap_setCell_same w1 (sz+1) 1 _ _ _ HB1.out.2⟩;have HO2:Hid (Only [xb] w (w1.setCell ⟨sz+1,1,none⟩ (.int .i64 (k:Nat)))):=hO2;have hn2:=HN.out _ t1 manyT hL2;clear q1 f1 hl1 hO2 hL2;generalize w1.setCell ⟨sz+1,1,none⟩ (.int .i64 (k:Nat))=w2 at HB2 HO2 hn2 ⊢;have hn2':Calls Tryz.prog 110 #[.pointer (some ⟨lb,0,none⟩),.int .i64 4611686018427387903] w2 (REnd A lb xb tp v w2 t1 (pNum manyT) (fun n => .int .i64 (n:Nat))):=hn2;clear hn2
   go_wp2_with fail
   refine hn2'.mono ?_;rintro e w3 (⟨g,t2,hp2,rfl,o3,h3⟩ | ⟨hp2,rfl,o3⟩)
   · have HP2:Hid (pNum manyT t1=some (g,t2)):=hp2
     have HO3:Hid (Only [xb] w w3):=HO2.out.trans o3 (fun _ hk=>Or.inl hk);have HL3:Hid (LdR w3 A lb xb tp v t2):=h3;have hb0:w3.heap[sz]?=some (.cells #[.int .i64 0,.int .i64 0,.int .i64 0] 96 (0,0)):=(o3.block sz (Array.getElem?_eq_some_iff.1 HB2.out.1).1 (by have:=HXL.out;simp;omega)).trans HB2.out.1;have hb1:w3.heap[sz+1]?=some (.cells #[.int .i64 0,.int .i64 (k:Nat),.int .i64 0] 96 (0,0)):=(o3.block (sz+1) (Array.getElem?_eq_some_iff.1 HB2.out.2).1 (by have:=HXL.out;simp;omega)).trans HB2.out.2;have HB3:Hid (w3.heap[sz]?=some (.cells #[.int .i64 0,.int .i64 0,.int .i64 0] 96 (0,0))∧w3.heap[sz+1]?=some (.cells #[.int .i64 0,.int .i64 (k:Nat),.int .i64 0] 96 (0,0))):=⟨hb0,hb1⟩;have q0:w3.cell? ⟨sz+1,0,none⟩=some (.int .i64 0):=cell_of_row _ _ 0 _ _ _ hb1;have f0:w3.frozen? ⟨sz+1,0,none⟩=false:=frozen_of_row _ _ _ _ _ hb1;have hl1:=(Array.getElem?_eq_some_iff.1 hb1).1;clear hn2' hp2 o3 h3 hb0 hb1
     go_upto_region 4 with fail
     obtain ⟨hL4,hO4⟩:=H.out.put HL3.out HO3.out (b:=sz+1) (o:=0) (by rw [HSZ.out];omega) (.int .i64 (g:Nat));have HB4:Hid ((w3.setCell ⟨sz+1,0,none⟩ (.int .i64 (g:Nat))).heap[sz]?=some (.cells #[.int .i64 0,.int .i64 0,.int .i64 0] 96 (0,0))∧(w3.setCell ⟨sz+1,0,none⟩ (.int .i64 (g:Nat))).heap[sz+1]?=some (.cells #[.int .i64 (g:Nat),.int .i64 (k:Nat),.int .i64 0] 96 (0,0))):=⟨(Below.heap_setCell w3 ⟨sz+1,0,none⟩ _ sz (by show sz≠sz+1;omega)).trans HB3.out.1,heap_setCell_same w3 (sz+1) 0 _ _ _ HB3.out.2⟩;have HO4:Hid (Only [xb] w (w3.setCell ⟨sz+1,0,none⟩ (.int .i64 (g:Nat)))):=hO4;have HL4:Hid (LdR (w3.setCell ⟨sz+1,0,none⟩ (.int .i64 (g:Nat))) A lb xb tp v t2):=hL4;clear q0 f0 hl1 hO4 hL4;generalize w3.setCell ⟨sz+1,0,none⟩ (.int .i64 (g:Nat))=w4 at HB4 HO4 HL4 ⊢;have u0:w4.cell? ⟨sz+1,0,none⟩=some (.int .i64 (g:Nat)):=cell_of_row _ _ 0 _ _ _ HB4.out.2;have u1:w4.cell? ⟨sz+1,1,none⟩=some (.int .i64 (k:Nat)):=cell_of_row _ _ 1 _ _ _ HB4.out.2;have u2:w4.cell? ⟨sz+1,2,none⟩=some (.int .i64 0):=cell_of_row _ _ 2 _ _ _ HB4.out.2;have r0:w4.cell? ⟨sz,0,none⟩=some (.int .i64 0):=cell_of_row _ _ 0 _ _ _ HB4.out.1;have r1:w4.cell? ⟨sz,1,none⟩=some (.int .i64 0):=cell_of_row _ _ 1 _ _ _ HB4.out.1;have r2:w4.cell? ⟨sz,2,none⟩=some (.int .i64 0):=cell_of_row _ _ 2 _ _ _ HB4.out.1
     have HRET:Hid (∀ W t3 (c:Nat),LdR W A lb xb tp v t3→Only [xb] w W→LdR (((W.setCell ⟨sz,0,none⟩ (.int .i64 (g:Nat))).setCell ⟨sz,1,none⟩ (.int .i64 (k:Nat))).setCell ⟨sz,2,none⟩ (.int .i64 (c:Nat))) A lb xb tp v t3∧Only [xb] w (((W.setCell ⟨sz,0,none⟩ (.int .i64 (g:Nat))).setCell ⟨sz,1,none⟩ (.int .i64 (k:Nat))).setCell ⟨sz,2,none⟩ (.int .i64 (c:Nat)))):=fun W t3 c hL hO=>by
       have hz:w.heap.size≤sz:=by rw [HSZ.out];exact Nat.le_refl _
       obtain ⟨a1,b1⟩:=H.out.put hL hO (b:=sz) (o:=0) hz (.int .i64 (g:Nat));obtain ⟨a2,b2⟩:=H.out.put a1 b1 (b:=sz) (o:=1) hz (.int .i64 (k:Nat));exact H.out.put a2 b2 (b:=sz) (o:=2) hz (.int .i64 (c:Nat))
     have zf:∀ o,w4.frozen? ⟨sz,o,none⟩=false:=fun o=>frozen_of_row _ _ _ _ _ HB4.out.1;have z0:=zf 0;have z1:=zf 1;have z2:=zf 2;have hl1:=(Array.getElem?_eq_some_iff.1 HB4.out.1).1;clear zf
     by_cases hk:k=0
     · subst hk
       have HPG:Hid (pGiven t=some (⟨g,0,0⟩,t2)):=by
         show _=_;unfold pGiven;rw [bindP_some HP1.out,bindP_some HP2.out,if_pos rfl];rfl
       go_wp2
       refine bodyPost_ret (v := .agg #[.int .i64 (g:Nat),.int .i64 0,.int .i64 0]) (by simp [results,Tryz.results111,go_sem,r0,r1,r2]) rfl (Or.inl ⟨⟨g,0,0⟩,t2,HPG.out,rfl,?_,?_⟩)
       · exact (HRET.out w4 t2 0 HL4.out HO4.out).2
       · exact (HRET.out w4 t2 0 HL4.out HO4.out).1
     · have d0:((k:Int) != 0)=true:=by simp;omega
       have hn3:Calls Tryz.prog 110 #[.pointer (some ⟨lb,0,none⟩),.int .i64 4611686018427387903] w4 (REnd A lb xb tp v w4 t2 (pNum manyT) (fun n => .int .i64 (n:Nat))):=HN.out w4 t2 manyT HL4.out
       go_wp2_with fail
       refine hn3.mono ?_;rintro e w5 (⟨c,t3,hp3,rfl,o5,h5⟩ | ⟨hp3,rfl,o5⟩)
       · have HPG:Hid (pGiven t=some (⟨g,k,c⟩,t3)):=by
           show _=_;unfold pGiven;rw [bindP_some HP1.out,bindP_some HP2.out,if_neg hk,bindP_some hp3];rfl
         have HO5:Hid (Only [xb] w w5):=HO4.out.trans o5 (fun _ hk=>Or.inl hk);have HL5:Hid (LdR w5 A lb xb tp v t3):=h5;have hb0:w5.heap[sz]?=some (.cells #[.int .i64 0,.int .i64 0,.int .i64 0] 96 (0,0)):=(o5.block sz (Array.getElem?_eq_some_iff.1 HB4.out.1).1 (by have:=HXL.out;simp;omega)).trans HB4.out.1;have hb1:w5.heap[sz+1]?=some (.cells #[.int .i64 (g:Nat),.int .i64 (k:Nat),.int .i64 0] 96 (0,0)):=(o5.block (sz+1) (Array.getElem?_eq_some_iff.1 HB4.out.2).1 (by have:=HXL.out;simp;omega)).trans HB4.out.2;have HB5:Hid (w5.heap[sz]?=some (.cells #[.int .i64 0,.int .i64 0,.int .i64 0] 96 (0,0))∧w5.heap[sz+1]?=some (.cells #[.int .i64 (g:Nat),.int .i64 (k:Nat),.int .i64 0] 96 (0,0))):=⟨hb0,hb1⟩;have q2:w5.cell? ⟨sz+1,2,none⟩=some (.int .i64 0):=cell_of_row _ _ 2 _ _ _ hb1;have f2:w5.frozen? ⟨sz+1,2,none⟩=false:=frozen_of_row _ _ _ _ _ hb1;have hl5:=(Array.getElem?_eq_some_iff.1 hb1).1;clear hn3 hp3 o5 h5 hb0 hb1 u0 u1 u2 r0 r1 r2 z0 z1 z2 hl1
         go_upto_region 6 with fail
         obtain ⟨hL6,hO6⟩:=H.out.put HL5.out HO5.out (b:=sz+1) (o:=2) (by rw [HSZ.out];omega) (.int .i64 (c:Nat));have HB6:Hid ((w5.setCell ⟨sz+1,2,none⟩ (.int .i64 (c:Nat))).heap[sz]?=some (.cells #[.int .i64 0,.int .i64 0,.int .i64 0] 96 (0,0))∧(w5.setCell ⟨sz+1,2,none⟩ (.int .i64 (c:Nat))).heap[sz+1]?=some (.cells #[.int .i64 (g:Nat),.int .i64 (k:Nat),.int .i64 (c:Nat)] 96 (0,0))):=⟨(Below.heap_setCell w5 ⟨sz+1,2,none⟩ _ sz (by show sz≠sz+1;omega)).trans HB5.out.1,heap_setCell_same w5 (sz+1) 2 _ _ _ HB5.out.2⟩;have HL6:Hid (LdR (w5.setCell ⟨sz+1,2,none⟩ (.int .i64 (c:Nat))) A lb xb tp v t3∧Only [xb] w (w5.setCell ⟨sz+1,2,none⟩ (.int .i64 (c:Nat)))):=⟨hL6,hO6⟩;clear q2 f2 hl5 hL6 hO6;generalize w5.setCell ⟨sz+1,2,none⟩ (.int .i64 (c:Nat))=w6 at HB6 HL6 ⊢;have u0:w6.cell? ⟨sz+1,0,none⟩=some (.int .i64 (g:Nat)):=cell_of_row _ _ 0 _ _ _ HB6.out.2;have u1:w6.cell? ⟨sz+1,1,none⟩=some (.int .i64 (k:Nat)):=cell_of_row _ _ 1 _ _ _ HB6.out.2;have u2:w6.cell? ⟨sz+1,2,none⟩=some (.int .i64 (c:Nat)):=cell_of_row _ _ 2 _ _ _ HB6.out.2;have r0:w6.cell? ⟨sz,0,none⟩=some (.int .i64 0):=cell_of_row _ _ 0 _ _ _ HB6.out.1;have r1:w6.cell? ⟨sz,1,none⟩=some (.int .i64 0):=cell_of_row _ _ 1 _ _ _ HB6.out.1;have r2:w6.cell? ⟨sz,2,none⟩=some (.int .i64 0):=cell_of_row _ _ 2 _ _ _ HB6.out.1;have z0:w6.frozen? ⟨sz,0,none⟩=false:=frozen_of_row _ _ _ _ _ HB6.out.1;have z1:w6.frozen? ⟨sz,1,none⟩=false:=frozen_of_row _ _ _ _ _ HB6.out.1;have z2:w6.frozen? ⟨sz,2,none⟩=false:=frozen_of_row _ _ _ _ _ HB6.out.1;have hl1:=(Array.getElem?_eq_some_iff.1 HB6.out.1).1
         go_wp2
         refine bodyPost_ret (v := .agg #[.int .i64 (g:Nat),.int .i64 (k:Nat),.int .i64 (c:Nat)]) (by simp [results,Tryz.results111,go_sem,r0,r1,r2]) rfl (Or.inl ⟨⟨g,k,c⟩,t3,HPG.out,rfl,?_,?_⟩)
         · exact (HRET.out w6 t3 c HL6.out.1 HL6.out.2).2
         · exact (HRET.out w6 t3 c HL6.out.1 HL6.out.2).1
       · have HPG:Hid (pGiven t=none):=by
           show _=_;unfold pGiven;rw [bindP_some HP1.out,bindP_some HP2.out,if_neg hk,bindP_none hp3]
         exact ⟨rfl,Or.inr ⟨HPG.out,rfl,HO4.out.trans o5 (fun _ hk=>Or.inl hk)⟩⟩
   · have HPG:Hid (pGiven t=none):=by
       show _=_;unfold pGiven;rw [bindP_some HP1.out,bindP_none hp2]
     exact ⟨rfl,Or.inr ⟨HPG.out,rfl,HO2.out.trans o3 (fun _ hk=>Or.inl hk)⟩⟩
 · have HPG:Hid (pGiven t=none):=by
     show _=_;unfold pGiven;rw [bindP_none hp1]
   exact ⟨rfl,Or.inr ⟨HPG.out,rfl,(HO0.out.mono (fun _ hk=>by cases hk)).trans o1 (fun _ hk=>Or.inl hk)⟩⟩
theorem numFree_any (w:World)(x:Nmb):Calls Tryz.prog 169 #[nmV x] w fun e w'=>e = .returned (.bool (decide (x.k=0)))∧Only [] w w':=by
 have hd:((x.k:Int)==0)=decide (x.k=0):=by
  by_cases h:x.k=0
  · rw [h];rfl
  · rw [beq_eq_false_iff_ne.2 (show ¬ ((x.k:Int)=0) by omega),decide_eq_false h]
 go_enter Tryz.func169,Tryz.ntmps169
 go_wp2
 go_ret
 exact ⟨by rw [← hd];rfl,(Only.refl [] w).alloc _⟩
def Nmb.bad (x:Nmb):Prop:=x.k=0∧x.g=0
theorem numCheck_any (A:Nat→Addr)(w:World)(x:Nmb)(hE:Errs w A)(hk:x.k≤2):Calls Tryz.prog 143 #[nmV x] w fun e w'=>((x.bad∧e = .returned (eV A 2))∨(¬ x.bad∧e = .returned .nilIface))∧Only [] w w':=by
 have o1:Only [] w (w.alloc (.cells #[.int .i64 (x.g:Nat),.int .i64 (x.k:Nat),.int .i64 (x.c:Nat)] 96)):=(Only.refl [] w).alloc _;have hh:=heap_alloc_last w (.cells #[.int .i64 (x.g:Nat),.int .i64 (x.k:Nat),.int .i64 (x.c:Nat)] 96)
 have HB:Hid (∀ W,Only [] (w.alloc (.cells #[.int .i64 (x.g:Nat),.int .i64 (x.k:Nat),.int .i64 (x.c:Nat)] 96)) W→W.cell? ⟨w.heap.size,0,none⟩=some (.int .i64 (x.g:Nat))∧W.cell? ⟨w.heap.size,1,none⟩=some (.int .i64 (x.k:Nat))∧W.cell? ⟨w.heap.size,2,none⟩=some (.int .i64 (x.c:Nat))∧W.cell? ⟨0,0,none⟩=some (eV A 2)):=fun W ho=>by
   have hb:=(ho.block w.heap.size (Array.getElem?_eq_some_iff.1 hh).1 (by simp)).trans hh;have c2:w.cell? ⟨0,0,none⟩=some (eV A 2):=hE.cell 2 (by decide);exact ⟨cell_of_row _ _ 0 _ _ _ hb,cell_of_row _ _ 1 _ _ _ hb,cell_of_row _ _ 2 _ _ _ hb,((o1.trans ho (fun _ hk=>by cases hk)).cell (lt_of_cell c2) (by simp)).trans c2⟩
 have HO:Hid (Only [] w (w.alloc (.cells #[.int .i64 (x.g:Nat),.int .i64 (x.k:Nat),.int .i64 (x.c:Nat)] 96))):=o1;obtain ⟨y0,y1,y2,y3⟩:=HB.out _ (Only.refl _ _);have hf1:=numFree_any (w.alloc (.cells #[.int .i64 (x.g:Nat),.int .i64 (x.k:Nat),.int .i64 (x.c:Nat)] 96)) x;have HF:Hid (∀ W,Calls Tryz.prog 169 #[nmV x] W fun e w'=>e = .returned (.bool (decide (x.k=0)))∧Only [] W w'):=fun W=>numFree_any W x;have d0:decide ((x.g:Int) < 0)=false:=decide_eq_false (by omega);have d1:decide ((x.c:Int) < 0)=false:=decide_eq_false (by omega);clear hE o1 hh
 by_cases hk0:x.k=0
 · have e0:decide (x.k=0)=true:=decide_eq_true hk0
   rw [e0] at hf1 HF
   by_cases hg0:x.g=0
   · have d2:((x.g:Int)==0)=true:=by rw [hg0];rfl
     have HBD:Hid (x.bad):=⟨hk0,hg0⟩;clear e0 hk0 hg0 hk
     go_enter Tryz.func143,Tryz.ntmps143
     go_wp2_with (go_at_call 169;refine hf1.mono ?_;rintro e w2 ⟨rfl,o2⟩;have HO2:Hid (Only [] (w.alloc (.cells #[.int .i64 (x.g:Nat),.int .i64 (x.k:Nat),.int .i64 (x.c:Nat)] 96)) w2):=o2;clear y0 y1 y2 y3;obtain ⟨y0,y1,y2,y3⟩:=HB.out w2 o2;clear hf1 o2)
     go_ret
     exact ⟨Or.inl ⟨HBD.out,rfl⟩,HO.out.trans HO2.out (fun _ hk=>by cases hk)⟩
   · have d2:((x.g:Int)==0)=false:=beq_eq_false_iff_ne.2 (by omega)
     have HBD:Hid (¬ x.bad):=fun h=>hg0 h.2;clear e0 hk0 hg0 hk
     go_enter Tryz.func143,Tryz.ntmps143
     go_wp2_with (first
      | (go_at_call 169;refine hf1.mono ?_;rintro e w2 ⟨rfl,o2⟩;have HO2:Hid (Only [] (w.alloc (.cells #[.int .i64 (x.g:Nat),.int .i64 (x.k:Nat),.int .i64 (x.c:Nat)] 96)) w2):=o2;clear y0 y1 y2 y3;obtain ⟨y0,y1,y2,y3⟩:=HB.out w2 o2;have hf2:=HF.out w2;clear hf1 o2)
      | (go_at_call 169;refine hf2.mono ?_;rintro e w3 ⟨rfl,o3⟩;have HO3:Hid (Only [] (w.alloc (.cells #[.int .i64 (x.g:Nat),.int .i64 (x.k:Nat),.int .i64 (x.c:Nat)] 96)) w3):=HO2.out.trans o3 (fun _ hk=>by cases hk);clear hf2 o3))
     go_ret
     exact ⟨Or.inr ⟨HBD.out,rfl⟩,HO.out.trans HO3.out (fun _ hk=>by cases hk)⟩
 · have e0:decide (x.k=0)=false:=decide_eq_false hk0
   rw [e0] at hf1 HF;have HBD:Hid (¬ x.bad):=fun h=>hk0 h.1
   have hk12:x.k=1∨x.k=2:=by omega
   rcases hk12 with hk1 | hk1
   · have d2:((x.k:Int) != 1)=false:=by rw [hk1];rfl
     clear e0 hk0 hk hk1
     go_enter Tryz.func143,Tryz.ntmps143
     go_wp2_with (first
      | (go_at_call 169;refine hf1.mono ?_;rintro e w2 ⟨rfl,o2⟩;have HO2:Hid (Only [] (w.alloc (.cells #[.int .i64 (x.g:Nat),.int .i64 (x.k:Nat),.int .i64 (x.c:Nat)] 96)) w2):=o2;clear y0 y1 y2 y3;obtain ⟨y0,y1,y2,y3⟩:=HB.out w2 o2;have hf2:=HF.out w2;clear hf1 o2)
      | (go_at_call 169;refine hf2.mono ?_;rintro e w3 ⟨rfl,o3⟩;have HO3:Hid (Only [] (w.alloc (.cells #[.int .i64 (x.g:Nat),.int .i64 (x.k:Nat),.int .i64 (x.c:Nat)] 96)) w3):=HO2.out.trans o3 (fun _ hk=>by cases hk);clear y0 y1 y2 y3;obtain ⟨y0,y1,y2,y3⟩:=HB.out w3 HO3.out;clear hf2 o3))
     go_ret
     exact ⟨Or.inr ⟨HBD.out,rfl⟩,HO.out.trans HO3.out (fun _ hk=>by cases hk)⟩
   · have d2:((x.k:Int) != 1)=true:=by rw [hk1];rfl
     have d3:((x.k:Int) != 2)=false:=by rw [hk1];rfl
     clear e0 hk0 hk hk1
     go_enter Tryz.func143,Tryz.ntmps143
     go_wp2_with (first
      | (go_at_call 169;refine hf1.mono ?_;rintro e w2 ⟨rfl,o2⟩;have HO2:Hid (Only [] (w.alloc (.cells #[.int .i64 (x.g:Nat),.int .i64 (x.k:Nat),.int .i64 (x.c:Nat)] 96)) w2):=o2;clear y0 y1 y2 y3;obtain ⟨y0,y1,y2,y3⟩:=HB.out w2 o2;have hf2:=HF.out w2;clear hf1 o2)
      | (go_at_call 169;refine hf2.mono ?_;rintro e w3 ⟨rfl,o3⟩;have HO3:Hid (Only [] (w.alloc (.cells #[.int .i64 (x.g:Nat),.int .i64 (x.k:Nat),.int .i64 (x.c:Nat)] 96)) w3):=HO2.out.trans o3 (fun _ hk=>by cases hk);clear y0 y1 y2 y3;obtain ⟨y0,y1,y2,y3⟩:=HB.out w3 HO3.out;clear hf2 o3))
     go_ret
     exact ⟨Or.inr ⟨HBD.out,rfl⟩,HO.out.trans HO3.out (fun _ hk=>by cases hk)⟩
def resNod (b:Nat)(x:Nmb):Nod:={ newNod b (x.k:Int) with C:=(x.c:Int) }
def placeN (x:Nmb)(b:Nat):Option Nod:=if x.k=0 then none else some (resNod b x)
theorem resNod_at (w:World)(x:Nmb):NodAt (w.alloc (.cells #[.int .i64 (x.k:Nat),.int .i64 0,.int .i64 0,.int .i64 (x.c:Nat),.int .i64 0,.int .i64 0,.int .i64 0,.map none] 205)) (resNod w.heap.size x):=by
 have hh:=heap_alloc_last w (.cells #[.int .i64 (x.k:Nat),.int .i64 0,.int .i64 0,.int .i64 (x.c:Nat),.int .i64 0,.int .i64 0,.int .i64 0,.map none] 205);refine ⟨cell_of_row _ _ 0 _ _ _ hh,cell_of_row _ _ 1 _ _ _ hh,cell_of_row _ _ 2 _ _ _ hh,cell_of_row _ _ 3 _ _ _ hh,cell_of_row _ _ 4 _ _ _ hh,cell_of_row _ _ 5 _ _ _ hh,cell_of_row _ _ 6 _ _ _ hh,cell_of_row _ _ 7 _ _ _ hh,fun k=>?_,⟨_,_,hh⟩,_,Same.start,rfl⟩;exact frozen_of_row _ _ _ _ _ hh
theorem numPlace_any (w:World)(x:Nmb):Calls Tryz.prog 144 #[nmV x] w fun e w'=>∃ b,e = .returned (.agg #[.int .i64 (x.g:Nat),.pointer ((placeN x b).map (fun n=>⟨n.b,0,none⟩))])∧Only [] w w'∧w.heap.size≤b∧∀ n,placeN x b=some n→NodAt w' n∧n=resNod b x:=by
 have o2:Only [] w ((w.alloc (.cells #[.int .i64 (x.g:Nat),.int .i64 (x.k:Nat),.int .i64 (x.c:Nat)] 96)).alloc (.cells #[.int .i64 0,.pointer none] 196)):=((Only.refl [] w).alloc _).alloc _
 have hh1:((w.alloc (.cells #[.int .i64 (x.g:Nat),.int .i64 (x.k:Nat),.int .i64 (x.c:Nat)] 96)).alloc (.cells #[.int .i64 0,.pointer none] 196)).heap[w.heap.size+1]?=some (.cells #[.int .i64 0,.pointer none] 196 (0,0)):=by
   have:=heap_alloc_last (w.alloc (.cells #[.int .i64 (x.g:Nat),.int .i64 (x.k:Nat),.int .i64 (x.c:Nat)] 96)) (.cells #[.int .i64 0,.pointer none] 196);rw [World.size_alloc] at this;exact this
 have hh0:((w.alloc (.cells #[.int .i64 (x.g:Nat),.int .i64 (x.k:Nat),.int .i64 (x.c:Nat)] 96)).alloc (.cells #[.int .i64 0,.pointer none] 196)).heap[w.heap.size]?=some (.cells #[.int .i64 (x.g:Nat),.int .i64 (x.k:Nat),.int .i64 (x.c:Nat)] 96 (0,0)) :=
   (((Only.refl [] (w.alloc (.cells #[.int .i64 (x.g:Nat),.int .i64 (x.k:Nat),.int .i64 (x.c:Nat)] 96))).alloc _).block w.heap.size (by simp) (by simp)).trans (heap_alloc_last w _)
 have hf:=numFree_any ((w.alloc (.cells #[.int .i64 (x.g:Nat),.int .i64 (x.k:Nat),.int .i64 (x.c:Nat)] 96)).alloc (.cells #[.int .i64 0,.pointer none] 196)) x;generalize hw0:(w.alloc (.cells #[.int .i64 (x.g:Nat),.int .i64 (x.k:Nat),.int .i64 (x.c:Nat)] 96)).alloc (.cells #[.int .i64 0,.pointer none] 196)=w0 at o2 hh0 hh1 hf;obtain ⟨sz,hsz⟩:∃ sz,w.heap.size=sz:=⟨_,rfl⟩;have HSZ:Hid (w.heap.size=sz):=hsz;rw [hsz] at hh0 hh1;have HO0:Hid (Only [] w w0):=o2;have HB0:Hid (∀ W,Only [] w0 W→W.heap[sz]?=some (.cells #[.int .i64 (x.g:Nat),.int .i64 (x.k:Nat),.int .i64 (x.c:Nat)] 96 (0,0))∧W.heap[sz+1]?=some (.cells #[.int .i64 0,.pointer none] 196 (0,0))):=fun W ho=>⟨(ho.block sz (Array.getElem?_eq_some_iff.1 hh0).1 (by simp)).trans hh0,(ho.block (sz+1) (Array.getElem?_eq_some_iff.1 hh1).1 (by simp)).trans hh1⟩;have x0:w0.cell? ⟨sz,0,none⟩=some (.int .i64 (x.g:Nat)):=cell_of_row _ _ 0 _ _ _ hh0;have x1:w0.cell? ⟨sz,1,none⟩=some (.int .i64 (x.k:Nat)):=cell_of_row _ _ 1 _ _ _ hh0;have x2:w0.cell? ⟨sz,2,none⟩=some (.int .i64 (x.c:Nat)):=cell_of_row _ _ 2 _ _ _ hh0;clear o2 hh0 hh1
 go_enter Tryz.func144,Tryz.ntmps144
 go_upto_region 1 with fail
 clear hw0 hsz
 by_cases hk:x.k=0
 · have e0:decide (x.k=0)=true:=decide_eq_true hk
   rw [e0] at hf;have HPN:Hid (∀ b,placeN x b=none):=fun b=>if_pos hk;clear e0 hk
   go_wp2_with (go_at_call 169;refine hf.mono ?_;rintro e w2 ⟨rfl,o2⟩;have HO2:Hid (Only [] w0 w2):=o2;obtain ⟨b0,b1⟩:=HB0.out w2 o2;have y0:w2.cell? ⟨sz,0,none⟩=some (.int .i64 (x.g:Nat)):=cell_of_row _ _ 0 _ _ _ b0;have r0:w2.cell? ⟨sz+1,0,none⟩=some (.int .i64 0):=cell_of_row _ _ 0 _ _ _ b1;have r1:w2.cell? ⟨sz+1,1,none⟩=some (.pointer none):=cell_of_row _ _ 1 _ _ _ b1;have z0:w2.frozen? ⟨sz+1,0,none⟩=false:=frozen_of_row _ _ _ _ _ b1;have z1:w2.frozen? ⟨sz+1,1,none⟩=false:=frozen_of_row _ _ _ _ _ b1;have hl:=(Array.getElem?_eq_some_iff.1 b1).1;clear hf o2 b0 b1 x0 x1 x2)
   refine bodyPost_ret (v := .agg #[.int .i64 (x.g:Nat),.pointer none]) (by simp [results,Tryz.results144,go_sem,r0,r1]) rfl ⟨w.heap.size,by rw [HPN.out];rfl,?_,Nat.le_refl _,fun n hn=>by rw [HPN.out] at hn;cases hn⟩;exact (((HO0.out.trans HO2.out (fun _ hk=>by cases hk)).setCell (p:=⟨sz+1,0,none⟩) (Or.inr (by show w.heap.size≤sz+1;rw [HSZ.out];omega)) _).setCell (p:=⟨sz+1,1,none⟩) (Or.inr (by show w.heap.size≤sz+1;rw [HSZ.out];omega)) _)
 · have e0:decide (x.k=0)=false:=decide_eq_false hk
   rw [e0] at hf;have HPN:Hid (∀ b,placeN x b=some (resNod b x)):=fun b=>if_neg hk;clear e0 hk
   go_wp2_with (go_at_call 169;refine hf.mono ?_;rintro e w2 ⟨rfl,o2⟩;have HO2:Hid (Only [] w0 w2):=o2;obtain ⟨b0,b1⟩:=HB0.out w2 o2;have y0:w2.cell? ⟨sz,0,none⟩=some (.int .i64 (x.g:Nat)):=cell_of_row _ _ 0 _ _ _ b0;have y1:w2.cell? ⟨sz,1,none⟩=some (.int .i64 (x.k:Nat)):=cell_of_row _ _ 1 _ _ _ b0;have y2:w2.cell? ⟨sz,2,none⟩=some (.int .i64 (x.c:Nat)):=cell_of_row _ _ 2 _ _ _ b0;have r0:w2.cell? ⟨sz+1,0,none⟩=some (.int .i64 0):=cell_of_row _ _ 0 _ _ _ b1;have r1:w2.cell? ⟨sz+1,1,none⟩=some (.pointer none):=cell_of_row _ _ 1 _ _ _ b1;have z0:w2.frozen? ⟨sz+1,0,none⟩=false:=frozen_of_row _ _ _ _ _ b1;have z1:w2.frozen? ⟨sz+1,1,none⟩=false:=frozen_of_row _ _ _ _ _ b1;have hl:=(Array.getElem?_eq_some_iff.1 b1).1;clear hf o2 b0 b1 x0 x1 x2)
   have hs2:w.heap.size≤w2.heap.size:=Nat.le_trans HO0.out.size HO2.out.size;have hON:Only [] w (w2.alloc (.cells #[.int .i64 (x.k:Nat),.int .i64 0,.int .i64 0,.int .i64 (x.c:Nat),.int .i64 0,.int .i64 0,.int .i64 0,.map none] 205)):=(HO0.out.trans HO2.out (fun _ hk=>by cases hk)).alloc _;have hNA:=resNod_at w2 x
   have hne:sz+1≠w2.heap.size:=by omega
   have e1:((w2.setCell ⟨sz+1,0,none⟩ (.int .i64 (x.g:Nat))).setCell ⟨sz+1,1,none⟩ (.pointer (some ⟨w2.heap.size,0,none⟩))).alloc (.cells #[.int .i64 (x.k:Nat),.int .i64 0,.int .i64 0,.int .i64 (x.c:Nat),.int .i64 0,.int .i64 0,.int .i64 0,.map none] 205)=((w2.alloc (.cells #[.int .i64 (x.k:Nat),.int .i64 0,.int .i64 0,.int .i64 (x.c:Nat),.int .i64 0,.int .i64 0,.int .i64 0,.map none] 205)).setCell ⟨sz+1,0,none⟩ (.int .i64 (x.g:Nat))).setCell ⟨sz+1,1,none⟩ (.pointer (some ⟨w2.heap.size,0,none⟩)):=by
     rw [World.setCell_alloc_past (w:=w2) _ (sz+1) _ _ hl,World.setCell_alloc_past (w:=w2.setCell _ _) _ (sz+1) _ _ (by simpa using hl)]
   have hfin:Only [] w (((w2.alloc (.cells #[.int .i64 (x.k:Nat),.int .i64 0,.int .i64 0,.int .i64 (x.c:Nat),.int .i64 0,.int .i64 0,.int .i64 0,.map none] 205)).setCell ⟨sz+1,0,none⟩ (.int .i64 (x.g:Nat))).setCell ⟨sz+1,1,none⟩ (.pointer (some ⟨w2.heap.size,0,none⟩))):=(hON.setCell (p:=⟨sz+1,0,none⟩) (Or.inr (by show w.heap.size≤sz+1;rw [HSZ.out];omega)) _).setCell (p:=⟨sz+1,1,none⟩) (Or.inr (by show w.heap.size≤sz+1;rw [HSZ.out];omega)) _;have hOS:Only [sz+1] (w2.alloc (.cells #[.int .i64 (x.k:Nat),.int .i64 0,.int .i64 0,.int .i64 (x.c:Nat),.int .i64 0,.int .i64 0,.int .i64 0,.map none] 205)) (((w2.alloc (.cells #[.int .i64 (x.k:Nat),.int .i64 0,.int .i64 0,.int .i64 (x.c:Nat),.int .i64 0,.int .i64 0,.int .i64 0,.map none] 205)).setCell ⟨sz+1,0,none⟩ (.int .i64 (x.g:Nat))).setCell ⟨sz+1,1,none⟩ (.pointer (some ⟨w2.heap.size,0,none⟩))):=((Only.refl [sz+1] _).setCell (p:=⟨sz+1,0,none⟩) (Or.inl (by simp)) _).setCell (p:=⟨sz+1,1,none⟩) (Or.inl (by simp)) _
   have hNF:NodAt (((w2.alloc (.cells #[.int .i64 (x.k:Nat),.int .i64 0,.int .i64 0,.int .i64 (x.c:Nat),.int .i64 0,.int .i64 0,.int .i64 0,.map none] 205)).setCell ⟨sz+1,0,none⟩ (.int .i64 (x.g:Nat))).setCell ⟨sz+1,1,none⟩ (.pointer (some ⟨w2.heap.size,0,none⟩))) (resNod w2.heap.size x):=hNA.kept hOS (fun k hk hm=>by
     have e2:k=w2.heap.size:=by
      have:(resNod w2.heap.size x).foot=[w2.heap.size]:=rfl;rw [this] at hk
      simpa using hk
     rw [e2] at hm
     exact hne (List.mem_singleton.1 hm).symm)
   have r0':(w2.alloc (.cells #[.int .i64 (x.k:Nat),.int .i64 0,.int .i64 0,.int .i64 (x.c:Nat),.int .i64 0,.int .i64 0,.int .i64 0,.map none] 205)).cell? ⟨sz+1,0,none⟩=some (.int .i64 0):=(((Only.refl [] w2).alloc _).cell (p:=⟨sz+1,0,none⟩) hl (by simp)).trans r0;have r1':(w2.alloc (.cells #[.int .i64 (x.k:Nat),.int .i64 0,.int .i64 0,.int .i64 (x.c:Nat),.int .i64 0,.int .i64 0,.int .i64 0,.map none] 205)).cell? ⟨sz+1,1,none⟩=some (.pointer none):=(((Only.refl [] w2).alloc _).cell (p:=⟨sz+1,1,none⟩) hl (by simp)).trans r1
   try rw [e1]
   refine bodyPost_ret (v := .agg #[.int .i64 (x.g:Nat),.pointer (some ⟨w2.heap.size,0,none⟩)]) (by simp [results,Tryz.results144,go_sem,r0',r1']) rfl ⟨w2.heap.size,by rw [HPN.out];rfl,?_,hs2,fun n hn=>?_⟩
   · exact hfin
   · rw [HPN.out] at hn
     simp only [Option.some.injEq] at hn;subst hn;exact ⟨hNF,rfl⟩
theorem TabAt.app {w w1:World}{t most b cap gx:Nat}{p:Row}{g:Nat→Nat}{nd:Nat→Option Nod}{pn:Option Nod}(h:TabAt w t p most g nd)(ho:Only p.a.toList w w1)(hr:w1.ownsRow 0 196 2 (.slice (some ⟨b,0,none⟩) (p.N+1) cap) (p.N+1) (rowOf placeCells (places p.N g nd)++placeCells (gx,pn)))
   (hb:p.a=some b∨w.heap.size≤b) (hn:∀ n,pn=some n→NodAt w1 n∧∀ k∈n.foot,w.heap.size≤k∧k≠b):TabAt (w1.setCell ⟨t,1,none⟩ (.slice (some ⟨b,0,none⟩) (p.N+1) cap)) t ⟨some b,p.N+1,cap⟩ most (setN g p.N gx) (setN nd p.N pn)∧Only (t::p.a.toList) w (w1.setCell ⟨t,1,none⟩ (.slice (some ⟨b,0,none⟩) (p.N+1) cap)):=by
 have ht:=h.tlt;have htp:t∉p.a.toList:=fun hm=>h.pt (by simpa using hm)
 have hbt:b≠t:=by
   rcases hb with h1 | h1
   · exact fun e=>h.pt (by rw [h1,e])
   · omega
 have o2:Only (t::p.a.toList) w (w1.setCell ⟨t,1,none⟩ (.slice (some ⟨b,0,none⟩) (p.N+1) cap)):=(ho.mono (L':=t::p.a.toList) (fun i hi=>Or.inl (List.mem_cons_of_mem _ hi))).setCell (Or.inl (by simp)) _;have o1t:Only [t] w1 (w1.setCell ⟨t,1,none⟩ (.slice (some ⟨b,0,none⟩) (p.N+1) cap)):=(Only.refl [t] w1).setCell (p:=⟨t,1,none⟩) (Or.inl (by simp)) _;have c1:=(ho.cell (p:=⟨t,1,none⟩) ht htp).trans h.tab
 have hfoot:∀ i n,nd i=some n→∀ k∈n.foot,k∉t::p.a.toList:=fun i n hn k hk hm=>by
   obtain ⟨o1,o2⟩:=h.own i n hn;rcases List.mem_cons.1 hm with rfl | hm
   · exact o1 hk
   · exact o2 k (by simpa using hm) hk
 have old:∀ j n,j≠p.N→setN nd p.N pn j=some n→nd j=some n:=fun j n hne e=>by rw [setN_other _ _ hne] at e;exact e
 have hlt:∀ j n,nd j=some n→∀ k∈n.foot,k < w.heap.size:=fun j n e=>(h.node j n e).foot_lt;refine ⟨⟨?_,World.cell?_setCell_same _ _ _ c1,fun o=>?_,(h.ty.only ho htp).set _ _,?_,fun i hi=>?_,by simpa using hbt,fun i n e=>?_,fun i j n n' e e' hij=>?_,fun i n e=>?_⟩,o2⟩
 · rw [World.cell?_setCell_other _ _ _ _ (by simp)]
   exact (ho.cell (p:=⟨t,0,none⟩) ht htp).trans h.most
 · rw [World.frozen?_setCell]
   exact (ho.frozen (p:=⟨t,o,none⟩) ht htp).trans (h.tfz o)
 · have e1:places (p.N+1) (setN g p.N gx) (setN nd p.N pn)=places p.N g nd++[(gx,pn)]:=by
     rw [places_more,setN_same,setN_same];congr 1;exact places_congr (fun i hi=>setN_other _ _ (by omega)) (fun i hi=>setN_other _ _ (by omega))
   show World.ownsRow _ 0 _ 2 _ (p.N+1) (rowOf placeCells (places (p.N+1) _ _));rw [e1,rowOf_append,rowOf_single];exact o1t.owns hr (fun k hk=>by have e:b=k:=Option.some.inj ((Row.own ⟨some b,p.N+1,cap⟩).symm.trans hk);subst e;simpa using hbt)
 · have hi':p.N+1≤i:=hi
   rw [setN_other _ _ (by omega),setN_other _ _ (by omega)];exact h.out i (by omega)
 · by_cases hiN:i=p.N
   · subst hiN
     rw [setN_same] at e
     exact (hn n e).1.kept o1t (fun k hk hm=>by
       have:=((hn n e).2 k hk).1;rw [List.mem_singleton.1 hm] at this
       omega)
   · exact (h.node i n (old i n hiN e)).kept o2 (hfoot i n (old i n hiN e))
 · by_cases hiN:i=p.N
   · subst hiN
     rw [setN_same] at e;intro k hk hk';have h1:=((hn n e).2 k hk).1;have h2:=hlt j n' (old j n' (Ne.symm hij) e') k hk';omega
   · by_cases hjN:j=p.N
     · subst hjN
       rw [setN_same] at e';intro k hk hk';have h1:=((hn n' e').2 k hk').1;have h2:=hlt i n (old i n hiN e) k hk;omega
     · exact h.apart i j n n' (old i n hiN e) (old j n' hjN e') hij
 · by_cases hiN:i=p.N
   · subst hiN
     rw [setN_same] at e;refine ⟨fun hk=>by have:=((hn n e).2 t hk).1;omega,fun b' hb' hk=>?_⟩;simp only [Option.some.injEq] at hb';exact ((hn n e).2 b' hk).2 hb'.symm
   · refine ⟨(h.own i n (old i n hiN e)).1,fun b' hb' hk=>?_⟩
     simp only [Option.some.injEq] at hb';subst hb';rcases hb with h1 | h1
     · exact (h.own i n (old i n hiN e)).2 b h1 hk
     · have:=hlt i n (old i n hiN e) b hk
       omega
end
end Go.Proofs.YtbdfjbmocifhmaaGreatDoor
