import Derived.Defers
import Derived.Recover
import Derived.WalkSmall
import Derived.Laws.Pointers
import Derived.Test.YtmnidbnaneagjaaGreatDoorK45
import Derived.Test.YtmnidbnaneagjaaGreatDoorK20
import Derived.Test.YtmnidbnaneagjaaGreatDoorK34
set_option maxRecDepth 100000
set_option maxHeartbeats 8000000
namespace Go.Proofs.YtmnidbnaneagjaaGreatDoor
section
open Go Go.RowKit Go.Deep
structure OpV where
 K:ByteArray
 N:ByteArray
 T:ByteArray
 x1:Int
 x2:Int
 x3:Int
 x4:Int
 x5:Int
 x6:Int
def opC (o:OpV):List Value:=[.string o.K,.string o.N,.string o.T,.int .i64 o.x1,.int .i64 o.x2,.int .i64 o.x3,.int .i64 o.x4,.int .i64 o.x5,.int .i64 o.x6]
structure EnV where
 n:ByteArray
 x:Int
 y:Int
structure RpV where
 c:Int
 T:ByteArray
 x1:Int
 x2:Int
 x3:Int
 x4:Int
 L:List EnV
 n:Int
 e:Bool
def rpC (p:RpV×Value):List Value:=[.int .i64 p.1.c,.string p.1.T,.int .i64 p.1.x1,.int .i64 p.1.x2,.int .i64 p.1.x3,.int .i64 p.1.x4,p.2,.int .i64 p.1.n,.bool p.1.e]
structure Rws {α:Type}(w:World)(B:Nat)(c:α→List Value)(n:Nat)(ad:Option Addr)(l:List α):Prop where
 at_:∀ i x,l[i]?=some x→∃ g,ad=some ⟨g,0,none⟩∧g < B∧∀ j u,(c x)[j]?=some u→w.cell? ⟨g,i*n+j,none⟩=some u
theorem Rws.only {α:Type}{w w':World}{B n:Nat}{c:α→List Value}{ad:Option Addr}{l:List α}{L:List Nat}(h:Rws w B c n ad l)(ho:Only L w w')(hn:∀ k∈L,B≤k):Rws w' B c n ad l :=
 ⟨fun i x e=>by
  obtain ⟨g,h1,h2,h3⟩:=h.at_ i x e
  exact ⟨g,h1,h2,fun j u hu=>(ho.cell (p:=⟨g,i*n+j,none⟩) (lt_of_cell (h3 j u hu)) (fun hm=>absurd (hn _ hm) (by simp;omega))).trans (h3 j u hu)⟩⟩
end
section
open Go Go.RowKit Go.Deep Go.Maps
structure CmpAt (w:World)(c s:Nat)(n g:Int)(b:Bool):Prop where
 c0:w.cell? ⟨c,0,none⟩=some (.pointer (some ⟨s,0,none⟩))
 c1:w.cell? ⟨c,1,none⟩=some (.int .i64 n)
 c2:w.cell? ⟨c,2,none⟩=some (.int .i64 g)
 c3:w.cell? ⟨c,3,none⟩=some (.bool b)
 fr:∀ o,w.frozen? ⟨c,o,none⟩=false
theorem CmpAt.lt {w:World}{c s:Nat}{n g:Int}{b:Bool}(h:CmpAt w c s n g b):c < w.heap.size:=lt_of_cell h.c0
theorem CmpAt.only {w w':World}{c s:Nat}{n g:Int}{b:Bool}{L:List Nat}(h:CmpAt w c s n g b)(ho:Only L w w')(hc:c∉L):CmpAt w' c s n g b :=
 ⟨(ho.cell (p:=⟨c,0,none⟩) h.lt hc).trans h.c0,(ho.cell (p:=⟨c,1,none⟩) h.lt hc).trans h.c1,(ho.cell (p:=⟨c,2,none⟩) h.lt hc).trans h.c2,(ho.cell (p:=⟨c,3,none⟩) h.lt hc).trans h.c3,fun o=>(ho.frozen (p:=⟨c,o,none⟩) h.lt hc).trans (h.fr o)⟩
abbrev rpK (k:Int):Value := .agg #[.int .i64 k,.string ⟨#[]⟩,.int .i64 0,.int .i64 0,.int .i64 0,.int .i64 0,.slice none 0 0,.int .i64 0,.bool false]
abbrev rpCells (k:Int):Array Value:=#[.int .i64 k,.string ⟨#[]⟩,.int .i64 0,.int .i64 0,.int .i64 0,.int .i64 0,.slice none 0 0,.int .i64 0,.bool false]
theorem CmpAt.moved {w:World}{c s:Nat}{n g:Int}{b:Bool}(h:CmpAt w c s n g b)(n' g':Int)(b':Bool):CmpAt (((w.setCell ⟨c,1,none⟩ (.int .i64 n')).setCell ⟨c,2,none⟩ (.int .i64 g')).setCell ⟨c,3,none⟩ (.bool b')) c s n' g' b'∧Only [c] w (((w.setCell ⟨c,1,none⟩ (.int .i64 n')).setCell ⟨c,2,none⟩ (.int .i64 g')).setCell ⟨c,3,none⟩ (.bool b')):=by
 obtain ⟨h0,h1,h2,h3,hf⟩:=h;refine ⟨⟨?_,?_,?_,?_,fun o=>by simpa using hf o⟩,(((Only.refl [c] w).setCell (p:=⟨c,1,none⟩) (Or.inl (by simp)) _).setCell (p:=⟨c,2,none⟩) (Or.inl (by simp)) _).setCell (p:=⟨c,3,none⟩) (Or.inl (by simp)) _⟩
 · rw [World.cell?_setCell_other _ _ _ _ (by simp),World.cell?_setCell_other _ _ _ _ (by simp),World.cell?_setCell_other _ _ _ _ (by simp)]
   exact h0
 · rw [World.cell?_setCell_other _ _ _ _ (by simp),World.cell?_setCell_other _ _ _ _ (by simp)]
   exact World.cell?_setCell_same _ _ _ h1
 · rw [World.cell?_setCell_other _ _ _ _ (by simp)]
   refine World.cell?_setCell_same _ _ _ (u := .int .i64 g) ?_;rw [World.cell?_setCell_other _ _ _ _ (by simp)];exact h2
 · refine World.cell?_setCell_same _ _ _ (u := .bool b) ?_
   rw [World.cell?_setCell_other _ _ _ _ (by simp),World.cell?_setCell_other _ _ _ _ (by simp)];exact h3
theorem goTo_err (w:World)(c:Nat)(i g:Int)(T:TypeId)(v:Value):
  Calls Tryz.prog 171 #[.pointer (some ⟨c,0,none⟩),.agg #[.int .i64 i,.int .i64 g],.iface T v] w fun e w'=>e = .returned (.tuple #[rpK 0,.iface T v])∧Only [] w w':=by
 have HO:Hid (Only [] w ((w.alloc (.cells #[.int .i64 i,.int .i64 g] 94)).alloc (.cells (rpCells 0) 170))):=((Only.refl [] w).alloc _).alloc _
 go_enter Tryz.func171,Tryz.ntmps171
 go_wp2
 refine bodyPost_ret (v := .tuple #[rpK 0,.iface T v]) (by simp [results,Tryz.results171,go_sem]) rfl ?_;exact ⟨rfl,HO.out⟩
theorem goTo_ok (w:World)(c s:Nat)(i g n0 g0:Int)(b0:Bool)(h:CmpAt w c s n0 g0 b0):
  Calls Tryz.prog 171 #[.pointer (some ⟨c,0,none⟩),.agg #[.int .i64 i,.int .i64 g],.nilIface] w fun e w'=>e = .returned (.tuple #[rpK 0,.nilIface])∧CmpAt w' c s i g true∧Only [c] w w':=by
 obtain ⟨hm,ho⟩:=h.moved i g true
 have HM:Hid (∀ o1 o2,CmpAt (((((w.setCell ⟨c,1,none⟩ (.int .i64 i)).setCell ⟨c,2,none⟩ (.int .i64 g)).setCell ⟨c,3,none⟩ (.bool true)).alloc o1).alloc o2) c s i g true∧Only [c] w (((((w.setCell ⟨c,1,none⟩ (.int .i64 i)).setCell ⟨c,2,none⟩ (.int .i64 g)).setCell ⟨c,3,none⟩ (.bool true)).alloc o1).alloc o2)) :=
  fun o1 o2=>⟨hm.only (((Only.refl [] _).alloc o1).alloc o2) (by simp),(ho.alloc o1).alloc o2⟩
 have hlt:=h.lt;obtain ⟨h0,h1,h2,h3,hf⟩:=h;have f1:=hf 1;have f2:=hf 2;have f3:=hf 3;clear hm ho hf
 go_enter Tryz.func171,Tryz.ntmps171
 go_wp2
 refine bodyPost_ret (v := .tuple #[rpK 0,.nilIface]) (by simp [results,Tryz.results171,go_sem]) rfl ?_;exact ⟨rfl,HM.out _ _⟩
abbrev opV (o:OpV):Value := .agg #[.string o.K,.string o.N,.string o.T,.int .i64 o.x1,.int .i64 o.x2,.int .i64 o.x3,.int .i64 o.x4,.int .i64 o.x5,.int .i64 o.x6]
abbrev opCells (o:OpV):Array Value:=#[.string o.K,.string o.N,.string o.T,.int .i64 o.x1,.int .i64 o.x2,.int .i64 o.x3,.int .i64 o.x4,.int .i64 o.x5,.int .i64 o.x6]
theorem rp_kept {W w2:World}{L:List Nat}{x:Nat}(hx:W.heap.size=x)(ho:Only L (W.alloc (.cells (rpCells 0) 170)) w2)(hL:x∉L):
   w2.cell? ⟨x,0,none⟩=some (.int .i64 0)∧w2.cell? ⟨x,1,none⟩=some (.string ⟨#[]⟩)∧w2.cell? ⟨x,2,none⟩=some (.int .i64 0)∧w2.cell? ⟨x,3,none⟩=some (.int .i64 0)∧w2.cell? ⟨x,4,none⟩=some (.int .i64 0)∧w2.cell? ⟨x,5,none⟩=some (.int .i64 0)∧w2.cell? ⟨x,6,none⟩=some (.slice none 0 0)∧w2.cell? ⟨x,7,none⟩=some (.int .i64 0)∧w2.cell? ⟨x,8,none⟩=some (.bool false)∧∀ o,w2.frozen? ⟨x,o,none⟩=false:=by
 subst hx;refine ⟨?_,?_,?_,?_,?_,?_,?_,?_,?_,fun o=>?_⟩
 · exact (ho.cell (p:=⟨W.heap.size,0,none⟩) (by simp) hL).trans (by simp)
 · exact (ho.cell (p:=⟨W.heap.size,1,none⟩) (by simp) hL).trans (by simp)
 · exact (ho.cell (p:=⟨W.heap.size,2,none⟩) (by simp) hL).trans (by simp)
 · exact (ho.cell (p:=⟨W.heap.size,3,none⟩) (by simp) hL).trans (by simp)
 · exact (ho.cell (p:=⟨W.heap.size,4,none⟩) (by simp) hL).trans (by simp)
 · exact (ho.cell (p:=⟨W.heap.size,5,none⟩) (by simp) hL).trans (by simp)
 · exact (ho.cell (p:=⟨W.heap.size,6,none⟩) (by simp) hL).trans (by simp)
 · exact (ho.cell (p:=⟨W.heap.size,7,none⟩) (by simp) hL).trans (by simp)
 · exact (ho.cell (p:=⟨W.heap.size,8,none⟩) (by simp) hL).trans (by simp)
 · exact (ho.frozen (p:=⟨W.heap.size,o,none⟩) (by simp) hL).trans (World.frozen?_alloc_at _ _ _ _ (by simp))
abbrev put9 (w:World)(x:Nat)(a0 a1 a2 a3 a4 a5 a6 a7 a8:Value):World:=((((((((w.setCell ⟨x,0,none⟩ a0).setCell ⟨x,1,none⟩ a1).setCell ⟨x,2,none⟩ a2).setCell ⟨x,3,none⟩ a3).setCell ⟨x,4,none⟩ a4).setCell ⟨x,5,none⟩ a5).setCell ⟨x,6,none⟩ a6).setCell ⟨x,7,none⟩ a7).setCell ⟨x,8,none⟩ a8
theorem put9_only {w:World}{x:Nat}{a0 a1 a2 a3 a4 a5 a6 a7 a8:Value}:Only [x] w (put9 w x a0 a1 a2 a3 a4 a5 a6 a7 a8) :=
 (((((((((Only.refl [x] w).setCell (p:=⟨x,0,none⟩) (Or.inl (by simp)) _).setCell (p:=⟨x,1,none⟩) (Or.inl (by simp)) _).setCell (p:=⟨x,2,none⟩) (Or.inl (by simp)) _).setCell (p:=⟨x,3,none⟩) (Or.inl (by simp)) _).setCell (p:=⟨x,4,none⟩) (Or.inl (by simp)) _).setCell (p:=⟨x,5,none⟩) (Or.inl (by simp)) _).setCell (p:=⟨x,6,none⟩) (Or.inl (by simp)) _).setCell (p:=⟨x,7,none⟩) (Or.inl (by simp)) _).setCell (p:=⟨x,8,none⟩) (Or.inl (by simp)) _
theorem root_ok (w:World)(c s tr:Nat)(n0 g0:Int)(b0:Bool)(o:OpV)(h:CmpAt w c s n0 g0 b0)(hs:w.cell? ⟨s,0,none⟩=some (.pointer (some ⟨tr,0,none⟩))):
  Calls Tryz.prog 170 #[.pointer (some ⟨c,0,none⟩),opV o] w fun e w'=>e = .returned (.tuple #[rpK 0,.nilIface])∧CmpAt w' c s 0 0 true∧Only [c] w w':=by
 have oA:Only [] w ((w.alloc (.cells (opCells o) 49)).alloc (.cells (rpCells 0) 170)):=((Only.refl [] w).alloc _).alloc _;have HR:Hid (∀ W,Only [] w W→Calls Tryz.prog 136 #[.pointer (some ⟨tr,0,none⟩)] W fun e w'=>e = .returned (.agg #[.int .i64 0,.int .i64 0])∧Only [] W w'):=fun W _=>root_any W _;have HG:Hid (∀ W,Only [] w W→Calls Tryz.prog 171 #[.pointer (some ⟨c,0,none⟩),.agg #[.int .i64 0,.int .i64 0],.nilIface] W fun e w'=>e = .returned (.tuple #[rpK 0,.nilIface])∧CmpAt w' c s 0 0 true∧Only [c] W w'):=fun W ho=>goTo_ok W c s 0 0 n0 g0 b0 (h.only ho (by simp));have HA:Hid (Only [] w ((w.alloc (.cells (opCells o) 49)).alloc (.cells (rpCells 0) 170))):=oA;have hlt:=h.lt;have hslt:=lt_of_cell hs;have h0:=h.c0;clear h oA
 go_enter Tryz.func170,Tryz.ntmps170
 go_wp2_with (first
  | (go_at_call 136;go_must (refine (HR.out _ HA.out).mono ?_);rintro e w1 ⟨rfl,ho⟩;have H1:Hid (Only [] ((w.alloc (.cells (opCells o) 49)).alloc (.cells (rpCells 0) 170)) w1):=ho;clear ho)
  | (go_at_call 171;go_must (refine (HG.out w1 (HA.out.trans H1.out (fun _ hk=>by cases hk))).mono ?_);rintro e w2 ⟨rfl,hc,ho⟩;have H2:Hid (CmpAt w2 c s 0 0 true):=hc;have H3:Hid (Only [c] ((w.alloc (.cells (opCells o) 49)).alloc (.cells (rpCells 0) 170)) w2):=(H1.out.mono (L':=[c]) (fun _ hk=>by cases hk)).trans ho (fun k hk=>Or.inl hk);obtain ⟨k0,k1,k2,k3,k4,k5,k6,k7,k8,kf⟩:=rp_kept (x:=w.heap.size+1) (World.size_alloc _ _) H3.out (by simp;omega);have z0:=kf 0;have z1:=kf 1;have z2:=kf 2;have z3:=kf 3;have z4:=kf 4;have z5:=kf 5;have z6:=kf 6;have z7:=kf 7;have z8:=kf 8;clear hc ho kf))
 refine bodyPost_ret (v := .tuple #[rpK 0,.nilIface]) (by simp [results,Tryz.results170,go_sem,k0,k1,k2,k3,k4,k5,k6,k7,k8]) rfl ?_;exact ⟨rfl,H2.out.only put9_only (by simp;omega),((HA.out.mono (L':=[c]) (fun _ hk=>by cases hk)).trans H3.out (fun k hk=>Or.inl hk)).trans put9_only (fun k hk=>by rw [List.mem_singleton.1 hk];exact Or.inr (Nat.le_succ _))⟩
abbrev mkW (w:World)(o:OpV):World:=(w.alloc (.cells (opCells o) 49)).alloc (.cells (rpCells 0) 170)
def AftR (B X:Nat)(R:World→World→Prop)(w':World):Prop:=∃ W0 w1 M,X≤W0.heap.size∧R W0 w1∧Only M w1 w'∧∀ k∈M,B≤k∧k < W0.heap.size
theorem AftR.only {B X:Nat}{R:World→World→Prop}{w w':World}{M:List Nat}(h:AftR B X R w)(ho:Only M w w')(hM:∀ k∈M,B≤k∧k < X):AftR B X R w':=by
 obtain ⟨W0,w1,M0,h1,h2,h3,h4⟩:=h;refine ⟨W0,w1,M0++M,h1,h2,(h3.mono (L':=M0++M) (fun k hk=>Or.inl (List.mem_append_left _ hk))).trans ho (fun k hk=>Or.inl (List.mem_append_right _ hk)),fun k hk=>?_⟩;rcases List.mem_append.1 hk with e | e
 · exact h4 k e
 · exact ⟨(hM k e).1,Nat.lt_of_lt_of_le (hM k e).2 h1⟩
theorem AftR.low {B X Y:Nat}{R:World→World→Prop}{w:World}(h:AftR B X R w)(hY:Y≤X):AftR B Y R w:=by
 obtain ⟨W0,w1,M0,h1,h2,h3,h4⟩:=h;exact ⟨W0,w1,M0,Nat.le_trans hY h1,h2,h3,h4⟩
theorem mk_cells {w:World}{c s tr:Nat}{n0 g0:Int}{b:Bool}{o:OpV}(h:CmpAt w c s n0 g0 b)(hs:w.cell? ⟨s,0,none⟩=some (.pointer (some ⟨tr,0,none⟩)))(p:OnlyBy (mkW w o)):
   p.w.cell? ⟨c,0,none⟩=some (.pointer (some ⟨s,0,none⟩))∧p.w.cell? ⟨c,1,none⟩=some (.int .i64 n0)∧p.w.cell? ⟨c,2,none⟩=some (.int .i64 g0)∧p.w.cell? ⟨s,0,none⟩=some (.pointer (some ⟨tr,0,none⟩))∧p.w.cell? ⟨w.heap.size,1,none⟩=some (.string o.N)∧p.w.cell? ⟨w.heap.size,3,none⟩=some (.int .i64 o.x1):=by
 have oA:Only [] w (mkW w o):=((Only.refl [] w).alloc _).alloc _;have ho:=oA.trans p.ho (fun _ hk=>by cases hk);have h':=h.only ho (by simp);refine ⟨h'.c0,h'.c1,h'.c2,(ho.cell (p:=⟨s,0,none⟩) (lt_of_cell hs) (by simp)).trans hs,?_,?_⟩
 · exact (p.ho.cell (p:=⟨w.heap.size,1,none⟩) (by simp;omega) (by simp)).trans (by simp)
 · exact (p.ho.cell (p:=⟨w.heap.size,3,none⟩) (by simp;omega) (by simp)).trans (by simp)
theorem make_err (w:World)(c s tr:Nat)(n0 g0:Int)(o:OpV)(T:TypeId)(v:Value)(h:CmpAt w c s n0 g0 true)(hs:w.cell? ⟨s,0,none⟩=some (.pointer (some ⟨tr,0,none⟩)))
   (hC:∀ W,Only [] w W→Calls Tryz.prog 181 #[.pointer (some ⟨tr,0,none⟩),.agg #[.int .i64 n0,.int .i64 g0],.string o.N,.int .i64 o.x1] W fun e w'=>e = .returned (.tuple #[.agg #[.int .i64 0,.int .i64 0],.iface T v])∧Only [] W w') :
   Calls Tryz.prog 180 #[.pointer (some ⟨c,0,none⟩),opV o] w fun e w'=>e = .returned (.tuple #[rpK 0,.iface T v])∧Only [] w w':=by
 have HA:Hid (Only [] w (mkW w o)):=((Only.refl [] w).alloc _).alloc _;have HC:Hid (∀ W,Only [] w W→Calls Tryz.prog 181 #[.pointer (some ⟨tr,0,none⟩),.agg #[.int .i64 n0,.int .i64 g0],.string o.N,.int .i64 o.x1] W fun e w'=>e = .returned (.tuple #[.agg #[.int .i64 0,.int .i64 0],.iface T v])∧Only [] W w'):=hC;have HG:Hid (∀ W,Calls Tryz.prog 171 #[.pointer (some ⟨c,0,none⟩),.agg #[.int .i64 0,.int .i64 0],.iface T v] W fun e w'=>e = .returned (.tuple #[rpK 0,.iface T v])∧Only [] W w'):=fun W=>goTo_err W c 0 0 T v;have q:=mk_cells (o:=o) h hs;have hlt:=h.lt;have y0:∀ p:OnlyBy (mkW w o),p.w.cell? ⟨c,0,none⟩=some (.pointer (some ⟨s,0,none⟩)):=fun p=>(q p).1;have y1:∀ p:OnlyBy (mkW w o),p.w.cell? ⟨c,1,none⟩=some (.int .i64 n0):=fun p=>(q p).2.1;have y2:∀ p:OnlyBy (mkW w o),p.w.cell? ⟨c,2,none⟩=some (.int .i64 g0):=fun p=>(q p).2.2.1;have y3:∀ p:OnlyBy (mkW w o),p.w.cell? ⟨s,0,none⟩=some (.pointer (some ⟨tr,0,none⟩)):=fun p=>(q p).2.2.2.1;have y4:∀ p:OnlyBy (mkW w o),p.w.cell? ⟨w.heap.size,1,none⟩=some (.string o.N):=fun p=>(q p).2.2.2.2.1;have y5:∀ p:OnlyBy (mkW w o),p.w.cell? ⟨w.heap.size,3,none⟩=some (.int .i64 o.x1):=fun p=>(q p).2.2.2.2.2
 haveI:Nonempty (OnlyBy (mkW w o)):=⟨⟨_,Only.refl _ _⟩⟩
 clear h hs hC q
 go_enter Tryz.func180,Tryz.ntmps180
 go_wp2
 refine wp_region_any (by kernel_rfl) ?_
 change wpAny _ _ _ _ _ _ _ (World.drew _)
 refine wpAny_take (i:=0) (v:=?_) rfl (by kernel_rfl) (by kernel_rfl) (by kernel_rfl) (fun _ _ _ h=>h) (Or.inl ⟨by rfl,?_⟩) ?_
 rotate_left
 · intro w;go_simp;try with_reducible rfl
 refine wpAny_pre2 (w0:=mkW w o) (k0:=1) 16 8 _ rfl (by decide) (by kernel_rfl) (by kernel_rfl) (by kernel_rfl) (by kernel_rfl) (Only.refl [] _).drew ?_;simp only [List.drop_succ_cons,List.drop_zero,List.take_succ_cons,List.take_zero]
 repeat (first | go_big_quiet_skip | quiet_step (fail))
 refine wpQuiet_nil ?_;intro _ hw';obtain ⟨p,hw2⟩:=hw';subst hw2;have HP:Hid (Only [] w p.w):=HA.out.trans p.ho (fun _ hk=>by cases hk);have HPO:Hid (Only [] (mkW w o) p.w):=p.ho;clear y0 y1 y2 y3 y4 y5;generalize p.w=wp at HP HPO ⊢;refine wpAny_ready (rs:=[17]) (by kernel_rfl) (by simp) ?_;refine AllReady.cons rfl (fun K hK=>?_) AllReady.nil
 go_simp
 go_wp2_with (go_at_call 181;go_must (refine (HC.out wp HP.out).mono ?_);rintro e w1 ⟨rfl,ho⟩;have H1:Hid (Only [] (mkW w o) w1):=HPO.out.trans ho (fun _ hk=>by cases hk);clear ho)
 refine wpAny_take (i:=18) (v:=?_) rfl (by kernel_rfl) (by kernel_rfl) (by kernel_rfl) (fun _ _ _ h=>h) (Or.inl ⟨by rfl,?_⟩) ?_
 rotate_left
 · intro w;go_simp;try with_reducible rfl
 refine wpAny_take (i:=19) (v:=?_) rfl (by kernel_rfl) (by kernel_rfl) (by kernel_rfl) (fun _ _ _ h=>h) (Or.inl ⟨by rfl,?_⟩) ?_
 rotate_left
 · intro w;go_simp;try with_reducible rfl
 refine wpAny_ready (rs:=[20]) (by kernel_rfl) (by simp) ?_;refine AllReady.cons rfl (fun K hK=>?_) AllReady.nil
 go_simp
 go_wp2_with (go_at_call 171;go_must (refine (HG.out w1).mono ?_);rintro e w2 ⟨rfl,ho⟩;have H3:Hid (Only [] (mkW w o) w2):=H1.out.trans ho (fun _ hk=>by cases hk);obtain ⟨k0,k1,k2,k3,k4,k5,k6,k7,k8,kf⟩:=rp_kept (x:=w.heap.size+1) (World.size_alloc _ _) H3.out (by simp);have z0:=kf 0;have z1:=kf 1;have z2:=kf 2;have z3:=kf 3;have z4:=kf 4;have z5:=kf 5;have z6:=kf 6;have z7:=kf 7;have z8:=kf 8;clear ho kf)
 refine wpAny_take (i:=21) (v:=?_) rfl (by kernel_rfl) (by kernel_rfl) (by kernel_rfl) (fun _ _ _ h=>h) (Or.inl ⟨by rfl,?_⟩) ?_
 rotate_left
 · intro w;go_simp;try with_reducible rfl
 refine wpAny_take (i:=22) (v:=?_) rfl (by kernel_rfl) (by kernel_rfl) (by kernel_rfl) (fun _ _ _ h=>h) (Or.inl ⟨by rfl,?_⟩) ?_
 rotate_left
 · intro w;go_simp;try with_reducible rfl
 refine wpAny_ready (rs:=[23]) (by kernel_rfl) (by simp) ?_;refine AllReady.cons rfl (fun K hK=>?_) AllReady.nil
 go_simp
 refine hK _ _ ?_;clear hK K;refine wpAny_ready (rs:=[24]) (by kernel_rfl) (by simp) ?_;refine AllReady.cons rfl (fun K hK=>?_) AllReady.nil
 go_simp
 refine hK _ _ ?_;clear hK K;refine wpAny_done (by kernel_rfl) ?_ _
 go_wp2
 refine bodyPost_ret (v := .tuple #[rpK 0,.iface T v]) (by simp [results,Tryz.results180,go_sem,k0,k1,k2,k3,k4,k5,k6,k7,k8]) rfl ?_;exact ⟨rfl,(HA.out.trans H3.out (fun _ hk=>by cases hk)).trans put9_only (fun k hk=>by rw [List.mem_singleton.1 hk];exact Or.inr (Nat.le_succ _))⟩
theorem make_ok (w:World)(c s tr:Nat)(n0 g0:Int)(o:OpV)(i g:Int)(B:Nat)(hB:B≤c)(R:World→World→Prop)(L:List Nat)(h:CmpAt w c s n0 g0 true)(hs:w.cell? ⟨s,0,none⟩=some (.pointer (some ⟨tr,0,none⟩)))(hcL:c∉L)(hL:∀ k∈L,k < w.heap.size)
   (hC:∀ W,Only [] w W→Calls Tryz.prog 181 #[.pointer (some ⟨tr,0,none⟩),.agg #[.int .i64 n0,.int .i64 g0],.string o.N,.int .i64 o.x1] W fun e w'=>e = .returned (.tuple #[.agg #[.int .i64 i,.int .i64 g],.nilIface])∧R W w'∧Only L W w') :
   Calls Tryz.prog 180 #[.pointer (some ⟨c,0,none⟩),opV o] w fun e w'=>e = .returned (.tuple #[rpK 0,.nilIface])∧CmpAt w' c s i g true∧AftR B w.heap.size R w'∧Only (c::L) w w':=by
 have HA:Hid (Only [] w (mkW w o)):=((Only.refl [] w).alloc _).alloc _;have HC:Hid (∀ W,Only [] w W→Calls Tryz.prog 181 #[.pointer (some ⟨tr,0,none⟩),.agg #[.int .i64 n0,.int .i64 g0],.string o.N,.int .i64 o.x1] W fun e w'=>e = .returned (.tuple #[.agg #[.int .i64 i,.int .i64 g],.nilIface])∧R W w'∧Only L W w'):=hC;have HG:Hid (∀ W,CmpAt W c s n0 g0 true→Calls Tryz.prog 171 #[.pointer (some ⟨c,0,none⟩),.agg #[.int .i64 i,.int .i64 g],.nilIface] W fun e w'=>e = .returned (.tuple #[rpK 0,.nilIface])∧CmpAt w' c s i g true∧Only [c] W w'):=fun W hW=>goTo_ok W c s i g n0 g0 true hW;have HCM:Hid (∀ W,Only L w W→CmpAt W c s n0 g0 true):=fun W ho=>h.only ho hcL;have HBC:Hid (B≤c∧c < w.heap.size):=⟨hB,h.lt⟩
 have HX:Hid (w.heap.size+1∉c::L):=fun k=>by
   rcases List.mem_cons.1 k with e | e
   · have:=h.lt;omega
   · have:=hL _ e;omega
 have q:=mk_cells (o:=o) h hs;have hlt:=h.lt;have y0:∀ p:OnlyBy (mkW w o),p.w.cell? ⟨c,0,none⟩=some (.pointer (some ⟨s,0,none⟩)):=fun p=>(q p).1;have y1:∀ p:OnlyBy (mkW w o),p.w.cell? ⟨c,1,none⟩=some (.int .i64 n0):=fun p=>(q p).2.1;have y2:∀ p:OnlyBy (mkW w o),p.w.cell? ⟨c,2,none⟩=some (.int .i64 g0):=fun p=>(q p).2.2.1;have y3:∀ p:OnlyBy (mkW w o),p.w.cell? ⟨s,0,none⟩=some (.pointer (some ⟨tr,0,none⟩)):=fun p=>(q p).2.2.2.1;have y4:∀ p:OnlyBy (mkW w o),p.w.cell? ⟨w.heap.size,1,none⟩=some (.string o.N):=fun p=>(q p).2.2.2.2.1;have y5:∀ p:OnlyBy (mkW w o),p.w.cell? ⟨w.heap.size,3,none⟩=some (.int .i64 o.x1):=fun p=>(q p).2.2.2.2.2
 haveI:Nonempty (OnlyBy (mkW w o)):=⟨⟨_,Only.refl _ _⟩⟩
 clear h hs hC q hB
 go_enter Tryz.func180,Tryz.ntmps180
 go_wp2
 refine wp_region_any (by kernel_rfl) ?_
 change wpAny _ _ _ _ _ _ _ (World.drew _)
 refine wpAny_take (i:=0) (v:=?_) rfl (by kernel_rfl) (by kernel_rfl) (by kernel_rfl) (fun _ _ _ h=>h) (Or.inl ⟨by rfl,?_⟩) ?_
 rotate_left
 · intro w;go_simp;try with_reducible rfl
 refine wpAny_pre2 (w0:=mkW w o) (k0:=1) 16 8 _ rfl (by decide) (by kernel_rfl) (by kernel_rfl) (by kernel_rfl) (by kernel_rfl) (Only.refl [] _).drew ?_;simp only [List.drop_succ_cons,List.drop_zero,List.take_succ_cons,List.take_zero]
 repeat (first | go_big_quiet_skip | quiet_step (fail))
 refine wpQuiet_nil ?_;intro _ hw';obtain ⟨p,hw2⟩:=hw';subst hw2;have HP:Hid (Only [] w p.w):=HA.out.trans p.ho (fun _ hk=>by cases hk);have HPO:Hid (Only [] (mkW w o) p.w):=p.ho;clear y0 y1 y2 y3 y4 y5;generalize p.w=wp at HP HPO ⊢;refine wpAny_ready (rs:=[17]) (by kernel_rfl) (by simp) ?_;refine AllReady.cons rfl (fun K hK=>?_) AllReady.nil
 go_simp
 go_wp2_with (go_at_call 181;go_must (refine (HC.out wp HP.out).mono ?_);rintro e w1 ⟨rfl,hR,ho⟩;have HR:Hid (R wp w1):=hR;have H1:Hid (Only L (mkW w o) w1):=(HPO.out.mono (L':=L) (fun _ hk=>by cases hk)).trans ho (fun k hk=>Or.inl hk);have H1w:Hid (Only L w w1):=(HP.out.mono (L':=L) (fun _ hk=>by cases hk)).trans ho (fun k hk=>Or.inl hk);clear hR ho)
 refine wpAny_take (i:=18) (v:=?_) rfl (by kernel_rfl) (by kernel_rfl) (by kernel_rfl) (fun _ _ _ h=>h) (Or.inl ⟨by rfl,?_⟩) ?_
 rotate_left
 · intro w;go_simp;try with_reducible rfl
 refine wpAny_take (i:=19) (v:=?_) rfl (by kernel_rfl) (by kernel_rfl) (by kernel_rfl) (fun _ _ _ h=>h) (Or.inl ⟨by rfl,?_⟩) ?_
 rotate_left
 · intro w;go_simp;try with_reducible rfl
 refine wpAny_ready (rs:=[20]) (by kernel_rfl) (by simp) ?_;refine AllReady.cons rfl (fun K hK=>?_) AllReady.nil
 go_simp
 go_wp2_with (go_at_call 171;go_must (refine (HG.out w1 (HCM.out w1 H1w.out)).mono ?_);rintro e w2 ⟨rfl,hc,ho⟩;have H2:Hid (CmpAt w2 c s i g true):=hc;have H12:Hid (Only [c] w1 w2):=ho;have H3:Hid (Only (c::L) (mkW w o) w2):=(H1.out.mono (L':=c::L) (fun k hk=>Or.inl (List.mem_cons_of_mem _ hk))).trans ho (fun k hk=>Or.inl (by rw [List.mem_singleton.1 hk];exact List.mem_cons_self));obtain ⟨k0,k1,k2,k3,k4,k5,k6,k7,k8,kf⟩:=rp_kept (x:=w.heap.size+1) (World.size_alloc _ _) H3.out HX.out;have z0:=kf 0;have z1:=kf 1;have z2:=kf 2;have z3:=kf 3;have z4:=kf 4;have z5:=kf 5;have z6:=kf 6;have z7:=kf 7;have z8:=kf 8;clear hc ho kf)
 refine wpAny_take (i:=21) (v:=?_) rfl (by kernel_rfl) (by kernel_rfl) (by kernel_rfl) (fun _ _ _ h=>h) (Or.inl ⟨by rfl,?_⟩) ?_
 rotate_left
 · intro w;go_simp;try with_reducible rfl
 refine wpAny_take (i:=22) (v:=?_) rfl (by kernel_rfl) (by kernel_rfl) (by kernel_rfl) (fun _ _ _ h=>h) (Or.inl ⟨by rfl,?_⟩) ?_
 rotate_left
 · intro w;go_simp;try with_reducible rfl
 refine wpAny_ready (rs:=[23]) (by kernel_rfl) (by simp) ?_;refine AllReady.cons rfl (fun K hK=>?_) AllReady.nil
 go_simp
 refine hK _ _ ?_;clear hK K;refine wpAny_ready (rs:=[24]) (by kernel_rfl) (by simp) ?_;refine AllReady.cons rfl (fun K hK=>?_) AllReady.nil
 go_simp
 refine hK _ _ ?_;clear hK K;refine wpAny_done (by kernel_rfl) ?_ _
 go_wp2
 refine bodyPost_ret (v := .tuple #[rpK 0,.nilIface]) (by simp [results,Tryz.results180,go_sem,k0,k1,k2,k3,k4,k5,k6,k7,k8]) rfl ?_
 exact ⟨rfl,H2.out.only put9_only (by simp;omega),⟨wp,w1,[c,w.heap.size+1],HP.out.size,HR.out,(H12.out.mono (L':=[c,w.heap.size+1]) (fun k hk=>Or.inl (by rw [List.mem_singleton.1 hk];simp))).trans put9_only (fun k hk=>Or.inl (by rw [List.mem_singleton.1 hk];simp)),fun k hk=>by
   have hz:=HPO.out.size;have hq:=HBC.out;simp at hz;simp at hk;rcases hk with rfl | rfl
   · omega
   · omega⟩,((HA.out.mono (L':=c::L) (fun _ hk=>by cases hk)).trans H3.out (fun k hk=>Or.inl hk)).trans put9_only (fun k hk=>by rw [List.mem_singleton.1 hk];exact Or.inr (Nat.le_succ _))⟩
theorem needCur_make (w:World)(c s x:Nat)(n g n' g':Int)(o:OpV)(er:Value)(B:Nat)(hB:B≤c)(R:World→World→Prop)(L:List Nat)(h:CmpAt w c s n g true)(hx:BoxF w x 174 (fn0 180))(hL:∀ k∈L,k < w.heap.size)
  (hF:∀ W,Only [] w W→Calls Tryz.prog 180 #[.pointer (some ⟨c,0,none⟩),opV o] W fun e w'=>e = .returned (.tuple #[rpK 0,er])∧CmpAt w' c s n' g' true∧AftR B W.heap.size R w'∧Only (c::L) W w') :
  Calls Tryz.prog 263 #[.pointer (some ⟨c,0,none⟩),opV o,.pointer (some ⟨x,0,none⟩)] w fun e w'=>e = .returned (.tuple #[rpK 0,er])∧CmpAt w' c s n' g' true∧AftR B w.heap.size R w'∧Only (c::L) w w':=by
 have HA:Hid (Only [] w (mkW w o)):=((Only.refl [] w).alloc _).alloc _;have HF:Hid (∀ W,Only [] w W→Calls Tryz.prog 180 #[.pointer (some ⟨c,0,none⟩),opV o] W fun e w'=>e = .returned (.tuple #[rpK 0,er])∧CmpAt w' c s n' g' true∧AftR B W.heap.size R w'∧Only (c::L) W w'):=hF
 have HX:Hid (w.heap.size+1∉c::L):=fun k=>by
  rcases List.mem_cons.1 k with e | e
  · have:=h.lt;omega
  · have:=hL _ e;omega
 have HBC:Hid (B≤c∧c < w.heap.size):=⟨hB,h.lt⟩;have hlt:=h.lt;have hxl:x < w.heap.size:=(Array.getElem?_eq_some_iff.1 hx).1;have c3:=h.c3;have cx:=hx.cell;clear h hx hF hL hB
 go_enter Tryz.func263,Tryz.ntmps263
 go_wp2_with fail
 refine (HF.out (mkW w o) HA.out).mono ?_;rintro e w1 ⟨rfl,hG1,hG2,ho⟩;have H1:Hid (CmpAt w1 c s n' g' true):=hG1;have H2:Hid (AftR B (mkW w o).heap.size R w1):=hG2;have H3:Hid (Only (c::L) (mkW w o) w1):=ho;obtain ⟨k0,k1,k2,k3,k4,k5,k6,k7,k8,kf⟩:=rp_kept (x:=w.heap.size+1) (World.size_alloc _ _) ho HX.out;have z0:=kf 0;have z1:=kf 1;have z2:=kf 2;have z3:=kf 3;have z4:=kf 4;have z5:=kf 5;have z6:=kf 6;have z7:=kf 7;have z8:=kf 8;clear hG1 hG2 ho kf
 go_wp2
 refine bodyPost_ret (v := .tuple #[rpK 0,er]) (by simp [results,Tryz.results263,go_sem,k0,k1,k2,k3,k4,k5,k6,k7,k8]) rfl ?_;exact ⟨rfl,H1.out.only put9_only (by have:=HBC.out;simp;omega),(H2.out.only put9_only (fun k hk=>by have:=HBC.out;rw [List.mem_singleton.1 hk];simp;omega)).low (by simp;omega),((HA.out.mono (L':=c::L) (fun _ hk=>by cases hk)).trans H3.out (fun k hk=>Or.inl hk)).trans put9_only (fun k hk=>by rw [List.mem_singleton.1 hk];exact Or.inr (Nat.le_succ _))⟩
theorem codedS_nil (w:World)(k:Int):Calls Tryz.prog 63 #[rpK k,.nilIface] w fun e w'=>e = .returned (rpK k)∧Only [] w w':=by
 go_enter Tryz.func63,Tryz.ntmps63
 go_wp2
 refine bodyPost_ret (v:=rpK k) (by simp [results,Tryz.results63,go_sem]) rfl ?_;exact ⟨rfl,((Only.refl [] w).alloc _).alloc _⟩
end
section
open Go Go.RowKit Go.Deep
theorem grown_only {w w':World}{v:Value}{L:List Nat}{o:Obj}(h:(w.alloc o).grownBy w' v.ownBlock)(hL:∀ b,v.ownBlock=some b→b∈L∨w.heap.size≤b):Only L w w':=((Only.refl _ w).alloc _).grown h hL
theorem own_at {w:World}{base e k n b:Nat}{v:Value}{xs:List Value}(h:w.ownsRow base e k v n xs)(hb:v.ownBlock=some b):base≤b∧b < w.heap.size∧∃ cur,w.heap[b]?=some (.cells cur e (0,0)):=by
 rcases h.2 with ⟨rfl,_⟩ | ⟨g,cap,cur,rfl,h1,h2,_⟩
 · cases hb
 · cases hb
   exact ⟨h1,(Array.getElem?_eq_some_iff.1 h2).1,cur,h2⟩
theorem rpC_one (x:(RpV×Value))(hx:x.2.oneCell'=true):∀ v∈rpC x,v.oneCell'=true:=by
 intro v hv;simp only [rpC,List.mem_cons,List.not_mem_nil,or_false] at hv;rcases hv with rfl | rfl | rfl | rfl | rfl | rfl | rfl | rfl | rfl<;>first | exact hx | rfl
theorem rpInfo:∃ i,Tryz.prog.info? 170=some i∧i.zero=some (.agg #[.int .i64 0,.string ⟨#[]⟩,.int .i64 0,.int .i64 0,.int .i64 0,.int .i64 0,.slice none 0 0,.int .i64 0,.bool false])∧i.size=9∧i.bytes=96:=by
 have h:(Tryz.prog.info? 170).map (fun i=>(i.zero,i.size,i.bytes))=some (some (.agg #[.int .i64 0,.string ⟨#[]⟩,.int .i64 0,.int .i64 0,.int .i64 0,.int .i64 0,.slice none 0 0,.int .i64 0,.bool false]),9,96):=by kernel_rfl
 obtain ⟨i,hi,hz⟩:=Option.map_eq_some_iff.1 h;simp only [Prod.mk.injEq] at hz;exact ⟨i,hi,hz⟩
theorem rpsUnd:Tryz.prog.underlying 43=some (.slice 170):=by kernel_rfl
theorem rp_news {w:World}(x:(RpV×Value))(ty:TypeId):∀ (r:Nat) (q:Value),(rpC x)[r]?=some q→(w.alloc (.cells #[.int .i64 x.1.c,.string x.1.T,.int .i64 x.1.x1,.int .i64 x.1.x2,.int .i64 x.1.x3,.int .i64 x.1.x4,x.2,.int .i64 x.1.n,.bool x.1.e] ty)).cell? ((⟨w.heap.size,0,none⟩:Addr).add r)=some q:=World.news_of_block (w:=w.alloc (.cells #[.int .i64 x.1.c,.string x.1.T,.int .i64 x.1.x1,.int .i64 x.1.x2,.int .i64 x.1.x3,.int .i64 x.1.x4,x.2,.int .i64 x.1.n,.bool x.1.e] ty)) (heap_alloc_last w _)
theorem rp_news2 {w:World}(a:RpV)(u:Value)(ty:TypeId):∀ (r:Nat) (q:Value),(rpC (a,u))[r]?=some q→(w.alloc (.cells #[.int .i64 a.c,.string a.T,.int .i64 a.x1,.int .i64 a.x2,.int .i64 a.x3,.int .i64 a.x4,u,.int .i64 a.n,.bool a.e] ty)).cell? ((⟨w.heap.size,0,none⟩:Addr).add r)=some q:=rp_news (a,u) ty
theorem rpC_one2 (a:RpV)(ad:Option Addr)(n cp:Nat):∀ v∈rpC (a,.slice ad n cp),v.oneCell'=true:=rpC_one (a,.slice ad n cp) rfl
theorem Rws.in_ {α:Type}{w:World}{B n:Nat}{c:α→List Value}{ad:Option Addr}{l:List α}(h:Rws w B c n ad l){w':World}(ho:Only [] w w'):Rws w' B c n ad l:=h.only ho (fun _ k=>by cases k)
end
section
open Go Go.RowKit Go.Deep Go.Maps
abbrev cmpCells (s:Nat):Array Value:=#[.pointer (some ⟨s,0,none⟩),.int .i64 0,.int .i64 0,.bool false,.int .i64 0,.int .i64 0,.bool false]
theorem cmp_new (w:World)(s:Nat):CmpAt (w.alloc (.cells (cmpCells s) 166)) w.heap.size s 0 0 false :=
 ⟨by simp,by simp,by simp,by simp,fun o=>World.frozen?_alloc_at _ _ _ _ (by simp)⟩
theorem op_cells {w:World}{B g:Nat}{l:List OpV}{i:Nat}{x:OpV}(h:Rws w B opC 9 (some ⟨g,0,none⟩) l)(hi:l[i]?=some x):
  w.cell? ⟨g,i*9,none⟩=some (.string x.K)∧w.cell? ⟨g,i*9+1,none⟩=some (.string x.N)∧w.cell? ⟨g,i*9+2,none⟩=some (.string x.T)∧w.cell? ⟨g,i*9+3,none⟩=some (.int .i64 x.x1)∧w.cell? ⟨g,i*9+4,none⟩=some (.int .i64 x.x2)∧w.cell? ⟨g,i*9+5,none⟩=some (.int .i64 x.x3)∧w.cell? ⟨g,i*9+6,none⟩=some (.int .i64 x.x4)∧w.cell? ⟨g,i*9+7,none⟩=some (.int .i64 x.x5)∧w.cell? ⟨g,i*9+8,none⟩=some (.int .i64 x.x6):=by
 obtain ⟨g',h1,_,h3⟩:=h.at_ i x hi
 cases h1
 exact ⟨h3 0 _ rfl,h3 1 _ rfl,h3 2 _ rfl,h3 3 _ rfl,h3 4 _ rfl,h3 5 _ rfl,h3 6 _ rfl,h3 7 _ rfl,h3 8 _ rfl⟩
theorem BoxF.ne {w:World}{x c:Nat}{t t':TypeId}{v:Value}{cs:Array Value}{fr:Nat×Nat}(h:BoxF w x t v)(hc:w.heap[c]?=some (.cells cs t' fr))(ht:t≠t'):x∉[c]:=by
 intro e;rw [List.mem_singleton.1 e] at h;have h':w.heap[c]?=some (.cells #[v] t (0,0)):=h;rw [hc] at h';simp at h';exact ht h'.2.1.symm
theorem FnMap.ne {w:World}{b c:Nat}{f:List UInt8→Option Fv}{cs:Array Value}{t:TypeId}{fr:Nat×Nat}(h:FnMap w b f)(hc:w.heap[c]?=some (.cells cs t fr)):b∉[c]:=by
 obtain ⟨n,D,_,⟨es,clock,hb,_⟩,_⟩:=h;intro e;rw [List.mem_singleton.1 e,hc] at hb
 cases hb
theorem FinderAt.only1 {w w':World}{fb r c:Nat}{b:Nat→Nat}{f:Nat→List UInt8→Option Fv}{cs:Array Value}{fr:Nat×Nat}(h:FinderAt w fb r b f)(hc:w.heap[c]?=some (.cells cs 166 fr))(ho:Only [c] w w'):FinderAt w' fb r b f :=
 ⟨h.box.only ho (h.box.ne hc (by decide)),(ho.block r (Array.getElem?_eq_some_iff.1 h.row).1 (fun e=>by
  have:=h.row;rw [List.mem_singleton.1 e,hc] at this
  simp at this)).trans h.row,fun i hi=>(h.maps i hi).only ho ((h.maps i hi).ne hc)⟩
abbrev kR:ByteArray:=⟨#[114,111,111,116]⟩
abbrev kM:ByteArray:=⟨#[109,97,107,101]⟩
def opR:OpV:=⟨kR,⟨#[]⟩,⟨#[]⟩,0,0,0,0,0,0⟩
abbrev opVR:Value := .agg #[.string kR,.string ⟨#[]⟩,.string ⟨#[]⟩,.int .i64 0,.int .i64 0,.int .i64 0,.int .i64 0,.int .i64 0,.int .i64 0]
abbrev opCR:Array Value:=#[.string kR,.string ⟨#[]⟩,.string ⟨#[]⟩,.int .i64 0,.int .i64 0,.int .i64 0,.int .i64 0,.int .i64 0,.int .i64 0]
abbrev OpS (p:Nat)(K N:ByteArray)(x:Int)(W:World):Prop:=W.cell? ⟨p,0,none⟩=some (.string K)∧W.cell? ⟨p,1,none⟩=some (.string N)∧W.cell? ⟨p,2,none⟩=some (.string ⟨#[]⟩)∧W.cell? ⟨p,3,none⟩=some (.int .i64 x)∧W.cell? ⟨p,4,none⟩=some (.int .i64 0)∧W.cell? ⟨p,5,none⟩=some (.int .i64 0)∧W.cell? ⟨p,6,none⟩=some (.int .i64 0)∧W.cell? ⟨p,7,none⟩=some (.int .i64 0)∧W.cell? ⟨p,8,none⟩=some (.int .i64 0)
theorem opS_only {p:Nat}{K N:ByteArray}{x:Int}{W W':World}{L:List Nat}(h:OpS p K N x W)(ho:Only L W W')(hp:p∉L):OpS p K N x W':=by
 obtain ⟨h0,h1,h2,h3,h4,h5,h6,h7,h8⟩:=h;have hl:=lt_of_cell h0;exact ⟨(ho.cell (p:=⟨p,0,none⟩) hl hp).trans h0,(ho.cell (p:=⟨p,1,none⟩) hl hp).trans h1,(ho.cell (p:=⟨p,2,none⟩) hl hp).trans h2,(ho.cell (p:=⟨p,3,none⟩) hl hp).trans h3,(ho.cell (p:=⟨p,4,none⟩) hl hp).trans h4,(ho.cell (p:=⟨p,5,none⟩) hl hp).trans h5,(ho.cell (p:=⟨p,6,none⟩) hl hp).trans h6,(ho.cell (p:=⟨p,7,none⟩) hl hp).trans h7,(ho.cell (p:=⟨p,8,none⟩) hl hp).trans h8⟩
theorem opS_new (w:World)(K N:ByteArray)(x:Int)(t:TypeId):OpS w.heap.size K N x (w.alloc (.cells #[.string K,.string N,.string ⟨#[]⟩,.int .i64 x,.int .i64 0,.int .i64 0,.int .i64 0,.int .i64 0,.int .i64 0] t)):=⟨by simp,by simp,by simp,by simp,by simp,by simp,by simp,by simp,by simp⟩
def rpv (k:Int):RpV:=⟨k,⟨#[]⟩,0,0,0,0,[],0,false⟩
structure RpAt (w:World)(x:Nat)(k:Int):Prop where
 c0:w.cell? ⟨x,0,none⟩=some (.int .i64 k)
 c1:w.cell? ⟨x,1,none⟩=some (.string ⟨#[]⟩)
 c2:w.cell? ⟨x,2,none⟩=some (.int .i64 0)
 c3:w.cell? ⟨x,3,none⟩=some (.int .i64 0)
 c4:w.cell? ⟨x,4,none⟩=some (.int .i64 0)
 c5:w.cell? ⟨x,5,none⟩=some (.int .i64 0)
 c6:w.cell? ⟨x,6,none⟩=some (.slice none 0 0)
 c7:w.cell? ⟨x,7,none⟩=some (.int .i64 0)
 c8:w.cell? ⟨x,8,none⟩=some (.bool false)
theorem RpAt.only {w w':World}{x:Nat}{k:Int}{L:List Nat}(h:RpAt w x k)(ho:Only L w w')(hx:x∉L):RpAt w' x k:=by
 have hl:=lt_of_cell h.c0;exact ⟨(ho.cell (p:=⟨x,0,none⟩) hl hx).trans h.c0,(ho.cell (p:=⟨x,1,none⟩) hl hx).trans h.c1,(ho.cell (p:=⟨x,2,none⟩) hl hx).trans h.c2,(ho.cell (p:=⟨x,3,none⟩) hl hx).trans h.c3,(ho.cell (p:=⟨x,4,none⟩) hl hx).trans h.c4,(ho.cell (p:=⟨x,5,none⟩) hl hx).trans h.c5,(ho.cell (p:=⟨x,6,none⟩) hl hx).trans h.c6,(ho.cell (p:=⟨x,7,none⟩) hl hx).trans h.c7,(ho.cell (p:=⟨x,8,none⟩) hl hx).trans h.c8⟩
theorem RpAt.new (w:World)(k:Int)(t:TypeId):RpAt (w.alloc (.cells (rpCells k) t)) w.heap.size k:=⟨by simp,by simp,by simp,by simp,by simp,by simp,by simp,by simp,by simp⟩
theorem RpAt.put {w:World}{x:Nat}{j k:Int}(h:RpAt w x j):RpAt (put9 w x (.int .i64 k) (.string ⟨#[]⟩) (.int .i64 0) (.int .i64 0) (.int .i64 0) (.int .i64 0) (.slice none 0 0) (.int .i64 0) (.bool false)) x k:=by
 obtain ⟨h0,h1,h2,h3,h4,h5,h6,h7,h8⟩:=h;refine ⟨?_,?_,?_,?_,?_,?_,?_,?_,?_⟩
 · rw [World.cell?_setCell_other _ _ _ _ (by simp),World.cell?_setCell_other _ _ _ _ (by simp),World.cell?_setCell_other _ _ _ _ (by simp),World.cell?_setCell_other _ _ _ _ (by simp),World.cell?_setCell_other _ _ _ _ (by simp),World.cell?_setCell_other _ _ _ _ (by simp),World.cell?_setCell_other _ _ _ _ (by simp),World.cell?_setCell_other _ _ _ _ (by simp)]
   refine World.cell?_setCell_same _ _ _ (u := .int .i64 j) ?_;exact h0
 · rw [World.cell?_setCell_other _ _ _ _ (by simp),World.cell?_setCell_other _ _ _ _ (by simp),World.cell?_setCell_other _ _ _ _ (by simp),World.cell?_setCell_other _ _ _ _ (by simp),World.cell?_setCell_other _ _ _ _ (by simp),World.cell?_setCell_other _ _ _ _ (by simp),World.cell?_setCell_other _ _ _ _ (by simp)]
   refine World.cell?_setCell_same _ _ _ (u := .string ⟨#[]⟩) ?_;rw [World.cell?_setCell_other _ _ _ _ (by simp)];exact h1
 · rw [World.cell?_setCell_other _ _ _ _ (by simp),World.cell?_setCell_other _ _ _ _ (by simp),World.cell?_setCell_other _ _ _ _ (by simp),World.cell?_setCell_other _ _ _ _ (by simp),World.cell?_setCell_other _ _ _ _ (by simp),World.cell?_setCell_other _ _ _ _ (by simp)]
   refine World.cell?_setCell_same _ _ _ (u := .int .i64 0) ?_;rw [World.cell?_setCell_other _ _ _ _ (by simp),World.cell?_setCell_other _ _ _ _ (by simp)];exact h2
 · rw [World.cell?_setCell_other _ _ _ _ (by simp),World.cell?_setCell_other _ _ _ _ (by simp),World.cell?_setCell_other _ _ _ _ (by simp),World.cell?_setCell_other _ _ _ _ (by simp),World.cell?_setCell_other _ _ _ _ (by simp)]
   refine World.cell?_setCell_same _ _ _ (u := .int .i64 0) ?_;rw [World.cell?_setCell_other _ _ _ _ (by simp),World.cell?_setCell_other _ _ _ _ (by simp),World.cell?_setCell_other _ _ _ _ (by simp)];exact h3
 · rw [World.cell?_setCell_other _ _ _ _ (by simp),World.cell?_setCell_other _ _ _ _ (by simp),World.cell?_setCell_other _ _ _ _ (by simp),World.cell?_setCell_other _ _ _ _ (by simp)]
   refine World.cell?_setCell_same _ _ _ (u := .int .i64 0) ?_;rw [World.cell?_setCell_other _ _ _ _ (by simp),World.cell?_setCell_other _ _ _ _ (by simp),World.cell?_setCell_other _ _ _ _ (by simp),World.cell?_setCell_other _ _ _ _ (by simp)];exact h4
 · rw [World.cell?_setCell_other _ _ _ _ (by simp),World.cell?_setCell_other _ _ _ _ (by simp),World.cell?_setCell_other _ _ _ _ (by simp)]
   refine World.cell?_setCell_same _ _ _ (u := .int .i64 0) ?_;rw [World.cell?_setCell_other _ _ _ _ (by simp),World.cell?_setCell_other _ _ _ _ (by simp),World.cell?_setCell_other _ _ _ _ (by simp),World.cell?_setCell_other _ _ _ _ (by simp),World.cell?_setCell_other _ _ _ _ (by simp)];exact h5
 · rw [World.cell?_setCell_other _ _ _ _ (by simp),World.cell?_setCell_other _ _ _ _ (by simp)]
   refine World.cell?_setCell_same _ _ _ (u := .slice none 0 0) ?_;rw [World.cell?_setCell_other _ _ _ _ (by simp),World.cell?_setCell_other _ _ _ _ (by simp),World.cell?_setCell_other _ _ _ _ (by simp),World.cell?_setCell_other _ _ _ _ (by simp),World.cell?_setCell_other _ _ _ _ (by simp),World.cell?_setCell_other _ _ _ _ (by simp)];exact h6
 · rw [World.cell?_setCell_other _ _ _ _ (by simp)]
   refine World.cell?_setCell_same _ _ _ (u := .int .i64 0) ?_;rw [World.cell?_setCell_other _ _ _ _ (by simp),World.cell?_setCell_other _ _ _ _ (by simp),World.cell?_setCell_other _ _ _ _ (by simp),World.cell?_setCell_other _ _ _ _ (by simp),World.cell?_setCell_other _ _ _ _ (by simp),World.cell?_setCell_other _ _ _ _ (by simp),World.cell?_setCell_other _ _ _ _ (by simp)];exact h7
 · refine World.cell?_setCell_same _ _ _ (u := .bool false) ?_
   rw [World.cell?_setCell_other _ _ _ _ (by simp),World.cell?_setCell_other _ _ _ _ (by simp),World.cell?_setCell_other _ _ _ _ (by simp),World.cell?_setCell_other _ _ _ _ (by simp),World.cell?_setCell_other _ _ _ _ (by simp),World.cell?_setCell_other _ _ _ _ (by simp),World.cell?_setCell_other _ _ _ _ (by simp),World.cell?_setCell_other _ _ _ _ (by simp)];exact h8
def DidR (w:World)(k:Int)(L:List Nat)(X:World→Prop)(v:Value)(wx:World):Prop:=∃ x,v = .pointer (some ⟨x,0,none⟩)∧RpAt wx x k∧X wx∧w.heap.size≤x∧Only L w wx
theorem DidR.new {w w3 w4:World}{k:Int}{L:List Nat}{X:World→Prop}(h3:∀ W,Only [] w3 W→X W)(o3:Only [] w3 w4)(o4:Only L w w4):DidR w k L X (.pointer (some ⟨w4.heap.size,0,none⟩)) (w4.alloc (.cells (rpCells k) 170)) :=
 ⟨_,rfl,RpAt.new _ _ _,h3 _ (o3.alloc _),o4.size,o4.alloc _⟩
theorem DidR.mid {w w3 w4:World}{j k:Int}{L:List Nat}{X:World→Prop}(h3:∀ W,Only [] w3 W→X W)(o3:Only [] w3 w4)(o4:Only L w w4)(ho:w.heap.size≤w3.heap.size)(hr:RpAt w4 w3.heap.size j):DidR w k L X (.pointer (some ⟨w3.heap.size,0,none⟩)) (put9 w4 w3.heap.size (.int .i64 k) (.string ⟨#[]⟩) (.int .i64 0) (.int .i64 0) (.int .i64 0) (.int .i64 0) (.slice none 0 0) (.int .i64 0) (.bool false)) :=
 ⟨_,rfl,RpAt.put hr,h3 _ (o3.trans put9_only (fun q hq=>by rw [List.mem_singleton.1 hq];exact Or.inr (Nat.le_refl _))),ho,o4.trans put9_only (fun q hq=>by rw [List.mem_singleton.1 hq];exact Or.inr ho)⟩
theorem DidR.old {w w3 w4:World}{j k:Int}{L:List Nat}{X:World→Prop}{x:Nat}(h3:∀ W,Only [x] w3 W→X W)(o3:Only [] w3 w4)(o4:Only L w w4)(ho:w.heap.size≤x)(hr:RpAt w4 x j):DidR w k L X (.pointer (some ⟨x,0,none⟩)) (put9 w4 x (.int .i64 k) (.string ⟨#[]⟩) (.int .i64 0) (.int .i64 0) (.int .i64 0) (.int .i64 0) (.slice none 0 0) (.int .i64 0) (.bool false)) :=
 ⟨_,rfl,RpAt.put hr,h3 _ ((o3.mono (L':=[x]) (fun _ hk=>by cases hk)).trans put9_only (fun q hq=>Or.inl hq)),ho,o4.trans put9_only (fun q hq=>by rw [List.mem_singleton.1 hq];exact Or.inr ho)⟩
def TwoR (w:World)(kc:Int)(L:List Nat)(R:World→World→Prop)(e:Ending)(w':World):Prop:=∃ g c,e = .returned (.tuple #[.slice (some ⟨g,0,none⟩) 2 c,.nilIface])∧w'.ownsRow w.heap.size 170 9 (.slice (some ⟨g,0,none⟩) 2 c) 2 (rpC (rpv 0,Value.slice none 0 0)++rpC (rpv kc,Value.slice none 0 0))∧AftR w.heap.size w.heap.size R w'∧Only L w w'
end
end Go.Proofs.YtmnidbnaneagjaaGreatDoor
