import Derived.Test.YtodldddakjmonaaGreatDoorK10
import Derived.Test.YtodldddakjmonaaGreatDoorK19
set_option maxRecDepth 100000
set_option maxHeartbeats 8000000
namespace Go.Proofs.YtodldddakjmonaaGreatDoor
section
open Go Go.RowKit Go.Deep Go.Maps
structure CmpAt (w:World)(c s:Nat)(n g:Int)(b:Bool):Prop where
 c0:w.cell? ⟨c,0,none⟩=some (.pointer (some ⟨s,0,none⟩))
 c1:w.cell? ⟨c,1,none⟩=some (.int .i64 n)
 c2:w.cell? ⟨c,2,none⟩=some (.int .i64 g)
 c3:w.cell? ⟨c,3,none⟩=some (.bool b)
 fr:∀ o,w.frozen? ⟨c,o,none⟩=false
theorem CmpAt.lt {w:World}{c s:Nat}{n g:Int}{b:Bool}(h:CmpAt w c s n g b):c < w.heap.size:=lt_of_cell h.c0
theorem CmpAt.only {w w':World}{c s:Nat}{n g:Int}{b:Bool}{L:List Nat}(h:CmpAt w c s n g b)(ho:Only L w w')(hc:c∉L):CmpAt w' c s n g b :=
 ⟨(ho.cell (p:=⟨c,0,none⟩) h.lt hc).trans h.c0,(ho.cell (p:=⟨c,1,none⟩) h.lt hc).trans h.c1,(ho.cell (p:=⟨c,2,none⟩) h.lt hc).trans h.c2,(ho.cell (p:=⟨c,3,none⟩) h.lt hc).trans h.c3,fun o=>(ho.frozen (p:=⟨c,o,none⟩) h.lt hc).trans (h.fr o)⟩
abbrev rpK (k:Int):Value := .agg #[.int .i64 k,.string ⟨#[]⟩,.int .i64 0,.int .i64 0,.int .i64 0,.int .i64 0,.slice none 0 0,.int .i64 0,.bool false]
abbrev rpCells (k:Int):Array Value:=#[.int .i64 k,.string ⟨#[]⟩,.int .i64 0,.int .i64 0,.int .i64 0,.int .i64 0,.slice none 0 0,.int .i64 0,.bool false]
theorem CmpAt.moved {w:World}{c s:Nat}{n g:Int}{b:Bool}(h:CmpAt w c s n g b)(n' g':Int)(b':Bool):CmpAt (((w.setCell ⟨c,1,none⟩ (.int .i64 n')).setCell ⟨c,2,none⟩ (.int .i64 g')).setCell ⟨c,3,none⟩ (.bool b')) c s n' g' b'∧Only [c] w (((w.setCell ⟨c,1,none⟩ (.int .i64 n')).setCell ⟨c,2,none⟩ (.int .i64 g')).setCell ⟨c,3,none⟩ (.bool b')):=by
 obtain ⟨h0,h1,h2,h3,hf⟩:=h;refine ⟨⟨?_,?_,?_,?_,fun o=>by simpa using hf o⟩,(((Only.refl [c] w).setCell (p:=⟨c,1,none⟩) (Or.inl (by simp)) _).setCell (p:=⟨c,2,none⟩) (Or.inl (by simp)) _).setCell (p:=⟨c,3,none⟩) (Or.inl (by simp)) _⟩
 · rw [World.cell?_setCell_other _ _ _ _ (by simp),World.cell?_setCell_other _ _ _ _ (by simp),World.cell?_setCell_other _ _ _ _ (by simp)]
   exact h0
 · rw [World.cell?_setCell_other _ _ _ _ (by simp),World.cell?_setCell_other _ _ _ _ (by simp)]
   exact World.cell?_setCell_same _ _ _ h1
 · rw [World.cell?_setCell_other _ _ _ _ (by simp)]
   refine World.cell?_setCell_same _ _ _ (u := .int .i64 g) ?_;rw [World.cell?_setCell_other _ _ _ _ (by simp)];exact h2
 · refine World.cell?_setCell_same _ _ _ (u := .bool b) ?_
   rw [World.cell?_setCell_other _ _ _ _ (by simp),World.cell?_setCell_other _ _ _ _ (by simp)];exact h3
theorem goTo_err (w:World)(c:Nat)(i g:Int)(T:TypeId)(v:Value):
  Calls Tryz.prog 297 #[.pointer (some ⟨c,0,none⟩),.agg #[.int .i64 i,.int .i64 g],.iface T v] w fun e w'=>e = .returned (.tuple #[rpK 0,.iface T v])∧Only [] w w':=by
 have HO:Hid (Only [] w ((w.alloc (.cells #[.int .i64 i,.int .i64 g] 116)).alloc (.cells (rpCells 0) 169))):=((Only.refl [] w).alloc _).alloc _
 go_enter Tryz.func297,Tryz.ntmps297
 go_wp2
 refine bodyPost_ret (v := .tuple #[rpK 0,.iface T v]) (by simp [results,Tryz.results297,go_sem]) rfl ?_;exact ⟨rfl,HO.out⟩
theorem goTo_ok (w:World)(c s:Nat)(i g n0 g0:Int)(b0:Bool)(h:CmpAt w c s n0 g0 b0):
  Calls Tryz.prog 297 #[.pointer (some ⟨c,0,none⟩),.agg #[.int .i64 i,.int .i64 g],.nilIface] w fun e w'=>e = .returned (.tuple #[rpK 0,.nilIface])∧CmpAt w' c s i g true∧Only [c] w w':=by
 obtain ⟨hm,ho⟩:=h.moved i g true
 have HM:Hid (∀ o1 o2,CmpAt (((((w.setCell ⟨c,1,none⟩ (.int .i64 i)).setCell ⟨c,2,none⟩ (.int .i64 g)).setCell ⟨c,3,none⟩ (.bool true)).alloc o1).alloc o2) c s i g true∧Only [c] w (((((w.setCell ⟨c,1,none⟩ (.int .i64 i)).setCell ⟨c,2,none⟩ (.int .i64 g)).setCell ⟨c,3,none⟩ (.bool true)).alloc o1).alloc o2)) :=
  fun o1 o2=>⟨hm.only (((Only.refl [] _).alloc o1).alloc o2) (by simp),(ho.alloc o1).alloc o2⟩
 have hlt:=h.lt;obtain ⟨h0,h1,h2,h3,hf⟩:=h;have f1:=hf 1;have f2:=hf 2;have f3:=hf 3;clear hm ho hf
 go_enter Tryz.func297,Tryz.ntmps297
 go_wp2
 refine bodyPost_ret (v := .tuple #[rpK 0,.nilIface]) (by simp [results,Tryz.results297,go_sem]) rfl ?_;exact ⟨rfl,HM.out _ _⟩
abbrev opV (o:OpV):Value := .agg #[.string o.K,.string o.N,.string o.T,.int .i64 o.x1,.int .i64 o.x2,.int .i64 o.x3,.int .i64 o.x4,.int .i64 o.x5,.int .i64 o.x6]
abbrev opCells (o:OpV):Array Value:=#[.string o.K,.string o.N,.string o.T,.int .i64 o.x1,.int .i64 o.x2,.int .i64 o.x3,.int .i64 o.x4,.int .i64 o.x5,.int .i64 o.x6]
theorem rp_kept {W w2:World}{L:List Nat}{x:Nat}(hx:W.heap.size=x)(ho:Only L (W.alloc (.cells (rpCells 0) 169)) w2)(hL:x∉L):
   w2.cell? ⟨x,0,none⟩=some (.int .i64 0)∧w2.cell? ⟨x,1,none⟩=some (.string ⟨#[]⟩)∧w2.cell? ⟨x,2,none⟩=some (.int .i64 0)∧w2.cell? ⟨x,3,none⟩=some (.int .i64 0)∧w2.cell? ⟨x,4,none⟩=some (.int .i64 0)∧w2.cell? ⟨x,5,none⟩=some (.int .i64 0)∧w2.cell? ⟨x,6,none⟩=some (.slice none 0 0)∧w2.cell? ⟨x,7,none⟩=some (.int .i64 0)∧w2.cell? ⟨x,8,none⟩=some (.bool false)∧∀ o,w2.frozen? ⟨x,o,none⟩=false:=by
 subst hx;refine ⟨?_,?_,?_,?_,?_,?_,?_,?_,?_,fun o=>?_⟩
 · exact (ho.cell (p:=⟨W.heap.size,0,none⟩) (by simp) hL).trans (by simp)
 · exact (ho.cell (p:=⟨W.heap.size,1,none⟩) (by simp) hL).trans (by simp)
 · exact (ho.cell (p:=⟨W.heap.size,2,none⟩) (by simp) hL).trans (by simp)
 · exact (ho.cell (p:=⟨W.heap.size,3,none⟩) (by simp) hL).trans (by simp)
 · exact (ho.cell (p:=⟨W.heap.size,4,none⟩) (by simp) hL).trans (by simp)
 · exact (ho.cell (p:=⟨W.heap.size,5,none⟩) (by simp) hL).trans (by simp)
 · exact (ho.cell (p:=⟨W.heap.size,6,none⟩) (by simp) hL).trans (by simp)
 · exact (ho.cell (p:=⟨W.heap.size,7,none⟩) (by simp) hL).trans (by simp)
 · exact (ho.cell (p:=⟨W.heap.size,8,none⟩) (by simp) hL).trans (by simp)
 · exact (ho.frozen (p:=⟨W.heap.size,o,none⟩) (by simp) hL).trans (World.frozen?_alloc_at _ _ _ _ (by simp))
abbrev put9 (w:World)(x:Nat)(a0 a1 a2 a3 a4 a5 a6 a7 a8:Value):World:=((((((((w.setCell ⟨x,0,none⟩ a0).setCell ⟨x,1,none⟩ a1).setCell ⟨x,2,none⟩ a2).setCell ⟨x,3,none⟩ a3).setCell ⟨x,4,none⟩ a4).setCell ⟨x,5,none⟩ a5).setCell ⟨x,6,none⟩ a6).setCell ⟨x,7,none⟩ a7).setCell ⟨x,8,none⟩ a8
theorem put9_only {w:World}{x:Nat}{a0 a1 a2 a3 a4 a5 a6 a7 a8:Value}:Only [x] w (put9 w x a0 a1 a2 a3 a4 a5 a6 a7 a8) :=
 (((((((((Only.refl [x] w).setCell (p:=⟨x,0,none⟩) (Or.inl (by simp)) _).setCell (p:=⟨x,1,none⟩) (Or.inl (by simp)) _).setCell (p:=⟨x,2,none⟩) (Or.inl (by simp)) _).setCell (p:=⟨x,3,none⟩) (Or.inl (by simp)) _).setCell (p:=⟨x,4,none⟩) (Or.inl (by simp)) _).setCell (p:=⟨x,5,none⟩) (Or.inl (by simp)) _).setCell (p:=⟨x,6,none⟩) (Or.inl (by simp)) _).setCell (p:=⟨x,7,none⟩) (Or.inl (by simp)) _).setCell (p:=⟨x,8,none⟩) (Or.inl (by simp)) _
theorem root_ok (w:World)(c s tr:Nat)(n0 g0:Int)(b0:Bool)(o:OpV)(h:CmpAt w c s n0 g0 b0)(hs:w.cell? ⟨s,0,none⟩=some (.pointer (some ⟨tr,0,none⟩))):
  Calls Tryz.prog 296 #[.pointer (some ⟨c,0,none⟩),opV o] w fun e w'=>e = .returned (.tuple #[rpK 0,.nilIface])∧CmpAt w' c s 0 0 true∧Only [c] w w':=by
 have oA:Only [] w ((w.alloc (.cells (opCells o) 163)).alloc (.cells (rpCells 0) 169)):=((Only.refl [] w).alloc _).alloc _;have HR:Hid (∀ W,Only [] w W→Calls Tryz.prog 86 #[.pointer (some ⟨tr,0,none⟩)] W fun e w'=>e = .returned (.agg #[.int .i64 0,.int .i64 0])∧Only [] W w'):=fun W _=>root_any W _;have HG:Hid (∀ W,Only [] w W→Calls Tryz.prog 297 #[.pointer (some ⟨c,0,none⟩),.agg #[.int .i64 0,.int .i64 0],.nilIface] W fun e w'=>e = .returned (.tuple #[rpK 0,.nilIface])∧CmpAt w' c s 0 0 true∧Only [c] W w'):=fun W ho=>goTo_ok W c s 0 0 n0 g0 b0 (h.only ho (by simp));have HA:Hid (Only [] w ((w.alloc (.cells (opCells o) 163)).alloc (.cells (rpCells 0) 169))):=oA;have hlt:=h.lt;have hslt:=lt_of_cell hs;have h0:=h.c0;clear h oA
 go_enter Tryz.func296,Tryz.ntmps296
 go_wp2_with (first
  | (go_at_call 86;go_must (refine (HR.out _ HA.out).mono ?_);rintro e w1 ⟨rfl,ho⟩;have H1:Hid (Only [] ((w.alloc (.cells (opCells o) 163)).alloc (.cells (rpCells 0) 169)) w1):=ho;clear ho)
  | (go_at_call 297;go_must (refine (HG.out w1 (HA.out.trans H1.out (fun _ hk=>by cases hk))).mono ?_);rintro e w2 ⟨rfl,hc,ho⟩;have H2:Hid (CmpAt w2 c s 0 0 true):=hc;have H3:Hid (Only [c] ((w.alloc (.cells (opCells o) 163)).alloc (.cells (rpCells 0) 169)) w2):=(H1.out.mono (L':=[c]) (fun _ hk=>by cases hk)).trans ho (fun k hk=>Or.inl hk);obtain ⟨k0,k1,k2,k3,k4,k5,k6,k7,k8,kf⟩:=rp_kept (x:=w.heap.size+1) (World.size_alloc _ _) H3.out (by simp;omega);have z0:=kf 0;have z1:=kf 1;have z2:=kf 2;have z3:=kf 3;have z4:=kf 4;have z5:=kf 5;have z6:=kf 6;have z7:=kf 7;have z8:=kf 8;clear hc ho kf))
 refine bodyPost_ret (v := .tuple #[rpK 0,.nilIface]) (by simp [results,Tryz.results296,go_sem,k0,k1,k2,k3,k4,k5,k6,k7,k8]) rfl ?_;exact ⟨rfl,H2.out.only put9_only (by simp;omega),((HA.out.mono (L':=[c]) (fun _ hk=>by cases hk)).trans H3.out (fun k hk=>Or.inl hk)).trans put9_only (fun k hk=>by rw [List.mem_singleton.1 hk];exact Or.inr (Nat.le_succ _))⟩
end
section
open Go Go.RowKit Go.Deep
section
variable {P:Program}{ops:Array Oper}{md:Region.Mode}{C:World→Prop}{Q':Exit→Act→World→Prop}{k0 k:Nat}
def FullT (k0 k:Nat)(listed:Array Bool):Prop:=∀ i,k0≤i→i < k→listed.getD i false=true
def wpAnyT (P:Program)(md:Region.Mode)(ops:Array Oper)(C:World→Prop)(Q':Exit→Act→World→Prop)(k0 k:Nat):Nat→Array Bool→Act→Prop
 | 0,listed,a=>FullT k0 k listed∧∀ w,C w→wpAny P md ops Q' 0 listed a w
 | fuel+1,listed,a=>(FullT k0 k listed∧∀ w,C w→wpAny P md ops Q' (fuel+1) listed a w) ∨
  (Region.ready md ops listed≠[]∧∀ i∈Region.ready md ops listed,qOp P ops C i (wpAnyT P md ops C Q' k0 k fuel (listed.setIfInBounds i true)) a)
theorem wpAny_of_T:∀ (fuel:Nat) (listed:Array Bool) (a:Act) (w:World),C w→wpAnyT P md ops C Q' k0 k fuel listed a→wpAny P md ops Q' fuel listed a w
 | 0,_,_,w,hw,h=>h.2 w hw
 | fuel+1,_,_,w,hw,h=>by
  rcases h with h | ⟨h1,h2⟩
  · exact h.2 w hw
  · exact ⟨fun h0=>absurd h0 h1,fun i hi=>wpOp_of_qOp hw (fun a' w' hw'=>wpAny_of_T fuel _ a' w' hw') (h2 i hi)⟩
structure InT (md:Region.Mode)(ops:Array Oper)(k0 k:Nat)(listed:Array Bool):Prop where
 dcl:∀ j oj,ops[j]?=some oj→listed.getD j false=true→∀ e∈oj.after,Region.binds md e=true→listed.getD e.on false=true
 ntl:∀ j,k≤j→listed.getD j false=false
 pre:∀ j,j < k0→listed.getD j false=true
 len:listed.size=ops.size
def chkT (md:Region.Mode)(ops:Array Oper)(k0 k:Nat):Bool :=
 (List.range k).all fun i=>decide (i < k0) || ((List.range k).any fun j=>decide (i < j)&&match ops[j]? with | some oj=>oj.after.any (fun e=>Region.binds md e&&e.on==i) | none=>false) ||
  ((List.range ops.size).all fun j=>decide (j < k) || match ops[j]? with | some oj=>oj.after.any (fun e=>Region.binds md e&&(e.on==i || decide (k≤e.on))) | none=>true)
theorem full_of_tail {listed:Array Bool}(h:InT md ops k0 k listed)(hc:chkT md ops k0 k=true){j:Nat}(hj:j∈Region.ready md ops listed)(hk:k≤j):FullT k0 k listed:=by
 obtain ⟨_,oj,hoj,hall⟩:=mem_ready.1 hj;have hjs:j < ops.size:=(Array.getElem?_eq_some_iff.1 hoj).1
 have step:∀ m i,k0≤i→i < k→k≤i+m→listed.getD i false=true:=by
  intro m
  induction m with
  | zero=>intro i _ h1 h2;omega
  | succ m ih =>
   intro i hi0 hik him;have c:=List.all_eq_true.1 hc i (List.mem_range.2 hik);simp only [Bool.or_eq_true,decide_eq_true_eq,List.any_eq_true,List.mem_range,Bool.and_eq_true,List.all_eq_true] at c;rcases c with (c | ⟨q,hq,hiq,c⟩) | c
   · omega
   · cases hoq:ops[q]? with
     | none=>rw [hoq] at c;cases c
     | some oq =>
       rw [hoq] at c;obtain ⟨e,he,hb⟩:=Array.any_eq_true'.1 c;simp only [Bool.and_eq_true,beq_iff_eq] at hb;have:=h.dcl q oq hoq (ih q (by omega) hq (by omega)) e he hb.1;rw [hb.2] at this;exact this
   · rcases c j hjs with c | c
     · omega
     · rw [hoj] at c
       obtain ⟨e,he,hb⟩:=Array.any_eq_true'.1 c;simp only [Bool.and_eq_true,Bool.or_eq_true,beq_iff_eq,decide_eq_true_eq] at hb;have h1:=hall e he hb.1;rcases hb.2 with e1 | e1
       · rw [e1] at h1
         exact h1
       · rw [h.ntl e.on e1] at h1
         cases h1
 exact fun i hi0 hik=>step (k - i) i hi0 hik (by omega)
theorem InT.set {listed:Array Bool}(h:InT md ops k0 k listed){j:Nat}(hj:j∈Region.ready md ops listed)(hk:j < k):InT md ops k0 k (listed.setIfInBounds j true):=by
 obtain ⟨_,oj,hoj,hall⟩:=mem_ready.1 hj;refine ⟨fun q oq hq hl e he hb=>?_,fun q hq=>?_,fun q hq=>getD_set_true (h.pre q hq),by rw [Array.size_setIfInBounds];exact h.len⟩
 · by_cases e1:j=q
   · subst e1
     obtain rfl:oq=oj:=Option.some.inj (hq.symm.trans hoj);exact getD_set_true (hall e he hb)
   · rw [getD_set_ne false e1] at hl
     exact getD_set_true (h.dcl q oq hq hl e he hb)
 · rw [getD_set_ne false (by omega)]
   exact h.ntl q hq
theorem wpAnyT_first {i:Nat}{oi:Oper}{v:Value}(hi:ops[i]?=some oi)(hsel:∀ (j:Nat) (o:Oper) cs b,ops[j]?=some o→o.op ≠ .select cs b)(hk0:k0≤i)(hik:i < k)(hc:chkT md ops k0 k=true):
  ∀ (fuel:Nat) (listed:Array Bool) (a:Act),InT md ops k0 k listed →
    (∀ j oj,ops[j]?=some oj→j≠i→listed.getD j true=false→(∀ e∈oj.after,Region.binds md e=true→e.on≠i)→oi.apart ops oj=true) →
    i∈Region.ready md ops listed→YieldsIn P ops C oi v a →
    wpAnyT P md ops C Q' k0 k fuel (listed.setIfInBounds i true) (a.put oi.dst v)→wpAnyT P md ops C Q' k0 k (fuel+1) listed a:=by
 have hun:∀ {listed:Array Bool},i∈Region.ready md ops listed→listed.getD i false=false:=fun {listed} hr=>by
  have h0:=(mem_ready.1 hr).1;rcases Nat.lt_or_ge i listed.size with h' | h'
  · simp [h'] at h0 ⊢;exact h0
  · simp [Array.getElem?_eq_none h'] at h0
 have low:∀ {listed:Array Bool},InT md ops k0 k listed→i∈Region.ready md ops listed→∀ j∈Region.ready md ops listed,j < k:=fun {listed} hI hr j hj=>by
  rcases Nat.lt_or_ge j k with h | h
  · exact h
  · have:=full_of_tail hI hc hj h i hk0 hik
    rw [hun hr] at this
    cases this
 have alone:∀ {listed:Array Bool},InT md ops k0 k listed→i∈Region.ready md ops listed→FullT k0 k (listed.setIfInBounds i true)→∀ j∈Region.ready md ops listed,j=i:=fun {listed} hI hr hF j hj=>by
  refine Decidable.byContradiction fun hji=>?_;have hjk:=low hI hr j hj;have h0:=(mem_ready.1 hj).1
  have h1:listed.getD j false=true:=by
    rcases Nat.lt_or_ge j k0 with h | h
    · exact hI.pre j h
    · have:=hF j h hjk
      rwa [getD_set_ne false (Ne.symm hji)] at this
  rcases Nat.lt_or_ge j listed.size with h' | h'
  · simp [h'] at h0 h1;rw [h0] at h1;cases h1
  · simp [Array.getElem?_eq_none h'] at h1
 intro fuel
 induction fuel with
 | zero =>
  intro listed a hI _ hr hy H;refine Or.inr ⟨fun h=>(by rw [h] at hr;cases hr),fun j hj=>?_⟩;obtain rfl:=alone hI hr H.1 j hj;exact hy.qOp hi H
 | succ fuel ih =>
  intro listed a hI hfree hr hy H;refine Or.inr ⟨fun h=>(by rw [h] at hr;cases hr),fun j hj=>?_⟩
  by_cases hji:j=i
  · subst hji;exact hy.qOp hi H
  · rcases H with H | ⟨_,H⟩
    · exact absurd (alone hI hr H.1 j hj) hji
    · have h1:=H j (ready_mono hj hji)
      obtain ⟨hjun,oj,hoj,hall⟩:=mem_ready.1 hj
      have hnot:∀ e∈oj.after,Region.binds md e=true→e.on≠i:=fun e he hb heq=>by
       have h1:=hall e he hb;rw [heq,hun hr] at h1
       cases h1
      have hap:=hfree j oj hoj hji hjun hnot;have h2:=qOp_put hoj hap (fun cs b=>hsel i oi cs b hi) (fun cs b=>hsel j oj cs b hoj) hy h1
      have hfree':∀ q oq,ops[q]?=some oq→q≠i→(listed.setIfInBounds j true).getD q true=false →
         (∀ e∈oq.after,Region.binds md e=true→e.on≠i)→oi.apart ops oq=true:=fun q oq hq hqi hun hno=>by
       refine hfree q oq hq hqi ?_ hno
       by_cases hjq:j=q
       · subst hjq;exact hjun
       · rw [getD_set_ne true hjq] at hun;exact hun
      refine qOp_mono (fun a' h3=>ih (listed.setIfInBounds j true) a' (hI.set hj (low hI hr j hj)) hfree' (ready_mono hr (Ne.symm hji)) h3.1 ?_) h2;rw [Array.setIfInBounds_comm _ _ hji];exact h3.2
def markT:Nat→Nat→Array Bool→Array Bool
 | 0,_,listed=>listed
 | n+1,i,listed=>markT n (i+1) (listed.setIfInBounds i true)
def lexT (md:Region.Mode)(ops:Array Oper):Nat→Nat→Array Bool→Bool
 | 0,_,_=>true
 | n+1,i,listed=>(Region.ready md ops listed).contains i&&Region.free md ops listed i&&lexT md ops n (i+1) (listed.setIfInBounds i true)
theorem wpAnyT_lex (hs:Region.noSelect ops=true)(hc:chkT md ops k0 k=true)(rest:Nat):∀ (l:List Oper) (i:Nat) (listed:Array Bool) (a:Act),k0≤i→i+l.length=k→InT md ops k0 k listed→(∀ j,k0≤j→j < i→listed.getD j false=true)→(∀ j,j < l.length→l[j]?=ops[i+j]?) →
  lexT md ops l.length i listed=true→wpQuiet P ops C (fun a'=>∀ w,C w→wpAny P md ops Q' rest (markT l.length i listed) a' w) l a→wpAnyT P md ops C Q' k0 k (l.length+rest) listed a
 | [],i,listed,a,hi,hk,hI,hd,hl,hB,h=>by
  have hF:FullT k0 k listed:=fun j h1 h2=>hd j h1 (by simp at hk;omega);have h':∀ w,C w→wpAny P md ops Q' rest listed a w:=h;show wpAnyT P md ops C Q' k0 k (0+rest) listed a;rw [Nat.zero_add]
  cases rest with
  | zero=>exact ⟨hF,h'⟩
  | succ r=>exact Or.inl ⟨hF,h'⟩
 | o1::l,i,listed,a,hi,hk,hI,hd,hl,hB,h=>by
  have h0:ops[i]?=some o1:=by simpa using (hl 0 (by simp)).symm
  rw [List.length_cons,lexT,Bool.and_eq_true,Bool.and_eq_true] at hB;obtain ⟨⟨hr,hf⟩,hB'⟩:=hB
  have hr':i∈Region.ready md ops listed:=by simpa using hr
  have hik:i < k:=by simp at hk;omega
  have hst:qOp P ops C i (wpQuiet P ops C (fun a'=>∀ w,C w→wpAny P md ops Q' rest (markT l.length (i+1) (listed.setIfInBounds i true)) a' w) l) a:=by unfold qOp;simp only [h0];exact h
  obtain ⟨v,hy,hK⟩:=yieldsIn_of_qOp h0 hst
  have hm:i < listed.size:=by rw [hI.len];exact (Array.getElem?_eq_some_iff.1 h0).1
  have:=wpAnyT_first (Q':=Q') (k0:=k0) (k:=k) h0 (Region.noSelect_spec hs) hi hik hc (l.length+rest) listed a hI (Region.free_spec h0 hf) hr' hy
   (wpAnyT_lex hs hc rest l (i+1) _ _ (by omega) (by simp at hk;omega) (hI.set hr' hik) (fun j h1 h2=>by
    by_cases e:i=j
    · subst e;simp [hm]
    · exact getD_set_true (hd j h1 (by omega))) (fun j hj=>by have:=hl (j+1) (by simp;omega);simpa [Nat.add_assoc,Nat.add_comm 1 j] using this) hB' hK)
  rw [List.length_cons,Nat.add_right_comm];exact this
theorem wpAny_pre {listed:Array Bool}{a:Act}{w:World}(l:List Oper)(rest fuel:Nat)(hfu:fuel=l.length+rest)(hk:k0+l.length=k)(hs:Region.noSelect ops=true)(hc:chkT md ops k0 k=true)(hI:InT md ops k0 k listed)(hl:∀ j,j < l.length→l[j]?=ops[k0+j]?)(hB:lexT md ops l.length k0 listed=true)(hC:C w)
  (h:wpQuiet P ops C (fun a'=>∀ w,C w→wpAny P md ops Q' rest (markT l.length k0 listed) a' w) l a):wpAny P md ops Q' fuel listed a w:=by
 subst hfu;exact wpAny_of_T _ _ _ _ hC (wpAnyT_lex hs hc rest l k0 listed a (Nat.le_refl _) hk hI (fun j h1 h2=>by omega) hl hB h)
def inTB (md:Region.Mode)(ops:Array Oper)(k0 k:Nat)(listed:Array Bool):Bool :=
 (listed.size==ops.size)&&((List.range ops.size).all fun j=>match ops[j]? with | some oj=>!(listed.getD j false) || oj.after.all (fun e=>!(Region.binds md e) || listed.getD e.on false) | none=>true) &&
  ((List.range ops.size).all fun j=>decide (j < k) || !(listed.getD j false))&&((List.range k0).all fun j=>listed.getD j false)
theorem InT.of {listed:Array Bool}(h:inTB md ops k0 k listed=true):InT md ops k0 k listed:=by
 simp only [inTB,Bool.and_eq_true,List.all_eq_true,List.mem_range,beq_iff_eq,Bool.or_eq_true,decide_eq_true_eq,Bool.not_eq_true'] at h;obtain ⟨⟨⟨h1,h2⟩,h3⟩,h4⟩:=h;refine ⟨fun j oj hj hl e he hb=>?_,fun j hj=>?_,fun j hj=>h4 j hj,h1⟩
 · have:=h2 j (Array.getElem?_eq_some_iff.1 hj).1
   rw [hj] at this;simp only [Bool.or_eq_true,Bool.not_eq_true'] at this;rcases this with this | this
   · rw [hl] at this;cases this
   · have:=Array.all_eq_true'.1 this e he
     simp only [Bool.or_eq_true,Bool.not_eq_true'] at this;rcases this with this | this
     · rw [hb] at this;cases this
     · exact this
 · rcases Nat.lt_or_ge j ops.size with hjs | hjs
   · rcases h3 j hjs with h | h
     · omega
     · exact h
   · have:listed.size≤j:=by omega
     simp [Array.getElem?_eq_none this]
theorem wpAny_pre2 {listed:Array Bool}{a:Act}{w0 w:World}(n rest fuel:Nat)(hfu:fuel=n+rest)(hn:k0+n≤ops.size)(hs:Region.noSelect ops=true)(hc:chkT md ops k0 (k0+n)=true)(hI:inTB md ops k0 (k0+n) listed=true)(hB:lexT md ops n k0 listed=true)(hC:Only [] w0 w)
  (h:wpQuiet P ops (fun w'=>∃ p:OnlyBy w0,w'=p.w) (fun a'=>∀ w',(∃ p:OnlyBy w0,w'=p.w)→wpAny P md ops Q' rest (markT n k0 listed) a' w') ((ops.toList.drop k0).take n) a):wpAny P md ops Q' fuel listed a w:=by
 have hlen:((ops.toList.drop k0).take n).length=n:=by simp;omega
 refine wpAny_pre (C:=fun w'=>∃ p:OnlyBy w0,w'=p.w) (k0:=k0) (k:=k0+n) ((ops.toList.drop k0).take n) rest fuel (by rw [hlen];exact hfu) (by rw [hlen]) hs hc (InT.of hI) (fun j hj=>?_) (by rw [hlen];exact hB) ⟨⟨w,hC⟩,rfl⟩ (by rw [hlen];exact h);rw [hlen] at hj;rw [List.getElem?_take_of_lt hj,List.getElem?_drop];simp
end
end
section
open Go Go.RowKit Go.Deep Go.Maps
abbrev mkW (w:World)(o:OpV):World:=(w.alloc (.cells (opCells o) 163)).alloc (.cells (rpCells 0) 169)
def AftR (B X:Nat)(R:World→World→Prop)(w':World):Prop:=∃ W0 w1 M,X≤W0.heap.size∧R W0 w1∧Only M w1 w'∧∀ k∈M,B≤k∧k < W0.heap.size
theorem AftR.only {B X:Nat}{R:World→World→Prop}{w w':World}{M:List Nat}(h:AftR B X R w)(ho:Only M w w')(hM:∀ k∈M,B≤k∧k < X):AftR B X R w':=by
 obtain ⟨W0,w1,M0,h1,h2,h3,h4⟩:=h;refine ⟨W0,w1,M0++M,h1,h2,(h3.mono (L':=M0++M) (fun k hk=>Or.inl (List.mem_append_left _ hk))).trans ho (fun k hk=>Or.inl (List.mem_append_right _ hk)),fun k hk=>?_⟩;rcases List.mem_append.1 hk with e | e
 · exact h4 k e
 · exact ⟨(hM k e).1,Nat.lt_of_lt_of_le (hM k e).2 h1⟩
theorem AftR.low {B X Y:Nat}{R:World→World→Prop}{w:World}(h:AftR B X R w)(hY:Y≤X):AftR B Y R w:=by
 obtain ⟨W0,w1,M0,h1,h2,h3,h4⟩:=h;exact ⟨W0,w1,M0,Nat.le_trans hY h1,h2,h3,h4⟩
theorem mk_cells {w:World}{c s tr:Nat}{n0 g0:Int}{b:Bool}{o:OpV}(h:CmpAt w c s n0 g0 b)(hs:w.cell? ⟨s,0,none⟩=some (.pointer (some ⟨tr,0,none⟩)))(p:OnlyBy (mkW w o)):
   p.w.cell? ⟨c,0,none⟩=some (.pointer (some ⟨s,0,none⟩))∧p.w.cell? ⟨c,1,none⟩=some (.int .i64 n0)∧p.w.cell? ⟨c,2,none⟩=some (.int .i64 g0)∧p.w.cell? ⟨s,0,none⟩=some (.pointer (some ⟨tr,0,none⟩))∧p.w.cell? ⟨w.heap.size,1,none⟩=some (.string o.N)∧p.w.cell? ⟨w.heap.size,3,none⟩=some (.int .i64 o.x1):=by
 have oA:Only [] w (mkW w o):=((Only.refl [] w).alloc _).alloc _;have ho:=oA.trans p.ho (fun _ hk=>by cases hk);have h':=h.only ho (by simp);refine ⟨h'.c0,h'.c1,h'.c2,(ho.cell (p:=⟨s,0,none⟩) (lt_of_cell hs) (by simp)).trans hs,?_,?_⟩
 · exact (p.ho.cell (p:=⟨w.heap.size,1,none⟩) (by simp;omega) (by simp)).trans (by simp)
 · exact (p.ho.cell (p:=⟨w.heap.size,3,none⟩) (by simp;omega) (by simp)).trans (by simp)
theorem make_err (w:World)(c s tr:Nat)(n0 g0:Int)(o:OpV)(T:TypeId)(v:Value)(h:CmpAt w c s n0 g0 true)(hs:w.cell? ⟨s,0,none⟩=some (.pointer (some ⟨tr,0,none⟩)))
   (hC:∀ W,Only [] w W→Calls Tryz.prog 307 #[.pointer (some ⟨tr,0,none⟩),.agg #[.int .i64 n0,.int .i64 g0],.string o.N,.int .i64 o.x1] W fun e w'=>e = .returned (.tuple #[.agg #[.int .i64 0,.int .i64 0],.iface T v])∧Only [] W w') :
   Calls Tryz.prog 306 #[.pointer (some ⟨c,0,none⟩),opV o] w fun e w'=>e = .returned (.tuple #[rpK 0,.iface T v])∧Only [] w w':=by
 have HA:Hid (Only [] w (mkW w o)):=((Only.refl [] w).alloc _).alloc _;have HC:Hid (∀ W,Only [] w W→Calls Tryz.prog 307 #[.pointer (some ⟨tr,0,none⟩),.agg #[.int .i64 n0,.int .i64 g0],.string o.N,.int .i64 o.x1] W fun e w'=>e = .returned (.tuple #[.agg #[.int .i64 0,.int .i64 0],.iface T v])∧Only [] W w'):=hC;have HG:Hid (∀ W,Calls Tryz.prog 297 #[.pointer (some ⟨c,0,none⟩),.agg #[.int .i64 0,.int .i64 0],.iface T v] W fun e w'=>e = .returned (.tuple #[rpK 0,.iface T v])∧Only [] W w'):=fun W=>goTo_err W c 0 0 T v;have q:=mk_cells (o:=o) h hs;have hlt:=h.lt;have y0:∀ p:OnlyBy (mkW w o),p.w.cell? ⟨c,0,none⟩=some (.pointer (some ⟨s,0,none⟩)):=fun p=>(q p).1;have y1:∀ p:OnlyBy (mkW w o),p.w.cell? ⟨c,1,none⟩=some (.int .i64 n0):=fun p=>(q p).2.1;have y2:∀ p:OnlyBy (mkW w o),p.w.cell? ⟨c,2,none⟩=some (.int .i64 g0):=fun p=>(q p).2.2.1;have y3:∀ p:OnlyBy (mkW w o),p.w.cell? ⟨s,0,none⟩=some (.pointer (some ⟨tr,0,none⟩)):=fun p=>(q p).2.2.2.1;have y4:∀ p:OnlyBy (mkW w o),p.w.cell? ⟨w.heap.size,1,none⟩=some (.string o.N):=fun p=>(q p).2.2.2.2.1;have y5:∀ p:OnlyBy (mkW w o),p.w.cell? ⟨w.heap.size,3,none⟩=some (.int .i64 o.x1):=fun p=>(q p).2.2.2.2.2
 haveI:Nonempty (OnlyBy (mkW w o)):=⟨⟨_,Only.refl _ _⟩⟩
 clear h hs hC q
 go_enter Tryz.func306,Tryz.ntmps306
 go_wp2
 refine wp_region_any (by kernel_rfl) ?_
 change wpAny _ _ _ _ _ _ _ (World.drew _)
 refine wpAny_take (i:=0) (v:=?_) rfl (by kernel_rfl) (by kernel_rfl) (by kernel_rfl) (fun _ _ _ h=>h) (Or.inl ⟨by rfl,?_⟩) ?_
 rotate_left
 · intro w;go_simp;try with_reducible rfl
 refine wpAny_pre2 (w0:=mkW w o) (k0:=1) 16 8 _ rfl (by decide) (by kernel_rfl) (by kernel_rfl) (by kernel_rfl) (by kernel_rfl) (Only.refl [] _).drew ?_;simp only [List.drop_succ_cons,List.drop_zero,List.take_succ_cons,List.take_zero]
 repeat (first | go_big_quiet_skip | quiet_step (fail))
 refine wpQuiet_nil ?_;intro _ hw';obtain ⟨p,hw2⟩:=hw';subst hw2;have HP:Hid (Only [] w p.w):=HA.out.trans p.ho (fun _ hk=>by cases hk);have HPO:Hid (Only [] (mkW w o) p.w):=p.ho;clear y0 y1 y2 y3 y4 y5;generalize p.w=wp at HP HPO ⊢;refine wpAny_ready (rs:=[17]) (by kernel_rfl) (by simp) ?_;refine AllReady.cons rfl (fun K hK=>?_) AllReady.nil
 go_simp
 go_wp2_with (go_at_call 307;go_must (refine (HC.out wp HP.out).mono ?_);rintro e w1 ⟨rfl,ho⟩;have H1:Hid (Only [] (mkW w o) w1):=HPO.out.trans ho (fun _ hk=>by cases hk);clear ho)
 refine wpAny_take (i:=18) (v:=?_) rfl (by kernel_rfl) (by kernel_rfl) (by kernel_rfl) (fun _ _ _ h=>h) (Or.inl ⟨by rfl,?_⟩) ?_
 rotate_left
 · intro w;go_simp;try with_reducible rfl
 refine wpAny_take (i:=19) (v:=?_) rfl (by kernel_rfl) (by kernel_rfl) (by kernel_rfl) (fun _ _ _ h=>h) (Or.inl ⟨by rfl,?_⟩) ?_
 rotate_left
 · intro w;go_simp;try with_reducible rfl
 refine wpAny_ready (rs:=[20]) (by kernel_rfl) (by simp) ?_;refine AllReady.cons rfl (fun K hK=>?_) AllReady.nil
 go_simp
 go_wp2_with (go_at_call 297;go_must (refine (HG.out w1).mono ?_);rintro e w2 ⟨rfl,ho⟩;have H3:Hid (Only [] (mkW w o) w2):=H1.out.trans ho (fun _ hk=>by cases hk);obtain ⟨k0,k1,k2,k3,k4,k5,k6,k7,k8,kf⟩:=rp_kept (x:=w.heap.size+1) (World.size_alloc _ _) H3.out (by simp);have z0:=kf 0;have z1:=kf 1;have z2:=kf 2;have z3:=kf 3;have z4:=kf 4;have z5:=kf 5;have z6:=kf 6;have z7:=kf 7;have z8:=kf 8;clear ho kf)
 refine wpAny_take (i:=21) (v:=?_) rfl (by kernel_rfl) (by kernel_rfl) (by kernel_rfl) (fun _ _ _ h=>h) (Or.inl ⟨by rfl,?_⟩) ?_
 rotate_left
 · intro w;go_simp;try with_reducible rfl
 refine wpAny_take (i:=22) (v:=?_) rfl (by kernel_rfl) (by kernel_rfl) (by kernel_rfl) (fun _ _ _ h=>h) (Or.inl ⟨by rfl,?_⟩) ?_
 rotate_left
 · intro w;go_simp;try with_reducible rfl
 refine wpAny_ready (rs:=[23]) (by kernel_rfl) (by simp) ?_;refine AllReady.cons rfl (fun K hK=>?_) AllReady.nil
 go_simp
 refine hK _ _ ?_;clear hK K;refine wpAny_ready (rs:=[24]) (by kernel_rfl) (by simp) ?_;refine AllReady.cons rfl (fun K hK=>?_) AllReady.nil
 go_simp
 refine hK _ _ ?_;clear hK K;refine wpAny_done (by kernel_rfl) ?_ _
 go_wp2
 refine bodyPost_ret (v := .tuple #[rpK 0,.iface T v]) (by simp [results,Tryz.results306,go_sem,k0,k1,k2,k3,k4,k5,k6,k7,k8]) rfl ?_;exact ⟨rfl,(HA.out.trans H3.out (fun _ hk=>by cases hk)).trans put9_only (fun k hk=>by rw [List.mem_singleton.1 hk];exact Or.inr (Nat.le_succ _))⟩
theorem make_ok (w:World)(c s tr:Nat)(n0 g0:Int)(o:OpV)(i g:Int)(B:Nat)(hB:B≤c)(R:World→World→Prop)(L:List Nat)(h:CmpAt w c s n0 g0 true)(hs:w.cell? ⟨s,0,none⟩=some (.pointer (some ⟨tr,0,none⟩)))(hcL:c∉L)(hL:∀ k∈L,k < w.heap.size)
   (hC:∀ W,Only [] w W→Calls Tryz.prog 307 #[.pointer (some ⟨tr,0,none⟩),.agg #[.int .i64 n0,.int .i64 g0],.string o.N,.int .i64 o.x1] W fun e w'=>e = .returned (.tuple #[.agg #[.int .i64 i,.int .i64 g],.nilIface])∧R W w'∧Only L W w') :
   Calls Tryz.prog 306 #[.pointer (some ⟨c,0,none⟩),opV o] w fun e w'=>e = .returned (.tuple #[rpK 0,.nilIface])∧CmpAt w' c s i g true∧AftR B w.heap.size R w'∧Only (c::L) w w':=by
 have HA:Hid (Only [] w (mkW w o)):=((Only.refl [] w).alloc _).alloc _;have HC:Hid (∀ W,Only [] w W→Calls Tryz.prog 307 #[.pointer (some ⟨tr,0,none⟩),.agg #[.int .i64 n0,.int .i64 g0],.string o.N,.int .i64 o.x1] W fun e w'=>e = .returned (.tuple #[.agg #[.int .i64 i,.int .i64 g],.nilIface])∧R W w'∧Only L W w'):=hC;have HG:Hid (∀ W,CmpAt W c s n0 g0 true→Calls Tryz.prog 297 #[.pointer (some ⟨c,0,none⟩),.agg #[.int .i64 i,.int .i64 g],.nilIface] W fun e w'=>e = .returned (.tuple #[rpK 0,.nilIface])∧CmpAt w' c s i g true∧Only [c] W w'):=fun W hW=>goTo_ok W c s i g n0 g0 true hW;have HCM:Hid (∀ W,Only L w W→CmpAt W c s n0 g0 true):=fun W ho=>h.only ho hcL;have HBC:Hid (B≤c∧c < w.heap.size):=⟨hB,h.lt⟩
 have HX:Hid (w.heap.size+1∉c::L):=fun k=>by
   rcases List.mem_cons.1 k with e | e
   · have:=h.lt;omega
   · have:=hL _ e;omega
 have q:=mk_cells (o:=o) h hs;have hlt:=h.lt;have y0:∀ p:OnlyBy (mkW w o),p.w.cell? ⟨c,0,none⟩=some (.pointer (some ⟨s,0,none⟩)):=fun p=>(q p).1;have y1:∀ p:OnlyBy (mkW w o),p.w.cell? ⟨c,1,none⟩=some (.int .i64 n0):=fun p=>(q p).2.1;have y2:∀ p:OnlyBy (mkW w o),p.w.cell? ⟨c,2,none⟩=some (.int .i64 g0):=fun p=>(q p).2.2.1;have y3:∀ p:OnlyBy (mkW w o),p.w.cell? ⟨s,0,none⟩=some (.pointer (some ⟨tr,0,none⟩)):=fun p=>(q p).2.2.2.1;have y4:∀ p:OnlyBy (mkW w o),p.w.cell? ⟨w.heap.size,1,none⟩=some (.string o.N):=fun p=>(q p).2.2.2.2.1;have y5:∀ p:OnlyBy (mkW w o),p.w.cell? ⟨w.heap.size,3,none⟩=some (.int .i64 o.x1):=fun p=>(q p).2.2.2.2.2
 haveI:Nonempty (OnlyBy (mkW w o)):=⟨⟨_,Only.refl _ _⟩⟩
 clear h hs hC q hB
 go_enter Tryz.func306,Tryz.ntmps306
 go_wp2
 refine wp_region_any (by kernel_rfl) ?_
 change wpAny _ _ _ _ _ _ _ (World.drew _)
 refine wpAny_take (i:=0) (v:=?_) rfl (by kernel_rfl) (by kernel_rfl) (by kernel_rfl) (fun _ _ _ h=>h) (Or.inl ⟨by rfl,?_⟩) ?_
 rotate_left
 · intro w;go_simp;try with_reducible rfl
 refine wpAny_pre2 (w0:=mkW w o) (k0:=1) 16 8 _ rfl (by decide) (by kernel_rfl) (by kernel_rfl) (by kernel_rfl) (by kernel_rfl) (Only.refl [] _).drew ?_;simp only [List.drop_succ_cons,List.drop_zero,List.take_succ_cons,List.take_zero]
 repeat (first | go_big_quiet_skip | quiet_step (fail))
 refine wpQuiet_nil ?_;intro _ hw';obtain ⟨p,hw2⟩:=hw';subst hw2;have HP:Hid (Only [] w p.w):=HA.out.trans p.ho (fun _ hk=>by cases hk);have HPO:Hid (Only [] (mkW w o) p.w):=p.ho;clear y0 y1 y2 y3 y4 y5;generalize p.w=wp at HP HPO ⊢;refine wpAny_ready (rs:=[17]) (by kernel_rfl) (by simp) ?_;refine AllReady.cons rfl (fun K hK=>?_) AllReady.nil
 go_simp
 go_wp2_with (go_at_call 307;go_must (refine (HC.out wp HP.out).mono ?_);rintro e w1 ⟨rfl,hR,ho⟩;have HR:Hid (R wp w1):=hR;have H1:Hid (Only L (mkW w o) w1):=(HPO.out.mono (L':=L) (fun _ hk=>by cases hk)).trans ho (fun k hk=>Or.inl hk);have H1w:Hid (Only L w w1):=(HP.out.mono (L':=L) (fun _ hk=>by cases hk)).trans ho (fun k hk=>Or.inl hk);clear hR ho)
 refine wpAny_take (i:=18) (v:=?_) rfl (by kernel_rfl) (by kernel_rfl) (by kernel_rfl) (fun _ _ _ h=>h) (Or.inl ⟨by rfl,?_⟩) ?_
 rotate_left
 · intro w;go_simp;try with_reducible rfl
 refine wpAny_take (i:=19) (v:=?_) rfl (by kernel_rfl) (by kernel_rfl) (by kernel_rfl) (fun _ _ _ h=>h) (Or.inl ⟨by rfl,?_⟩) ?_
 rotate_left
 · intro w;go_simp;try with_reducible rfl
 refine wpAny_ready (rs:=[20]) (by kernel_rfl) (by simp) ?_;refine AllReady.cons rfl (fun K hK=>?_) AllReady.nil
 go_simp
 go_wp2_with (go_at_call 297;go_must (refine (HG.out w1 (HCM.out w1 H1w.out)).mono ?_);rintro e w2 ⟨rfl,hc,ho⟩;have H2:Hid (CmpAt w2 c s i g true):=hc;have H12:Hid (Only [c] w1 w2):=ho;have H3:Hid (Only (c::L) (mkW w o) w2):=(H1.out.mono (L':=c::L) (fun k hk=>Or.inl (List.mem_cons_of_mem _ hk))).trans ho (fun k hk=>Or.inl (by rw [List.mem_singleton.1 hk];exact List.mem_cons_self));obtain ⟨k0,k1,k2,k3,k4,k5,k6,k7,k8,kf⟩:=rp_kept (x:=w.heap.size+1) (World.size_alloc _ _) H3.out HX.out;have z0:=kf 0;have z1:=kf 1;have z2:=kf 2;have z3:=kf 3;have z4:=kf 4;have z5:=kf 5;have z6:=kf 6;have z7:=kf 7;have z8:=kf 8;clear hc ho kf)
 refine wpAny_take (i:=21) (v:=?_) rfl (by kernel_rfl) (by kernel_rfl) (by kernel_rfl) (fun _ _ _ h=>h) (Or.inl ⟨by rfl,?_⟩) ?_
 rotate_left
 · intro w;go_simp;try with_reducible rfl
 refine wpAny_take (i:=22) (v:=?_) rfl (by kernel_rfl) (by kernel_rfl) (by kernel_rfl) (fun _ _ _ h=>h) (Or.inl ⟨by rfl,?_⟩) ?_
 rotate_left
 · intro w;go_simp;try with_reducible rfl
 refine wpAny_ready (rs:=[23]) (by kernel_rfl) (by simp) ?_;refine AllReady.cons rfl (fun K hK=>?_) AllReady.nil
 go_simp
 refine hK _ _ ?_;clear hK K;refine wpAny_ready (rs:=[24]) (by kernel_rfl) (by simp) ?_;refine AllReady.cons rfl (fun K hK=>?_) AllReady.nil
 go_simp
 refine hK _ _ ?_;clear hK K;refine wpAny_done (by kernel_rfl) ?_ _
 go_wp2
 refine bodyPost_ret (v := .tuple #[rpK 0,.nilIface]) (by simp [results,Tryz.results306,go_sem,k0,k1,k2,k3,k4,k5,k6,k7,k8]) rfl ?_
 exact ⟨rfl,H2.out.only put9_only (by simp;omega),⟨wp,w1,[c,w.heap.size+1],HP.out.size,HR.out,(H12.out.mono (L':=[c,w.heap.size+1]) (fun k hk=>Or.inl (by rw [List.mem_singleton.1 hk];simp))).trans put9_only (fun k hk=>Or.inl (by rw [List.mem_singleton.1 hk];simp)),fun k hk=>by
   have hz:=HPO.out.size;have hq:=HBC.out;simp at hz;simp at hk;rcases hk with rfl | rfl
   · omega
   · omega⟩,((HA.out.mono (L':=c::L) (fun _ hk=>by cases hk)).trans H3.out (fun k hk=>Or.inl hk)).trans put9_only (fun k hk=>by rw [List.mem_singleton.1 hk];exact Or.inr (Nat.le_succ _))⟩
theorem needCur_make (w:World)(c s x:Nat)(n g n' g':Int)(o:OpV)(er:Value)(B:Nat)(hB:B≤c)(R:World→World→Prop)(L:List Nat)(h:CmpAt w c s n g true)(hx:BoxF w x 411 (fn0 306))(hL:∀ k∈L,k < w.heap.size)
  (hF:∀ W,Only [] w W→Calls Tryz.prog 306 #[.pointer (some ⟨c,0,none⟩),opV o] W fun e w'=>e = .returned (.tuple #[rpK 0,er])∧CmpAt w' c s n' g' true∧AftR B W.heap.size R w'∧Only (c::L) W w') :
  Calls Tryz.prog 356 #[.pointer (some ⟨c,0,none⟩),opV o,.pointer (some ⟨x,0,none⟩)] w fun e w'=>e = .returned (.tuple #[rpK 0,er])∧CmpAt w' c s n' g' true∧AftR B w.heap.size R w'∧Only (c::L) w w':=by
 have HA:Hid (Only [] w (mkW w o)):=((Only.refl [] w).alloc _).alloc _;have HF:Hid (∀ W,Only [] w W→Calls Tryz.prog 306 #[.pointer (some ⟨c,0,none⟩),opV o] W fun e w'=>e = .returned (.tuple #[rpK 0,er])∧CmpAt w' c s n' g' true∧AftR B W.heap.size R w'∧Only (c::L) W w'):=hF
 have HX:Hid (w.heap.size+1∉c::L):=fun k=>by
  rcases List.mem_cons.1 k with e | e
  · have:=h.lt;omega
  · have:=hL _ e;omega
 have HBC:Hid (B≤c∧c < w.heap.size):=⟨hB,h.lt⟩;have hlt:=h.lt;have hxl:x < w.heap.size:=(Array.getElem?_eq_some_iff.1 hx).1;have c3:=h.c3;have cx:=hx.cell;clear h hx hF hL hB
 go_enter Tryz.func356,Tryz.ntmps356
 go_wp2_with fail
 refine (HF.out (mkW w o) HA.out).mono ?_;rintro e w1 ⟨rfl,hG1,hG2,ho⟩;have H1:Hid (CmpAt w1 c s n' g' true):=hG1;have H2:Hid (AftR B (mkW w o).heap.size R w1):=hG2;have H3:Hid (Only (c::L) (mkW w o) w1):=ho;obtain ⟨k0,k1,k2,k3,k4,k5,k6,k7,k8,kf⟩:=rp_kept (x:=w.heap.size+1) (World.size_alloc _ _) ho HX.out;have z0:=kf 0;have z1:=kf 1;have z2:=kf 2;have z3:=kf 3;have z4:=kf 4;have z5:=kf 5;have z6:=kf 6;have z7:=kf 7;have z8:=kf 8;clear hG1 hG2 ho kf
 go_wp2
 refine bodyPost_ret (v := .tuple #[rpK 0,er]) (by simp [results,Tryz.results356,go_sem,k0,k1,k2,k3,k4,k5,k6,k7,k8]) rfl ?_;exact ⟨rfl,H1.out.only put9_only (by have:=HBC.out;simp;omega),(H2.out.only put9_only (fun k hk=>by have:=HBC.out;rw [List.mem_singleton.1 hk];simp;omega)).low (by simp;omega),((HA.out.mono (L':=c::L) (fun _ hk=>by cases hk)).trans H3.out (fun k hk=>Or.inl hk)).trans put9_only (fun k hk=>by rw [List.mem_singleton.1 hk];exact Or.inr (Nat.le_succ _))⟩
theorem codedS_nil (w:World)(k:Int):Calls Tryz.prog 268 #[rpK k,.nilIface] w fun e w'=>e = .returned (rpK k)∧Only [] w w':=by
 go_enter Tryz.func268,Tryz.ntmps268
 go_wp2
 refine bodyPost_ret (v:=rpK k) (by simp [results,Tryz.results268,go_sem]) rfl ?_;exact ⟨rfl,((Only.refl [] w).alloc _).alloc _⟩
end
section
open Go Go.RowKit Go.Deep
theorem be_size (k n:Nat):(bs (be k n)).size=k:=by rw [bs_size,be_length]
theorem data_length (t:ByteArray):t.data.toList.length=t.size:=rfl
theorem cutAt_data (t:ByteArray)(k:Nat):(cutAt t k).data.toList=t.data.toList.drop k:=by
 unfold cutAt;rw [Lib.extract_data];exact List.take_of_length_le (by rw [List.length_drop,data_length];exact Nat.le_refl _)
theorem read_num (t:ByteArray)(k n:Nat)(rest:List UInt8)(h:t.data.toList=be k n++rest)(hn:n < 256 ^ k):k≤t.size∧numAt t k=n∧(cutAt t k).data.toList=rest:=by
 have hl:(be k n).length=k:=be_length k n;refine ⟨?_,?_,?_⟩
 · rw [← data_length,h,List.length_append];omega
 · unfold numAt
   rw [h,List.take_append_of_le_length (by omega),List.take_of_length_le (by omega),num_be,Nat.mod_eq_of_lt hn]
 · rw [cutAt_data,h,List.drop_append_of_le_length (by omega),List.drop_of_length_le (by omega)];rfl
theorem be_zero (k:Nat):be k 0=List.replicate k 0:=by
 induction k with
 | zero=>rfl
 | succ k ih=>rw [be,ih,List.replicate_succ];simp
theorem itemS_data (s:ByteArray):(itemS s).data.toList=be 4 s.size++(s.data.toList++be (fillN s.size) 0):=by
 simp [itemS,bs]
theorem zeros_of {s:ByteArray}{k:Nat}(h:s.data.toList=be k 0):zerosB s=true:=by
 unfold zerosB;rw [h,be_zero];simp
theorem read_item (t s:ByteArray)(rest:List UInt8)(h:t.data.toList=(itemS s).data.toList++rest)(hs:s.size≤5000):
   4≤t.size∧numAt t 4=s.size∧4+s.size+fillN s.size≤t.size∧zerosB (t.extract (4+s.size) (4+s.size+fillN s.size))=true∧t.extract 4 (4+s.size)=s∧(cutAt t (4+s.size+fillN s.size)).data.toList=rest:=by
 rw [itemS_data] at h
 have h1:t.data.toList=be 4 s.size++(s.data.toList++be (fillN s.size) 0++rest):=by rw [h];simp
 obtain ⟨a,b,c⟩:=read_num t 4 s.size _ h1 (by have:(256:Nat) ^ 4=4294967296:=(by decide);omega)
 have c':t.data.toList.drop 4=s.data.toList++(be (fillN s.size) 0++rest):=by rw [← cutAt_data,c];simp
 have d1:t.data.toList.drop (4+s.size)=be (fillN s.size) 0++rest:=by
   rw [← List.drop_drop,c',List.drop_append_of_le_length (by rw [data_length];omega),List.drop_of_length_le (by rw [data_length];omega)];rfl
 have d2:t.data.toList.drop (4+s.size+fillN s.size)=rest:=by
   rw [← List.drop_drop,d1,List.drop_append_of_le_length (by rw [be_length];omega),List.drop_of_length_le (by rw [be_length];omega)];rfl
 refine ⟨a,b,?_,?_,?_,?_⟩
 · have:=congrArg List.length h1
   simp only [data_length,List.length_append,be_length] at this;omega
 · apply zeros_of (k:=fillN s.size)
   rw [Lib.extract_data,d1,List.take_append_of_le_length (by rw [be_length];omega),List.take_of_length_le (by rw [be_length];omega)]
 · apply data_inj
   rw [Lib.extract_data,c',List.take_append_of_le_length (by rw [data_length];omega),List.take_of_length_le (by rw [data_length];omega)]
 · rw [cutAt_data,d2]
def ItemOk (s:ByteArray)(m:Int):Prop:=4≤s.size∧(numAt s 4:Int)≤m∧4+numAt s 4+fillN (numAt s 4)≤s.size∧zerosB (s.extract (4+numAt s 4) (4+numAt s 4+fillN (numAt s 4)))=true
theorem rBytes_ends (b:Nat)(t:ByteArray)(m:Int)(T:TypeId)(v:Value)(w:World)(hc:w.cell? ⟨b,0,none⟩=some (.string t))(hf:w.frozen? ⟨b,0,none⟩=false)(hE:w.cell? ⟨1,0,none⟩=some (.iface T v))(ht:t.size≤15000):
   Calls Tryz.prog 170 #[.pointer (some ⟨b,0,none⟩),.int .i64 m] w fun e w' =>
     (ItemOk t m∧e = .returned (.tuple #[.string (t.extract 4 (4+numAt t 4)),.nilIface])∧w.setCell ⟨b,0,none⟩ (.string (cutAt t (4+numAt t 4+fillN (numAt t 4))))=w') ∨
     (¬ ItemOk t m∧e = .returned (.tuple #[.string (bs []),.iface T v])∧Below w.heap.size w w'):=by
 by_cases h4:4≤t.size
 · by_cases hm:(numAt t 4:Int)≤m
   · by_cases hs:4+numAt t 4+fillN (numAt t 4)≤t.size
     · cases hz:zerosB (t.extract (4+numAt t 4) (4+numAt t 4+fillN (numAt t 4)))
       · exact (rBytes_fill b t m T v w hc hE h4 (by omega) hm hs hz).mono fun e w' h=>Or.inr ⟨fun k=>Bool.noConfusion (hz.symm.trans k.2.2.2),h⟩
       · exact (rBytes_ok b t m w hc hf h4 (by omega) hm hs hz).mono fun e w' h=>Or.inl ⟨⟨h4,hm,hs,hz⟩,h⟩
     · exact (rBytes_few b t m T v w hc hE h4 (by omega) hm (by omega)).mono fun e w' h=>Or.inr ⟨fun k=>hs k.2.2.1,h⟩
   · exact (rBytes_many b t m T v w hc hE h4 (by omega) (by omega)).mono fun e w' h=>Or.inr ⟨fun k=>hm k.2.1,h⟩
 · exact (rBytes_short b t m T v w hc hE (by omega)).mono fun e w' h=>Or.inr ⟨fun k=>h4 k.1,h⟩
end
end Go.Proofs.YtodldddakjmonaaGreatDoor
