import Derived.Test.YtodldddakjmonaaGreatDoorK11
import Derived.Test.YtodldddakjmonaaGreatDoorK13
set_option maxRecDepth 100000
set_option maxHeartbeats 8000000
namespace Go.Proofs.YtodldddakjmonaaGreatDoor
section
open Go Go.RowKit Go.Deep Go.Maps
theorem own_two {w W:World}{T:Tr}{a:Nat}{M:List Nat}(ho:Only M ((w.alloc (.cells #[.int .i64 a,.int .i64 (T.g a:Nat)] 116)).alloc (.cells #[.int .i64 0,.int .i64 0] 116)) W)(h0:w.heap.size∉M)(h1:w.heap.size+1∉M):W.cell? ⟨w.heap.size,0,none⟩=some (.int .i64 a)∧W.cell? ⟨w.heap.size,1,none⟩=some (.int .i64 (T.g a:Nat))∧W.cell? ⟨w.heap.size+1,0,none⟩=some (.int .i64 0)∧W.cell? ⟨w.heap.size+1,1,none⟩=some (.int .i64 0)∧(∀ o,W.frozen? ⟨w.heap.size+1,o,none⟩=false)∧w.heap.size+1 < W.heap.size:=by
 have hA:=heap_alloc_last w (.cells #[.int .i64 a,.int .i64 (T.g a:Nat)] 116);have hZ:=heap_alloc_last (w.alloc (.cells #[.int .i64 a,.int .i64 (T.g a:Nat)] 116)) (.cells #[.int .i64 0,.int .i64 0] 116);rw [World.size_alloc] at hZ;have oA:Only [] (w.alloc (.cells #[.int .i64 a,.int .i64 (T.g a:Nat)] 116)) ((w.alloc (.cells #[.int .i64 a,.int .i64 (T.g a:Nat)] 116)).alloc (.cells #[.int .i64 0,.int .i64 0] 116)):=(Only.refl [] _).alloc _
 have hl:w.heap.size+1 < (((w.alloc (.cells #[.int .i64 a,.int .i64 (T.g a:Nat)] 116)).alloc (.cells #[.int .i64 0,.int .i64 0] 116))).heap.size:=by simp
 have hl0:w.heap.size < (((w.alloc (.cells #[.int .i64 a,.int .i64 (T.g a:Nat)] 116)).alloc (.cells #[.int .i64 0,.int .i64 0] 116))).heap.size:=by simp;omega
 exact ⟨(ho.cell (p:=⟨w.heap.size,0,none⟩) hl0 h0).trans ((oA.cell (p:=⟨w.heap.size,0,none⟩) (by simp) (by simp)).trans (cell_of_row _ _ 0 _ _ _ hA)),(ho.cell (p:=⟨w.heap.size,1,none⟩) hl0 h0).trans ((oA.cell (p:=⟨w.heap.size,1,none⟩) (by simp) (by simp)).trans (cell_of_row _ _ 1 _ _ _ hA)),
  (ho.cell (p:=⟨w.heap.size+1,0,none⟩) hl h1).trans (cell_of_row _ _ 0 _ _ _ hZ),(ho.cell (p:=⟨w.heap.size+1,1,none⟩) hl h1).trans (cell_of_row _ _ 1 _ _ _ hZ),fun o=>(ho.frozen (p:=⟨w.heap.size+1,o,none⟩) hl h1).trans (frozen_of_row _ _ _ _ _ hZ),Nat.lt_of_lt_of_le hl ho.size⟩
theorem check_yes (s:ByteArray)(A:Nat→Addr)(w:World)(h:Errs w A)(hok:OkN s):Calls Tryz.prog 22 #[.string s] w fun e w'=>e = .returned .nilIface∧Only [] w w' :=
 (check_any s A w h).mono fun _ _ hh=>⟨hh.1.elim (fun x=>x.2) (fun x=>absurd hok x.1),Only.of_below hh.2 []⟩
theorem first_none (w:World):Calls Tryz.prog 358 #[.slice (some ⟨w.heap.size,0,none⟩) 2 2] (w.alloc (.cells #[.nilIface,.nilIface] 27)) fun e w'=>e = .returned .nilIface∧(w.alloc (.cells #[.nilIface,.nilIface] 27))=w' :=
 firstOf_any (w.alloc (.cells #[.nilIface,.nilIface] 27)) w.heap.size 2 2 [none,none] rfl (by decide) (fun j o hj=>by
  have hh:=heap_alloc_last w (.cells #[.nilIface,.nilIface] 27);rw [cell_of_row _ _ _ _ _ _ hh]
  match j,hj with
  | 0,hj=>simp at hj;subst hj;rfl
  | 1,hj=>simp at hj;subst hj;rfl
  | j+2,hj=>simp at hj)
theorem dir_yes {w:World}{tr:Nat}{T:Tr}{a:Nat}{na:Nod}(h:TreeAt w tr T)(ha:T.nd a=some na)(hKa:na.K=2):Calls Tryz.prog 181 #[.pointer (some ⟨tr,0,none⟩),.agg #[.int .i64 a,.int .i64 (T.g a:Nat)]] w fun e w'=>e = .returned .nilIface∧Only [] w w' :=
 checkDir_yes w tr T.t a (T.g a:Nat) na.Z na.L na.C na.UN na.UG h.c0 (fun w1 ho=>by
  have:=tattr_ok w1 T.t T.p T.most a T.g T.nd na na.Z (h.only ho).tab ha (Or.inr ⟨hKa,rfl⟩);rw [hKa] at this;unfold attrV at this
  exact this)
theorem foot_created {w:World}{tr a i k:Nat}{T:Tr}{d:DirM}{l:List Ent}{p':Row}{na na' ni:Nod}(h:TreeAt w tr T)(hd:T.ds a=some d)(ha:T.nd a=some na)(hb:na'.b=na.b)(hm:na'.m=na.m)(hk:FootT tr { T.named a d.b l with p:=p',nd:=setN (setN T.nd i (some ni)) a (some na') } k):k < w.heap.size∨p'.a=some k∨k∈ni.foot:=by
 rcases hk with e | e | e | ⟨j,x,hx,rfl⟩ | hk
 · exact Or.inl (h.foot_lt _ (Or.inl e))
 · exact Or.inl (h.foot_lt _ (Or.inr (Or.inl e)))
 · exact Or.inl (h.foot_lt _ (Or.inr (Or.inr (Or.inl e))))
 · have hx':setN T.ds a (some (⟨d.b,l⟩:DirM)) j=some x:=hx
   by_cases e:j=a
   · subst e
     rw [setN_same] at hx'
     cases hx'
     exact Or.inl (World.ownsMap.lt (h.dir j d hd))
   · rw [setN_other _ _ e] at hx'
     exact Or.inl (World.ownsMap.lt (h.dir j x hx'))
 · rcases hk with e | e | ⟨j,x,hx,hf⟩
   · exact Or.inl (by rw [e];exact h.tab.tlt)
   · exact Or.inr (Or.inl e)
   · have hx':setN (setN T.nd i (some ni)) a (some na') j=some x:=hx
     by_cases e:j=a
     · subst e
       rw [setN_same] at hx'
       cases hx'
       refine Or.inl ((h.tab.node j na ha).foot_lt k ?_);unfold Nod.foot at hf ⊢;rw [hb,hm] at hf;exact hf
     · rw [setN_other _ _ e] at hx'
       by_cases e2:j=i
       · subst e2
         rw [setN_same] at hx'
         cases hx'
         exact Or.inr (Or.inr hf)
       · rw [setN_other _ _ e2] at hx'
         exact Or.inl ((h.tab.node j x hx').foot_lt k hf)
theorem not_mm {n d na b t:Nat}{l:List Nat}(hN:∀ k,n≤k→k∉t::l)(hd:d < n)(hna:na < n)(hb:n+2≤b){k:Nat}(hk:n≤k)(hk2:k≤n+1):k∉d::na::b::t::l:=fun hm=>by
 rcases List.mem_cons.1 hm with e | hm
 · omega
 · rcases List.mem_cons.1 hm with e | hm
   · omega
   · rcases List.mem_cons.1 hm with e | hm
     · omega
     · exact hN k hk hm
theorem create_file (w:World)(tr:Nat)(T:Tr)(A:Nat→Addr)(a i:Nat)(na:Nod)(d:DirM)(s:ByteArray)(h:TreeAt w tr T)(hE:Errs w A)(hd:T.ds a=some d)(ha:T.nd a=some na)(hKa:na.K=2)(hC:0≤na.C∧na.C≤9000000000000000000)(hok:OkN s)(hs:s.size≤1000)(hf:findE d.l s.data.toList=none)(hl:d.l.length < 60)(hlive:∀ e∈d.l,e.i < T.p.N∧e.c=T.g e.i)
  (hi:i < 1000) (hc:countTo T.nd T.p.N < T.most) (hn:T.nd i=none) (hb:∀ j,j < i→(T.nd j).isSome=true) :
  Calls Tryz.prog 307 #[.pointer (some ⟨tr,0,none⟩),.agg #[.int .i64 a,.int .i64 (T.g a:Nat)],.string s,.int .i64 1] w fun e w'=>e = .returned (.tuple #[.agg #[.int .i64 i,.int .i64 (T.g i:Nat)],.nilIface])∧∃ p' b,TreeAt w' tr { T.named a d.b (insE ⟨s.data.toList,i,T.g i⟩ (dropE d.l s.data.toList)) with p:=p',nd:=setN (setN T.nd i (some { newNod b 1 with L:=1 })) a (some { na with Z:=((insE ⟨s.data.toList,i,T.g i⟩ (dropE d.l s.data.toList)).length:Nat),L:=2+(dirsIn (insE ⟨s.data.toList,i,T.g i⟩ (dropE d.l s.data.toList)) (T.named a d.b (insE ⟨s.data.toList,i,T.g i⟩ (dropE d.l s.data.toList))).ds:Int),C:=na.C+1 }) }∧p'.N=max T.p.N (i+1)∧w.heap.size≤b∧(∀ k,p'.a=some k→T.p.a=some k∨w.heap.size≤k)∧Only (d.b::na.b::T.t::T.p.a.toList) w w':=by
 have hai:a≠i:=fun e=>by rw [e,hn] at ha;cases ha
 have hO1:Only [] w ((w.alloc (.cells #[.int .i64 a,.int .i64 (T.g a:Nat)] 116)).alloc (.cells #[.int .i64 0,.int .i64 0] 116)):=((Only.refl [] w).alloc _).alloc _;have HD:Hid (∀ W,Only [] w W→_):=fun W (ho:Only [] w W)=>dir_yes (h.only ho) ha hKa;have HK:Hid (∀ W,Only [] w W→_):=fun W (ho:Only [] w W)=>check_yes s A W (hE.below (ho.to_below (Nat.le_refl _) (fun k hk=>by cases hk)) (Nat.le_refl _)) hok;have HR:Hid (∀ W,Only [] w W→_):=fun W (ho:Only [] w W)=>room_free W tr T a d s (h.only ho) hd hs hf hl;have HA:Hid (∀ W,Only [] w W→_):=fun W (ho:Only [] w W)=>add_file W tr T i (h.only ho) hi hc hn hb;have hfl:∀ k,FootT tr T k→k < w.heap.size:=h.foot_lt;have hdl:d.b < w.heap.size:=World.ownsMap.lt (h.dir a d hd);have hnl:na.b < w.heap.size:=lt_of_cell (h.tab.node a na ha).c0;have htl:=h.tab.tlt
 have HN:Hid (∀ k,w.heap.size≤k→k∉T.t::T.p.a.toList):=show ∀ k,w.heap.size≤k→k∉T.t::T.p.a.toList from (fun k hk hm=>by rcases List.mem_cons.1 hm with e | e;omega;have:=h.tab.plt (b:=k) (by simpa using e);omega)
 have HP:Hid (∀ W p' b,w.heap.size≤b→T.p.N≤p'.N→TreeAt W tr { T with p:=p',nd:=setN T.nd i (some (newNod b 1)) }→Calls Tryz.prog 360 #[.pointer (some ⟨tr,0,none⟩),.agg #[.int .i64 a,.int .i64 (T.g a:Nat)],.string s,.agg #[.int .i64 i,.int .i64 (T.g i:Nat)]] W fun e w'=>e = .returned (.tuple #[])∧TreeAt w' tr { Tr.named { T with p:=p',nd:=setN T.nd i (some (newNod b 1)) } a d.b (insE ⟨s.data.toList,i,T.g i⟩ (dropE d.l s.data.toList)) with nd:=setN (setN (setN T.nd i (some (newNod b 1))) i (some { newNod b 1 with L:=(newNod b 1).L+1 })) a (some { na with Z:=((insE ⟨s.data.toList,i,T.g i⟩ (dropE d.l s.data.toList)).length:Nat),L:=2+(dirsIn (insE ⟨s.data.toList,i,T.g i⟩ (dropE d.l s.data.toList)) (Tr.named { T with p:=p',nd:=setN T.nd i (some (newNod b 1)) } a d.b (insE ⟨s.data.toList,i,T.g i⟩ (dropE d.l s.data.toList))).ds:Int) }) }∧Only [d.b,b,na.b] W w'):=fun W p' b _ hN h6 =>
  put_file W tr { T with p:=p',nd:=setN T.nd i (some (newNod b 1)) } a i na (newNod b 1) d s h6 hd ((setN_other _ _ hai).trans ha) hKa (setN_same _ _ _) rfl (by omega) hs (And.intro (by show (0:Int)≤0;omega) (by show (0:Int)≤1000;omega)) (fun x hx=>⟨Nat.lt_of_lt_of_le (hlive x hx).1 hN,(hlive x hx).2⟩)
 have HTC:Hid (∀ W p' b,TreeAt W tr { Tr.named { T with p:=p',nd:=setN T.nd i (some (newNod b 1)) } a d.b (insE ⟨s.data.toList,i,T.g i⟩ (dropE d.l s.data.toList)) with nd:=setN (setN (setN T.nd i (some (newNod b 1))) i (some { newNod b 1 with L:=(newNod b 1).L+1 })) a (some { na with Z:=((insE ⟨s.data.toList,i,T.g i⟩ (dropE d.l s.data.toList)).length:Nat),L:=2+(dirsIn (insE ⟨s.data.toList,i,T.g i⟩ (dropE d.l s.data.toList)) (Tr.named { T with p:=p',nd:=setN T.nd i (some (newNod b 1)) } a d.b (insE ⟨s.data.toList,i,T.g i⟩ (dropE d.l s.data.toList))).ds:Int) }) }→Calls Tryz.prog 361 #[.pointer (some ⟨tr,0,none⟩),.agg #[.int .i64 a,.int .i64 (T.g a:Nat)]] W fun e w'=>e = .returned (.tuple #[])∧TreeAt w' tr { T.named a d.b (insE ⟨s.data.toList,i,T.g i⟩ (dropE d.l s.data.toList)) with p:=p',nd:=setN (setN T.nd i (some { newNod b 1 with L:=1 })) a (some { na with Z:=((insE ⟨s.data.toList,i,T.g i⟩ (dropE d.l s.data.toList)).length:Nat),L:=2+(dirsIn (insE ⟨s.data.toList,i,T.g i⟩ (dropE d.l s.data.toList)) (T.named a d.b (insE ⟨s.data.toList,i,T.g i⟩ (dropE d.l s.data.toList))).ds:Int),C:=na.C+1 }) }∧Only [na.b] W w'):=fun W p' b h8=>by
  have:=touch_ok W tr { Tr.named { T with p:=p',nd:=setN T.nd i (some (newNod b 1)) } a d.b (insE ⟨s.data.toList,i,T.g i⟩ (dropE d.l s.data.toList)) with nd:=setN (setN (setN T.nd i (some (newNod b 1))) i (some { newNod b 1 with L:=(newNod b 1).L+1 })) a (some { na with Z:=((insE ⟨s.data.toList,i,T.g i⟩ (dropE d.l s.data.toList)).length:Nat),L:=2+(dirsIn (insE ⟨s.data.toList,i,T.g i⟩ (dropE d.l s.data.toList)) (Tr.named { T with p:=p',nd:=setN T.nd i (some (newNod b 1)) } a d.b (insE ⟨s.data.toList,i,T.g i⟩ (dropE d.l s.data.toList))).ds:Int) }) } a { na with Z:=((insE ⟨s.data.toList,i,T.g i⟩ (dropE d.l s.data.toList)).length:Nat),L:=2+(dirsIn (insE ⟨s.data.toList,i,T.g i⟩ (dropE d.l s.data.toList)) (Tr.named { T with p:=p',nd:=setN T.nd i (some (newNod b 1)) } a d.b (insE ⟨s.data.toList,i,T.g i⟩ (dropE d.l s.data.toList))).ds:Int) } h8 (setN_same _ _ _) hC;refine this.mono fun e w' hh=>⟨hh.1,?_,hh.2.2⟩;have h9:=hh.2.1;simp only [setN_again] at h9;exact h9
 have HO1:Hid (Only [] w ((w.alloc (.cells #[.int .i64 a,.int .i64 (T.g a:Nat)] 116)).alloc (.cells #[.int .i64 0,.int .i64 0] 116))):=hO1;have hx:=own_two (T:=T) (a:=a) (Only.refl [] ((w.alloc (.cells #[.int .i64 a,.int .i64 (T.g a:Nat)] 116)).alloc (.cells #[.int .i64 0,.int .i64 0] 116))) (by simp) (by simp);have hcd:=HD.out ((w.alloc (.cells #[.int .i64 a,.int .i64 (T.g a:Nat)] 116)).alloc (.cells #[.int .i64 0,.int .i64 0] 116)) hO1;obtain ⟨x0,x1,_,_,_,hxl⟩:=hx;have H0:Hid (TreeAt w tr T):=h;clear h hE hlive hf hok hn hb hc hfl
 go_enter Tryz.func307,Tryz.ntmps307
 go_wp2_with (first
  | (go_at_call 181;go_must (refine hcd.mono ?_);rintro e w2 ⟨rfl,ho2⟩;have HO2:Hid (Only [] ((w.alloc (.cells #[.int .i64 a,.int .i64 (T.g a:Nat)] 116)).alloc (.cells #[.int .i64 0,.int .i64 0] 116)) w2):=ho2;have hck:=HK.out w2 (HO1.out.trans ho2 (fun _ hk=>by cases hk));clear ho2 hcd)
  | (go_at_call 22;go_must (refine hck.mono ?_);rintro e w3 ⟨rfl,ho3⟩;have HO3:Hid (Only [] ((w.alloc (.cells #[.int .i64 a,.int .i64 (T.g a:Nat)] 116)).alloc (.cells #[.int .i64 0,.int .i64 0] 116)) w3):=HO2.out.trans ho3 (fun _ hk=>by cases hk);have hfo:=first_none w3;clear ho3 hck)
  | (go_at_call 358;go_must (refine hfo.mono ?_);rintro e w4 ⟨rfl,rfl⟩;have HO4:Hid (Only [] ((w.alloc (.cells #[.int .i64 a,.int .i64 (T.g a:Nat)] 116)).alloc (.cells #[.int .i64 0,.int .i64 0] 116)) (w3.alloc (.cells #[.nilIface,.nilIface] 27))):=HO3.out.alloc _;have hcr:=HR.out _ (HO1.out.trans HO4.out (fun _ hk=>by cases hk));obtain ⟨y0,y1,_,_,_,hyl⟩:=own_two (T:=T) (a:=a) HO4.out (by simp) (by simp);clear hfo)
  | (go_at_call 359;go_must (refine hcr.mono ?_);rintro e w5 ⟨rfl,ho5⟩;have HO5:Hid (Only [] ((w.alloc (.cells #[.int .i64 a,.int .i64 (T.g a:Nat)] 116)).alloc (.cells #[.int .i64 0,.int .i64 0] 116)) w5):=HO4.out.trans ho5 (fun _ hk=>by cases hk);have had:=HA.out w5 (HO1.out.trans HO5.out (fun _ hk=>by cases hk));clear ho5 hcr y0 y1)
  | (go_at_call 56;go_must (refine had.mono ?_);rintro e w6 ⟨rfl,p',b,hT6,ho6,hb6,hN6,hA6⟩;have HA6:Hid (∀ k,p'.a=some k→T.p.a=some k∨w5.heap.size≤k):=hA6;clear hA6;have hs5:w.heap.size+2≤w5.heap.size:=(by have:=HO5.out.size;simpa using this);have HB:Hid (w.heap.size+2≤b∧b < w6.heap.size):=(show w.heap.size+2≤b∧b < w6.heap.size from ⟨by omega,lt_of_cell (hT6.tab.node i (newNod b 1) (setN_same _ _ _)).c0⟩);have HO7:Hid (Only (T.t::T.p.a.toList) ((w.alloc (.cells #[.int .i64 a,.int .i64 (T.g a:Nat)] 116)).alloc (.cells #[.int .i64 0,.int .i64 0] 116)) (w6.alloc (.cells #[.int .i64 i,.int .i64 (T.g i:Nat)] 116))):=((HO5.out.mono (L':=T.t::T.p.a.toList) (fun _ hk=>by cases hk)).trans ho6 (fun _ hk=>Or.inl hk)).alloc _;obtain ⟨z0,z1,_,_,_,hzl⟩:=own_two (T:=T) (a:=a) HO7.out (HN.out _ (Nat.le_refl _)) (HN.out _ (Nat.le_succ _));have hput:=HP.out (w6.alloc (.cells #[.int .i64 i,.int .i64 (T.g i:Nat)] 116)) p' b (by omega) (by omega) (hT6.only ((Only.refl [] w6).alloc _));have HN6:Hid (p'.N=max T.p.N (i+1)):=hN6;clear had hT6 ho6 hb6 hN6 hs5)
  | (go_at_call 360;go_must (refine hput.mono ?_);rintro e w8 ⟨rfl,hT8,ho8⟩;have htc:=HTC.out w8 p' b hT8;have HM0:Hid (w.heap.size∉(d.b::na.b::b::T.t::T.p.a.toList)∧w.heap.size+1∉(d.b::na.b::b::T.t::T.p.a.toList)):=(show w.heap.size∉(d.b::na.b::b::T.t::T.p.a.toList)∧w.heap.size+1∉(d.b::na.b::b::T.t::T.p.a.toList) from ⟨not_mm HN.out hdl hnl HB.out.1 (Nat.le_refl _) (by omega),not_mm HN.out hdl hnl HB.out.1 (Nat.le_succ _) (by omega)⟩);have HO8:Hid (Only (d.b::na.b::b::T.t::T.p.a.toList) ((w.alloc (.cells #[.int .i64 a,.int .i64 (T.g a:Nat)] 116)).alloc (.cells #[.int .i64 0,.int .i64 0] 116)) w8):=(HO7.out.mono (L':=(d.b::na.b::b::T.t::T.p.a.toList)) (fun _ hk=>Or.inl (by simp at hk;simp;rcases hk with e | e<;>simp [e]))).trans ho8 (fun _ hk=>Or.inl (by simp at hk;simp;rcases hk with e | e | e<;>simp [e]));obtain ⟨u0,u1,_,_,_,hul⟩:=own_two (T:=T) (a:=a) HO8.out HM0.out.1 HM0.out.2;have nI:w6.heap.size∉[d.b,b,na.b]:=(fun hm=>by have h1:=HB.out;have h2:=HO7.out.size;simp at h2 hm;omega);have hk:=heap_alloc_last w6 (.cells #[.int .i64 i,.int .i64 (T.g i:Nat)] 116);have HT0:Hid (w8.cell? ⟨w6.heap.size,0,none⟩=some (.int .i64 i)∧w8.cell? ⟨w6.heap.size,1,none⟩=some (.int .i64 (T.g i:Nat))):=⟨(ho8.cell (p:=⟨w6.heap.size,0,none⟩) (by simp) nI).trans (cell_of_row _ _ 0 _ _ _ hk),(ho8.cell (p:=⟨w6.heap.size,1,none⟩) (by simp) nI).trans (cell_of_row _ _ 1 _ _ _ hk)⟩;clear hput hT8 ho8 nI hk z0 z1)
  | (go_at_call 361;go_must (refine htc.mono ?_);rintro e w9 ⟨rfl,hT9,ho9⟩;go_must (have HO9:Hid (Only (d.b::na.b::b::T.t::T.p.a.toList) ((w.alloc (.cells #[.int .i64 a,.int .i64 (T.g a:Nat)] 116)).alloc (.cells #[.int .i64 0,.int .i64 0] 116)) w9):=HO8.out.trans ho9 (fun _ hk=>Or.inl (by simp at hk;simp [hk])));go_must (obtain ⟨_,_,v0,v1,vf,hvl⟩:=own_two (T:=T) (a:=a) HO9.out HM0.out.1 HM0.out.2);go_must (have nI:w6.heap.size∉[na.b]:=(fun hm=>by have h2:=HO7.out.size;simp at h2 hm;omega));go_must (have t0:=(ho9.cell (p:=⟨w6.heap.size,0,none⟩) (lt_of_cell HT0.out.1) nI).trans HT0.out.1);go_must (have t1:=(ho9.cell (p:=⟨w6.heap.size,1,none⟩) (lt_of_cell HT0.out.2) nI).trans HT0.out.2);have hl6:=lt_of_cell t0;go_must (have hne6:w6.heap.size≠w.heap.size+1:=(fun e=>by have h2:=HB.out;omega));clear htc ho9 nI u0 u1)
  | go_in)
 have hB:¬ FootT tr { T.named a d.b (insE ⟨s.data.toList,i,T.g i⟩ (dropE d.l s.data.toList)) with p:=p',nd:=setN (setN T.nd i (some { newNod b 1 with L:=1 })) a (some { na with Z:=((insE ⟨s.data.toList,i,T.g i⟩ (dropE d.l s.data.toList)).length:Nat),L:=2+(dirsIn (insE ⟨s.data.toList,i,T.g i⟩ (dropE d.l s.data.toList)) (T.named a d.b (insE ⟨s.data.toList,i,T.g i⟩ (dropE d.l s.data.toList))).ds:Int),C:=na.C+1 }) } (w.heap.size+1):=fun hk=>by
  rcases foot_created (w:=w) (i:=i) (l:=(insE ⟨s.data.toList,i,T.g i⟩ (dropE d.l s.data.toList))) (p':=p') (ni:={ newNod b 1 with L:=1 }) (na':={ na with Z:=((insE ⟨s.data.toList,i,T.g i⟩ (dropE d.l s.data.toList)).length:Nat),L:=2+(dirsIn (insE ⟨s.data.toList,i,T.g i⟩ (dropE d.l s.data.toList)) (T.named a d.b (insE ⟨s.data.toList,i,T.g i⟩ (dropE d.l s.data.toList))).ds:Int),C:=na.C+1 }) H0.out hd ha rfl rfl hk with h1 | h1 | h1
  · omega
  · have hNN:=HN6.out
    obtain ⟨q,hq,_,hc1,_,_⟩:=hT9.tab.place_at (i:=0) (show 0 < p'.N by omega);have e:q=w.heap.size+1:=Option.some.inj (hq.symm.trans h1);subst e;have:=hc1.symm.trans v1;simp at this
  · have e:w.heap.size+1=b:=by simpa [newNod,Nod.foot,footD] using h1
    have:=HB.out;omega
 have oB:Only [w.heap.size+1] w9 ((w9.setCell ⟨w.heap.size+1,0,none⟩ (.int .i64 i)).setCell ⟨w.heap.size+1,1,none⟩ (.int .i64 (T.g i:Nat))):=((Only.refl [w.heap.size+1] w9).setCell (Or.inl (by simp)) _).setCell (Or.inl (by simp)) _
 have oA:Only (d.b::na.b::T.t::T.p.a.toList) w w9:=(HO1.out.mono (L':=d.b::na.b::T.t::T.p.a.toList) (fun _ hk=>by cases hk)).trans HO9.out (fun k hk=>by
  rcases List.mem_cons.1 hk with e | hk
  · exact Or.inl (by simp [e])
  · rcases List.mem_cons.1 hk with e | hk
    · exact Or.inl (by simp [e])
    · rcases List.mem_cons.1 hk with e | hk
      · exact Or.inr (by have:=HB.out;omega)
      · exact Or.inl (List.mem_cons_of_mem _ (List.mem_cons_of_mem _ hk)))
 refine bodyPost_ret (v := .tuple #[.agg #[.int .i64 i,.int .i64 (T.g i:Nat)],.nilIface]) (by simp [results,Tryz.results307,go_sem,v0,v1]) rfl ⟨rfl,p',b,hT9.kept oB (fun k hk hm=>hB (by simp at hm;rw [← hm];exact hk)),HN6.out,by have:=HB.out;omega,fun k hk=>(HA6.out k hk).imp id (fun e=>by have:=HO5.out.size;simp at this;omega),oA.trans oB (fun k hk=>Or.inr (by simp at hk;omega))⟩
theorem root_any (w:World)(v:Value):Calls Tryz.prog 86 #[v] w fun e w'=>e = .returned (.agg #[.int .i64 0,.int .i64 0])∧Only [] w w':=by
 go_enter Tryz.func86,Tryz.ntmps86
 go_wp2
 have hh:=heap_alloc_last w (.cells #[.int .i64 0,.int .i64 0] 116);have c0:=cell_of_row _ _ 0 _ _ _ hh;have c1:=cell_of_row _ _ 1 _ _ _ hh
 first
  | exact bodyPost_ret (v := .agg #[.int .i64 0,.int .i64 0]) (by simp [results,Tryz.results86,go_sem,c0,c1]) rfl ⟨rfl,(Only.refl [] w).alloc _⟩
end
end Go.Proofs.YtodldddakjmonaaGreatDoor
