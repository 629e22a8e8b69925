import Derived.Test.YtkcabopgajlmdaaGreatDoorK10
import Derived.Test.YtkcabopgajlmdaaGreatDoorK11
set_option maxRecDepth 100000
set_option maxHeartbeats 8000000
namespace Go.Proofs.YtkcabopgajlmdaaGreatDoor
section
open Go Go.RowKit Go.Deep Go.Maps
def Kinds (T:Tr):Prop:=∀ i n,T.nd i=some n→n.K=1∧T.ds i=none∨n.K=2∧∃ d,T.ds i=some d
def DirE (T:Tr)(A:Nat→Addr)(N G:Int)(o:Option Addr):Prop :=
 (∃ (i:Nat) (n:Nod) (d:DirM),N=(i:Int)∧G=(T.g i:Nat)∧T.nd i=some n∧n.K=2∧T.ds i=some d∧o=none) ∨
 (∃ (i:Nat) (n:Nod),N=(i:Int)∧G=(T.g i:Nat)∧T.nd i=some n∧n.K=1∧T.ds i=none∧o=some (A 6)) ∨
 (Stale0 T.g T.nd N G∧o=some (A 9))
def NameE (A:Nat→Addr)(s:ByteArray)(o:Option Addr):Prop:=OkN s∧o=none∨¬ OkN s∧o=some (A 3)
theorem errs_only {w W:World}{A:Nat→Addr}(hE:Errs w A)(ho:zQ w W):Errs W A:=hE.below (ho.to_below (Nat.le_refl _) (fun k hk=>by cases hk)) (Nat.le_refl _)
theorem live_or (T:Tr)(N G:Int):Stale0 T.g T.nd N G∨∃ (i:Nat) (n:Nod),N=(i:Int)∧G=(T.g i:Nat)∧T.nd i=some n:=by
 by_cases hs:Stale0 T.g T.nd N G
 · exact Or.inl hs
 · refine Or.inr (Classical.byContradiction fun hc=>hs fun i n e hn eg=>hc ⟨i,n,e,eg,hn⟩)
theorem dir_any {w:World}{tr:Nat}{T:Tr}{A:Nat→Addr}(h:TreeAt w tr T)(hE:Errs w A)(hk:Kinds T)(N G:Int):∃ o,DirE T A N G o∧∀ W,zQ w W→zO 44 #[zP tr,zG N G] W (errO o):=by
 rcases live_or T N G with hs | ⟨i,n,rfl,rfl,hn⟩
 · refine ⟨some (A 9),Or.inr (Or.inr ⟨hs,rfl⟩),fun W ho=>?_⟩
   have hT:=h.only ho;have hE':=errs_only hE ho;exact checkDir_stale W tr T.t N G 0 0 0 0 0 0 (A 9) hT.c0 (fun w1 ho1=>tattr_stale w1 T.t T.p T.most T.g T.nd N G (A 9) (hT.only ho1).tab ((errs_only hE' ho1).cell 9 (by decide)) hs)
 · rcases hk i n hn with ⟨h1,h2⟩ | ⟨h1,d,h2⟩
   · refine ⟨some (A 6),Or.inr (Or.inl ⟨i,n,rfl,rfl,hn,h1,h2,rfl⟩),fun W ho=>?_⟩
     have hT:=h.only ho;have hE':=errs_only hE ho
     exact checkDir_file W tr T.t i (T.g i:Nat) (n.S.size:Nat) n.L n.C n.UN n.UG (errV (A 6)) (hE'.cell 6 (by decide)) hT.c0 (fun w1 ho1=>by
      have:=tattr_ok w1 T.t T.p T.most i T.g T.nd n (n.S.size:Nat) (hT.only ho1).tab hn (Or.inl ⟨h1,rfl⟩);rw [h1] at this;unfold attrV at this
      exact this)
   · exact ⟨none,Or.inl ⟨i,n,d,rfl,rfl,hn,h1,h2,rfl⟩,fun W ho=>dir_yes (h.only ho) hn h1⟩
theorem name_any {w:World}{A:Nat→Addr}(hE:Errs w A)(s:ByteArray):∃ o,NameE A s o∧∀ W,zQ w W→zO 45 #[.string s] W (errO o):=by
 by_cases hs:OkN s
 · exact ⟨none,Or.inl ⟨hs,rfl⟩,fun W ho=>check_yes s A W (errs_only hE ho) hs⟩
 · refine ⟨some (A 3),Or.inr ⟨hs,rfl⟩,fun W ho=>(check_any s A W (errs_only hE ho)).mono fun e w' hx=>⟨?_,?_⟩⟩
   · rcases hx.1 with ⟨h1,_⟩ | ⟨_,h1⟩
     · exact absurd h1 hs
     · exact h1
   · exact Only.of_below hx.2 []
theorem first_two (w:World)(o1 o2:Option Addr):zE 43 #[.slice (some ⟨w.heap.size,0,none⟩) 2 2] (w.alloc (.cells #[errO o1,errO o2] 28)) (errO (firstV [o1,o2])) :=
 firstOf_any (w.alloc (.cells #[errO o1,errO o2] 28)) w.heap.size 2 2 [o1,o2] rfl (by decide) (fun j o hj=>by
  have hh:=zh w (.cells #[errO o1,errO o2] 28);rw [cell_of_row _ _ _ _ _ _ hh]
  match j,hj with
  | 0,hj=>simp at hj;subst hj;rfl
  | 1,hj=>simp at hj;subst hj;rfl
  | j+2,hj=>simp at hj)
theorem own_twoZ {w W:World}{N G:Int}{M:List Nat}(ho:Only M ((w.alloc (zH N G)).alloc (zH 0 0)) W)(h0:w.heap.size∉M)(h1:w.heap.size+1∉M):W.cell? (zA w.heap.size 0)=some (zI N)∧W.cell? (zA w.heap.size 1)=some (zI G)∧W.cell? (zA (w.heap.size+1) 0)=some (zI 0)∧W.cell? (zA (w.heap.size+1) 1)=some (zI 0)∧(∀ o,W.frozen? ⟨w.heap.size+1,o,none⟩=false)∧w.heap.size+1 < W.heap.size:=by
 have hA:=zh w (zH N G);have hZ:=zh (w.alloc (zH N G)) (zH 0 0);rw [World.size_alloc] at hZ;have oA:zQ (w.alloc (zH N G)) ((w.alloc (zH N G)).alloc (zH 0 0)):=(Only.refl [] _).alloc _
 have hl:w.heap.size+1 < (((w.alloc (zH N G)).alloc (zH 0 0))).heap.size:=by simp
 have hl0:w.heap.size < (((w.alloc (zH N G)).alloc (zH 0 0))).heap.size:=by simp;omega
 exact ⟨(ho.cell (p:=⟨w.heap.size,0,none⟩) hl0 h0).trans ((oA.cell (p:=⟨w.heap.size,0,none⟩) (by simp) (by simp)).trans (cell_of_row _ _ 0 _ _ _ hA)),(ho.cell (p:=⟨w.heap.size,1,none⟩) hl0 h0).trans ((oA.cell (p:=⟨w.heap.size,1,none⟩) (by simp) (by simp)).trans (cell_of_row _ _ 1 _ _ _ hA)),
  (ho.cell (p:=⟨w.heap.size+1,0,none⟩) hl h1).trans (cell_of_row _ _ 0 _ _ _ hZ),(ho.cell (p:=⟨w.heap.size+1,1,none⟩) hl h1).trans (cell_of_row _ _ 1 _ _ _ hZ),fun o=>(ho.frozen (p:=⟨w.heap.size+1,o,none⟩) hl h1).trans (frozen_of_row _ _ _ _ _ hZ),Nat.lt_of_lt_of_le hl ho.size⟩
theorem lookup_err (w:World)(tr:Nat)(N G:Int)(s:ByteArray)(o1 o2:Option Addr)(ad:Addr)(h1:∀ W,zQ w W→zO 44 #[zP tr,zG N G] W (errO o1))(h2:∀ W,zQ w W→zO 45 #[.string s] W (errO o2))(hf:firstV [o1,o2]=some ad):
  zO 11 #[zP tr,zG N G,.string s] w (.tuple #[zG 0 0,errV ad]):=by
 have HO1:Hid (zQ w ((w.alloc (zH N G)).alloc (zH 0 0))):=((Only.refl [] w).alloc _).alloc _;have H2:Hid (∀ W,zQ w W→_):=h2;have HF:Hid (∀ w3:World,_):=fun w3=>first_two w3 o1 o2;have hcd:=h1 ((w.alloc (zH N G)).alloc (zH 0 0)) HO1.out;obtain ⟨x0,x1,_,_,_,hxl⟩:=own_twoZ (N:=N) (G:=G) (Only.refl [] ((w.alloc (zH N G)).alloc (zH 0 0))) (by simp) (by simp);rw [hf] at HF
 change Hid (∀ w3:World,Calls _ _ _ _ fun e w'=>e = .returned (errV ad)∧_) at HF
 clear h1 h2 hf;have HU:∀ (x:Addr),errO (some x) = .iface 228 (.pointer (some x)):=fun _=>rfl;have HN:errO none = .nilIface:=rfl;unfold errV at HF ⊢;rcases o1 with _ | p1<;>rcases o2 with _ | p2
 all_goals simp only [HU,HN] at HF hcd H2
 all_goals clear HU HN
 all_goals go_enter Tryz.func11,Tryz.ntmps11
 all_goals go_wp2_with (first
  | (go_at_call 44;go_must (refine hcd.mono ?_);rintro e' w2 ⟨rfl,ho2⟩;have HO2:Hid (zQ ((w.alloc (zH N G)).alloc (zH 0 0)) w2):=ho2;have hck:=H2.out w2 (HO1.out.trans ho2 (fun _ hk=>by cases hk));clear ho2 hcd)
  | (go_at_call 45;go_must (refine hck.mono ?_);rintro e' w3 ⟨rfl,ho3⟩;have HO3:Hid (zQ ((w.alloc (zH N G)).alloc (zH 0 0)) w3):=HO2.out.trans ho3 (fun _ hk=>by cases hk);have hfo:=HF.out w3;clear ho3 hck)
  | (go_at_call 43;go_must (refine hfo.mono ?_);rintro e' w4 ⟨rfl,rfl⟩;obtain ⟨_,_,v0,v1,vf,hyl⟩:=own_twoZ (N:=N) (G:=G) HO3.out (by simp) (by simp);clear hfo)
  | go_in)
 all_goals have HOW:Hid (zQ w w3):=HO1.out.trans HO3.out (fun _ hk=>by cases hk)
 all_goals exact bodyPost_ret (v := .tuple #[zG 0 0,.iface 228 (.pointer (some ad))]) (by simp [results,Tryz.results11,go_sem,v0,v1,hyl]) rfl ⟨rfl,((HOW.out.setCell (Or.inr (Nat.le_succ _)) _).setCell (Or.inr (Nat.le_succ _)) _).alloc _⟩
theorem lookup_none (w:World)(tr:Nat)(T:Tr)(A:Nat→Addr)(a:Nat)(na:Nod)(d:DirM)(s:ByteArray)(h:TreeAt w tr T)(hE:Errs w A)(hd:T.ds a=some d)(ha:T.nd a=some na)(hKa:na.K=2)(hok:OkN s)(hs:s.size≤1000)(hf:findE d.l s.data.toList=none):
  zO 11 #[zP tr,zG a (T.g a:Nat),.string s] w (.tuple #[zG 0 0,.iface 228 (.pointer (some (A 4)))]):=by
 have hO1:zQ w ((w.alloc (zH a (T.g a:Nat))).alloc (zH 0 0)):=((Only.refl [] w).alloc _).alloc _;have HD:Hid (∀ W,zQ w W→_):=fun W (ho:zQ w W)=>dir_yes (h.only ho) ha hKa;have HK:Hid (∀ W,zQ w W→_):=fun W (ho:zQ w W)=>check_yes s A W (hE.below (ho.to_below (Nat.le_refl _) (fun k hk=>by cases hk)) (Nat.le_refl _)) hok;have HO1:Hid (zQ w ((w.alloc (zH a (T.g a:Nat))).alloc (zH 0 0))):=hO1;have hx:=own_two (T:=T) (a:=a) (Only.refl [] ((w.alloc (zH a (T.g a:Nat))).alloc (zH 0 0))) (by simp) (by simp);have hcd:=HD.out ((w.alloc (zH a (T.g a:Nat))).alloc (zH 0 0)) hO1;obtain ⟨x0,x1,_,_,_,hxl⟩:=hx;have hal:=h.dlt a d hd;have ct:=h.c1;have htl:tr < w.heap.size:=zv ct
 have HL:Hid (∀ W,zQ w W→(W.cell? (zA tr 1)=some (.map (some T.db))∧(Instr.lookup 102 (.map (some T.db)) (zG a (T.g a:Nat)) false).run Tryz.prog W = .ok (.map (some d.b)) W∧(Instr.lookup 101 (.map (some d.b)) (.string s) true).run Tryz.prog W = .ok (.tuple #[zG 0 0,.bool false]) W)):=fun W ho=>by
  have hT:=h.only ho;obtain ⟨v,n1,hv⟩:=look_name (hT.dir a d hd) s hs;rw [hf] at n1 hv;subst hv;exact ⟨hT.c1,look_dir hT hal hd,n1⟩
 have HEr:Hid (∀ W,zQ w W→W.cell? ⟨0,0,none⟩=some (.iface 228 (.pointer (some (A 4))))):=fun W ho=>(errs_only hE ho).cell 4 (by decide);have hel:0 < w.heap.size:=zv (HEr.out w (Only.refl [] w));clear h hE hok HD ct
 go_enter Tryz.func11,Tryz.ntmps11
 go_wp2_with (first
  | (go_at_call 44;go_must (refine hcd.mono ?_);rintro e' w2 ⟨rfl,ho2⟩;have HO2:Hid (zQ ((w.alloc (zH a (T.g a:Nat))).alloc (zH 0 0)) w2):=ho2;have hck:=HK.out w2 (HO1.out.trans ho2 (fun _ hk=>by cases hk));clear ho2 hcd)
  | (go_at_call 45;go_must (refine hck.mono ?_);rintro e' w3 ⟨rfl,ho3⟩;have HO3:Hid (zQ ((w.alloc (zH a (T.g a:Nat))).alloc (zH 0 0)) w3):=HO2.out.trans ho3 (fun _ hk=>by cases hk);have hfo:=first_none w3;clear ho3 hck)
  | (go_at_call 43;go_must (refine hfo.mono ?_);rintro e' w4 ⟨rfl,rfl⟩;have HO4:Hid (zQ ((w.alloc (zH a (T.g a:Nat))).alloc (zH 0 0)) (w3.alloc (.cells #[.nilIface,.nilIface] 28))):=HO3.out.alloc _;obtain ⟨l0,l1,l2⟩:=HL.out (w3.alloc (.cells #[.nilIface,.nilIface] 28)).drew ((HO1.out.trans HO4.out (fun _ hk=>by cases hk)).drew);obtain ⟨_,m1,m2⟩:=HL.out ((w3.alloc (.cells #[.nilIface,.nilIface] 28)).alloc (zH 0 0)).drew (((HO1.out.trans HO4.out (fun _ hk=>by cases hk)).alloc _).drew);obtain ⟨y0,y1,v0,v1,vf,hyl⟩:=own_two (T:=T) (a:=a) HO3.out (by simp) (by simp);have k0:=(HL.out w3 (HO1.out.trans HO3.out (fun _ hk=>by cases hk))).1;have hy0:=zv y0;have eN:=HEr.out w3 (HO1.out.trans HO3.out (fun _ hk=>by cases hk));have hen:=zv eN;have hk0:=zv k0;clear hfo)
  | go_in)
 go_region
 go_wp2
 all_goals go_region
 all_goals go_wp2
 all_goals have hyl2:w.heap.size+1 < w3.heap.size+1:=Nat.lt_succ_of_lt hyl
 all_goals have HOW:Hid (zQ w w3):=HO1.out.trans HO3.out (fun _ hk=>by cases hk)
 all_goals refine bodyPost_ret (v := .tuple #[zG 0 0,.iface 228 (.pointer (some (A 4)))]) (by simp [results,Tryz.results11,go_sem,v0,v1,hyl,hyl2]) rfl ⟨rfl,?_⟩
 all_goals repeat (first | exact HOW.out | refine Only.setCell ?_ (Or.inr (Nat.le_succ _)) _ | refine Only.alloc ?_ _ | refine Only.drew ?_)
def Tr.len (T:Tr)(i:Nat):Nat:=((T.ds i).map (·.l.length)).getD 0
theorem mapElem_none {v:Value}{ps:List MemPlace}(h:mapElem v=some (.lit (.int .i64 (-1)),ps)):v = .map none:=by
 unfold mapElem at h
 split at h
 · simp only [Option.some.injEq,Prod.mk.injEq,DataW.lit.injEq,Lit.int.injEq,true_and] at h
   omega
 · rfl
 · cases h
theorem look_nodir {w:World}{tr:Nat}{T:Tr}(h:TreeAt w tr T){a:Nat}(ha:a < T.p.N)(hd:T.ds a=none):(Instr.lookup 102 (.map (some T.db)) (zG a (T.g a:Nat)) false).run Tryz.prog w = .ok (.map none) w:=by
 obtain ⟨D,n,d1,_,d3⟩:=h.dirs;obtain ⟨v,ps,hrun,hR⟩:=d1.lookup lawH undDirs (zeroDir _) (zd := .lit (.int .i64 (-1))) (zp:=[]) rfl (h.key ha)
 have e:T.dirsF (a,T.g a)=none:=by
  unfold Tr.dirsF;rw [if_pos rfl,hd];rfl
 rw [d3.look,e] at hR;rw [mapElem_none hR] at hrun;exact hrun
theorem look_len {w:World}{tr:Nat}{T:Tr}(h:TreeAt w tr T){i:Nat}(hi:i < T.p.N):∃ o,∀ W,zQ w W→W.cell? (zA tr 1)=some (.map (some T.db))∧(Instr.lookup 102 (.map (some T.db)) (zG i (T.g i:Nat)) false).run Tryz.prog W = .ok (.map o) W∧(Builtin.len_ #[101] 3 #[.map o]).run Tryz.prog W = .ok (zI (T.len i:Nat)) W:=by
 cases hd:T.ds i with
 | none =>
  refine ⟨none,fun W ho=>⟨(h.only ho).c1,look_nodir (h.only ho) hi hd,?_⟩⟩
  have e:T.len i=0:=by unfold Tr.len;rw [hd];rfl
  rw [e];exact Maps.len_nil undNames _
 | some d =>
  refine ⟨some d.b,fun W ho=>⟨(h.only ho).c1,look_dir (h.only ho) hi hd,?_⟩⟩
  have e:T.len i=d.l.length:=by unfold Tr.len;rw [hd];rfl
  rw [e];exact len_dir ((h.only ho).dir i d hd) _
theorem own_box {w W:World}{N G:Int}{M:List Nat}(ho:Only M (w.alloc (zH N G)) W)(h0:w.heap.size∉M):W.cell? (zA w.heap.size 0)=some (zI N)∧W.cell? (zA w.heap.size 1)=some (zI G):=by
 have hh:=zh w (zH N G);exact ⟨(ho.cell (p:=⟨w.heap.size,0,none⟩) (by simp) h0).trans (cell_of_row _ _ 0 _ _ _ hh),(ho.cell (p:=⟨w.heap.size,1,none⟩) (by simp) h0).trans (cell_of_row _ _ 1 _ _ _ hh)⟩
section
variable (w:World)(tr db:Nat)(N G:Int)(s:ByteArray)(i c:Nat)(o:Option Nat)
theorem remove_err (ad:Addr)(hlk:∀ W,zQ w W→zO 11 #[zP tr,zG N G,.string s] W (.tuple #[zG i c,errV ad])):
  zO 31 #[zP tr,zG N G,.string s] w (errV ad):=by
 have HA:Hid (zQ w (w.alloc (zH N G))):=(Only.refl [] w).alloc _;have hlk1:=hlk _ HA.out;obtain ⟨x0,x1⟩:=own_box (N:=N) (G:=G) (Only.refl [] (w.alloc (zH N G))) (by simp);clear hlk;unfold errV at hlk1 ⊢
 go_enter Tryz.func31,Tryz.ntmps31
 go_wp2_with (first
  | (go_at_call 11;go_must (refine hlk1.mono ?_);rintro e' w2 ⟨rfl,ho2⟩;have HO2:Hid (zQ w w2):=zo HA.out ho2;clear ho2 hlk1)
  | go_in)
 go_ret
 exact ⟨rfl,HO2.out.alloc _⟩
theorem remove_held (n:Nat)(ad:Addr)(hn:0 < n)(hE:w.cell? ⟨5,0,none⟩=some (errV ad))(hlk:∀ W,zQ w W→zO 11 #[zP tr,zG N G,.string s] W (.tuple #[zG i c,.nilIface]))(hlen:∀ W,zQ w W→W.cell? (zA tr 1)=some (.map (some db))∧(Instr.lookup 102 (.map (some db)) (zG i c) false).run Tryz.prog W = .ok (.map o) W∧(Builtin.len_ #[101] 3 #[.map o]).run Tryz.prog W = .ok (zI n) W):
  zO 31 #[zP tr,zG N G,.string s] w (errV ad):=by
 have HA:Hid (zQ w (w.alloc (zH N G))):=(Only.refl [] w).alloc _;have hlk1:=hlk _ HA.out;obtain ⟨x0,x1⟩:=own_box (N:=N) (G:=G) (Only.refl [] (w.alloc (zH N G))) (by simp);have HLEN:Hid (∀ W,zQ w W→_):=hlen;have HE:Hid (w.cell? ⟨5,0,none⟩=some (errV ad)):=hE;have htl:tr < w.heap.size:=zv (hlen w (Only.refl [] w)).1;have hel:5 < w.heap.size:=zv hE;clear hlk hlen hE;unfold errV at HE ⊢
 go_enter Tryz.func31,Tryz.ntmps31
 go_wp2_with (first
  | (go_at_call 11;go_must (refine hlk1.mono ?_);rintro e' w2 ⟨rfl,ho2⟩;have HO2:Hid (zQ w w2):=zo HA.out ho2;obtain ⟨l0,l1,l2⟩:=HLEN.out (w2.alloc (zH i c)).drew (HO2.out.alloc _).drew;have hs2:w.heap.size < w2.heap.size:=Nat.lt_of_lt_of_le (by simp) ho2.size;have k0:=(HLEN.out w2 HO2.out).1;have hk0:=zv k0;have eE:=(HO2.out.cell (p:=⟨5,0,none⟩) hel (by simp)).trans HE.out;have hE2:=zv eE;clear ho2 hlk1)
  | go_in)
 all_goals go_region
 all_goals go_wp2
 all_goals go_ret
 all_goals refine ⟨rfl,?_⟩
 all_goals repeat (first | exact HO2.out | refine Only.alloc ?_ _ | refine Only.drew ?_)
theorem remove_go (L:List Nat)(R1 R2:World→Prop)(hlk:∀ W,zQ w W→zO 11 #[zP tr,zG N G,.string s] W (.tuple #[zG i c,.nilIface]))(hlen:∀ W,zQ w W→W.cell? (zA tr 1)=some (.map (some db))∧(Instr.lookup 102 (.map (some db)) (zG i c) false).run Tryz.prog W = .ok (.map o) W∧(Builtin.len_ #[101] 3 #[.map o]).run Tryz.prog W = .ok (zI 0) W)(hlo:∀ W,zQ w W→zK 61 #[zP tr,zG N G,.string s] W fun e w'=>e = .returned (.tuple #[])∧R1 w'∧Only L W w')(hto:∀ W,R1 W→zK 56 #[zP tr,zG N G] W fun e w'=>e = .returned (.tuple #[])∧R2 w'∧Only L W w')(hL:∀ k,w.heap.size≤k→k∉L):
  zK 31 #[zP tr,zG N G,.string s] w fun e w'=>e = .returned .nilIface∧R2 w'∧Only L w w':=by
 have HA:Hid (zQ w (w.alloc (zH N G))):=(Only.refl [] w).alloc _;have hlk1:=hlk _ HA.out;obtain ⟨x0,x1⟩:=own_box (N:=N) (G:=G) (Only.refl [] (w.alloc (zH N G))) (by simp);have HLEN:Hid (∀ W,zQ w W→_):=hlen;have HLO:Hid (∀ W,zQ w W→_):=hlo;have HTO:Hid (∀ W,R1 W→_):=hto;have HL:Hid (∀ k,w.heap.size≤k→k∉L):=hL;have htl:tr < w.heap.size:=zv (hlen w (Only.refl [] w)).1;clear hlk hlen hlo hto hL
 go_enter Tryz.func31,Tryz.ntmps31
 go_wp2_with (first
  | (go_at_call 11;go_must (refine hlk1.mono ?_);rintro e' w2 ⟨rfl,ho2⟩;have HO1:Hid (zQ (w.alloc (zH N G)) w2):=ho2;have HO2:Hid (zQ w w2):=zo HA.out ho2;obtain ⟨l0,l1,l2⟩:=HLEN.out (w2.alloc (zH i c)).drew (HO2.out.alloc _).drew;obtain ⟨y0,y1⟩:=own_box (N:=N) (G:=G) ((ho2.alloc (zH i c)).drew) (by simp);have hs2:w.heap.size < w2.heap.size:=Nat.lt_of_lt_of_le (by simp) ho2.size;have k0:=(HLEN.out w2 HO2.out).1;have hk0:=zv k0;have hlo4:=HLO.out (w2.alloc (zH i c)).drew (HO2.out.alloc _).drew;clear ho2 hlk1 x0 x1)
  | go_in)
 go_region
 all_goals go_wp2_with (first
  | (go_at_call 61;go_must (refine hlo4.mono ?_);rintro e' w5 ⟨rfl,r5,ho5⟩;have HO5:Hid (Only L w w5):=(((HO2.out.alloc _).drew).mono (fun _ hk=>by cases hk)).trans ho5 (fun k hk=>Or.inl hk);obtain ⟨z0,z1⟩:=own_box (N:=N) (G:=G) ((((HO1.out.alloc (zH i c)).drew).mono (L':=L) (fun _ hk=>by cases hk)).trans ho5 (fun k hk=>Or.inl hk)) (HL.out _ (Nat.le_refl _));have hto5:=HTO.out w5 r5;clear r5 ho5 hlo4 y0 y1 l0 l1 l2)
  | (go_at_call 56;go_must (refine hto5.mono ?_);rintro e' w6 ⟨rfl,r6,ho6⟩;have HR:Hid (R2 w6∧Only L w w6):=⟨r6,HO5.out.trans ho6 (fun k hk=>Or.inl hk)⟩;clear r6 ho6 hto5 z0 z1)
  | go_in)
 all_goals go_ret
 all_goals exact ⟨rfl,HR.out.1,HR.out.2⟩
end
theorem HBox.fill {w:World}{B i c:Nat}(h:HBox w B i c)(j d:Nat):HBox ((w.setCell (zA B 0) (zI j)).setCell (zA B 1) (zI d)) B j d:=by
 have h1:=heap_setCell_same w B 0 _ _ (zI j) h;have h2:=heap_setCell_same _ B 1 _ _ (zI d) h1;unfold HBox;rw [h2];rfl
theorem HBox.other {w:World}{B i c b o:Nat}{v:Value}(h:HBox w B i c)(hb:B≠b):HBox (w.setCell ⟨b,o,none⟩ v) B i c :=
 h.kept ((Only.refl [b] w).setCell (p:=⟨b,o,none⟩) (Or.inl (List.mem_singleton.2 rfl)) v) (by simpa using hb)
theorem HBox.frozen {w:World}{B i c:Nat}(h:HBox w B i c)(o:Nat):w.frozen? ⟨B,o,none⟩=false:=frozen_of_row _ _ _ _ _ h
theorem any_no {ch:Nat→Nat}{i n:Nat}(h:∀ q,q < n→ch q≠i):((List.range n).any fun j=>ch j==i)=false:=by
 rw [List.any_eq_false];intro x hx;have:=h x (List.mem_range.1 hx)
 simpa using this
theorem any_yes {ch:Nat→Nat}{i n j:Nat}(hj:j < n)(h:ch j=i):((List.range n).any fun j=>ch j==i)=true:=by
 rw [List.any_eq_true];exact ⟨j,List.mem_range.2 hj,by simpa using h⟩
theorem isIn_any (w:World)(tr:Nat)(T:Tr)(ch:Nat→Nat)(i:Nat)(h:TreeAt w tr T)(hch:∀ j,∃ n,T.nd (ch j)=some n∧n.K=2∧n.UN=(ch (j+1):Nat)∧n.UG=(T.g (ch (j+1)):Nat)):
  zO 64 #[zP tr,zG (ch 0:Nat) (T.g (ch 0):Nat),zG i (T.g i:Nat)] w (.bool ((List.range (countTo T.nd T.p.N)).any fun j=>ch j==i)):=by
 have hA:zQ w ((w.alloc (zH (ch 0:Nat) (T.g (ch 0):Nat))).alloc (zH i (T.g i:Nat))):=((Only.refl [] w).alloc _).alloc _;have hcn:=nodes_any _ tr T (h.only hA);have hle:=Nat.le_trans (countTo_le T.nd T.p.N) h.small.N
 have HB:Hid (∀ W,zQ ((w.alloc (zH (ch 0:Nat) (T.g (ch 0):Nat))).alloc (zH i (T.g i:Nat))) W→HBox W w.heap.size (ch 0) (T.g (ch 0))∧HBox W (w.heap.size+1) i (T.g i)):=fun W ho=>by
  have h1:=zh w (zH (ch 0:Nat) (T.g (ch 0):Nat));have h2:=zh (w.alloc (zH (ch 0:Nat) (T.g (ch 0):Nat))) (zH i (T.g i:Nat));rw [World.size_alloc] at h2
  exact ⟨HBox.kept (show HBox _ w.heap.size (ch 0) (T.g (ch 0)) from h1) (zo ((Only.refl [] _).alloc _) ho) (by simp),HBox.kept (show HBox _ (w.heap.size+1) i (T.g i) from h2) ho (by simp)⟩
 have HA:Hid (zQ w ((w.alloc (zH (ch 0:Nat) (T.g (ch 0):Nat))).alloc (zH i (T.g i:Nat)))):=hA
 have HTO:Hid (∀ j,∃ K z l c,∀ W,zQ w W→zO 85 #[zP tr,zG (ch j:Nat) (T.g (ch j):Nat)] W (.agg #[zI K,zI z,zI l,zI c,zI (ch (j+1):Nat),zI (T.g (ch (j+1)):Nat)])):=fun j=>by
  obtain ⟨n,hn,hK,hU,hG⟩:=hch j;refine ⟨n.K,n.Z,n.L,n.C,fun W ho=>?_⟩;have:=told_ok W tr T (ch j) n n.Z (h.only ho) hn (Or.inr ⟨hK,rfl⟩);unfold attrV at this;rw [hU,hG] at this;exact this
 clear h hch hA;generalize countTo T.nd T.p.N=cn at hcn hle ⊢
 go_enter Tryz.func64,Tryz.ntmps64
 go_wp2_with (first
  | (go_at_call 23;go_must (refine hcn.mono ?_);rintro e w1 ⟨rfl,ho1⟩;have HO1:Hid (zQ w w1∧_):=⟨zo HA.out ho1,HB.out w1 ho1⟩;clear ho1 hcn))
 go_loopw [9] (fun k wr=>∃ j:Nat,k=zI j∧j≤cn∧(∀ q,q < j→ch q≠i)∧HBox wr w.heap.size (ch j) (T.g (ch j))∧HBox wr (w.heap.size+1) i (T.g i)∧zQ w wr) (fun k _=>cn - (intOf k).toNat)
 case atStart=>exact ⟨0,rfl,Nat.zero_le _,(fun q hq=>by omega),HO1.out.2.1,HO1.out.2.2,HO1.out.1⟩
 case round =>
  obtain ⟨j,rfl,hj,hall,hb0,hb1,hor⟩:=hrel;have HAL:Hid (∀ q,q < j→ch q≠i):=hall;have HB0:Hid (HBox wr w.heap.size (ch j) (T.g (ch j))):=hb0;have HB1:Hid (HBox wr (w.heap.size+1) i (T.g i)):=hb1;have HOR:Hid (zQ w wr):=hor;obtain ⟨x0,x1⟩:=hb0.cells;obtain ⟨y0,y1⟩:=hb1.cells;clear hall hb0 hb1 hor
  by_cases hlt:j < cn
  · by_cases he:ch j=i
    · have HY:Hid _:=any_yes (ch:=ch) hlt he
      rw [he] at x0 x1
      go_wp2
      go_ret
      exact ⟨by rw [HY.out];rfl,HOR.out⟩
    · have hne:((ch j:Nat):Int)≠(i:Nat):=fun e=>he (Int.ofNat_inj.1 e)
      have HNE:Hid (ch j≠i):=he;obtain ⟨K,z,l,c,hto⟩:=HTO.out j;have hto1:=hto wr HOR.out;clear hto;have hfu:∀ W:World,(Instr.field 65 (.agg #[zI K,zI z,zI l,zI c,zI (ch (j+1):Nat),zI (T.g (ch (j+1)):Nat)]) 4).run Tryz.prog W = .ok (zG (ch (j+1):Nat) (T.g (ch (j+1)):Nat)) W:=fun W=>fieldUp W _ _ _ _ _ _
      go_wp2_with (first
       | (go_at_call 85;go_must (refine hto1.mono ?_);rintro e w2 ⟨rfl,ho2⟩;have hb2:HBox w2 w.heap.size (ch j) (T.g (ch j)):=HB0.out.kept ho2 (by simp);have HB2:Hid (HBox w2 w.heap.size (ch j) (T.g (ch j))∧HBox w2 (w.heap.size+1) i (T.g i)∧zQ w w2):=⟨hb2,HB1.out.kept ho2 (by simp),zo HOR.out ho2⟩;have f0:=hb2.frozen;have hlt2:=hb2.lt;obtain ⟨z0,z1⟩:=hb2.cells;clear hto1 ho2 hb2 x0 x1 y0 y1))
      go_roundw
      case rel=>exact ⟨j+1,by go_num,by omega,(fun q hq=>by
           rcases Nat.lt_or_ge q j with h1 | h1
           · exact HAL.out q h1
           · obtain rfl:q=j:=by omega
             exact HNE.out),HB2.out.1.fill _ _,(HB2.out.2.1.other (by omega)).other (by omega),(HB2.out.2.2.setCell (Or.inr (Nat.le_refl _)) _).setCell (Or.inr (Nat.le_refl _)) _⟩
      case measure=>simp [intOf];omega
  · obtain rfl:cn=j:=by omega
    have HY:Hid _:=any_no (ch:=ch) HAL.out
    go_wp2
    go_ret
    exact ⟨by rw [HY.out];rfl,HOR.out⟩
section
variable (w:World)(tr:Nat)(T:Tr)(A:Nat→Addr)(i k:Nat)
theorem two_boxes {W:World}(ho:zQ ((w.alloc (zH i (T.g i:Nat))).alloc (zH k (T.g k:Nat))) W):(W.cell? (zA w.heap.size 0)=some (zI i)∧W.cell? (zA w.heap.size 1)=some (zI (T.g i:Nat)))∧(W.cell? (zA (w.heap.size+1) 0)=some (zI k)∧W.cell? (zA (w.heap.size+1) 1)=some (zI (T.g k:Nat))):=by
 have h1:=zh w (zH i (T.g i:Nat));have h2:=zh (w.alloc (zH i (T.g i:Nat))) (zH k (T.g k:Nat));rw [World.size_alloc] at h2
 exact ⟨(HBox.kept (show HBox _ w.heap.size i (T.g i) from h1) (zo ((Only.refl [] _).alloc _) ho) (by simp)).cells,(HBox.kept (show HBox _ (w.heap.size+1) k (T.g k) from h2) ho (by simp)).cells⟩
def overE (T:Tr)(A:Nat→Addr)(i k:Nat):Option Addr :=
 if (T.ds i).isSome=false∧(T.ds k).isSome=true then some (A 6) else if (T.ds i).isSome=true∧(T.ds k).isSome=false then some (A 7) else if 0 < T.len k then some (A 10) else none
theorem over_any (h:TreeAt w tr T)(hE:Errs w A)(hi:i < T.p.N)(hk:k < T.p.N):
   zO 65 #[zP tr,zG i (T.g i:Nat),zG k (T.g k:Nat)] w (errO (overE T A i k)):=by
 have HA:Hid (zQ w ((w.alloc (zH i (T.g i:Nat))).alloc (zH k (T.g k:Nat)))):=((Only.refl [] w).alloc _).alloc _;have HB:Hid (∀ W,zQ ((w.alloc (zH i (T.g i:Nat))).alloc (zH k (T.g k:Nat))) W→_):=fun W (ho:zQ ((w.alloc (zH i (T.g i:Nat))).alloc (zH k (T.g k:Nat))) W)=>two_boxes w T i k ho;have HI:Hid (∀ W,zQ ((w.alloc (zH i (T.g i:Nat))).alloc (zH k (T.g k:Nat))) W→_):=fun W (ho:zQ ((w.alloc (zH i (T.g i:Nat))).alloc (zH k (T.g k:Nat))) W)=>isDir_any W tr T i (h.only (zo HA.out ho)) hi;have HK:Hid (∀ W,zQ ((w.alloc (zH i (T.g i:Nat))).alloc (zH k (T.g k:Nat))) W→_):=fun W (ho:zQ ((w.alloc (zH i (T.g i:Nat))).alloc (zH k (T.g k:Nat))) W)=>isDir_any W tr T k (h.only (zo HA.out ho)) hk;obtain ⟨o,hlen⟩:=look_len h hk;have HLEN:Hid (∀ W,zQ ((w.alloc (zH i (T.g i:Nat))).alloc (zH k (T.g k:Nat))) W→_):=fun W (ho:zQ ((w.alloc (zH i (T.g i:Nat))).alloc (zH k (T.g k:Nat))) W)=>hlen W (zo HA.out ho);have HEr:Hid (∀ W,zQ ((w.alloc (zH i (T.g i:Nat))).alloc (zH k (T.g k:Nat))) W→W.cell? ⟨6,0,none⟩=some (.iface 228 (.pointer (some (A 6))))∧W.cell? ⟨3,0,none⟩=some (.iface 228 (.pointer (some (A 7))))∧W.cell? ⟨5,0,none⟩=some (.iface 228 (.pointer (some (A 10))))):=fun W ho=>⟨(errs_only hE (zo HA.out ho)).cell 6 (by decide),(errs_only hE (zo HA.out ho)).cell 7 (by decide),(errs_only hE (zo HA.out ho)).cell 10 (by decide)⟩;have HW0:Hid (zQ ((w.alloc (zH i (T.g i:Nat))).alloc (zH k (T.g k:Nat))) ((w.alloc (zH i (T.g i:Nat))).alloc (zH k (T.g k:Nat)))):=Only.refl [] _;obtain ⟨⟨x0,x1⟩,⟨y0,y1⟩⟩:=HB.out _ HW0.out;have hel6:6 < w.heap.size:=zv (hE.cell 6 (by decide));have hel7:3 < w.heap.size:=zv (hE.cell 7 (by decide));have hel10:5 < w.heap.size:=zv (hE.cell 10 (by decide));have htl:tr < w.heap.size:=zv h.c1;clear h hE hlen hi hk;unfold overE;generalize hbi:(T.ds i).isSome=bi at *;generalize hbk:(T.ds k).isSome=bk at *;generalize hn:T.len k=n at *;clear hbi hbk hn
 cases bi<;>cases bk
 · rw [if_neg (by simp),if_neg (by simp)]
   by_cases hn0:0 < n
   · rw [if_pos hn0]
     show Calls _ _ _ _ fun e w'=>e = .returned (.iface 228 (.pointer (some (A 10))))∧_
     go_enter Tryz.func65,Tryz.ntmps65
     go_wp2_with (first
      | (go_at_call 90;refine (HI.out _ HW0.out).mono ?_;rintro e2 w2 ⟨rfl,ho2⟩;have HW2:Hid (zQ ((w.alloc (zH i (T.g i:Nat))).alloc (zH k (T.g k:Nat))) w2):=zo HW0.out ho2;clear ho2 x0 x1 y0 y1;obtain ⟨⟨x0,x1⟩,⟨y0,y1⟩⟩:=HB.out w2 HW2.out;clear HW0)
      | (go_at_call 90;refine (HK.out _ HW2.out).mono ?_;rintro e3 w3 ⟨rfl,ho3⟩;have HW3:Hid (zQ ((w.alloc (zH i (T.g i:Nat))).alloc (zH k (T.g k:Nat))) w3):=zo HW2.out ho3;clear ho3 x0 x1 y0 y1;obtain ⟨⟨x0,x1⟩,⟨y0,y1⟩⟩:=HB.out w3 HW3.out;clear HW2)
      | (go_at_call 90;refine (HI.out _ HW3.out).mono ?_;rintro e4 w4 ⟨rfl,ho4⟩;have HW4:Hid (zQ ((w.alloc (zH i (T.g i:Nat))).alloc (zH k (T.g k:Nat))) w4):=zo HW3.out ho4;clear ho4 x0 x1 y0 y1;obtain ⟨⟨x0,x1⟩,⟨y0,y1⟩⟩:=HB.out w4 HW4.out;clear HW3)
      | go_in)
     obtain ⟨l0,l1,l2⟩:=HLEN.out w4.drew HW4.out.drew;obtain ⟨_,_,e10⟩:=HEr.out w4 HW4.out;have k0:=(HLEN.out w4 HW4.out).1
     go_region
     all_goals go_wp2
     all_goals go_ret
     all_goals exact ⟨rfl,zo HA.out HW4.out.drew⟩
   · rw [if_neg hn0]
     obtain rfl:n=0:=by omega
     show Calls _ _ _ _ fun e w'=>e = .returned .nilIface∧_
     go_enter Tryz.func65,Tryz.ntmps65
     go_wp2_with (first
      | (go_at_call 90;refine (HI.out _ HW0.out).mono ?_;rintro e2 w2 ⟨rfl,ho2⟩;have HW2:Hid (zQ ((w.alloc (zH i (T.g i:Nat))).alloc (zH k (T.g k:Nat))) w2):=zo HW0.out ho2;clear ho2 x0 x1 y0 y1;obtain ⟨⟨x0,x1⟩,⟨y0,y1⟩⟩:=HB.out w2 HW2.out;clear HW0)
      | (go_at_call 90;refine (HK.out _ HW2.out).mono ?_;rintro e3 w3 ⟨rfl,ho3⟩;have HW3:Hid (zQ ((w.alloc (zH i (T.g i:Nat))).alloc (zH k (T.g k:Nat))) w3):=zo HW2.out ho3;clear ho3 x0 x1 y0 y1;obtain ⟨⟨x0,x1⟩,⟨y0,y1⟩⟩:=HB.out w3 HW3.out;clear HW2)
      | (go_at_call 90;refine (HI.out _ HW3.out).mono ?_;rintro e4 w4 ⟨rfl,ho4⟩;have HW4:Hid (zQ ((w.alloc (zH i (T.g i:Nat))).alloc (zH k (T.g k:Nat))) w4):=zo HW3.out ho4;clear ho4 x0 x1 y0 y1;obtain ⟨⟨x0,x1⟩,⟨y0,y1⟩⟩:=HB.out w4 HW4.out;clear HW3)
      | go_in)
     obtain ⟨l0,l1,l2⟩:=HLEN.out w4.drew HW4.out.drew;have k0:=(HLEN.out w4 HW4.out).1
     go_region
     all_goals go_wp2
     all_goals go_ret
     all_goals exact ⟨rfl,zo HA.out HW4.out.drew⟩
 · rw [if_pos ⟨rfl,rfl⟩]
   show Calls _ _ _ _ fun e w'=>e = .returned (.iface 228 (.pointer (some (A 6))))∧_
   go_enter Tryz.func65,Tryz.ntmps65
   go_wp2_with (first
     | (go_at_call 90;refine (HI.out _ HW0.out).mono ?_;rintro e2 w2 ⟨rfl,ho2⟩;have HW2:Hid (zQ ((w.alloc (zH i (T.g i:Nat))).alloc (zH k (T.g k:Nat))) w2):=zo HW0.out ho2;clear ho2 x0 x1 y0 y1;obtain ⟨⟨x0,x1⟩,⟨y0,y1⟩⟩:=HB.out w2 HW2.out;clear HW0)
     | (go_at_call 90;refine (HK.out _ HW2.out).mono ?_;rintro e3 w3 ⟨rfl,ho3⟩;have HW3:Hid (zQ ((w.alloc (zH i (T.g i:Nat))).alloc (zH k (T.g k:Nat))) w3):=zo HW2.out ho3;clear ho3 x0 x1 y0 y1;obtain ⟨⟨x0,x1⟩,⟨y0,y1⟩⟩:=HB.out w3 HW3.out;clear HW2;obtain ⟨e6,_,_⟩:=HEr.out w3 HW3.out)
     | go_in)
   go_ret
   exact ⟨rfl,zo HA.out HW3.out⟩
 · rw [if_neg (by simp),if_pos ⟨rfl,rfl⟩]
   show Calls _ _ _ _ fun e w'=>e = .returned (.iface 228 (.pointer (some (A 7))))∧_
   go_enter Tryz.func65,Tryz.ntmps65
   go_wp2_with (first
     | (go_at_call 90;refine (HI.out _ HW0.out).mono ?_;rintro e2 w2 ⟨rfl,ho2⟩;have HW2:Hid (zQ ((w.alloc (zH i (T.g i:Nat))).alloc (zH k (T.g k:Nat))) w2):=zo HW0.out ho2;clear ho2 x0 x1 y0 y1;obtain ⟨⟨x0,x1⟩,⟨y0,y1⟩⟩:=HB.out w2 HW2.out;clear HW0)
     | (go_at_call 90;refine (HI.out _ HW2.out).mono ?_;rintro e3 w3 ⟨rfl,ho3⟩;have HW3:Hid (zQ ((w.alloc (zH i (T.g i:Nat))).alloc (zH k (T.g k:Nat))) w3):=zo HW2.out ho3;clear ho3 x0 x1 y0 y1;obtain ⟨⟨x0,x1⟩,⟨y0,y1⟩⟩:=HB.out w3 HW3.out;clear HW2)
     | (go_at_call 90;refine (HK.out _ HW3.out).mono ?_;rintro e4 w4 ⟨rfl,ho4⟩;have HW4:Hid (zQ ((w.alloc (zH i (T.g i:Nat))).alloc (zH k (T.g k:Nat))) w4):=zo HW3.out ho4;clear ho4 x0 x1 y0 y1;obtain ⟨⟨x0,x1⟩,⟨y0,y1⟩⟩:=HB.out w4 HW4.out;clear HW3;obtain ⟨_,e7,_⟩:=HEr.out w4 HW4.out)
     | go_in)
   go_ret
   exact ⟨rfl,zo HA.out HW4.out⟩
 · rw [if_neg (by simp),if_neg (by simp)]
   by_cases hn0:0 < n
   · rw [if_pos hn0]
     show Calls _ _ _ _ fun e w'=>e = .returned (.iface 228 (.pointer (some (A 10))))∧_
     go_enter Tryz.func65,Tryz.ntmps65
     go_wp2_with (first
      | (go_at_call 90;refine (HI.out _ HW0.out).mono ?_;rintro e2 w2 ⟨rfl,ho2⟩;have HW2:Hid (zQ ((w.alloc (zH i (T.g i:Nat))).alloc (zH k (T.g k:Nat))) w2):=zo HW0.out ho2;clear ho2 x0 x1 y0 y1;obtain ⟨⟨x0,x1⟩,⟨y0,y1⟩⟩:=HB.out w2 HW2.out;clear HW0)
      | (go_at_call 90;refine (HI.out _ HW2.out).mono ?_;rintro e3 w3 ⟨rfl,ho3⟩;have HW3:Hid (zQ ((w.alloc (zH i (T.g i:Nat))).alloc (zH k (T.g k:Nat))) w3):=zo HW2.out ho3;clear ho3 x0 x1 y0 y1;obtain ⟨⟨x0,x1⟩,⟨y0,y1⟩⟩:=HB.out w3 HW3.out;clear HW2)
      | (go_at_call 90;refine (HK.out _ HW3.out).mono ?_;rintro e4 w4 ⟨rfl,ho4⟩;have HW4:Hid (zQ ((w.alloc (zH i (T.g i:Nat))).alloc (zH k (T.g k:Nat))) w4):=zo HW3.out ho4;clear ho4 x0 x1 y0 y1;obtain ⟨⟨x0,x1⟩,⟨y0,y1⟩⟩:=HB.out w4 HW4.out;clear HW3)
      | go_in)
     obtain ⟨l0,l1,l2⟩:=HLEN.out w4.drew HW4.out.drew;obtain ⟨_,_,e10⟩:=HEr.out w4 HW4.out;have k0:=(HLEN.out w4 HW4.out).1
     go_region
     all_goals go_wp2
     all_goals go_ret
     all_goals exact ⟨rfl,zo HA.out HW4.out.drew⟩
   · rw [if_neg hn0]
     obtain rfl:n=0:=by omega
     show Calls _ _ _ _ fun e w'=>e = .returned .nilIface∧_
     go_enter Tryz.func65,Tryz.ntmps65
     go_wp2_with (first
      | (go_at_call 90;refine (HI.out _ HW0.out).mono ?_;rintro e2 w2 ⟨rfl,ho2⟩;have HW2:Hid (zQ ((w.alloc (zH i (T.g i:Nat))).alloc (zH k (T.g k:Nat))) w2):=zo HW0.out ho2;clear ho2 x0 x1 y0 y1;obtain ⟨⟨x0,x1⟩,⟨y0,y1⟩⟩:=HB.out w2 HW2.out;clear HW0)
      | (go_at_call 90;refine (HI.out _ HW2.out).mono ?_;rintro e3 w3 ⟨rfl,ho3⟩;have HW3:Hid (zQ ((w.alloc (zH i (T.g i:Nat))).alloc (zH k (T.g k:Nat))) w3):=zo HW2.out ho3;clear ho3 x0 x1 y0 y1;obtain ⟨⟨x0,x1⟩,⟨y0,y1⟩⟩:=HB.out w3 HW3.out;clear HW2)
      | (go_at_call 90;refine (HK.out _ HW3.out).mono ?_;rintro e4 w4 ⟨rfl,ho4⟩;have HW4:Hid (zQ ((w.alloc (zH i (T.g i:Nat))).alloc (zH k (T.g k:Nat))) w4):=zo HW3.out ho4;clear ho4 x0 x1 y0 y1;obtain ⟨⟨x0,x1⟩,⟨y0,y1⟩⟩:=HB.out w4 HW4.out;clear HW3)
      | go_in)
     obtain ⟨l0,l1,l2⟩:=HLEN.out w4.drew HW4.out.drew;have k0:=(HLEN.out w4 HW4.out).1
     go_region
     all_goals go_wp2
     all_goals go_ret
     all_goals exact ⟨rfl,zo HA.out HW4.out.drew⟩
end
end
end Go.Proofs.YtkcabopgajlmdaaGreatDoor
