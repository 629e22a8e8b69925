import Derived.Test.YtkcabopgajlmdaaGreatDoorK17
import Derived.Test.YtkcabopgajlmdaaGreatDoorK9
import Derived.WideKeyEntry
set_option maxRecDepth 100000
set_option maxHeartbeats 8000000
namespace Go.Proofs.YtkcabopgajlmdaaGreatDoor
section
open Go Go.RowKit Go.Deep Go.Maps
theorem foot_turn {t most i:Nat}{p:Row}{nd:Nat→Option Nod}{n':Nod}{B k:Nat}(hn:∀ j,j∈n'.foot→InFoot t p most nd j∨B≤j)(hk:InFoot t p most (setN nd i (some n')) k):InFoot t p most nd k∨B≤k:=by
 rcases hk with h | h | ⟨j,n,hs,hm⟩
 · exact Or.inl (Or.inl h)
 · exact Or.inl (Or.inr (Or.inl h))
 · by_cases e:j=i
   · subst e
     rw [setN_same] at hs
     cases hs
     exact hn k hm
   · rw [setN_other _ _ e] at hs
     exact Or.inl (Or.inr (Or.inr ⟨j,n,hs,hm⟩))
theorem TreeAt.turn {w w':World}{tr i:Nat}{T:Tr}{n n':Nod}(h:TreeAt w tr T)(hn:T.nd i=some n)(hb:n'.b=n.b)(hN:NodAt w' n')(ho:Only n.foot w w')(hsub:∀ k∈n'.foot,k∈n.foot∨w.heap.size≤k):TreeAt w' tr { T with nd:=setN T.nd i (some n') } :=
 h.table (p':=T.p) (g':=T.g) (h.tab.turn hn hb hN ho hsub) ho (fun _ hk => .node hn hk) (fun _ hk=>foot_turn (fun j hj=>(hsub j hj).imp (fun hm => .node hn hm) id) hk) ⟨h.small.N,h.small.g⟩ (Nat.le_refl _) (fun _=>rfl) (fun _=>rfl)
theorem dwrite_boundO (w:World)(g o:Nat)(s:ByteArray)(a:Int)(E:Value)(hE:w.cell? ⟨1,0,none⟩=some E)(h:a < 0∨4096 < a+(s.size:Int))(hs:s.size≤5000)(ha:a < 9223372036854775808)(ha2 : -9223372036854775808≤a):
   zE 69 #[.pointer (some ⟨g,o,none⟩),zI a,.string s] w E:=by
 by_cases h1:a < 0
 · have hd:decide (a < 0)=true:=decide_eq_true h1
   go_enter Tryz.func69,Tryz.ntmps69
   go_wp2
   go_ret
   exact ⟨rfl,rfl⟩
 · have hd:decide (a < 0)=false:=decide_eq_false h1
   have hd3:decide (4096 - (s.size:Int) < a)=true:=decide_eq_true (by omega)
   go_enter Tryz.func69,Tryz.ntmps69
   go_wp2
   go_ret
   exact ⟨rfl,rfl⟩
theorem dwrite_noneO (w:World)(g o:Nat)(a:Nat)(ha:a≤4096):
  zE 69 #[.pointer (some ⟨g,o,none⟩),zI a,.string ⟨#[]⟩] w .nilIface:=by
 have hd:decide ((a:Int) < 0)=false:=decide_eq_false (by omega);have hz:(⟨#[]⟩:ByteArray).size=0:=rfl
 go_enter Tryz.func69,Tryz.ntmps69
 go_wp2
 go_ret
 exact ⟨rfl,rfl⟩
def Nod.wrote (n:Nod)(a:Nat)(s:ByteArray)(m:Option Nat):Nod:={ n with S:=writeS n.S a s,H:=marksH n.H (a / 64) ((a+s.size - 1) / 64+1 - a / 64),m:=m }
def Nod.sized (n:Nod)(k:Nat):Nod:={ n with S:=resizeS n.S k,H:=resizeH n.S n.H k }
theorem tree_resize (w:World)(tr:Nat)(T:Tr)(i:Nat)(n:Nod)(k:Nat)(h:TreeAt w tr T)(hn:T.nd i=some n)(hk:k≤4096):
   zK 72 #[.pointer (some ⟨n.b,6,none⟩),zI k] w fun e w'=>e = .returned .nilIface∧TreeAt w' tr { T with nd:=setN T.nd i (some (n.sized k)) }∧Only n.foot w w':=by
 have hN:=h.tab.node i n hn;refine (dresizeO w n.b 6 n.S n.H n.m k hN.d hk).mono ?_;rintro e w' ⟨he,hd,ho,hr⟩;refine ⟨he,h.turn (n':=n.sized k) hn rfl ⟨?_,?_,?_,?_,?_,?_,hd⟩ ho (fun q hq=>Or.inl hq),ho⟩
 · exact (hr 0 (by omega) (by omega)).trans hN.c0
 · exact (hr 1 (by omega) (by omega)).trans hN.c1
 · exact (hr 2 (by omega) (by omega)).trans hN.c2
 · exact (hr 3 (by omega) (by omega)).trans hN.c3
 · exact (hr 4 (by omega) (by omega)).trans hN.c4
 · exact (hr 5 (by omega) (by omega)).trans hN.c5
def FileE (T:Tr)(A:Nat→Addr)(N G:Int)(o:Option Addr)(q:Option Addr):Prop :=
 (∃ (i:Nat) (n:Nod),N=(i:Int)∧G=(T.g i:Nat)∧T.nd i=some n∧n.K=1∧T.ds i=none∧o=none∧q=some ⟨n.b,6,none⟩) ∨
 (∃ (i:Nat) (n:Nod),N=(i:Int)∧G=(T.g i:Nat)∧T.nd i=some n∧n.K=2∧o=some (A 7)∧q=none) ∨
 (Stale0 T.g T.nd N G∧o=some (A 9)∧q=none)
theorem data_any {w:World}{tr:Nat}{T:Tr}{A:Nat→Addr}(h:TreeAt w tr T)(hE:Errs w A)(hk:Kinds T)(N G:Int):∃ o q,FileE T A N G o q∧∀ W,zQ w W→zO 68 #[zP T.t,zG N G] W (.tuple #[.pointer q,errO o]):=by
 rcases live_or T N G with hs | ⟨i,n,rfl,rfl,hn⟩
 · exact ⟨some (A 9),none,Or.inr (Or.inr ⟨hs,rfl,rfl⟩),fun W ho=>tdata_stale W T.t T.p T.most T.g T.nd N G (A 9) (h.only ho).tab ((errs_only hE ho).cell 9 (by decide)) hs⟩
 · rcases hk i n hn with ⟨h1,h2⟩ | ⟨h1,d,h2⟩
   · exact ⟨none,_,Or.inl ⟨i,n,rfl,rfl,hn,h1,h2,rfl,rfl⟩,fun W ho=>tdata_ok W T.t T.p T.most i T.g T.nd n (h.only ho).tab hn h1⟩
   · exact ⟨some (A 7),none,Or.inr (Or.inl ⟨i,n,rfl,rfl,hn,h1,rfl,rfl⟩),fun W ho=>tdata_dir W T.t T.p T.most i T.g T.nd n (errV (A 7)) (h.only ho).tab ((errs_only hE ho).cell 7 (by decide)) hn h1⟩
section
variable (w:World)(tr t g:Nat)(N G:Int)(ad:Addr)(q:Option Addr)
theorem checkFile_err (hc:w.cell? (zA tr 0)=some (zP t))(hda:∀ W,zQ w W→zO 68 #[zP t,zG N G] W (.tuple #[.pointer q,.iface 228 (.pointer (some ad))])):
  zO 74 #[zP tr,zG N G] w (.iface 228 (.pointer (some ad))):=by
 have HA:Hid (zQ w (w.alloc (zH N G))):=(Only.refl [] w).alloc _;have HDA:Hid (∀ W,zQ (w.alloc (zH N G)) W→_):=fun W (ho:zQ (w.alloc (zH N G)) W)=>hda W (zo HA.out ho);have HC0:Hid (∀ W,zQ (w.alloc (zH N G)) W→W.cell? (zA tr 0)=some (zP t)):=fun W ho=>((zo HA.out ho).cell (p:=⟨tr,0,none⟩) (zv hc) (by simp)).trans hc;clear hda hc
 go_enter Tryz.func74,Tryz.ntmps74
 go_upto_region 1 with fail
 have a0:∀ p:OnlyBy (w.alloc (zH N G)),p.w.cell? (zA w.heap.size 0)=some (zI N):=fun p=>(own_box (N:=N) (G:=G) p.ho (by simp)).1;have a1:∀ p:OnlyBy (w.alloc (zH N G)),p.w.cell? (zA w.heap.size 1)=some (zI G):=fun p=>(own_box (N:=N) (G:=G) p.ho (by simp)).2;have b0:∀ p:OnlyBy (w.alloc (zH N G)),p.w.cell? (zA tr 0)=some (zP t):=fun p=>HC0.out p.w p.ho
 haveI:Nonempty (OnlyBy (w.alloc (zH N G))):=⟨⟨_,Only.refl _ _⟩⟩
 refine wp_region_quiet_only (w0:=(w.alloc (zH N G))) (Only.refl [] _) (by kernel_rfl) (by kernel_rfl) ?_
 repeat (first | go_big_quiet_skip | quiet_step (first | (go_at_call 68;refine Calls.only_of (HDA.out _ (OnlyBy.ho _)))))
 refine wpQuiet_nil ?_;intro _ hw';obtain ⟨p,hw2⟩:=hw';subst hw2;have HOp:Hid (zQ w p.w):=zo HA.out p.ho;have HO1:Hid (zQ (w.alloc (zH N G)) p.w):=p.ho;generalize p.w=wp at HOp HO1 ⊢;clear a0 a1 b0 this HC0 HDA;obtain ⟨x0,x1⟩:=own_box (N:=N) (G:=G) HO1.out (by simp)
 go_wp2
 go_ret
 exact ⟨rfl,HOp.out⟩
theorem checkFile_yes (hc:w.cell? (zA tr 0)=some (zP t))(hda:∀ W,zQ w W→zO 68 #[zP t,zG N G] W (.tuple #[.pointer q,.nilIface])):
  zO 74 #[zP tr,zG N G] w .nilIface:=by
 have HA:Hid (zQ w (w.alloc (zH N G))):=(Only.refl [] w).alloc _;have HDA:Hid (∀ W,zQ (w.alloc (zH N G)) W→_):=fun W (ho:zQ (w.alloc (zH N G)) W)=>hda W (zo HA.out ho);have HC0:Hid (∀ W,zQ (w.alloc (zH N G)) W→W.cell? (zA tr 0)=some (zP t)):=fun W ho=>((zo HA.out ho).cell (p:=⟨tr,0,none⟩) (zv hc) (by simp)).trans hc;clear hda hc
 go_enter Tryz.func74,Tryz.ntmps74
 go_upto_region 1 with fail
 have a0:∀ p:OnlyBy (w.alloc (zH N G)),p.w.cell? (zA w.heap.size 0)=some (zI N):=fun p=>(own_box (N:=N) (G:=G) p.ho (by simp)).1;have a1:∀ p:OnlyBy (w.alloc (zH N G)),p.w.cell? (zA w.heap.size 1)=some (zI G):=fun p=>(own_box (N:=N) (G:=G) p.ho (by simp)).2;have b0:∀ p:OnlyBy (w.alloc (zH N G)),p.w.cell? (zA tr 0)=some (zP t):=fun p=>HC0.out p.w p.ho
 haveI:Nonempty (OnlyBy (w.alloc (zH N G))):=⟨⟨_,Only.refl _ _⟩⟩
 refine wp_region_quiet_only (w0:=(w.alloc (zH N G))) (Only.refl [] _) (by kernel_rfl) (by kernel_rfl) ?_
 repeat (first | go_big_quiet_skip | quiet_step (first | (go_at_call 68;refine Calls.only_of (HDA.out _ (OnlyBy.ho _)))))
 refine wpQuiet_nil ?_;intro _ hw';obtain ⟨p,hw2⟩:=hw';subst hw2;have HOp:Hid (zQ w p.w):=zo HA.out p.ho;have HO1:Hid (zQ (w.alloc (zH N G)) p.w):=p.ho;generalize p.w=wp at HOp HO1 ⊢;clear a0 a1 b0 this HC0 HDA;obtain ⟨x0,x1⟩:=own_box (N:=N) (G:=G) HO1.out (by simp)
 go_wp2
 go_ret
 exact ⟨rfl,HOp.out⟩
theorem fwrite_err (a:Int)(s:ByteArray)(hc:w.cell? (zA tr 0)=some (zP t))(hda:∀ W,zQ w W→zO 68 #[zP t,zG N G] W (.tuple #[.pointer q,.iface 228 (.pointer (some ad))])):
  zO 35 #[zP tr,zG N G,zI a,.string s] w (.iface 228 (.pointer (some ad))):=by
 have HA:Hid (zQ w (w.alloc (zH N G))):=(Only.refl [] w).alloc _;have HDA:Hid (∀ W,zQ (w.alloc (zH N G)) W→_):=fun W (ho:zQ (w.alloc (zH N G)) W)=>hda W (zo HA.out ho);have HC0:Hid (∀ W,zQ (w.alloc (zH N G)) W→W.cell? (zA tr 0)=some (zP t)):=fun W ho=>((zo HA.out ho).cell (p:=⟨tr,0,none⟩) (zv hc) (by simp)).trans hc;clear hda hc
 go_enter Tryz.func35,Tryz.ntmps35
 go_upto_region 1 with fail
 have a0:∀ p:OnlyBy (w.alloc (zH N G)),p.w.cell? (zA w.heap.size 0)=some (zI N):=fun p=>(own_box (N:=N) (G:=G) p.ho (by simp)).1;have a1:∀ p:OnlyBy (w.alloc (zH N G)),p.w.cell? (zA w.heap.size 1)=some (zI G):=fun p=>(own_box (N:=N) (G:=G) p.ho (by simp)).2;have b0:∀ p:OnlyBy (w.alloc (zH N G)),p.w.cell? (zA tr 0)=some (zP t):=fun p=>HC0.out p.w p.ho
 haveI:Nonempty (OnlyBy (w.alloc (zH N G))):=⟨⟨_,Only.refl _ _⟩⟩
 refine wp_region_quiet_only (w0:=(w.alloc (zH N G))) (Only.refl [] _) (by kernel_rfl) (by kernel_rfl) ?_
 repeat (first | go_big_quiet_skip | quiet_step (first | (go_at_call 68;refine Calls.only_of (HDA.out _ (OnlyBy.ho _)))))
 refine wpQuiet_nil ?_;intro _ hw';obtain ⟨p,hw2⟩:=hw';subst hw2;have HOp:Hid (zQ w p.w):=zo HA.out p.ho;have HO1:Hid (zQ (w.alloc (zH N G)) p.w):=p.ho;generalize p.w=wp at HOp HO1 ⊢;clear a0 a1 b0 this HC0 HDA;obtain ⟨x0,x1⟩:=own_box (N:=N) (G:=G) HO1.out (by simp)
 go_wp2
 go_ret
 exact ⟨rfl,HOp.out⟩
theorem fwrite_bad (a:Int)(s:ByteArray)(hc:w.cell? (zA tr 0)=some (zP t))(hda:∀ W,zQ w W→zO 68 #[zP t,zG N G] W (.tuple #[.pointer (some ⟨g,6,none⟩),.nilIface]))(hwr:∀ W,zQ w W→zO 69 #[.pointer (some ⟨g,6,none⟩),zI a,.string s] W (.iface 228 (.pointer (some ad)))):
  zO 35 #[zP tr,zG N G,zI a,.string s] w (.iface 228 (.pointer (some ad))):=by
 have HWR:Hid (∀ W,zQ w W→_):=hwr;clear hwr;have HA:Hid (zQ w (w.alloc (zH N G))):=(Only.refl [] w).alloc _;have HDA:Hid (∀ W,zQ (w.alloc (zH N G)) W→_):=fun W (ho:zQ (w.alloc (zH N G)) W)=>hda W (zo HA.out ho);have HC0:Hid (∀ W,zQ (w.alloc (zH N G)) W→W.cell? (zA tr 0)=some (zP t)):=fun W ho=>((zo HA.out ho).cell (p:=⟨tr,0,none⟩) (zv hc) (by simp)).trans hc;clear hda hc
 go_enter Tryz.func35,Tryz.ntmps35
 go_upto_region 1 with fail
 have a0:∀ p:OnlyBy (w.alloc (zH N G)),p.w.cell? (zA w.heap.size 0)=some (zI N):=fun p=>(own_box (N:=N) (G:=G) p.ho (by simp)).1;have a1:∀ p:OnlyBy (w.alloc (zH N G)),p.w.cell? (zA w.heap.size 1)=some (zI G):=fun p=>(own_box (N:=N) (G:=G) p.ho (by simp)).2;have b0:∀ p:OnlyBy (w.alloc (zH N G)),p.w.cell? (zA tr 0)=some (zP t):=fun p=>HC0.out p.w p.ho
 haveI:Nonempty (OnlyBy (w.alloc (zH N G))):=⟨⟨_,Only.refl _ _⟩⟩
 refine wp_region_quiet_only (w0:=(w.alloc (zH N G))) (Only.refl [] _) (by kernel_rfl) (by kernel_rfl) ?_
 repeat (first | go_big_quiet_skip | quiet_step (first | (go_at_call 68;refine Calls.only_of (HDA.out _ (OnlyBy.ho _)))))
 refine wpQuiet_nil ?_;intro _ hw';obtain ⟨p,hw2⟩:=hw';subst hw2;have HOp:Hid (zQ w p.w):=zo HA.out p.ho;have HO1:Hid (zQ (w.alloc (zH N G)) p.w):=p.ho;generalize p.w=wp at HOp HO1 ⊢;clear a0 a1 b0 this HC0 HDA;obtain ⟨x0,x1⟩:=own_box (N:=N) (G:=G) HO1.out (by simp)
 go_wp2_with (first
  | (go_at_call 69;refine (HWR.out _ HOp.out).mono ?_;rintro e5 w5 ⟨rfl,ho5⟩;have HO5:Hid (zQ w w5):=zo HOp.out ho5;clear ho5))
 go_ret
 exact ⟨rfl,HO5.out⟩
theorem fwrite_none (a:Int)(hc:w.cell? (zA tr 0)=some (zP t))(hda:∀ W,zQ w W→zO 68 #[zP t,zG N G] W (.tuple #[.pointer (some ⟨g,6,none⟩),.nilIface]))(hwr:∀ W,zQ w W→zO 69 #[.pointer (some ⟨g,6,none⟩),zI a,.string ⟨#[]⟩] W .nilIface):
  zO 35 #[zP tr,zG N G,zI a,.string ⟨#[]⟩] w .nilIface:=by
 have HWR:Hid (∀ W,zQ w W→_):=hwr;clear hwr;have HA:Hid (zQ w (w.alloc (zH N G))):=(Only.refl [] w).alloc _;have HDA:Hid (∀ W,zQ (w.alloc (zH N G)) W→_):=fun W (ho:zQ (w.alloc (zH N G)) W)=>hda W (zo HA.out ho);have HC0:Hid (∀ W,zQ (w.alloc (zH N G)) W→W.cell? (zA tr 0)=some (zP t)):=fun W ho=>((zo HA.out ho).cell (p:=⟨tr,0,none⟩) (zv hc) (by simp)).trans hc;clear hda hc
 go_enter Tryz.func35,Tryz.ntmps35
 go_upto_region 1 with fail
 have a0:∀ p:OnlyBy (w.alloc (zH N G)),p.w.cell? (zA w.heap.size 0)=some (zI N):=fun p=>(own_box (N:=N) (G:=G) p.ho (by simp)).1;have a1:∀ p:OnlyBy (w.alloc (zH N G)),p.w.cell? (zA w.heap.size 1)=some (zI G):=fun p=>(own_box (N:=N) (G:=G) p.ho (by simp)).2;have b0:∀ p:OnlyBy (w.alloc (zH N G)),p.w.cell? (zA tr 0)=some (zP t):=fun p=>HC0.out p.w p.ho
 haveI:Nonempty (OnlyBy (w.alloc (zH N G))):=⟨⟨_,Only.refl _ _⟩⟩
 refine wp_region_quiet_only (w0:=(w.alloc (zH N G))) (Only.refl [] _) (by kernel_rfl) (by kernel_rfl) ?_
 repeat (first | go_big_quiet_skip | quiet_step (first | (go_at_call 68;refine Calls.only_of (HDA.out _ (OnlyBy.ho _)))))
 refine wpQuiet_nil ?_;intro _ hw';obtain ⟨p,hw2⟩:=hw';subst hw2;have HOp:Hid (zQ w p.w):=zo HA.out p.ho;have HO1:Hid (zQ (w.alloc (zH N G)) p.w):=p.ho;generalize p.w=wp at HOp HO1 ⊢;clear a0 a1 b0 this HC0 HDA;obtain ⟨x0,x1⟩:=own_box (N:=N) (G:=G) HO1.out (by simp)
 go_wp2_with (first
  | (go_at_call 69;refine (HWR.out _ HOp.out).mono ?_;rintro e5 w5 ⟨rfl,ho5⟩;have HO5:Hid (zQ w w5):=zo HOp.out ho5;clear ho5))
 go_ret
 exact ⟨rfl,HO5.out⟩
theorem fwrite_go (a:Int)(s:ByteArray)(L:List Nat)(R1 R2:World→Prop)(hs:1≤s.size)(hc:w.cell? (zA tr 0)=some (zP t))(hda:∀ W,zQ w W→zO 68 #[zP t,zG N G] W (.tuple #[.pointer (some ⟨g,6,none⟩),.nilIface]))(hwr:∀ W,zQ w W→zK 69 #[.pointer (some ⟨g,6,none⟩),zI a,.string s] W fun e w'=>e = .returned .nilIface∧R1 w'∧Only L W w')(hto:∀ W,R1 W→zK 56 #[zP tr,zG N G] W fun e w'=>e = .returned (.tuple #[])∧R2 w'∧Only L W w')(hL:∀ k,w.heap.size≤k→k∉L):
  zK 35 #[zP tr,zG N G,zI a,.string s] w fun e w'=>e = .returned .nilIface∧R2 w'∧Only L w w':=by
 have HWR:Hid (∀ W,zQ w W→_):=hwr;have HTO:Hid (∀ W,R1 W→_):=hto;have HL:Hid (∀ k,w.heap.size≤k→k∉L):=hL;clear hwr hto hL
 have hse:(s.toList==[])=false:=by
  rw [Lib.toList_data,beq_eq_false_iff_ne];intro k;have:s.data.toList.length=s.size:=rfl;rw [k] at this;simp at this;omega
 have HA:Hid (zQ w (w.alloc (zH N G))):=(Only.refl [] w).alloc _;have HDA:Hid (∀ W,zQ (w.alloc (zH N G)) W→_):=fun W (ho:zQ (w.alloc (zH N G)) W)=>hda W (zo HA.out ho);have HC0:Hid (∀ W,zQ (w.alloc (zH N G)) W→W.cell? (zA tr 0)=some (zP t)):=fun W ho=>((zo HA.out ho).cell (p:=⟨tr,0,none⟩) (zv hc) (by simp)).trans hc;clear hda hc
 go_enter Tryz.func35,Tryz.ntmps35
 go_upto_region 1 with fail
 have a0:∀ p:OnlyBy (w.alloc (zH N G)),p.w.cell? (zA w.heap.size 0)=some (zI N):=fun p=>(own_box (N:=N) (G:=G) p.ho (by simp)).1;have a1:∀ p:OnlyBy (w.alloc (zH N G)),p.w.cell? (zA w.heap.size 1)=some (zI G):=fun p=>(own_box (N:=N) (G:=G) p.ho (by simp)).2;have b0:∀ p:OnlyBy (w.alloc (zH N G)),p.w.cell? (zA tr 0)=some (zP t):=fun p=>HC0.out p.w p.ho
 haveI:Nonempty (OnlyBy (w.alloc (zH N G))):=⟨⟨_,Only.refl _ _⟩⟩
 refine wp_region_quiet_only (w0:=(w.alloc (zH N G))) (Only.refl [] _) (by kernel_rfl) (by kernel_rfl) ?_
 repeat (first | go_big_quiet_skip | quiet_step (first | (go_at_call 68;refine Calls.only_of (HDA.out _ (OnlyBy.ho _)))))
 refine wpQuiet_nil ?_;intro _ hw';obtain ⟨p,hw2⟩:=hw';subst hw2;have HOp:Hid (zQ w p.w):=zo HA.out p.ho;have HO1:Hid (zQ (w.alloc (zH N G)) p.w):=p.ho;generalize p.w=wp at HOp HO1 ⊢;clear a0 a1 b0 this HC0 HDA;obtain ⟨x0,x1⟩:=own_box (N:=N) (G:=G) HO1.out (by simp)
 go_wp2_with (first
  | (go_at_call 69;refine (HWR.out _ HOp.out).mono ?_;rintro e5 w5 ⟨rfl,r5,ho5⟩;have HR5:Hid (R1 w5):=r5;have HO5:Hid (Only L (w.alloc (zH N G)) w5):=(HO1.out.mono (L':=L) (fun _ hk=>by cases hk)).trans ho5 (fun k hk=>Or.inl hk);clear r5 ho5 x0 x1;obtain ⟨x0,x1⟩:=own_box (N:=N) (G:=G) HO5.out (HL.out _ (Nat.le_refl _)))
  | (go_at_call 56;refine (HTO.out _ HR5.out).mono ?_;rintro e6 w6 ⟨rfl,r6,ho6⟩;have HR6:Hid (R2 w6):=r6;have HO6:Hid (Only L (w.alloc (zH N G)) w6):=HO5.out.trans ho6 (fun k hk=>Or.inl hk);clear r6 ho6))
 go_ret
 exact ⟨rfl,HR6.out,(HA.out.mono (L':=L) (fun _ hk=>by cases hk)).trans HO6.out (fun k hk=>Or.inl hk)⟩
theorem fresize_err (a:Int)(hc:w.cell? (zA tr 0)=some (zP t))(hda:∀ W,zQ w W→zO 68 #[zP t,zG N G] W (.tuple #[.pointer q,.iface 228 (.pointer (some ad))])):
  zO 37 #[zP tr,zG N G,zI a] w (.iface 228 (.pointer (some ad))):=by
 have HA:Hid (zQ w (w.alloc (zH N G))):=(Only.refl [] w).alloc _;have HDA:Hid (∀ W,zQ (w.alloc (zH N G)) W→_):=fun W (ho:zQ (w.alloc (zH N G)) W)=>hda W (zo HA.out ho);have HC0:Hid (∀ W,zQ (w.alloc (zH N G)) W→W.cell? (zA tr 0)=some (zP t)):=fun W ho=>((zo HA.out ho).cell (p:=⟨tr,0,none⟩) (zv hc) (by simp)).trans hc;clear hda hc
 go_enter Tryz.func37,Tryz.ntmps37
 go_upto_region 1 with fail
 have a0:∀ p:OnlyBy (w.alloc (zH N G)),p.w.cell? (zA w.heap.size 0)=some (zI N):=fun p=>(own_box (N:=N) (G:=G) p.ho (by simp)).1;have a1:∀ p:OnlyBy (w.alloc (zH N G)),p.w.cell? (zA w.heap.size 1)=some (zI G):=fun p=>(own_box (N:=N) (G:=G) p.ho (by simp)).2;have b0:∀ p:OnlyBy (w.alloc (zH N G)),p.w.cell? (zA tr 0)=some (zP t):=fun p=>HC0.out p.w p.ho
 haveI:Nonempty (OnlyBy (w.alloc (zH N G))):=⟨⟨_,Only.refl _ _⟩⟩
 refine wp_region_quiet_only (w0:=(w.alloc (zH N G))) (Only.refl [] _) (by kernel_rfl) (by kernel_rfl) ?_
 repeat (first | go_big_quiet_skip | quiet_step (first | (go_at_call 68;refine Calls.only_of (HDA.out _ (OnlyBy.ho _)))))
 refine wpQuiet_nil ?_;intro _ hw';obtain ⟨p,hw2⟩:=hw';subst hw2;have HOp:Hid (zQ w p.w):=zo HA.out p.ho;have HO1:Hid (zQ (w.alloc (zH N G)) p.w):=p.ho;generalize p.w=wp at HOp HO1 ⊢;clear a0 a1 b0 this HC0 HDA;obtain ⟨x0,x1⟩:=own_box (N:=N) (G:=G) HO1.out (by simp)
 go_wp2
 go_ret
 exact ⟨rfl,HOp.out⟩
theorem fresize_bad (a:Int)(hc:w.cell? (zA tr 0)=some (zP t))(hda:∀ W,zQ w W→zO 68 #[zP t,zG N G] W (.tuple #[.pointer (some ⟨g,6,none⟩),.nilIface]))(hwr:∀ W,zQ w W→zO 72 #[.pointer (some ⟨g,6,none⟩),zI a] W (.iface 228 (.pointer (some ad)))):
  zO 37 #[zP tr,zG N G,zI a] w (.iface 228 (.pointer (some ad))):=by
 have HWR:Hid (∀ W,zQ w W→_):=hwr;clear hwr;have HA:Hid (zQ w (w.alloc (zH N G))):=(Only.refl [] w).alloc _;have HDA:Hid (∀ W,zQ (w.alloc (zH N G)) W→_):=fun W (ho:zQ (w.alloc (zH N G)) W)=>hda W (zo HA.out ho);have HC0:Hid (∀ W,zQ (w.alloc (zH N G)) W→W.cell? (zA tr 0)=some (zP t)):=fun W ho=>((zo HA.out ho).cell (p:=⟨tr,0,none⟩) (zv hc) (by simp)).trans hc;clear hda hc
 go_enter Tryz.func37,Tryz.ntmps37
 go_upto_region 1 with fail
 have a0:∀ p:OnlyBy (w.alloc (zH N G)),p.w.cell? (zA w.heap.size 0)=some (zI N):=fun p=>(own_box (N:=N) (G:=G) p.ho (by simp)).1;have a1:∀ p:OnlyBy (w.alloc (zH N G)),p.w.cell? (zA w.heap.size 1)=some (zI G):=fun p=>(own_box (N:=N) (G:=G) p.ho (by simp)).2;have b0:∀ p:OnlyBy (w.alloc (zH N G)),p.w.cell? (zA tr 0)=some (zP t):=fun p=>HC0.out p.w p.ho
 haveI:Nonempty (OnlyBy (w.alloc (zH N G))):=⟨⟨_,Only.refl _ _⟩⟩
 refine wp_region_quiet_only (w0:=(w.alloc (zH N G))) (Only.refl [] _) (by kernel_rfl) (by kernel_rfl) ?_
 repeat (first | go_big_quiet_skip | quiet_step (first | (go_at_call 68;refine Calls.only_of (HDA.out _ (OnlyBy.ho _)))))
 refine wpQuiet_nil ?_;intro _ hw';obtain ⟨p,hw2⟩:=hw';subst hw2;have HOp:Hid (zQ w p.w):=zo HA.out p.ho;have HO1:Hid (zQ (w.alloc (zH N G)) p.w):=p.ho;generalize p.w=wp at HOp HO1 ⊢;clear a0 a1 b0 this HC0 HDA;obtain ⟨x0,x1⟩:=own_box (N:=N) (G:=G) HO1.out (by simp)
 go_wp2_with (first
  | (go_at_call 72;refine (HWR.out _ HOp.out).mono ?_;rintro e5 w5 ⟨rfl,ho5⟩;have HO5:Hid (zQ w w5):=zo HOp.out ho5;clear ho5))
 go_ret
 exact ⟨rfl,HO5.out⟩
theorem fresize_go (a:Int)(L:List Nat)(R1 R2:World→Prop)(hc:w.cell? (zA tr 0)=some (zP t))(hda:∀ W,zQ w W→zO 68 #[zP t,zG N G] W (.tuple #[.pointer (some ⟨g,6,none⟩),.nilIface]))(hwr:∀ W,zQ w W→zK 72 #[.pointer (some ⟨g,6,none⟩),zI a] W fun e w'=>e = .returned .nilIface∧R1 w'∧Only L W w')(hto:∀ W,R1 W→zK 56 #[zP tr,zG N G] W fun e w'=>e = .returned (.tuple #[])∧R2 w'∧Only L W w')(hL:∀ k,w.heap.size≤k→k∉L):
  zK 37 #[zP tr,zG N G,zI a] w fun e w'=>e = .returned .nilIface∧R2 w'∧Only L w w':=by
 have HWR:Hid (∀ W,zQ w W→_):=hwr;have HTO:Hid (∀ W,R1 W→_):=hto;have HL:Hid (∀ k,w.heap.size≤k→k∉L):=hL;clear hwr hto hL;have HA:Hid (zQ w (w.alloc (zH N G))):=(Only.refl [] w).alloc _;have HDA:Hid (∀ W,zQ (w.alloc (zH N G)) W→_):=fun W (ho:zQ (w.alloc (zH N G)) W)=>hda W (zo HA.out ho);have HC0:Hid (∀ W,zQ (w.alloc (zH N G)) W→W.cell? (zA tr 0)=some (zP t)):=fun W ho=>((zo HA.out ho).cell (p:=⟨tr,0,none⟩) (zv hc) (by simp)).trans hc;clear hda hc
 go_enter Tryz.func37,Tryz.ntmps37
 go_upto_region 1 with fail
 have a0:∀ p:OnlyBy (w.alloc (zH N G)),p.w.cell? (zA w.heap.size 0)=some (zI N):=fun p=>(own_box (N:=N) (G:=G) p.ho (by simp)).1;have a1:∀ p:OnlyBy (w.alloc (zH N G)),p.w.cell? (zA w.heap.size 1)=some (zI G):=fun p=>(own_box (N:=N) (G:=G) p.ho (by simp)).2;have b0:∀ p:OnlyBy (w.alloc (zH N G)),p.w.cell? (zA tr 0)=some (zP t):=fun p=>HC0.out p.w p.ho
 haveI:Nonempty (OnlyBy (w.alloc (zH N G))):=⟨⟨_,Only.refl _ _⟩⟩
 refine wp_region_quiet_only (w0:=(w.alloc (zH N G))) (Only.refl [] _) (by kernel_rfl) (by kernel_rfl) ?_
 repeat (first | go_big_quiet_skip | quiet_step (first | (go_at_call 68;refine Calls.only_of (HDA.out _ (OnlyBy.ho _)))))
 refine wpQuiet_nil ?_;intro _ hw';obtain ⟨p,hw2⟩:=hw';subst hw2;have HOp:Hid (zQ w p.w):=zo HA.out p.ho;have HO1:Hid (zQ (w.alloc (zH N G)) p.w):=p.ho;generalize p.w=wp at HOp HO1 ⊢;clear a0 a1 b0 this HC0 HDA;obtain ⟨x0,x1⟩:=own_box (N:=N) (G:=G) HO1.out (by simp)
 go_wp2_with (first
  | (go_at_call 72;refine (HWR.out _ HOp.out).mono ?_;rintro e5 w5 ⟨rfl,r5,ho5⟩;have HR5:Hid (R1 w5):=r5;have HO5:Hid (Only L (w.alloc (zH N G)) w5):=(HO1.out.mono (L':=L) (fun _ hk=>by cases hk)).trans ho5 (fun k hk=>Or.inl hk);clear r5 ho5 x0 x1;obtain ⟨x0,x1⟩:=own_box (N:=N) (G:=G) HO5.out (HL.out _ (Nat.le_refl _)))
  | (go_at_call 56;refine (HTO.out _ HR5.out).mono ?_;rintro e6 w6 ⟨rfl,r6,ho6⟩;have HR6:Hid (R2 w6):=r6;have HO6:Hid (Only L (w.alloc (zH N G)) w6):=HO5.out.trans ho6 (fun k hk=>Or.inl hk);clear r6 ho6))
 go_ret
 exact ⟨rfl,HR6.out,(HA.out.mono (L':=L) (fun _ hk=>by cases hk)).trans HO6.out (fun k hk=>Or.inl hk)⟩
end
theorem klawH:WideMaps.KeyLaw Tryz.prog 35:=deep_law_gate laidOut (by decide +kernel) (by decide +kernel) keyHandle undHandle
theorem setBlock_twice {w:World}{b:Nat}{o o':Obj}:ChangeMaps.setBlock (ChangeMaps.setBlock w b o) b o'=ChangeMaps.setBlock w b o':=by
 unfold ChangeMaps.setBlock;simp
theorem setBlock_self {w:World}{b:Nat}{es:Array MapEntry}{clock:Nat}(hb:w.heap[b]?=some (.map es clock)):ChangeMaps.setBlock w b (.map es clock)=w:=by
 have e:w.heap.setIfInBounds b (.map es clock)=w.heap:=by
  apply Array.ext_getElem?;intro i
  by_cases hi:i=b
  · subst hi
    exact (ChangeMaps.heap_setBlock_same hb _).trans hb.symm
  · exact ChangeMaps.heap_setBlock_other hb _ hi
 unfold ChangeMaps.setBlock;rw [e]
theorem entry_way {w w1:World}{R:Value→Option (DataW Unit×List MemPlace)}{b:Nat}{es:Array MapEntry}{clock:Nat}{t e:TypeId}{z v key:Value}{kl:Lit}(ht:Tryz.prog.underlying t=some (.map 35 e))(hz:∀ u:World,(zeroValue e).run Tryz.prog u = .ok z u)(hb:w.heap[b]?=some (.map es clock))(F:WideElems.Fit Tryz.prog 35 R es clock)(hkey:keyOf Tryz.prog 35 key=some kl)(hrun:(Instr.mapEntry t (.map (some b)) key).run Tryz.prog w = .ok v w1):
   w1=w∨((Instr.lookup t (.map (some b)) key false).run Tryz.prog w = .ok z w∧(Instr.mapUpdate t (.map (some b)) key z).run Tryz.prog w = .ok () w1):=by
 rcases klawH.find w hkey es.toList F.keys with ⟨h1,_⟩ | ⟨j,e0,h1,h2,h3⟩
 · refine Or.inr ⟨by simp [Instr.lookup,run_underlying ht,MapKept.run_getObj_map hb,klawH.check w _ hkey,h1,hz,Result.andThen],?_⟩
   simp [Instr.mapEntry,run_underlying ht,MapKept.run_getObj_map hb,klawH.check w false hkey,h1,hz,MapKept.run_setObj_map _ hb,Result.andThen] at hrun;obtain ⟨_,rfl⟩:=hrun;simp [Instr.mapUpdate,run_underlying ht,MapKept.run_getObj_map hb,klawH.check w false hkey,h1,MapKept.run_setObj_map _ hb,Result.andThen]
 · have hj:es[j]?=some e0:=by simpa using h2
   have hsame:es.modify j (fun e=>{ e with key:=key })=es:=by
    apply Array.ext';rw [Array.toList_modify,ChangeMaps.modify_eq_set _ _ _ _ h2]
    have:({ e0 with key:=key }:MapEntry)=e0:=by rw [← h3]
    rw [this];exact WideElems.set_self _ _ _ h2
   simp [Instr.mapEntry,run_underlying ht,MapKept.run_getObj_map hb,klawH.check w false hkey,h1,hj,h3,klawH.stays w hkey,hsame,MapKept.run_setObj_map _ hb,Result.andThen] at hrun;obtain ⟨_,rfl⟩:=hrun;exact Or.inl (setBlock_self hb)
theorem own_entry {w:World}{R:Value→Option (DataW Unit×List MemPlace)}{b n:Nat}{D:DataW Unit}{t e:TypeId}{z key val:Value}{kl:Lit}{d:DataW Unit}{ps:List MemPlace}(h:w.ownsMap Tryz.prog 35 R b n D)(ht:Tryz.prog.underlying t=some (.map 35 e))(hz:∀ u:World,(zeroValue e).run Tryz.prog u = .ok z u)(hn:n < maxLen)(hkey:keyOf Tryz.prog 35 key=some kl)(hv:R val=some (d,ps)):
  ∃ v0 st w1 w2,(Instr.mapEntry t (.map (some b)) key).run Tryz.prog w = .ok (.tuple #[v0,zI st]) w1∧(Instr.entryStore t (.map (some b)) (zI st) val).run Tryz.prog w1 = .ok () w2∧w2.ownsMap Tryz.prog 35 R b (n+1) (D.put kl d)∧w.mapTurned w2 b∧(w1=w∨((Instr.lookup t (.map (some b)) key false).run Tryz.prog w = .ok z w∧(Instr.mapUpdate t (.map (some b)) key z).run Tryz.prog w = .ok () w1)):=by
 obtain ⟨w',hrun,hown,hturn⟩:=h.store lawH ht hn hkey hv;obtain ⟨es,clock,hb,F,_,_⟩:=h;obtain ⟨v0,st,es1,clock1,h1,_,h2⟩:=WideElems.entry_then_store klawH ht hz hb F hkey;obtain ⟨es',clock',h3,h4⟩:=h2 (ChangeMaps.setBlock w b (.map es1 clock1)) val (ChangeMaps.heap_setBlock_same hb _);rw [setBlock_twice] at h3;rw [h4] at hrun
 cases hrun
 exact ⟨v0,st,_,_,h1,h3,hown,hturn,entry_way ht hz hb F hkey h1⟩
def Tr.pinned (T:Tr)(i k:Nat):Tr:={ T with pn:=setN T.pn i k }
theorem pinsF_key (T:Tr)(hp:∀ i,0 < T.pn i→i < T.p.N)(i c:Nat)(h:T.pinsF (i,c)≠none):c=T.g i∧i < T.p.N:=by
 unfold Tr.pinsF at h
 by_cases e:c=T.g i∧0 < T.pn i
 · exact ⟨e.1,hp i e.2⟩
 · exact absurd (if_neg e) h
theorem TreeAt.pinned {w w':World}{tr i k n:Nat}{T:Tr}{D:DataW Unit}(h:TreeAt w tr T)(hi:i < T.p.N)(hown:w'.ownsMap Tryz.prog 35 (plainElem Tryz.prog 3) T.pb n D)(hr:Reads hkey numD D (T.pinned i k).pinsF)(ho:Only [T.pb] w w'):TreeAt w' tr (T.pinned i k):=by
 have htr:tr < w.heap.size:=zv h.c0;obtain ⟨D0,n0,d1,d2,d3⟩:=h.dirs;obtain ⟨P,m,p1,_,_⟩:=h.pins
 have hne:tr∉[T.pb]:=by simpa using (own_ne_cell p1 h.c0).symm
 have hpl:∀ j,0 < (T.pinned i k).pn j→j < T.p.N:=fun j hj=>by
  by_cases e:j=i
  · rw [e];exact hi
  · rw [show (T.pinned i k).pn j=T.pn j from setN_other _ _ e] at hj
    exact h.plt j hj
 refine ⟨(ho.cell (p:=⟨tr,0,none⟩) htr hne).trans h.c0,(ho.cell (p:=⟨tr,1,none⟩) htr hne).trans h.c1,(ho.cell (p:=⟨tr,2,none⟩) htr hne).trans h.c2,h.tab.kept ho (fun k hk hm=>by simp at hm;subst hm;exact h.fpb hk),
  ⟨D0,n0,own_only d1 ho (show T.db∉[T.pb] from by simpa using h.dp),d2,d3⟩,fun j d e=>own_only (h.dir j d e) ho (by simpa using (h.fdir j d e).2.2),⟨D,_,own_sized hown,?_,hr⟩,
  h.one,⟨h.small.N,h.small.g⟩,h.ftr,h.fdb,h.fpb,h.fdir,h.dp,h.dlt,hpl⟩
 have:=reads_size (hown.tidy lawH) (own_keys hown) hr (pinsF_key (T.pinned i k) hpl) h.small.N h.small.g;have h2:=h.small.N;exact Nat.le_trans this (by show T.p.N≤_;omega)
theorem pinsF_set (T:Tr)(i k:Nat)(hk:0 < k):(T.pinned i k).pinsF (i,T.g i)=some k:=by
 show (if T.g i=T.g i∧0 < setN T.pn i k i then some (setN T.pn i k i) else none)=some k;rw [setN_same,if_pos ⟨rfl,hk⟩]
theorem pinsF_zero (T:Tr)(i:Nat):(T.pinned i 0).pinsF (i,T.g i)=none:=by
 show (if T.g i=T.g i∧0 < setN T.pn i 0 i then some (setN T.pn i 0 i) else none)=none;rw [setN_same,if_neg (fun h=>absurd h.2 (by omega))]
theorem pinsF_other (T:Tr)(i k:Nat)(j:Nat×Nat)(hj:j≠(i,T.g i)):(T.pinned i k).pinsF j=T.pinsF j:=by
 obtain ⟨q,c⟩:=j;show (if c=T.g q∧0 < setN T.pn i k q then some (setN T.pn i k q) else none)=(if c=T.g q∧0 < T.pn q then some (T.pn q) else none)
 by_cases hq:q=i
 · subst hq
   have hc:c≠T.g q:=fun e=>hj (by rw [e]);rw [if_neg (fun h=>hc h.1),if_neg (fun h=>hc h.1)]
 · rw [setN_other _ _ hq]
theorem pin_put {w:World}{tr:Nat}{T:Tr}(h:TreeAt w tr T){i k:Nat}(hi:i < T.p.N)(hk:0 < k)(hk2:k≤1000000)(z:Int)(hz:z=(k:Nat)):∃ v0 st w1 w2,(Instr.mapEntry 103 (.map (some T.pb)) (zG i (T.g i:Nat))).run Tryz.prog w = .ok (.tuple #[v0,zI st]) w1∧(Instr.entryStore 103 (.map (some T.pb)) (zI st) (zI z)).run Tryz.prog w1 = .ok () w2∧TreeAt w2 tr (T.pinned i k)∧Only [T.pb] w w2∧(Instr.lookup 103 (.map (some T.pb)) (zG i (T.g i:Nat)) false).run Tryz.prog w1 = .ok (zI (T.pn i:Nat)) w1:=by
 subst hz;obtain ⟨P,m,p1,p2,p3⟩:=h.pins;have hv:plainElem Tryz.prog 3 (zI k)=some (numD k,[]):=plainElem_int Tryz.underlying3 (WalkArith.wf_i64 (by omega));obtain ⟨v0,st,w1,w2,h1,h2,h3,h4,h5⟩:=own_entry p1 undPins zeroInt6 (by unfold maxLen;omega) (h.key hi) hv;have ho:=only_turned h4;have hN:=h.small.N;have hg:=h.small.g i;refine ⟨v0,st,w1,w2,h1,h2,h.pinned hi h3 (p3.put p1.isMap hkey_key (fun j e=>hkey_only (by omega) (by omega) j e) (pinsF_set T i k hk) (fun j hj=>pinsF_other T i k j hj)) ho,ho,?_⟩;have hlk:=look_pin h hi;rcases h5 with e | ⟨e1,e2⟩
 · rw [e]
   exact hlk
 · have e3:T.pn i=0:=by
    have hq:=hlk.symm.trans e1;simp only [Result.ok.injEq,Value.int.injEq,true_and,and_true] at hq;omega
   have hv0:plainElem Tryz.prog 3 (zI 0)=some (numD 0,[]):=plainElem_int Tryz.underlying3 (WalkArith.wf_i64 (by omega));obtain ⟨w',r1,r2,_⟩:=p1.store lawH undPins (by unfold maxLen;omega) (h.key hi) hv0;rw [r1] at e2
   cases e2
   have hR:Reads hkey numD (P.put (hkey (i,T.g i)) (numD 0)) (fun j=>if j=(i,T.g i) then some 0 else T.pinsF j):=p3.put p1.isMap hkey_key (fun j e=>hkey_only (by omega) (by omega) j e) (if_pos rfl) (fun j hj=>if_neg hj);obtain ⟨c,hrun,hat,_⟩:=r2.lookup_int lawH undPins Tryz.underlying3 (zeroInt6 _) (h.key hi);rw [hR.look,if_pos rfl] at hat
   have e:c=0:=by
    have:=hat.symm;unfold numD at this
    simpa using this
   rw [e] at hrun;rw [e3];exact hrun
theorem pin_del {w:World}{tr:Nat}{T:Tr}(h:TreeAt w tr T){i:Nat}(hi:i < T.p.N)(ty:TypeId):∃ w',(Builtin.delete_ #[103,35] ty #[.map (some T.pb),zG i (T.g i:Nat)]).run Tryz.prog w = .ok (.tuple #[]) w'∧TreeAt w' tr (T.pinned i 0)∧Only [T.pb] w w':=by
 obtain ⟨P,m,p1,p2,p3⟩:=h.pins;obtain ⟨w',hr,ho,ht⟩:=p1.drop lawH undPins (h.key hi) ty;have hon:=only_turned ht;have hN:=h.small.N;have hg:=h.small.g i;exact ⟨w',hr,h.pinned hi ho (p3.del (fun j e=>hkey_only (by omega) (by omega) j e) (pinsF_zero T i) (fun j hj=>pinsF_other T i 0 j hj)) hon,hon⟩
theorem pin_err (w:World)(tr:Nat)(N G:Int)(ad:Addr)(hcf:∀ W,zQ w W→zO 74 #[zP tr,zG N G] W (.iface 228 (.pointer (some ad)))):
  zO 39 #[zP tr,zG N G] w (.iface 228 (.pointer (some ad))):=by
 have HA:Hid (zQ w (w.alloc (zH N G))):=(Only.refl [] w).alloc _;have hcf1:=hcf _ HA.out;obtain ⟨x0,x1⟩:=own_box (N:=N) (G:=G) (Only.refl [] (w.alloc (zH N G))) (by simp);clear hcf
 go_enter Tryz.func39,Tryz.ntmps39
 go_wp2_with (first
  | (go_at_call 74;go_must (refine hcf1.mono ?_);rintro e' w2 ⟨rfl,ho2⟩;have HO2:Hid (zQ w w2):=zo HA.out ho2;clear ho2 hcf1)
  | go_in)
 go_ret
 exact ⟨rfl,HO2.out⟩
theorem unpin_err (w:World)(tr:Nat)(N G:Int)(ad:Addr)(hcf:∀ W,zQ w W→zO 74 #[zP tr,zG N G] W (.iface 228 (.pointer (some ad)))):
  zO 41 #[zP tr,zG N G] w (.iface 228 (.pointer (some ad))):=by
 have HA:Hid (zQ w (w.alloc (zH N G))):=(Only.refl [] w).alloc _;have hcf1:=hcf _ HA.out;obtain ⟨x0,x1⟩:=own_box (N:=N) (G:=G) (Only.refl [] (w.alloc (zH N G))) (by simp);clear hcf
 go_enter Tryz.func41,Tryz.ntmps41
 go_wp2_with (first
  | (go_at_call 74;go_must (refine hcf1.mono ?_);rintro e' w2 ⟨rfl,ho2⟩;have HO2:Hid (zQ w w2):=zo HA.out ho2;clear ho2 hcf1)
  | go_in)
 go_ret
 exact ⟨rfl,HO2.out⟩
theorem pin_ok (w:World)(tr:Nat)(T:Tr)(i:Nat)(h:TreeAt w tr T)(hi:i < T.p.N)(hp:T.pn i≤1000)(hcf:∀ W,zQ w W→zO 74 #[zP tr,zG i (T.g i:Nat)] W .nilIface):
  zK 39 #[zP tr,zG i (T.g i:Nat)] w fun e w'=>e = .returned .nilIface∧TreeAt w' tr (T.pinned i (T.pn i+1))∧Only [T.pb] w w':=by
 have HA:Hid (zQ w (w.alloc (zH i (T.g i:Nat)))):=(Only.refl [] w).alloc _;have hcf1:=hcf _ HA.out;obtain ⟨x0,x1⟩:=own_box (N:=(i:Nat)) (G:=(T.g i:Nat)) (Only.refl [] (w.alloc (zH i (T.g i:Nat)))) (by simp);have HT:Hid (∀ W,zQ w W→TreeAt W tr T):=fun W ho=>h.only ho;have HC:Hid (∀ W,zQ w W→W.cell? (zA tr 2)=some (.map (some T.pb))∧(Instr.lookup 103 (.map (some T.pb)) (zG i (T.g i:Nat)) false).run Tryz.prog W = .ok (zI (T.pn i:Nat)) W):=fun W ho=>⟨(h.only ho).c2,look_pin (h.only ho) hi⟩;have htl:tr < w.heap.size:=zv h.c2;have HPP:Hid (∀ W,zQ w W→_):=fun W (ho:zQ w W)=>pin_put (k:=T.pn i+1) (h.only ho) hi (by omega) (by omega) (IntKind.i64.wrap ((T.pn i:Int)+1)) (by rw [wrap_small (by omega) (by omega)];omega);clear h hcf
 go_enter Tryz.func39,Tryz.ntmps39
 go_wp2_with (first
  | (go_at_call 74;go_must (refine hcf1.mono ?_);rintro e' w2 ⟨rfl,ho2⟩;have HO1:Hid (zQ (w.alloc (zH i (T.g i:Nat))) w2):=ho2;have HO2:Hid (zQ w w2):=zo HA.out ho2;clear ho2 hcf1 x0 x1;obtain ⟨x0,x1⟩:=own_box (N:=(i:Nat)) (G:=(T.g i:Nat)) HO1.out (by simp);obtain ⟨c2,l2⟩:=HC.out w2.drew HO2.out.drew;have hs2:w.heap.size < w2.heap.size:=Nat.lt_of_lt_of_le (by simp) HO1.out.size;have ht2:tr < w2.heap.size:=Nat.lt_trans htl hs2;obtain ⟨v0,st,w3,w4,m1,m2,hT4,ho4,m3⟩:=HPP.out w2.drew HO2.out.drew;have HE4:Hid (TreeAt w4 tr (T.pinned i (T.pn i+1))∧Only [T.pb] w w4):=⟨hT4,((HO2.out.drew).mono (fun _ hk=>by cases hk)).trans ho4 (fun k hk=>Or.inl hk)⟩;clear hT4 ho4)
  | go_in)
 go_region
 all_goals go_wp2
 all_goals go_ret
 all_goals exact ⟨rfl,HE4.out.1,HE4.out.2⟩
theorem unpin_none (w:World)(tr:Nat)(T:Tr)(A:Nat→Addr)(i:Nat)(h:TreeAt w tr T)(hE:Errs w A)(hi:i < T.p.N)(hp:T.pn i=0)(hcf:∀ W,zQ w W→zO 74 #[zP tr,zG i (T.g i:Nat)] W .nilIface):
  zO 41 #[zP tr,zG i (T.g i:Nat)] w (.iface 228 (.pointer (some (A 4)))):=by
 have HA:Hid (zQ w (w.alloc (zH i (T.g i:Nat)))):=(Only.refl [] w).alloc _;have hcf1:=hcf _ HA.out;obtain ⟨x0,x1⟩:=own_box (N:=(i:Nat)) (G:=(T.g i:Nat)) (Only.refl [] (w.alloc (zH i (T.g i:Nat)))) (by simp);have HT:Hid (∀ W,zQ w W→TreeAt W tr T):=fun W ho=>h.only ho;have HC:Hid (∀ W,zQ w W→W.cell? (zA tr 2)=some (.map (some T.pb))∧(Instr.lookup 103 (.map (some T.pb)) (zG i (T.g i:Nat)) false).run Tryz.prog W = .ok (zI (T.pn i:Nat)) W):=fun W ho=>⟨(h.only ho).c2,look_pin (h.only ho) hi⟩;have htl:tr < w.heap.size:=zv h.c2;have HEr:Hid (∀ W,zQ w W→W.cell? ⟨0,0,none⟩=some (.iface 228 (.pointer (some (A 4))))):=fun W ho=>(errs_only hE ho).cell 4 (by decide);rw [hp] at HC
 change Hid (∀ W,zQ w W→W.cell? (zA tr 2)=some (.map (some T.pb))∧(Instr.lookup 103 (.map (some T.pb)) (zG i (T.g i:Nat)) false).run Tryz.prog W = .ok (zI 0) W) at HC
 clear h hcf hE
 go_enter Tryz.func41,Tryz.ntmps41
 go_wp2_with (first
  | (go_at_call 74;go_must (refine hcf1.mono ?_);rintro e' w2 ⟨rfl,ho2⟩;have HO1:Hid (zQ (w.alloc (zH i (T.g i:Nat))) w2):=ho2;have HO2:Hid (zQ w w2):=zo HA.out ho2;clear ho2 hcf1 x0 x1;obtain ⟨x0,x1⟩:=own_box (N:=(i:Nat)) (G:=(T.g i:Nat)) HO1.out (by simp);obtain ⟨c2,l2⟩:=HC.out w2.drew HO2.out.drew;have hs2:w.heap.size < w2.heap.size:=Nat.lt_of_lt_of_le (by simp) HO1.out.size;have ht2:tr < w2.heap.size:=Nat.lt_trans htl hs2;have e4:=HEr.out w2 HO2.out)
  | go_in)
 go_region
 all_goals go_wp2
 all_goals go_ret
 all_goals exact ⟨rfl,HO2.out.drew⟩
theorem unpin_more (w:World)(tr:Nat)(T:Tr)(i:Nat)(h:TreeAt w tr T)(hi:i < T.p.N)(hp1:2≤T.pn i)(hp:T.pn i≤1000)(hcf:∀ W,zQ w W→zO 74 #[zP tr,zG i (T.g i:Nat)] W .nilIface):
  zK 41 #[zP tr,zG i (T.g i:Nat)] w fun e w'=>e = .returned .nilIface∧TreeAt w' tr (T.pinned i (T.pn i - 1))∧Only [T.pb] w w':=by
 have HA:Hid (zQ w (w.alloc (zH i (T.g i:Nat)))):=(Only.refl [] w).alloc _;have hcf1:=hcf _ HA.out;obtain ⟨x0,x1⟩:=own_box (N:=(i:Nat)) (G:=(T.g i:Nat)) (Only.refl [] (w.alloc (zH i (T.g i:Nat)))) (by simp);have HT:Hid (∀ W,zQ w W→TreeAt W tr T):=fun W ho=>h.only ho;have HC:Hid (∀ W,zQ w W→W.cell? (zA tr 2)=some (.map (some T.pb))∧(Instr.lookup 103 (.map (some T.pb)) (zG i (T.g i:Nat)) false).run Tryz.prog W = .ok (zI (T.pn i:Nat)) W):=fun W ho=>⟨(h.only ho).c2,look_pin (h.only ho) hi⟩;have htl:tr < w.heap.size:=zv h.c2;have HPP:Hid (∀ W,zQ w W→_):=fun W (ho:zQ w W)=>pin_put (k:=T.pn i - 1) (h.only ho) hi (by omega) (by omega) (IntKind.i64.wrap ((T.pn i:Int) - 1)) (by rw [wrap_small (by omega) (by omega)];omega)
 have hd0:((T.pn i:Int)==0)=false:=by rw [beq_eq_false_iff_ne];omega
 have hd1:((T.pn i:Int)==1)=false:=by rw [beq_eq_false_iff_ne];omega
 have hn0:(T.pn i:Int)≠0:=by omega
 have hn1:(T.pn i:Int)≠1:=by omega
 clear h hcf
 go_enter Tryz.func41,Tryz.ntmps41
 go_wp2_with (first
  | (go_at_call 74;go_must (refine hcf1.mono ?_);rintro e' w2 ⟨rfl,ho2⟩;have HO1:Hid (zQ (w.alloc (zH i (T.g i:Nat))) w2):=ho2;have HO2:Hid (zQ w w2):=zo HA.out ho2;clear ho2 hcf1 x0 x1;obtain ⟨x0,x1⟩:=own_box (N:=(i:Nat)) (G:=(T.g i:Nat)) HO1.out (by simp);obtain ⟨c2,l2⟩:=HC.out w2.drew HO2.out.drew;have hs2:w.heap.size < w2.heap.size:=Nat.lt_of_lt_of_le (by simp) HO1.out.size;have ht2:tr < w2.heap.size:=Nat.lt_trans htl hs2;obtain ⟨c3,l3⟩:=HC.out w2.drew.drew HO2.out.drew.drew;obtain ⟨v0,st,w3,w4,m1,m2,hT4,ho4,m3⟩:=HPP.out w2.drew.drew HO2.out.drew.drew;have HE4:Hid (TreeAt w4 tr (T.pinned i (T.pn i - 1))∧Only [T.pb] w w4):=⟨hT4,((HO2.out.drew.drew).mono (fun _ hk=>by cases hk)).trans ho4 (fun k hk=>Or.inl hk)⟩;clear hT4 ho4)
  | go_in)
 go_region
 all_goals go_wp2
 all_goals go_region
 all_goals go_wp2
 all_goals go_ret
 all_goals exact ⟨rfl,HE4.out.1,HE4.out.2⟩
def Unpinned (w w':World)(tr:Nat)(T:Tr)(i:Nat)(L:Int):Prop:=((L=0∧TreeAt w' tr ((T.pinned i 0).freed i))∨(L≠0∧TreeAt w' tr (T.pinned i 0)))∧Only (T.pb::T.p.a.toList) w w'
theorem unpin_last (w:World)(tr:Nat)(T:Tr)(i:Nat)(n:Nod)(h:TreeAt w tr T)(hn:T.nd i=some n)(hK:n.K=1)(hds:T.ds i=none)(hg:T.g i+1≤5000000000000000000)(hp:T.pn i=1)(hcf:∀ W,zQ w W→zO 74 #[zP tr,zG i (T.g i:Nat)] W .nilIface):
  zK 41 #[zP tr,zG i (T.g i:Nat)] w fun e w'=>e = .returned .nilIface∧Unpinned w w' tr T i n.L:=by
 have hi:=h.tab.lt hn;have HA:Hid (zQ w (w.alloc (zH i (T.g i:Nat)))):=(Only.refl [] w).alloc _;have hcf1:=hcf _ HA.out;obtain ⟨x0,x1⟩:=own_box (N:=(i:Nat)) (G:=(T.g i:Nat)) (Only.refl [] (w.alloc (zH i (T.g i:Nat)))) (by simp);have HT:Hid (∀ W,zQ w W→TreeAt W tr T):=fun W ho=>h.only ho;have HC:Hid (∀ W,zQ w W→W.cell? (zA tr 2)=some (.map (some T.pb))∧(Instr.lookup 103 (.map (some T.pb)) (zG i (T.g i:Nat)) false).run Tryz.prog W = .ok (zI (T.pn i:Nat)) W):=fun W ho=>⟨(h.only ho).c2,look_pin (h.only ho) hi⟩;have htl:tr < w.heap.size:=zv h.c2;rw [hp] at HC
 change Hid (∀ W,zQ w W→W.cell? (zA tr 2)=some (.map (some T.pb))∧(Instr.lookup 103 (.map (some T.pb)) (zG i (T.g i:Nat)) false).run Tryz.prog W = .ok (zI 1) W) at HC
 have HPD:Hid (∀ W,zQ w W→_):=fun W (ho:zQ w W)=>pin_del (h.only ho) hi 0;have HSE:Hid (∀ W,TreeAt W tr (T.pinned i 0)→zK 75 #[zP tr,zG i (T.g i:Nat)] W fun e w'=>e = .returned (.tuple #[])∧Settled W w' tr (T.pinned i 0) i n.L):=fun W hW=>settle_any W tr (T.pinned i 0) i n hW hn hK hds hg
 have HPB:Hid (w.heap.size∉[T.pb]):=by
  obtain ⟨P,m,p1,_,_⟩:=h.pins;have:=p1.lt;show w.heap.size∉[T.pb];simp;omega
 clear h hcf hn
 go_enter Tryz.func41,Tryz.ntmps41
 go_wp2_with (first
  | (go_at_call 74;go_must (refine hcf1.mono ?_);rintro e' w2 ⟨rfl,ho2⟩;have HO1:Hid (zQ (w.alloc (zH i (T.g i:Nat))) w2):=ho2;have HO2:Hid (zQ w w2):=zo HA.out ho2;clear ho2 hcf1 x0 x1;obtain ⟨x0,x1⟩:=own_box (N:=(i:Nat)) (G:=(T.g i:Nat)) HO1.out (by simp);obtain ⟨c2,l2⟩:=HC.out w2.drew HO2.out.drew;have hs2:w.heap.size < w2.heap.size:=Nat.lt_of_lt_of_le (by simp) HO1.out.size;have ht2:tr < w2.heap.size:=Nat.lt_trans htl hs2;obtain ⟨c3,l3⟩:=HC.out w2.drew.drew HO2.out.drew.drew;obtain ⟨w4,m1,hT4,ho4⟩:=HPD.out w2.drew.drew HO2.out.drew.drew;have HE4:Hid (TreeAt w4 tr (T.pinned i 0)∧Only [T.pb] w w4):=⟨hT4,((HO2.out.drew.drew).mono (fun _ hk=>by cases hk)).trans ho4 (fun k hk=>Or.inl hk)⟩;obtain ⟨y0,y1⟩:=own_box (N:=(i:Nat)) (G:=(T.g i:Nat)) (((HO1.out.drew.drew).mono (L':=[T.pb]) (fun _ hk=>by cases hk)).trans ho4 (fun k hk=>Or.inl hk)) HPB.out;have hse:=HSE.out w4 hT4;clear hT4 ho4)
  | go_in)
 go_region
 all_goals go_wp2
 all_goals go_region
 all_goals go_wp2_with (first
  | (go_at_call 75;go_must (refine hse.mono ?_);rintro e' w5 ⟨rfl,hs5⟩;have HS5:Hid (Settled w4 w5 tr (T.pinned i 0) i n.L):=hs5;clear hs5 hse)
  | go_in)
 all_goals go_ret
 all_goals refine ⟨rfl,?_⟩
 all_goals unfold Unpinned
 all_goals have o4:Only (T.pb::T.p.a.toList) w w4:=HE4.out.2.mono (fun k hk=>Or.inl (by simp at hk;simp [hk]))
 all_goals rcases HS5.out with ⟨s1,s2,s3,s4⟩ | ⟨s1,s2⟩
 all_goals first
  | exact ⟨Or.inl ⟨s1,s3⟩,o4.trans s4 (fun k hk=>Or.inl (List.mem_cons_of_mem _ hk))⟩
  | exact ⟨Or.inr ⟨fun e=>s1 ⟨e,setN_same _ _ _⟩,HE4.out.1.only s2⟩,o4.trans s2 (fun _ hk=>by cases hk)⟩
end
end Go.Proofs.YtkcabopgajlmdaaGreatDoor
