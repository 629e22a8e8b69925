import Derived.Test.YtkcabopgajlmdaaGreatDoorK13
set_option maxRecDepth 100000
set_option maxHeartbeats 8000000
namespace Go.Proofs.YtkcabopgajlmdaaGreatDoor
section
open Go Go.RowKit Go.Deep Go.Maps
abbrev TwoB (w:World)(N G M F:Int)(W:World):Prop:=W.cell? (zA w.heap.size 0)=some (zI N)∧W.cell? (zA w.heap.size 1)=some (zI G)∧W.cell? (zA (w.heap.size+1) 0)=some (zI M)∧W.cell? (zA (w.heap.size+1) 1)=some (zI F)
theorem two_ints {w W:World}{N G M F:Int}{L:List Nat}(ho:Only L ((w.alloc (zH N G)).alloc (zH M F)) W)(hL:∀ k,w.heap.size≤k→k∉L):TwoB w N G M F W:=by
 have h1:=zh w (zH N G);have h2:=zh (w.alloc (zH N G)) (zH M F);rw [World.size_alloc] at h2;have oA:zQ (w.alloc (zH N G)) ((w.alloc (zH N G)).alloc (zH M F)):=(Only.refl [] _).alloc _
 have l0:w.heap.size < ((w.alloc (zH N G)).alloc (zH M F)).heap.size:=by simp;omega
 have l1:w.heap.size+1 < ((w.alloc (zH N G)).alloc (zH M F)).heap.size:=by simp
 exact ⟨(ho.cell (p:=⟨w.heap.size,0,none⟩) l0 (hL _ (Nat.le_refl _))).trans ((oA.cell (p:=⟨w.heap.size,0,none⟩) (by simp) (by simp)).trans (cell_of_row _ _ 0 _ _ _ h1)),(ho.cell (p:=⟨w.heap.size,1,none⟩) l0 (hL _ (Nat.le_refl _))).trans ((oA.cell (p:=⟨w.heap.size,1,none⟩) (by simp) (by simp)).trans (cell_of_row _ _ 1 _ _ _ h1)),(ho.cell (p:=⟨w.heap.size+1,0,none⟩) l1 (hL _ (Nat.le_succ _))).trans (cell_of_row _ _ 0 _ _ _ h2),(ho.cell (p:=⟨w.heap.size+1,1,none⟩) l1 (hL _ (Nat.le_succ _))).trans (cell_of_row _ _ 1 _ _ _ h2)⟩
theorem two_alloc {w W:World}{N G M F:Int}{o:Obj}(h:TwoB w N G M F W):TwoB w N G M F (W.alloc o):=by
 have ho:zQ W (W.alloc o):=(Only.refl [] W).alloc o;exact ⟨(ho.cell (p:=⟨w.heap.size,0,none⟩) (zv h.1) (by simp)).trans h.1,(ho.cell (p:=⟨w.heap.size,1,none⟩) (zv h.2.1) (by simp)).trans h.2.1,(ho.cell (p:=⟨w.heap.size+1,0,none⟩) (zv h.2.2.1) (by simp)).trans h.2.2.1,(ho.cell (p:=⟨w.heap.size+1,1,none⟩) (zv h.2.2.2) (by simp)).trans h.2.2.2⟩
theorem not_nil (n:Nat):∀ k,n≤k→k∉([]:List Nat):=fun _ _ h=>by cases h
theorem first_four (w:World)(o1 o2 o3 o4:Option Addr):zE 43 #[.slice (some ⟨w.heap.size,0,none⟩) 4 4] (w.alloc (.cells #[errO o1,errO o2,errO o3,errO o4] 28)) (errO (firstV [o1,o2,o3,o4])) :=
 firstOf_any (w.alloc (.cells #[errO o1,errO o2,errO o3,errO o4] 28)) w.heap.size 4 4 [o1,o2,o3,o4] rfl (by decide) (fun j o hj=>by
  have hh:=zh w (.cells #[errO o1,errO o2,errO o3,errO o4] 28);rw [cell_of_row _ _ _ _ _ _ hh]
  match j,hj with
  | 0,hj=>simp at hj;subst hj;rfl
  | 1,hj=>simp at hj;subst hj;rfl
  | 2,hj=>simp at hj;subst hj;rfl
  | 3,hj=>simp at hj;subst hj;rfl
  | j+4,hj=>simp at hj)
theorem rename_err (w:World)(tr:Nat)(N G M F:Int)(s u:ByteArray)(o1 o2 o3 o4:Option Addr)(ad:Addr)(h1:∀ W,zQ w W→zO 44 #[zP tr,zG N G] W (errO o1))(h2:∀ W,zQ w W→zO 44 #[zP tr,zG M F] W (errO o2))(h3:∀ W,zQ w W→zO 45 #[.string s] W (errO o3))(h4:∀ W,zQ w W→zO 45 #[.string u] W (errO o4))(hf:firstV [o1,o2,o3,o4]=some ad):
  zO 33 #[zP tr,zG N G,.string s,zG M F,.string u] w (errV ad):=by
 have HA:Hid (zQ w ((w.alloc (zH N G)).alloc (zH M F))):=((Only.refl [] w).alloc _).alloc _;have HW0:Hid (zQ ((w.alloc (zH N G)).alloc (zH M F)) ((w.alloc (zH N G)).alloc (zH M F)).drew):=(Only.refl [] _).drew;have K0:Hid (TwoB w N G M F ((w.alloc (zH N G)).alloc (zH M F)).drew):=two_ints HW0.out (not_nil _);have HC1:Hid (∀ W,zQ w W→_):=h1;have HC2:Hid (∀ W,zQ w W→_):=h2;have HN1:Hid (∀ W,zQ w W→_):=h3;have HN2:Hid (∀ W,zQ w W→_):=h4;have HF:Hid (∀ w3:World,_):=fun w3=>first_four w3 o1 o2 o3 o4;rw [hf] at HF
 change Hid (∀ w3:World,Calls _ _ _ _ fun e w'=>e = .returned (errV ad)∧_) at HF
 clear h1 h2 h3 h4 hf;have HU:∀ (x:Addr),errO (some x) = .iface 228 (.pointer (some x)):=fun _=>rfl;have HN:errO none = .nilIface:=rfl;unfold errV at HF ⊢;rcases o1 with _ | p1<;>rcases o2 with _ | p2<;>rcases o3 with _ | p3<;>rcases o4 with _ | p4
 all_goals
  simp only [HU,HN] at HF HC1 HC2 HN1 HN2;clear HU HN
  go_enter Tryz.func33,Tryz.ntmps33
  go_upto_region 1 with fail
  go_cut [11] from 17 to 28 (fun q wx=>q = .iface 228 (.pointer (some ad))∧zQ ((w.alloc (zH N G)).alloc (zH M F)) wx)
  case first =>
   go_region_held3 (fun W=>W.cell? (zA w.heap.size 0)=some (zI N)∧W.cell? (zA w.heap.size 1)=some (zI G)∧W.cell? (zA (w.heap.size+1) 0)=some (zI M)∧W.cell? (zA (w.heap.size+1) 1)=some (zI F))
    (with_reducible first | exact K0.out | exact K2.out | exact K3.out | exact K4.out | exact K5.out | exact two_alloc K5.out)
    (first
     | (go_at_call 44;refine (HC1.out _ (zo HA.out HW0.out)).mono ?_;rintro e2 w2 ⟨rfl,ho2⟩;have HW2:Hid (zQ ((w.alloc (zH N G)).alloc (zH M F)) w2):=zo HW0.out ho2;have K2:Hid (TwoB w N G M F w2):=two_ints HW2.out (not_nil _);clear ho2 HW0)
     | (go_at_call 44;refine (HC2.out _ (zo HA.out HW2.out)).mono ?_;rintro e3 w3 ⟨rfl,ho3⟩;have HW3:Hid (zQ ((w.alloc (zH N G)).alloc (zH M F)) w3):=zo HW2.out ho3;have K3:Hid (TwoB w N G M F w3):=two_ints HW3.out (not_nil _);clear ho3 HW2)
     | (go_at_call 45;refine (HN1.out _ (zo HA.out HW3.out)).mono ?_;rintro e4 w4 ⟨rfl,ho4⟩;have HW4:Hid (zQ ((w.alloc (zH N G)).alloc (zH M F)) w4):=zo HW3.out ho4;have K4:Hid (TwoB w N G M F w4):=two_ints HW4.out (not_nil _);clear ho4 HW3)
     | (go_at_call 45;refine (HN2.out _ (zo HA.out HW4.out)).mono ?_;rintro e5 w5 ⟨rfl,ho5⟩;have HW5:Hid (zQ ((w.alloc (zH N G)).alloc (zH M F)) w5):=zo HW4.out ho5;have K5:Hid (TwoB w N G M F w5):=two_ints HW5.out (not_nil _);clear ho5 HW4)
     | (go_at_call 43;refine (HF.out _).mono ?_;rintro e6 w6 ⟨rfl,rfl⟩))
   all_goals go_wp2
   all_goals go_meet
   all_goals exact ⟨rfl,HW5.out.alloc _⟩
  case rest =>
   obtain ⟨rfl,hoc⟩:=hcut;have HOC:Hid (zQ ((w.alloc (zH N G)).alloc (zH M F)) wc):=hoc;clear hoc
   go_wp2
   go_ret
   exact ⟨rfl,zo HA.out HOC.out⟩
end
end Go.Proofs.YtkcabopgajlmdaaGreatDoor
