import Derived.Test.YtkcabopgajlmdaaGreatDoorK18
set_option maxRecDepth 100000
set_option maxHeartbeats 8000000
namespace Go.Proofs.YtkcabopgajlmdaaGreatDoor
section
open Go Go.RowKit Go.Deep Go.Maps
section
variable (w:World)(tr:Nat)(N G K:Int)(s:ByteArray)
theorem create_err (o1 o2:Option Addr)(ad:Addr)(h1:∀ W,zQ w W→zO 44 #[zP tr,zG N G] W (errO o1))(h2:∀ W,zQ w W→zO 45 #[.string s] W (errO o2))(hf:firstV [o1,o2]=some ad):
  zO 24 #[zP tr,zG N G,.string s,zI K] w (.tuple #[zG 0 0,errV ad]):=by
 have HO1:Hid (zQ w ((w.alloc (zH N G)).alloc (zH 0 0))):=((Only.refl [] w).alloc _).alloc _;have H2:Hid (∀ W,zQ w W→_):=h2;have hcd:=h1 ((w.alloc (zH N G)).alloc (zH 0 0)) HO1.out;obtain ⟨x0,x1,_,_,_,hxl⟩:=own_twoZ (N:=N) (G:=G) (Only.refl [] ((w.alloc (zH N G)).alloc (zH 0 0))) (by simp) (by simp);have HF:Hid (∀ w3:World,_):=fun w3=>first_two w3 o1 o2;rw [hf] at HF
 change Hid (∀ w3:World,Calls _ _ _ _ fun e w'=>e = .returned (errV ad)∧_) at HF
 clear h1 h2 hf;have HU:∀ (x:Addr),errO (some x) = .iface 228 (.pointer (some x)):=fun _=>rfl;have HN:errO none = .nilIface:=rfl;unfold errV at HF ⊢;rcases o1 with _ | p1<;>rcases o2 with _ | p2
 all_goals simp only [HU,HN] at HF hcd H2
 all_goals clear HU HN
 all_goals go_enter Tryz.func24,Tryz.ntmps24
 all_goals go_wp2_with (first
  | (go_at_call 44;go_must (refine hcd.mono ?_);rintro e' w2 ⟨rfl,ho2⟩;have HO2:Hid (zQ ((w.alloc (zH N G)).alloc (zH 0 0)) w2):=ho2;have hck:=H2.out w2 (HO1.out.trans ho2 (fun _ hk=>by cases hk));clear ho2 hcd)
  | (go_at_call 45;go_must (refine hck.mono ?_);rintro e' w3 ⟨rfl,ho3⟩;have HO3:Hid (zQ ((w.alloc (zH N G)).alloc (zH 0 0)) w3):=HO2.out.trans ho3 (fun _ hk=>by cases hk);have hfo:=HF.out w3;clear ho3 hck)
  | (go_at_call 43;go_must (refine hfo.mono ?_);rintro e' w4 ⟨rfl,rfl⟩;obtain ⟨_,_,v0,v1,vf,hyl⟩:=own_twoZ (N:=N) (G:=G) HO3.out (by simp) (by simp);clear hfo)
  | go_in)
 all_goals have HOW:Hid (zQ w w3):=HO1.out.trans HO3.out (fun _ hk=>by cases hk)
 all_goals refine bodyPost_ret (v := .tuple #[zG 0 0,.iface 228 (.pointer (some ad))]) (by simp [results,Tryz.results24,go_sem,v0,v1,hyl]) rfl ⟨rfl,?_⟩
 all_goals repeat (first | exact HOW.out | refine Only.setCell ?_ (Or.inr (Nat.le_succ _)) _ | refine Only.alloc ?_ _ | refine Only.drew ?_)
theorem create_shape (A:Nat→Addr)(hE:Errs w A)(hK1:K≠1)(hK2:K≠2)(h1:∀ W,zQ w W→zO 44 #[zP tr,zG N G] W .nilIface)(h2:∀ W,zQ w W→zO 45 #[.string s] W .nilIface):
  zO 24 #[zP tr,zG N G,.string s,zI K] w (.tuple #[zG 0 0,errV (A 2)]):=by
 have HO1:Hid (zQ w ((w.alloc (zH N G)).alloc (zH 0 0))):=((Only.refl [] w).alloc _).alloc _;have H2:Hid (∀ W,zQ w W→_):=h2;have hcd:=h1 ((w.alloc (zH N G)).alloc (zH 0 0)) HO1.out;obtain ⟨x0,x1,_,_,_,hxl⟩:=own_twoZ (N:=N) (G:=G) (Only.refl [] ((w.alloc (zH N G)).alloc (zH 0 0))) (by simp) (by simp);have HF:Hid (∀ w3:World,_):=fun w3=>first_two w3 none none
 change Hid (∀ w3:World,Calls _ _ #[.slice (some ⟨w3.heap.size,0,none⟩) 2 2] (w3.alloc (.cells #[.nilIface,.nilIface] 28)) fun e w'=>e = .returned .nilIface∧(w3.alloc (.cells #[.nilIface,.nilIface] 28))=w') at HF
 have HEr:Hid (∀ W,zQ w W→W.cell? ⟨2,0,none⟩=some (.iface 228 (.pointer (some (A 2))))):=fun W ho=>(errs_only hE ho).cell 2 (by decide);have hel:2 < w.heap.size:=zv (HEr.out w (Only.refl [] w));have hd1:(K != 1)=true:=bne_iff_ne.2 hK1;have hd2:(K != 2)=true:=bne_iff_ne.2 hK2;clear h1 h2 hE;unfold errV
 go_enter Tryz.func24,Tryz.ntmps24
 go_wp2_with (first
  | (go_at_call 44;go_must (refine hcd.mono ?_);rintro e' w2 ⟨rfl,ho2⟩;have HO2:Hid (zQ ((w.alloc (zH N G)).alloc (zH 0 0)) w2):=ho2;have hck:=H2.out w2 (HO1.out.trans ho2 (fun _ hk=>by cases hk));clear ho2 hcd)
  | (go_at_call 45;go_must (refine hck.mono ?_);rintro e' w3 ⟨rfl,ho3⟩;have HO3:Hid (zQ ((w.alloc (zH N G)).alloc (zH 0 0)) w3):=HO2.out.trans ho3 (fun _ hk=>by cases hk);have hfo:=HF.out w3;clear ho3 hck)
  | (go_at_call 43;go_must (refine hfo.mono ?_);rintro e' w4 ⟨rfl,rfl⟩;obtain ⟨_,_,v0,v1,vf,hyl⟩:=own_twoZ (N:=N) (G:=G) HO3.out (by simp) (by simp);have eS:=HEr.out w3 (HO1.out.trans HO3.out (fun _ hk=>by cases hk));have hes:=zv eS;have hyl2:w.heap.size+1 < w3.heap.size+1:=Nat.lt_succ_of_lt hyl;clear hfo)
  | go_in)
 all_goals go_region
 all_goals go_wp2
 all_goals have HOW:Hid (zQ w w3):=HO1.out.trans HO3.out (fun _ hk=>by cases hk)
 all_goals refine bodyPost_ret (v := .tuple #[zG 0 0,.iface 228 (.pointer (some (A 2)))]) (by simp [results,Tryz.results24,go_sem,v0,v1,hyl]) rfl ⟨rfl,?_⟩
 all_goals repeat (first | exact HOW.out | refine Only.setCell ?_ (Or.inr (Nat.le_succ _)) _ | refine Only.alloc ?_ _ | refine Only.drew ?_)
theorem create_room (ad:Addr)(hK:K=1∨K=2)(h1:∀ W,zQ w W→zO 44 #[zP tr,zG N G] W .nilIface)(h2:∀ W,zQ w W→zO 45 #[.string s] W .nilIface)(h3:∀ W,zQ w W→zO 54 #[zP tr,zG N G,.string s] W (.iface 228 (.pointer (some ad)))):
  zO 24 #[zP tr,zG N G,.string s,zI K] w (.tuple #[zG 0 0,errV ad]):=by
 have HO1:Hid (zQ w ((w.alloc (zH N G)).alloc (zH 0 0))):=((Only.refl [] w).alloc _).alloc _;have H2:Hid (∀ W,zQ w W→_):=h2;have hcd:=h1 ((w.alloc (zH N G)).alloc (zH 0 0)) HO1.out;obtain ⟨x0,x1,_,_,_,hxl⟩:=own_twoZ (N:=N) (G:=G) (Only.refl [] ((w.alloc (zH N G)).alloc (zH 0 0))) (by simp) (by simp);have HF:Hid (∀ w3:World,_):=fun w3=>first_two w3 none none
 change Hid (∀ w3:World,Calls _ _ #[.slice (some ⟨w3.heap.size,0,none⟩) 2 2] (w3.alloc (.cells #[.nilIface,.nilIface] 28)) fun e w'=>e = .returned .nilIface∧(w3.alloc (.cells #[.nilIface,.nilIface] 28))=w') at HF
 have HR:Hid (∀ W,zQ w W→_):=h3;clear h1 h2 h3;unfold errV;rcases hK with rfl | rfl
 all_goals go_enter Tryz.func24,Tryz.ntmps24
 all_goals go_wp2_with (first
  | (go_at_call 44;go_must (refine hcd.mono ?_);rintro e' w2 ⟨rfl,ho2⟩;have HO2:Hid (zQ ((w.alloc (zH N G)).alloc (zH 0 0)) w2):=ho2;have hck:=H2.out w2 (HO1.out.trans ho2 (fun _ hk=>by cases hk));clear ho2 hcd)
  | (go_at_call 45;go_must (refine hck.mono ?_);rintro e' w3 ⟨rfl,ho3⟩;have HO3:Hid (zQ ((w.alloc (zH N G)).alloc (zH 0 0)) w3):=HO2.out.trans ho3 (fun _ hk=>by cases hk);have hfo:=HF.out w3;clear ho3 hck)
  | (go_at_call 43;go_must (refine hfo.mono ?_);rintro e' w4 ⟨rfl,rfl⟩;have HO4:Hid (zQ ((w.alloc (zH N G)).alloc (zH 0 0)) (w3.alloc (.cells #[.nilIface,.nilIface] 28))):=HO3.out.alloc _;have hcr:=HR.out _ (HO1.out.trans HO4.out (fun _ hk=>by cases hk));obtain ⟨y0,y1,_,_,_,_⟩:=own_twoZ (N:=N) (G:=G) HO4.out (by simp) (by simp);clear hfo)
  | (go_at_call 54;go_must (refine hcr.mono ?_);rintro e' w5 ⟨rfl,ho5⟩;have HO5:Hid (zQ ((w.alloc (zH N G)).alloc (zH 0 0)) w5):=HO4.out.trans ho5 (fun _ hk=>by cases hk);obtain ⟨_,_,v0,v1,vf,hyl⟩:=own_twoZ (N:=N) (G:=G) HO5.out (by simp) (by simp);clear ho5 hcr y0 y1)
  | go_in)
 all_goals have HOW:Hid (zQ w w5):=HO1.out.trans HO5.out (fun _ hk=>by cases hk)
 all_goals refine bodyPost_ret (v := .tuple #[zG 0 0,.iface 228 (.pointer (some ad))]) (by simp [results,Tryz.results24,go_sem,v0,v1]) rfl ⟨rfl,?_⟩
 all_goals repeat (first | exact HOW.out | refine Only.setCell ?_ (Or.inr (Nat.le_succ _)) _ | refine Only.alloc ?_ _ | refine Only.drew ?_)
theorem create_most (ad:Addr)(hK:K=1∨K=2)(h1:∀ W,zQ w W→zO 44 #[zP tr,zG N G] W .nilIface)(h2:∀ W,zQ w W→zO 45 #[.string s] W .nilIface)(h3:∀ W,zQ w W→zO 54 #[zP tr,zG N G,.string s] W .nilIface)(h4:∀ W,zQ w W→zO 27 #[zP tr,zI K] W (.tuple #[zG 0 0,.iface 228 (.pointer (some ad))])):
  zO 24 #[zP tr,zG N G,.string s,zI K] w (.tuple #[zG 0 0,errV ad]):=by
 have HO1:Hid (zQ w ((w.alloc (zH N G)).alloc (zH 0 0))):=((Only.refl [] w).alloc _).alloc _;have H2:Hid (∀ W,zQ w W→_):=h2;have hcd:=h1 ((w.alloc (zH N G)).alloc (zH 0 0)) HO1.out;obtain ⟨x0,x1,_,_,_,hxl⟩:=own_twoZ (N:=N) (G:=G) (Only.refl [] ((w.alloc (zH N G)).alloc (zH 0 0))) (by simp) (by simp);have HF:Hid (∀ w3:World,_):=fun w3=>first_two w3 none none
 change Hid (∀ w3:World,Calls _ _ #[.slice (some ⟨w3.heap.size,0,none⟩) 2 2] (w3.alloc (.cells #[.nilIface,.nilIface] 28)) fun e w'=>e = .returned .nilIface∧(w3.alloc (.cells #[.nilIface,.nilIface] 28))=w') at HF
 have HR:Hid (∀ W,zQ w W→_):=h3;have HAD:Hid (∀ W,zQ w W→_):=h4;clear h1 h2 h3 h4;unfold errV;rcases hK with rfl | rfl
 all_goals go_enter Tryz.func24,Tryz.ntmps24
 all_goals go_wp2_with (first
  | (go_at_call 44;go_must (refine hcd.mono ?_);rintro e' w2 ⟨rfl,ho2⟩;have HO2:Hid (zQ ((w.alloc (zH N G)).alloc (zH 0 0)) w2):=ho2;have hck:=H2.out w2 (HO1.out.trans ho2 (fun _ hk=>by cases hk));clear ho2 hcd)
  | (go_at_call 45;go_must (refine hck.mono ?_);rintro e' w3 ⟨rfl,ho3⟩;have HO3:Hid (zQ ((w.alloc (zH N G)).alloc (zH 0 0)) w3):=HO2.out.trans ho3 (fun _ hk=>by cases hk);have hfo:=HF.out w3;clear ho3 hck)
  | (go_at_call 43;go_must (refine hfo.mono ?_);rintro e' w4 ⟨rfl,rfl⟩;have HO4:Hid (zQ ((w.alloc (zH N G)).alloc (zH 0 0)) (w3.alloc (.cells #[.nilIface,.nilIface] 28))):=HO3.out.alloc _;have hcr:=HR.out _ (HO1.out.trans HO4.out (fun _ hk=>by cases hk));obtain ⟨y0,y1,_,_,_,_⟩:=own_twoZ (N:=N) (G:=G) HO4.out (by simp) (by simp);clear hfo)
  | (go_at_call 54;go_must (refine hcr.mono ?_);rintro e' w5 ⟨rfl,ho5⟩;have HO5:Hid (zQ ((w.alloc (zH N G)).alloc (zH 0 0)) w5):=HO4.out.trans ho5 (fun _ hk=>by cases hk);have hca:=HAD.out w5 (HO1.out.trans HO5.out (fun _ hk=>by cases hk));clear ho5 hcr y0 y1)
  | (go_at_call 27;go_must (refine hca.mono ?_);rintro e' w6 ⟨rfl,ho6⟩;have HO6:Hid (zQ ((w.alloc (zH N G)).alloc (zH 0 0)) w6):=HO5.out.trans ho6 (fun _ hk=>by cases hk);obtain ⟨_,_,v0,v1,vf,hyl⟩:=own_twoZ (N:=N) (G:=G) HO6.out (by simp) (by simp);clear ho6 hca)
  | go_in)
 all_goals have HOW:Hid (zQ w w6):=HO1.out.trans HO6.out (fun _ hk=>by cases hk)
 all_goals refine bodyPost_ret (v := .tuple #[zG 0 0,.iface 228 (.pointer (some ad))]) (by simp [results,Tryz.results24,go_sem,v0,v1,hyl]) rfl ⟨rfl,?_⟩
 all_goals repeat (first | exact HOW.out | refine Only.setCell ?_ (Or.inr (Nat.le_succ _)) _ | refine Only.alloc ?_ _ | refine Only.drew ?_)
end
theorem add_most (w:World)(tr:Nat)(T:Tr)(A:Nat→Addr)(K:Int)(h:TreeAt w tr T)(hE:Errs w A)(hK:K=1∨K=2)(hf:T.most≤countTo T.nd T.p.N):
  zO 27 #[zP tr,zI K] w (.tuple #[zG 0 0,errV (A 8)]):=by
 have HT:Hid (∀ W,zQ w W→_):=fun W (ho:zQ w W)=>tadd_full W T.t T.p T.most T.g T.nd K (errV (A 8)) (h.only ho).tab h.small.N ((errs_only hE ho).cell 8 (by decide)) hK hf;have hca:=HT.out _ ((Only.refl [] w).alloc (zH 0 0));have ct:=h.c0;have htl:tr < w.heap.size:=zv ct
 have HZ:Hid (∀ W,zQ (w.alloc (zH 0 0)) W→HBox W w.heap.size 0 0):=fun W ho=>HBox.kept (show HBox _ w.heap.size 0 0 from zh w _) ho (by simp)
 clear h hE HT;unfold errV at hca ⊢;rcases hK with rfl | rfl
 all_goals go_enter Tryz.func27,Tryz.ntmps27
 all_goals go_wp2_with (first
  | (go_at_call 57;go_must (refine hca.mono ?_);rintro e' w2 ⟨rfl,ho2⟩;have HO2:Hid (zQ w w2):=zo ((Only.refl [] w).alloc _) ho2;have hb:=HZ.out w2 ho2;have vf:=hb.frozen;have hyl:=hb.lt;obtain ⟨v0,v1⟩:=hb.cells;clear ho2 hca hb)
  | go_in)
 all_goals refine bodyPost_ret (v := .tuple #[zG 0 0,.iface 228 (.pointer (some (A 8)))]) (by simp [results,Tryz.results27,go_sem,v0,v1,hyl]) rfl ⟨rfl,?_⟩
 all_goals repeat (first | exact HO2.out | refine Only.setCell ?_ (Or.inr (Nat.le_refl _)) _ | refine Only.alloc ?_ _ | refine Only.drew ?_)
end
end Go.Proofs.YtkcabopgajlmdaaGreatDoor
