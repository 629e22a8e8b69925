import Derived.Test.YtbdfjbmocifhmaaGreatDoorK25
set_option maxRecDepth 100000
set_option maxHeartbeats 8000000
namespace Go.Proofs.YtbdfjbmocifhmaaGreatDoor
section
open Go Go.RowKit Go.Deep Go.Maps
section
variable (w:World)(tr:Nat)(N G K:Int)(s:ByteArray)
theorem create_err (o1 o2:Option Addr)(ad:Addr)(h1:∀ W,Only [] w W→Calls Tryz.prog 66 #[.pointer (some ⟨tr,0,none⟩),.agg #[.int .i64 N,.int .i64 G]] W fun e w'=>e = .returned (errO o1)∧Only [] W w')(h2:∀ W,Only [] w W→Calls Tryz.prog 67 #[.string s] W fun e w'=>e = .returned (errO o2)∧Only [] W w')(hf:firstV [o1,o2]=some ad):
  Calls Tryz.prog 19 #[.pointer (some ⟨tr,0,none⟩),.agg #[.int .i64 N,.int .i64 G],.string s,.int .i64 K] w fun r w'=>r = .returned (.tuple #[.agg #[.int .i64 0,.int .i64 0],errV ad])∧Only [] w w':=by
 have HO1:Hid (Only [] w ((w.alloc (.cells #[.int .i64 N,.int .i64 G] 34)).alloc (.cells #[.int .i64 0,.int .i64 0] 34))):=((Only.refl [] w).alloc _).alloc _;have H2:Hid (∀ W,Only [] w W→_):=h2;have hcd:=h1 ((w.alloc (.cells #[.int .i64 N,.int .i64 G] 34)).alloc (.cells #[.int .i64 0,.int .i64 0] 34)) HO1.out;obtain ⟨x0,x1,_,_,_,hxl⟩:=own_twoZ (N:=N) (G:=G) (Only.refl [] ((w.alloc (.cells #[.int .i64 N,.int .i64 G] 34)).alloc (.cells #[.int .i64 0,.int .i64 0] 34))) (by simp) (by simp);have HF:Hid (∀ w3:World,_):=fun w3=>first_two w3 o1 o2;rw [hf] at HF
 change Hid (∀ w3:World,Calls _ _ _ _ fun e w'=>e = .returned (errV ad)∧_) at HF
 clear h1 h2 hf;have HU:∀ (x:Addr),errO (some x) = .iface 300 (.pointer (some x)):=fun _=>rfl;have HN:errO none = .nilIface:=rfl;unfold errV at HF ⊢;rcases o1 with _ | p1<;>rcases o2 with _ | p2
 all_goals simp only [HU,HN] at HF hcd H2
 all_goals clear HU HN
 all_goals go_enter Tryz.func19,Tryz.ntmps19
 all_goals go_wp2_with (first
  | (go_at_call 66;go_must (refine hcd.mono ?_);rintro e' w2 ⟨rfl,ho2⟩;have HO2:Hid (Only [] ((w.alloc (.cells #[.int .i64 N,.int .i64 G] 34)).alloc (.cells #[.int .i64 0,.int .i64 0] 34)) w2):=ho2;have hck:=H2.out w2 (HO1.out.trans ho2 (fun _ hk=>by cases hk));clear ho2 hcd)
  | (go_at_call 67;go_must (refine hck.mono ?_);rintro e' w3 ⟨rfl,ho3⟩;have HO3:Hid (Only [] ((w.alloc (.cells #[.int .i64 N,.int .i64 G] 34)).alloc (.cells #[.int .i64 0,.int .i64 0] 34)) w3):=HO2.out.trans ho3 (fun _ hk=>by cases hk);have hfo:=HF.out w3;clear ho3 hck)
  | (go_at_call 65;go_must (refine hfo.mono ?_);rintro e' w4 ⟨rfl,rfl⟩;obtain ⟨_,_,v0,v1,vf,hyl⟩:=own_twoZ (N:=N) (G:=G) HO3.out (by simp) (by simp);clear hfo)
  | go_in)
 all_goals have HOW:Hid (Only [] w w3):=HO1.out.trans HO3.out (fun _ hk=>by cases hk)
 all_goals refine bodyPost_ret (v := .tuple #[.agg #[.int .i64 0,.int .i64 0],.iface 300 (.pointer (some ad))]) (by simp [results,Tryz.results19,go_sem,v0,v1,hyl]) rfl ⟨rfl,?_⟩
 all_goals repeat (first | exact HOW.out | refine Only.setCell ?_ (Or.inr (Nat.le_succ _)) _ | refine Only.alloc ?_ _ | refine Only.drew ?_)
theorem create_shape (A:Nat→Addr)(hE:Errs w A)(hK1:K≠1)(hK2:K≠2)(h1:∀ W,Only [] w W→Calls Tryz.prog 66 #[.pointer (some ⟨tr,0,none⟩),.agg #[.int .i64 N,.int .i64 G]] W fun e w'=>e = .returned .nilIface∧Only [] W w')(h2:∀ W,Only [] w W→Calls Tryz.prog 67 #[.string s] W fun e w'=>e = .returned .nilIface∧Only [] W w'):
  Calls Tryz.prog 19 #[.pointer (some ⟨tr,0,none⟩),.agg #[.int .i64 N,.int .i64 G],.string s,.int .i64 K] w fun r w'=>r = .returned (.tuple #[.agg #[.int .i64 0,.int .i64 0],errV (A 2)])∧Only [] w w':=by
 have HO1:Hid (Only [] w ((w.alloc (.cells #[.int .i64 N,.int .i64 G] 34)).alloc (.cells #[.int .i64 0,.int .i64 0] 34))):=((Only.refl [] w).alloc _).alloc _;have H2:Hid (∀ W,Only [] w W→_):=h2;have hcd:=h1 ((w.alloc (.cells #[.int .i64 N,.int .i64 G] 34)).alloc (.cells #[.int .i64 0,.int .i64 0] 34)) HO1.out;obtain ⟨x0,x1,_,_,_,hxl⟩:=own_twoZ (N:=N) (G:=G) (Only.refl [] ((w.alloc (.cells #[.int .i64 N,.int .i64 G] 34)).alloc (.cells #[.int .i64 0,.int .i64 0] 34))) (by simp) (by simp);have HF:Hid (∀ w3:World,_):=fun w3=>first_two w3 none none
 change Hid (∀ w3:World,Calls _ _ #[.slice (some ⟨w3.heap.size,0,none⟩) 2 2] (w3.alloc (.cells #[.nilIface,.nilIface] 27)) fun e w'=>e = .returned .nilIface∧(w3.alloc (.cells #[.nilIface,.nilIface] 27))=w') at HF
 have HEr:Hid (∀ W,Only [] w W→W.cell? ⟨0,0,none⟩=some (.iface 300 (.pointer (some (A 2))))):=fun W ho=>(errs_only hE ho).cell 2 (by decide);have hel:0 < w.heap.size:=lt_of_cell (HEr.out w (Only.refl [] w));have hd1:(K != 1)=true:=bne_iff_ne.2 hK1;have hd2:(K != 2)=true:=bne_iff_ne.2 hK2;clear h1 h2 hE;unfold errV
 go_enter Tryz.func19,Tryz.ntmps19
 go_wp2_with (first
  | (go_at_call 66;go_must (refine hcd.mono ?_);rintro e' w2 ⟨rfl,ho2⟩;have HO2:Hid (Only [] ((w.alloc (.cells #[.int .i64 N,.int .i64 G] 34)).alloc (.cells #[.int .i64 0,.int .i64 0] 34)) w2):=ho2;have hck:=H2.out w2 (HO1.out.trans ho2 (fun _ hk=>by cases hk));clear ho2 hcd)
  | (go_at_call 67;go_must (refine hck.mono ?_);rintro e' w3 ⟨rfl,ho3⟩;have HO3:Hid (Only [] ((w.alloc (.cells #[.int .i64 N,.int .i64 G] 34)).alloc (.cells #[.int .i64 0,.int .i64 0] 34)) w3):=HO2.out.trans ho3 (fun _ hk=>by cases hk);have hfo:=HF.out w3;clear ho3 hck)
  | (go_at_call 65;go_must (refine hfo.mono ?_);rintro e' w4 ⟨rfl,rfl⟩;obtain ⟨_,_,v0,v1,vf,hyl⟩:=own_twoZ (N:=N) (G:=G) HO3.out (by simp) (by simp);have eS:=HEr.out w3 (HO1.out.trans HO3.out (fun _ hk=>by cases hk));have hes:=lt_of_cell eS;have hyl2:w.heap.size+1 < w3.heap.size+1:=Nat.lt_succ_of_lt hyl;clear hfo)
  | go_in)
 all_goals go_region
 all_goals go_wp2
 all_goals have HOW:Hid (Only [] w w3):=HO1.out.trans HO3.out (fun _ hk=>by cases hk)
 all_goals refine bodyPost_ret (v := .tuple #[.agg #[.int .i64 0,.int .i64 0],.iface 300 (.pointer (some (A 2)))]) (by simp [results,Tryz.results19,go_sem,v0,v1,hyl]) rfl ⟨rfl,?_⟩
 all_goals repeat (first | exact HOW.out | refine Only.setCell ?_ (Or.inr (Nat.le_succ _)) _ | refine Only.alloc ?_ _ | refine Only.drew ?_)
theorem create_room (ad:Addr)(hK:K=1∨K=2)(h1:∀ W,Only [] w W→Calls Tryz.prog 66 #[.pointer (some ⟨tr,0,none⟩),.agg #[.int .i64 N,.int .i64 G]] W fun e w'=>e = .returned .nilIface∧Only [] W w')(h2:∀ W,Only [] w W→Calls Tryz.prog 67 #[.string s] W fun e w'=>e = .returned .nilIface∧Only [] W w')(h3:∀ W,Only [] w W→Calls Tryz.prog 68 #[.pointer (some ⟨tr,0,none⟩),.agg #[.int .i64 N,.int .i64 G],.string s] W fun e w'=>e = .returned (.iface 300 (.pointer (some ad)))∧Only [] W w'):
  Calls Tryz.prog 19 #[.pointer (some ⟨tr,0,none⟩),.agg #[.int .i64 N,.int .i64 G],.string s,.int .i64 K] w fun r w'=>r = .returned (.tuple #[.agg #[.int .i64 0,.int .i64 0],errV ad])∧Only [] w w':=by
 have HO1:Hid (Only [] w ((w.alloc (.cells #[.int .i64 N,.int .i64 G] 34)).alloc (.cells #[.int .i64 0,.int .i64 0] 34))):=((Only.refl [] w).alloc _).alloc _;have H2:Hid (∀ W,Only [] w W→_):=h2;have hcd:=h1 ((w.alloc (.cells #[.int .i64 N,.int .i64 G] 34)).alloc (.cells #[.int .i64 0,.int .i64 0] 34)) HO1.out;obtain ⟨x0,x1,_,_,_,hxl⟩:=own_twoZ (N:=N) (G:=G) (Only.refl [] ((w.alloc (.cells #[.int .i64 N,.int .i64 G] 34)).alloc (.cells #[.int .i64 0,.int .i64 0] 34))) (by simp) (by simp);have HF:Hid (∀ w3:World,_):=fun w3=>first_two w3 none none
 change Hid (∀ w3:World,Calls _ _ #[.slice (some ⟨w3.heap.size,0,none⟩) 2 2] (w3.alloc (.cells #[.nilIface,.nilIface] 27)) fun e w'=>e = .returned .nilIface∧(w3.alloc (.cells #[.nilIface,.nilIface] 27))=w') at HF
 have HR:Hid (∀ W,Only [] w W→_):=h3;clear h1 h2 h3;unfold errV;rcases hK with rfl | rfl
 all_goals go_enter Tryz.func19,Tryz.ntmps19
 all_goals go_wp2_with (first
  | (go_at_call 66;go_must (refine hcd.mono ?_);rintro e' w2 ⟨rfl,ho2⟩;have HO2:Hid (Only [] ((w.alloc (.cells #[.int .i64 N,.int .i64 G] 34)).alloc (.cells #[.int .i64 0,.int .i64 0] 34)) w2):=ho2;have hck:=H2.out w2 (HO1.out.trans ho2 (fun _ hk=>by cases hk));clear ho2 hcd)
  | (go_at_call 67;go_must (refine hck.mono ?_);rintro e' w3 ⟨rfl,ho3⟩;have HO3:Hid (Only [] ((w.alloc (.cells #[.int .i64 N,.int .i64 G] 34)).alloc (.cells #[.int .i64 0,.int .i64 0] 34)) w3):=HO2.out.trans ho3 (fun _ hk=>by cases hk);have hfo:=HF.out w3;clear ho3 hck)
  | (go_at_call 65;go_must (refine hfo.mono ?_);rintro e' w4 ⟨rfl,rfl⟩;have HO4:Hid (Only [] ((w.alloc (.cells #[.int .i64 N,.int .i64 G] 34)).alloc (.cells #[.int .i64 0,.int .i64 0] 34)) (w3.alloc (.cells #[.nilIface,.nilIface] 27))):=HO3.out.alloc _;have hcr:=HR.out _ (HO1.out.trans HO4.out (fun _ hk=>by cases hk));obtain ⟨y0,y1,_,_,_,_⟩:=own_twoZ (N:=N) (G:=G) HO4.out (by simp) (by simp);clear hfo)
  | (go_at_call 68;go_must (refine hcr.mono ?_);rintro e' w5 ⟨rfl,ho5⟩;have HO5:Hid (Only [] ((w.alloc (.cells #[.int .i64 N,.int .i64 G] 34)).alloc (.cells #[.int .i64 0,.int .i64 0] 34)) w5):=HO4.out.trans ho5 (fun _ hk=>by cases hk);obtain ⟨_,_,v0,v1,vf,hyl⟩:=own_twoZ (N:=N) (G:=G) HO5.out (by simp) (by simp);clear ho5 hcr y0 y1)
  | go_in)
 all_goals have HOW:Hid (Only [] w w5):=HO1.out.trans HO5.out (fun _ hk=>by cases hk)
 all_goals refine bodyPost_ret (v := .tuple #[.agg #[.int .i64 0,.int .i64 0],.iface 300 (.pointer (some ad))]) (by simp [results,Tryz.results19,go_sem,v0,v1]) rfl ⟨rfl,?_⟩
 all_goals repeat (first | exact HOW.out | refine Only.setCell ?_ (Or.inr (Nat.le_succ _)) _ | refine Only.alloc ?_ _ | refine Only.drew ?_)
theorem create_most (ad:Addr)(hK:K=1∨K=2)(h1:∀ W,Only [] w W→Calls Tryz.prog 66 #[.pointer (some ⟨tr,0,none⟩),.agg #[.int .i64 N,.int .i64 G]] W fun e w'=>e = .returned .nilIface∧Only [] W w')(h2:∀ W,Only [] w W→Calls Tryz.prog 67 #[.string s] W fun e w'=>e = .returned .nilIface∧Only [] W w')(h3:∀ W,Only [] w W→Calls Tryz.prog 68 #[.pointer (some ⟨tr,0,none⟩),.agg #[.int .i64 N,.int .i64 G],.string s] W fun e w'=>e = .returned .nilIface∧Only [] W w')(h4:∀ W,Only [] w W→Calls Tryz.prog 23 #[.pointer (some ⟨tr,0,none⟩),.int .i64 K] W fun e w'=>e = .returned (.tuple #[.agg #[.int .i64 0,.int .i64 0],.iface 300 (.pointer (some ad))])∧Only [] W w'):
  Calls Tryz.prog 19 #[.pointer (some ⟨tr,0,none⟩),.agg #[.int .i64 N,.int .i64 G],.string s,.int .i64 K] w fun r w'=>r = .returned (.tuple #[.agg #[.int .i64 0,.int .i64 0],errV ad])∧Only [] w w':=by
 have HO1:Hid (Only [] w ((w.alloc (.cells #[.int .i64 N,.int .i64 G] 34)).alloc (.cells #[.int .i64 0,.int .i64 0] 34))):=((Only.refl [] w).alloc _).alloc _;have H2:Hid (∀ W,Only [] w W→_):=h2;have hcd:=h1 ((w.alloc (.cells #[.int .i64 N,.int .i64 G] 34)).alloc (.cells #[.int .i64 0,.int .i64 0] 34)) HO1.out;obtain ⟨x0,x1,_,_,_,hxl⟩:=own_twoZ (N:=N) (G:=G) (Only.refl [] ((w.alloc (.cells #[.int .i64 N,.int .i64 G] 34)).alloc (.cells #[.int .i64 0,.int .i64 0] 34))) (by simp) (by simp);have HF:Hid (∀ w3:World,_):=fun w3=>first_two w3 none none
 change Hid (∀ w3:World,Calls _ _ #[.slice (some ⟨w3.heap.size,0,none⟩) 2 2] (w3.alloc (.cells #[.nilIface,.nilIface] 27)) fun e w'=>e = .returned .nilIface∧(w3.alloc (.cells #[.nilIface,.nilIface] 27))=w') at HF
 have HR:Hid (∀ W,Only [] w W→_):=h3;have HAD:Hid (∀ W,Only [] w W→_):=h4;clear h1 h2 h3 h4;unfold errV;rcases hK with rfl | rfl
 all_goals go_enter Tryz.func19,Tryz.ntmps19
 all_goals go_wp2_with (first
  | (go_at_call 66;go_must (refine hcd.mono ?_);rintro e' w2 ⟨rfl,ho2⟩;have HO2:Hid (Only [] ((w.alloc (.cells #[.int .i64 N,.int .i64 G] 34)).alloc (.cells #[.int .i64 0,.int .i64 0] 34)) w2):=ho2;have hck:=H2.out w2 (HO1.out.trans ho2 (fun _ hk=>by cases hk));clear ho2 hcd)
  | (go_at_call 67;go_must (refine hck.mono ?_);rintro e' w3 ⟨rfl,ho3⟩;have HO3:Hid (Only [] ((w.alloc (.cells #[.int .i64 N,.int .i64 G] 34)).alloc (.cells #[.int .i64 0,.int .i64 0] 34)) w3):=HO2.out.trans ho3 (fun _ hk=>by cases hk);have hfo:=HF.out w3;clear ho3 hck)
  | (go_at_call 65;go_must (refine hfo.mono ?_);rintro e' w4 ⟨rfl,rfl⟩;have HO4:Hid (Only [] ((w.alloc (.cells #[.int .i64 N,.int .i64 G] 34)).alloc (.cells #[.int .i64 0,.int .i64 0] 34)) (w3.alloc (.cells #[.nilIface,.nilIface] 27))):=HO3.out.alloc _;have hcr:=HR.out _ (HO1.out.trans HO4.out (fun _ hk=>by cases hk));obtain ⟨y0,y1,_,_,_,_⟩:=own_twoZ (N:=N) (G:=G) HO4.out (by simp) (by simp);clear hfo)
  | (go_at_call 68;go_must (refine hcr.mono ?_);rintro e' w5 ⟨rfl,ho5⟩;have HO5:Hid (Only [] ((w.alloc (.cells #[.int .i64 N,.int .i64 G] 34)).alloc (.cells #[.int .i64 0,.int .i64 0] 34)) w5):=HO4.out.trans ho5 (fun _ hk=>by cases hk);have hca:=HAD.out w5 (HO1.out.trans HO5.out (fun _ hk=>by cases hk));clear ho5 hcr y0 y1)
  | (go_at_call 23;go_must (refine hca.mono ?_);rintro e' w6 ⟨rfl,ho6⟩;have HO6:Hid (Only [] ((w.alloc (.cells #[.int .i64 N,.int .i64 G] 34)).alloc (.cells #[.int .i64 0,.int .i64 0] 34)) w6):=HO5.out.trans ho6 (fun _ hk=>by cases hk);obtain ⟨_,_,v0,v1,vf,hyl⟩:=own_twoZ (N:=N) (G:=G) HO6.out (by simp) (by simp);clear ho6 hca)
  | go_in)
 all_goals have HOW:Hid (Only [] w w6):=HO1.out.trans HO6.out (fun _ hk=>by cases hk)
 all_goals refine bodyPost_ret (v := .tuple #[.agg #[.int .i64 0,.int .i64 0],.iface 300 (.pointer (some ad))]) (by simp [results,Tryz.results19,go_sem,v0,v1,hyl]) rfl ⟨rfl,?_⟩
 all_goals repeat (first | exact HOW.out | refine Only.setCell ?_ (Or.inr (Nat.le_succ _)) _ | refine Only.alloc ?_ _ | refine Only.drew ?_)
end
theorem add_most (w:World)(tr:Nat)(T:Tr)(A:Nat→Addr)(K:Int)(h:TreeAt w tr T)(hE:Errs w A)(hK:K=1∨K=2)(hf:T.most≤countTo T.nd T.p.N):
  Calls Tryz.prog 23 #[.pointer (some ⟨tr,0,none⟩),.int .i64 K] w fun e w'=>e = .returned (.tuple #[.agg #[.int .i64 0,.int .i64 0],errV (A 8)])∧Only [] w w':=by
 have HT:Hid (∀ W,Only [] w W→_):=fun W (ho:Only [] w W)=>tadd_full W T.t T.p T.most T.g T.nd K (errV (A 8)) (h.only ho).tab h.small.N ((errs_only hE ho).cell 8 (by decide)) hK hf;have hca:=HT.out _ ((Only.refl [] w).alloc (.cells #[.int .i64 0,.int .i64 0] 34));have ct:=h.c0;have htl:tr < w.heap.size:=lt_of_cell ct
 have HZ:Hid (∀ W,Only [] (w.alloc (.cells #[.int .i64 0,.int .i64 0] 34)) W→HBox W w.heap.size 0 0):=fun W ho=>HBox.kept (show HBox _ w.heap.size 0 0 from heap_alloc_last w _) ho (by simp)
 clear h hE HT;unfold errV at hca ⊢;rcases hK with rfl | rfl
 all_goals go_enter Tryz.func23,Tryz.ntmps23
 all_goals go_wp2_with (first
  | (go_at_call 73;go_must (refine hca.mono ?_);rintro e' w2 ⟨rfl,ho2⟩;have HO2:Hid (Only [] w w2):=only_nilT ((Only.refl [] w).alloc _) ho2;have hb:=HZ.out w2 ho2;have vf:=hb.frozen;have hyl:=hb.lt;obtain ⟨v0,v1⟩:=hb.cells;clear ho2 hca hb)
  | go_in)
 all_goals refine bodyPost_ret (v := .tuple #[.agg #[.int .i64 0,.int .i64 0],.iface 300 (.pointer (some (A 8)))]) (by simp [results,Tryz.results23,go_sem,v0,v1,hyl]) rfl ⟨rfl,?_⟩
 all_goals repeat (first | exact HO2.out | refine Only.setCell ?_ (Or.inr (Nat.le_refl _)) _ | refine Only.alloc ?_ _ | refine Only.drew ?_)
theorem okN_a:OkN ⟨#[97]⟩:=by
 refine ⟨by decide,by decide,by rw [Lib.toList_data];decide,by rw [Lib.toList_data];decide,fun x hx=>?_⟩
 have:x=0:=by have h:x < 1:=hx;omega
 subst this;rfl
theorem count_root (x:Nod):countTo (setN (fun _=>none) 0 (some x)) 1=1:=by
 rw [countTo_succ,setN_same];rfl
theorem first_file (A:Nat→Addr)(W w:World)(tr t:Nat)(p:Row)(b db B pb:Nat)(hT:TreeAt w tr (Tr.fresh t p 3 b db B pb))(hE:Errs w A)(hN:p.N=1)(ho:Below W.heap.size W w)(hs:W.heap.size≤t∧W.heap.size≤b∧W.heap.size≤B∧∀ k,p.a=some k→W.heap.size≤k):
   Calls Tryz.prog 19 #[.pointer (some ⟨tr,0,none⟩),.agg #[.int .i64 0,.int .i64 0],.string ⟨#[97]⟩,.int .i64 1] w fun e w'=>e = .returned (.tuple #[.agg #[.int .i64 1,.int .i64 0],.nilIface])∧Below W.heap.size W w':=by
 have hc:=create_file w tr (Tr.fresh t p 3 b db B pb) A 0 1 { newNod b 2 with Z:=0,L:=2 } ⟨B,[]⟩ ⟨#[97]⟩ hT hE rfl rfl rfl (And.intro (show (0:Int)≤0 by omega) (show (0:Int)≤9000000000000000000 by omega)) okN_a (by decide) rfl (show 0 < 60 by decide) (fun e he=>by cases he) (by decide)
   (by
     show countTo (setN (fun _=>none) 0 (some _)) p.N < 3;rw [hN,count_root]
     decide) rfl (fun j hj=>by
     obtain rfl:j=0:=by omega
     show (setN (fun _=>none) 0 (some _) 0).isSome=true;rw [setN_same]
     rfl)
 refine hc.mono fun e w' hh=>?_;obtain ⟨he,p',b',_,_,_,_,ho'⟩:=hh;refine ⟨he,ho.trans (ho'.to_below ho.size (fun k hk=>?_))⟩;rcases List.mem_cons.1 hk with e1 | hk
 · rw [e1];exact hs.2.2.1
 · rcases List.mem_cons.1 hk with e1 | hk
   · rw [e1];exact hs.2.1
   · rcases List.mem_cons.1 hk with e1 | hk
     · rw [e1];exact hs.1
     · exact hs.2.2.2 k (by have hk':k∈p.a.toList:=hk;simpa using hk')
theorem rooted_any (A:Nat→Addr)(w:World)(hE:Errs w A):Calls Tryz.prog 6 #[] w fun e w'=>e = .returned (.bool true)∧Below w.heap.size w w':=by
 have hnew:=tree_new w 3 (by decide) (by decide);have HE:Hid (Errs w A):=hE;clear hE
 go_enter Tryz.func6,Tryz.ntmps6
 go_wp2_with (first
  | (go_at_call 8;go_must (refine hnew.mono ?_);rintro e w1 ⟨tr,t,p,b,db,B,pb,rfl,hT1,ho1,hN1,h1,h2,h3,h4,h5,h6,h7⟩;have HT1:Hid (TreeAt w1 tr (Tr.fresh t p 3 b db B pb)):=hT1;have HO1:Hid (Only [] w w1):=ho1;have HN1:Hid (p.N=1):=hN1;have HS:Hid (w.heap.size≤t∧w.heap.size≤b∧w.heap.size≤B∧∀ k,p.a=some k→w.heap.size≤k):=⟨h2,h3,h5,h7⟩;have hnd:=nodes_any w1 tr (Tr.fresh t p 3 b db B pb) hT1;rw [show countTo (Tr.fresh t p 3 b db B pb).nd (Tr.fresh t p 3 b db B pb).p.N=1 from by show countTo (setN (fun _=>none) 0 (some _)) p.N=1;rw [hN1];exact count_root _] at hnd;clear hT1 ho1 hN1 h1 h2 h3 h4 h5 h6 h7 hnew)
  | (go_at_call 17;go_must (refine hnd.mono ?_);rintro e w2 ⟨rfl,ho2⟩;have HT2:Hid (TreeAt w2 tr (Tr.fresh t p 3 b db B pb)):=HT1.out.only ho2;have HO2:Hid (Only [] w w2):=HO1.out.trans ho2 (fun _ hk=>by cases hk);have hrt:=root_any w2 (.pointer (some ⟨tr,0,none⟩));clear ho2 hnd)
  | (go_at_call 18;go_must (refine hrt.mono ?_);rintro e w3 ⟨rfl,ho3⟩;have HT3:Hid (TreeAt w3 tr (Tr.fresh t p 3 b db B pb)):=HT2.out.only ho3;have hb3:Below w.heap.size w w3:=(HO2.out.trans ho3 (fun _ hk=>by cases hk)).to_below (Nat.le_refl _) (fun k hk=>by cases hk);have hcf:=first_file A w w3 tr t p b db B pb HT3.out (HE.out.below hb3 (Nat.le_refl _)) HN1.out hb3 HS.out;clear ho3 hrt hb3)
  | (go_at_call 19;go_must (refine hcf.mono ?_);rintro e w4 ⟨rfl,hb4⟩;have HB4:Hid (Below w.heap.size w w4):=hb4;clear hb4 hcf)
  | go_in)
 go_ret
 exact ⟨rfl,HB4.out.alloc HB4.out.size _⟩
end
end Go.Proofs.YtbdfjbmocifhmaaGreatDoor
