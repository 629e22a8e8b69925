import Derived.Test.YtbdfjbmocifhmaaGreatDoorK21
set_option maxRecDepth 100000
set_option maxHeartbeats 8000000
namespace Go.Proofs.YtbdfjbmocifhmaaGreatDoor
section
open Go Go.RowKit Go.Deep Go.Maps
theorem lookup_none (w:World)(tr:Nat)(T:Tr)(A:Nat→Addr)(a:Nat)(na:Nod)(d:DirM)(s:ByteArray)(h:TreeAt w tr T)(hE:Errs w A)(hd:T.ds a=some d)(ha:T.nd a=some na)(hKa:na.K=2)(hok:OkN s)(hs:s.size≤1000)(hf:findE d.l s.data.toList=none):
  Calls Tryz.prog 71 #[.pointer (some ⟨tr,0,none⟩),.agg #[.int .i64 a,.int .i64 (T.g a:Nat)],.string s] w fun r w'=>r = .returned (.tuple #[.agg #[.int .i64 0,.int .i64 0],.iface 300 (.pointer (some (A 4)))])∧Only [] w w':=by
 have hO1:Only [] w ((w.alloc (.cells #[.int .i64 a,.int .i64 (T.g a:Nat)] 34)).alloc (.cells #[.int .i64 0,.int .i64 0] 34)):=((Only.refl [] w).alloc _).alloc _;have HD:Hid (∀ W,Only [] w W→_):=fun W (ho:Only [] w W)=>dir_yes (h.only ho) ha hKa;have HK:Hid (∀ W,Only [] w W→_):=fun W (ho:Only [] w W)=>check_yes s A W (hE.below (ho.to_below (Nat.le_refl _) (fun k hk=>by cases hk)) (Nat.le_refl _)) hok;have HO1:Hid (Only [] w ((w.alloc (.cells #[.int .i64 a,.int .i64 (T.g a:Nat)] 34)).alloc (.cells #[.int .i64 0,.int .i64 0] 34))):=hO1;have hx:=own_two (T:=T) (a:=a) (Only.refl [] ((w.alloc (.cells #[.int .i64 a,.int .i64 (T.g a:Nat)] 34)).alloc (.cells #[.int .i64 0,.int .i64 0] 34))) (by simp) (by simp);have hcd:=HD.out ((w.alloc (.cells #[.int .i64 a,.int .i64 (T.g a:Nat)] 34)).alloc (.cells #[.int .i64 0,.int .i64 0] 34)) hO1;obtain ⟨x0,x1,_,_,_,hxl⟩:=hx;have hal:=h.dlt a d hd;have ct:=h.c1;have htl:tr < w.heap.size:=lt_of_cell ct
 have HL:Hid (∀ W,Only [] w W→(W.cell? ⟨tr,1,none⟩=some (.map (some T.db))∧(Instr.lookup 127 (.map (some T.db)) (.agg #[.int .i64 a,.int .i64 (T.g a:Nat)]) false).run Tryz.prog W = .ok (.map (some d.b)) W∧(Instr.lookup 136 (.map (some d.b)) (.string s) true).run Tryz.prog W = .ok (.tuple #[.agg #[.int .i64 0,.int .i64 0],.bool false]) W)):=fun W ho=>by
  have hT:=h.only ho;obtain ⟨v,n1,hv⟩:=look_name (hT.dir a d hd) s hs;rw [hf] at n1 hv;subst hv;exact ⟨hT.c1,look_dir hT hal hd,n1⟩
 have HEr:Hid (∀ W,Only [] w W→W.cell? ⟨5,0,none⟩=some (.iface 300 (.pointer (some (A 4))))):=fun W ho=>(errs_only hE ho).cell 4 (by decide);have hel:5 < w.heap.size:=lt_of_cell (HEr.out w (Only.refl [] w));clear h hE hok HD ct
 go_enter Tryz.func71,Tryz.ntmps71
 go_wp2_with (first
  | (go_at_call 66;go_must (refine hcd.mono ?_);rintro e' w2 ⟨rfl,ho2⟩;have HO2:Hid (Only [] ((w.alloc (.cells #[.int .i64 a,.int .i64 (T.g a:Nat)] 34)).alloc (.cells #[.int .i64 0,.int .i64 0] 34)) w2):=ho2;have hck:=HK.out w2 (HO1.out.trans ho2 (fun _ hk=>by cases hk));clear ho2 hcd)
  | (go_at_call 67;go_must (refine hck.mono ?_);rintro e' w3 ⟨rfl,ho3⟩;have HO3:Hid (Only [] ((w.alloc (.cells #[.int .i64 a,.int .i64 (T.g a:Nat)] 34)).alloc (.cells #[.int .i64 0,.int .i64 0] 34)) w3):=HO2.out.trans ho3 (fun _ hk=>by cases hk);have hfo:=first_none w3;clear ho3 hck)
  | (go_at_call 65;go_must (refine hfo.mono ?_);rintro e' w4 ⟨rfl,rfl⟩;have HO4:Hid (Only [] ((w.alloc (.cells #[.int .i64 a,.int .i64 (T.g a:Nat)] 34)).alloc (.cells #[.int .i64 0,.int .i64 0] 34)) (w3.alloc (.cells #[.nilIface,.nilIface] 27))):=HO3.out.alloc _;obtain ⟨l0,l1,l2⟩:=HL.out (w3.alloc (.cells #[.nilIface,.nilIface] 27)).drew ((HO1.out.trans HO4.out (fun _ hk=>by cases hk)).drew);obtain ⟨_,m1,m2⟩:=HL.out ((w3.alloc (.cells #[.nilIface,.nilIface] 27)).alloc (.cells #[.int .i64 0,.int .i64 0] 34)).drew (((HO1.out.trans HO4.out (fun _ hk=>by cases hk)).alloc _).drew);obtain ⟨y0,y1,v0,v1,vf,hyl⟩:=own_two (T:=T) (a:=a) HO3.out (by simp) (by simp);have k0:=(HL.out w3 (HO1.out.trans HO3.out (fun _ hk=>by cases hk))).1;have hy0:=lt_of_cell y0;have eN:=HEr.out w3 (HO1.out.trans HO3.out (fun _ hk=>by cases hk));have hen:=lt_of_cell eN;have hz0:0 < w3.heap.size:=(by have:=hyl;omega);have hk0:=lt_of_cell k0;clear hfo)
  | go_in)
 go_region
 go_wp2
 all_goals go_region
 all_goals go_wp2
 all_goals have hyl2:w.heap.size+1 < w3.heap.size+1:=Nat.lt_succ_of_lt hyl
 all_goals have HOW:Hid (Only [] w w3):=HO1.out.trans HO3.out (fun _ hk=>by cases hk)
 all_goals refine bodyPost_ret (v := .tuple #[.agg #[.int .i64 0,.int .i64 0],.iface 300 (.pointer (some (A 4)))]) (by simp [results,Tryz.results71,go_sem,v0,v1,hyl,hyl2]) rfl ⟨rfl,?_⟩
 all_goals repeat (first | exact HOW.out | refine Only.setCell ?_ (Or.inr (Nat.le_succ _)) _ | refine Only.alloc ?_ _ | refine Only.drew ?_)
def Tr.len (T:Tr)(i:Nat):Nat:=((T.ds i).map (·.l.length)).getD 0
theorem mapElem_none {v:Value}{ps:List MemPlace}(h:mapElem v=some (.lit (.int .i64 (-1)),ps)):v = .map none:=by
 unfold mapElem at h
 split at h
 · simp only [Option.some.injEq,Prod.mk.injEq,DataW.lit.injEq,Lit.int.injEq,true_and] at h
   omega
 · rfl
 · cases h
theorem look_nodir {w:World}{tr:Nat}{T:Tr}(h:TreeAt w tr T){a:Nat}(ha:a < T.p.N)(hd:T.ds a=none):(Instr.lookup 127 (.map (some T.db)) (.agg #[.int .i64 a,.int .i64 (T.g a:Nat)]) false).run Tryz.prog w = .ok (.map none) w:=by
 obtain ⟨D,n,d1,_,d3⟩:=h.dirs;obtain ⟨v,ps,hrun,hR⟩:=d1.lookup lawH undDirs (zeroDir _) (zd := .lit (.int .i64 (-1))) (zp:=[]) rfl (h.key ha)
 have e:T.dirsF (a,T.g a)=none:=by
  unfold Tr.dirsF;rw [if_pos rfl,hd];rfl
 rw [d3.look,e] at hR;rw [mapElem_none hR] at hrun;exact hrun
theorem look_len {w:World}{tr:Nat}{T:Tr}(h:TreeAt w tr T){i:Nat}(hi:i < T.p.N):∃ o,∀ W,Only [] w W→W.cell? ⟨tr,1,none⟩=some (.map (some T.db))∧(Instr.lookup 127 (.map (some T.db)) (.agg #[.int .i64 i,.int .i64 (T.g i:Nat)]) false).run Tryz.prog W = .ok (.map o) W∧(Builtin.len_ #[136] 3 #[.map o]).run Tryz.prog W = .ok (.int .i64 (T.len i:Nat)) W:=by
 cases hd:T.ds i with
 | none =>
  refine ⟨none,fun W ho=>⟨(h.only ho).c1,look_nodir (h.only ho) hi hd,?_⟩⟩
  have e:T.len i=0:=by unfold Tr.len;rw [hd];rfl
  rw [e];exact Maps.len_nil undNames _
 | some d =>
  refine ⟨some d.b,fun W ho=>⟨(h.only ho).c1,look_dir (h.only ho) hi hd,?_⟩⟩
  have e:T.len i=d.l.length:=by unfold Tr.len;rw [hd];rfl
  rw [e];exact len_dir ((h.only ho).dir i d hd) _
theorem own_box {w W:World}{N G:Int}{M:List Nat}(ho:Only M (w.alloc (.cells #[.int .i64 N,.int .i64 G] 34)) W)(h0:w.heap.size∉M):W.cell? ⟨w.heap.size,0,none⟩=some (.int .i64 N)∧W.cell? ⟨w.heap.size,1,none⟩=some (.int .i64 G):=by
 have hh:=heap_alloc_last w (.cells #[.int .i64 N,.int .i64 G] 34);exact ⟨(ho.cell (p:=⟨w.heap.size,0,none⟩) (by simp) h0).trans (cell_of_row _ _ 0 _ _ _ hh),(ho.cell (p:=⟨w.heap.size,1,none⟩) (by simp) h0).trans (cell_of_row _ _ 1 _ _ _ hh)⟩
section
variable (w:World)(tr db:Nat)(N G:Int)(s:ByteArray)(i c:Nat)(o:Option Nat)
theorem remove_err (ad:Addr)(hlk:∀ W,Only [] w W→Calls Tryz.prog 71 #[.pointer (some ⟨tr,0,none⟩),.agg #[.int .i64 N,.int .i64 G],.string s] W fun r w'=>r = .returned (.tuple #[.agg #[.int .i64 (i:Nat),.int .i64 (c:Nat)],errV ad])∧Only [] W w'):
  Calls Tryz.prog 20 #[.pointer (some ⟨tr,0,none⟩),.agg #[.int .i64 N,.int .i64 G],.string s] w fun e w'=>e = .returned (errV ad)∧Only [] w w':=by
 have HA:Hid (Only [] w (w.alloc (.cells #[.int .i64 N,.int .i64 G] 34))):=(Only.refl [] w).alloc _;have hlk1:=hlk _ HA.out;obtain ⟨x0,x1⟩:=own_box (N:=N) (G:=G) (Only.refl [] (w.alloc (.cells #[.int .i64 N,.int .i64 G] 34))) (by simp);clear hlk;unfold errV at hlk1 ⊢
 go_enter Tryz.func20,Tryz.ntmps20
 go_wp2_with (first
  | (go_at_call 71;go_must (refine hlk1.mono ?_);rintro e' w2 ⟨rfl,ho2⟩;have HO2:Hid (Only [] w w2):=only_nilT HA.out ho2;clear ho2 hlk1)
  | go_in)
 go_ret
 exact ⟨rfl,HO2.out.alloc _⟩
theorem remove_held (n:Nat)(ad:Addr)(hn:0 < n)(hE:w.cell? ⟨1,0,none⟩=some (errV ad))(hlk:∀ W,Only [] w W→Calls Tryz.prog 71 #[.pointer (some ⟨tr,0,none⟩),.agg #[.int .i64 N,.int .i64 G],.string s] W fun r w'=>r = .returned (.tuple #[.agg #[.int .i64 (i:Nat),.int .i64 (c:Nat)],.nilIface])∧Only [] W w')(hlen:∀ W,Only [] w W→W.cell? ⟨tr,1,none⟩=some (.map (some db))∧(Instr.lookup 127 (.map (some db)) (.agg #[.int .i64 (i:Nat),.int .i64 (c:Nat)]) false).run Tryz.prog W = .ok (.map o) W∧(Builtin.len_ #[136] 3 #[.map o]).run Tryz.prog W = .ok (.int .i64 (n:Nat)) W):
  Calls Tryz.prog 20 #[.pointer (some ⟨tr,0,none⟩),.agg #[.int .i64 N,.int .i64 G],.string s] w fun e w'=>e = .returned (errV ad)∧Only [] w w':=by
 have HA:Hid (Only [] w (w.alloc (.cells #[.int .i64 N,.int .i64 G] 34))):=(Only.refl [] w).alloc _;have hlk1:=hlk _ HA.out;obtain ⟨x0,x1⟩:=own_box (N:=N) (G:=G) (Only.refl [] (w.alloc (.cells #[.int .i64 N,.int .i64 G] 34))) (by simp);have HLEN:Hid (∀ W,Only [] w W→_):=hlen;have HE:Hid (w.cell? ⟨1,0,none⟩=some (errV ad)):=hE;have htl:tr < w.heap.size:=lt_of_cell (hlen w (Only.refl [] w)).1;have hel:1 < w.heap.size:=lt_of_cell hE;clear hlk hlen hE;unfold errV at HE ⊢
 go_enter Tryz.func20,Tryz.ntmps20
 go_wp2_with (first
  | (go_at_call 71;go_must (refine hlk1.mono ?_);rintro e' w2 ⟨rfl,ho2⟩;have HO2:Hid (Only [] w w2):=only_nilT HA.out ho2;obtain ⟨l0,l1,l2⟩:=HLEN.out (w2.alloc (.cells #[.int .i64 (i:Nat),.int .i64 (c:Nat)] 34)).drew (HO2.out.alloc _).drew;have hs2:w.heap.size < w2.heap.size:=Nat.lt_of_lt_of_le (by simp) ho2.size;have k0:=(HLEN.out w2 HO2.out).1;have hk0:=lt_of_cell k0;have eE:=(HO2.out.cell (p:=⟨1,0,none⟩) hel (by simp)).trans HE.out;have hE2:=lt_of_cell eE;clear ho2 hlk1)
  | go_in)
 all_goals go_region
 all_goals go_wp2
 all_goals go_ret
 all_goals refine ⟨rfl,?_⟩
 all_goals repeat (first | exact HO2.out | refine Only.alloc ?_ _ | refine Only.drew ?_)
theorem remove_go (L:List Nat)(R1 R2:World→Prop)(hlk:∀ W,Only [] w W→Calls Tryz.prog 71 #[.pointer (some ⟨tr,0,none⟩),.agg #[.int .i64 N,.int .i64 G],.string s] W fun r w'=>r = .returned (.tuple #[.agg #[.int .i64 (i:Nat),.int .i64 (c:Nat)],.nilIface])∧Only [] W w')(hlen:∀ W,Only [] w W→W.cell? ⟨tr,1,none⟩=some (.map (some db))∧(Instr.lookup 127 (.map (some db)) (.agg #[.int .i64 (i:Nat),.int .i64 (c:Nat)]) false).run Tryz.prog W = .ok (.map o) W∧(Builtin.len_ #[136] 3 #[.map o]).run Tryz.prog W = .ok (.int .i64 0) W)(hlo:∀ W,Only [] w W→Calls Tryz.prog 72 #[.pointer (some ⟨tr,0,none⟩),.agg #[.int .i64 N,.int .i64 G],.string s] W fun e w'=>e = .returned (.tuple #[])∧R1 w'∧Only L W w')(hto:∀ W,R1 W→Calls Tryz.prog 70 #[.pointer (some ⟨tr,0,none⟩),.agg #[.int .i64 N,.int .i64 G]] W fun e w'=>e = .returned (.tuple #[])∧R2 w'∧Only L W w')(hL:∀ k,w.heap.size≤k→k∉L):
  Calls Tryz.prog 20 #[.pointer (some ⟨tr,0,none⟩),.agg #[.int .i64 N,.int .i64 G],.string s] w fun e w'=>e = .returned .nilIface∧R2 w'∧Only L w w':=by
 have HA:Hid (Only [] w (w.alloc (.cells #[.int .i64 N,.int .i64 G] 34))):=(Only.refl [] w).alloc _;have hlk1:=hlk _ HA.out;obtain ⟨x0,x1⟩:=own_box (N:=N) (G:=G) (Only.refl [] (w.alloc (.cells #[.int .i64 N,.int .i64 G] 34))) (by simp);have HLEN:Hid (∀ W,Only [] w W→_):=hlen;have HLO:Hid (∀ W,Only [] w W→_):=hlo;have HTO:Hid (∀ W,R1 W→_):=hto;have HL:Hid (∀ k,w.heap.size≤k→k∉L):=hL;have htl:tr < w.heap.size:=lt_of_cell (hlen w (Only.refl [] w)).1;clear hlk hlen hlo hto hL
 go_enter Tryz.func20,Tryz.ntmps20
 go_wp2_with (first
  | (go_at_call 71;go_must (refine hlk1.mono ?_);rintro e' w2 ⟨rfl,ho2⟩;have HO1:Hid (Only [] (w.alloc (.cells #[.int .i64 N,.int .i64 G] 34)) w2):=ho2;have HO2:Hid (Only [] w w2):=only_nilT HA.out ho2;obtain ⟨l0,l1,l2⟩:=HLEN.out (w2.alloc (.cells #[.int .i64 (i:Nat),.int .i64 (c:Nat)] 34)).drew (HO2.out.alloc _).drew;obtain ⟨y0,y1⟩:=own_box (N:=N) (G:=G) ((ho2.alloc (.cells #[.int .i64 (i:Nat),.int .i64 (c:Nat)] 34)).drew) (by simp);have hs2:w.heap.size < w2.heap.size:=Nat.lt_of_lt_of_le (by simp) ho2.size;have k0:=(HLEN.out w2 HO2.out).1;have hk0:=lt_of_cell k0;have hlo4:=HLO.out (w2.alloc (.cells #[.int .i64 (i:Nat),.int .i64 (c:Nat)] 34)).drew (HO2.out.alloc _).drew;clear ho2 hlk1 x0 x1)
  | go_in)
 go_region
 all_goals go_wp2_with (first
  | (go_at_call 72;go_must (refine hlo4.mono ?_);rintro e' w5 ⟨rfl,r5,ho5⟩;have HO5:Hid (Only L w w5):=(((HO2.out.alloc _).drew).mono (fun _ hk=>by cases hk)).trans ho5 (fun k hk=>Or.inl hk);obtain ⟨z0,z1⟩:=own_box (N:=N) (G:=G) ((((HO1.out.alloc (.cells #[.int .i64 (i:Nat),.int .i64 (c:Nat)] 34)).drew).mono (L':=L) (fun _ hk=>by cases hk)).trans ho5 (fun k hk=>Or.inl hk)) (HL.out _ (Nat.le_refl _));have hto5:=HTO.out w5 r5;clear r5 ho5 hlo4 y0 y1 l0 l1 l2)
  | (go_at_call 70;go_must (refine hto5.mono ?_);rintro e' w6 ⟨rfl,r6,ho6⟩;have HR:Hid (R2 w6∧Only L w w6):=⟨r6,HO5.out.trans ho6 (fun k hk=>Or.inl hk)⟩;clear r6 ho6 hto5 z0 z1)
  | go_in)
 all_goals go_ret
 all_goals exact ⟨rfl,HR.out.1,HR.out.2⟩
end
theorem nodes_any (w:World)(tr:Nat)(T:Tr)(h:TreeAt w tr T):
  Calls Tryz.prog 17 #[.pointer (some ⟨tr,0,none⟩)] w fun e w'=>e = .returned (.int .i64 (countTo T.nd T.p.N:Nat))∧Only [] w w':=by
 have hcn:=tcount w T.t T.p T.most T.g T.nd h.tab h.small.N;have ct:=h.c0;have hle:=countTo_le T.nd T.p.N;clear h;generalize countTo T.nd T.p.N=cn at hcn hle ⊢
 go_enter Tryz.func17,Tryz.ntmps17
 go_wp2_with (go_at_call 64;go_must (refine hcn.mono ?_);rintro e w1 ⟨rfl,ho1⟩)
 go_ret
 exact ⟨rfl,ho1⟩
theorem root_any (w:World)(v:Value):Calls Tryz.prog 18 #[v] w fun e w'=>e = .returned (.agg #[.int .i64 0,.int .i64 0])∧Only [] w w':=by
 go_enter Tryz.func18,Tryz.ntmps18
 go_wp2
 have hh:=heap_alloc_last w (.cells #[.int .i64 0,.int .i64 0] 34);have c0:=cell_of_row _ _ 0 _ _ _ hh;have c1:=cell_of_row _ _ 1 _ _ _ hh
 first
  | exact bodyPost_ret (v := .agg #[.int .i64 0,.int .i64 0]) (by simp [results,Tryz.results18,go_sem,c0,c1]) rfl ⟨rfl,(Only.refl [] w).alloc _⟩
theorem HBox.fill {w:World}{B i c:Nat}(h:HBox w B i c)(j d:Nat):HBox ((w.setCell ⟨B,0,none⟩ (.int .i64 (j:Nat))).setCell ⟨B,1,none⟩ (.int .i64 (d:Nat))) B j d:=by
 have h1:=heap_setCell_same w B 0 _ _ (.int .i64 (j:Nat)) h;have h2:=heap_setCell_same _ B 1 _ _ (.int .i64 (d:Nat)) h1;unfold HBox;rw [h2];rfl
theorem HBox.other {w:World}{B i c b o:Nat}{v:Value}(h:HBox w B i c)(hb:B≠b):HBox (w.setCell ⟨b,o,none⟩ v) B i c :=
 h.kept ((Only.refl [b] w).setCell (p:=⟨b,o,none⟩) (Or.inl (List.mem_singleton.2 rfl)) v) (by simpa using hb)
theorem HBox.frozen {w:World}{B i c:Nat}(h:HBox w B i c)(o:Nat):w.frozen? ⟨B,o,none⟩=false:=frozen_of_row _ _ _ _ _ h
theorem any_no {ch:Nat→Nat}{i n:Nat}(h:∀ q,q < n→ch q≠i):((List.range n).any fun j=>ch j==i)=false:=by
 rw [List.any_eq_false];intro x hx;have:=h x (List.mem_range.1 hx)
 simpa using this
theorem any_yes {ch:Nat→Nat}{i n j:Nat}(hj:j < n)(h:ch j=i):((List.range n).any fun j=>ch j==i)=true:=by
 rw [List.any_eq_true];exact ⟨j,List.mem_range.2 hj,by simpa using h⟩
theorem isIn_any (w:World)(tr:Nat)(T:Tr)(ch:Nat→Nat)(i:Nat)(h:TreeAt w tr T)(hch:∀ j,∃ n,T.nd (ch j)=some n∧n.K=2∧n.UN=(ch (j+1):Nat)∧n.UG=(T.g (ch (j+1)):Nat)):
  Calls Tryz.prog 85 #[.pointer (some ⟨tr,0,none⟩),.agg #[.int .i64 (ch 0:Nat),.int .i64 (T.g (ch 0):Nat)],.agg #[.int .i64 (i:Nat),.int .i64 (T.g i:Nat)]] w fun e w'=>e = .returned (.bool ((List.range (countTo T.nd T.p.N)).any fun j=>ch j==i))∧Only [] w w':=by
 have hA:Only [] w ((w.alloc (.cells #[.int .i64 (ch 0:Nat),.int .i64 (T.g (ch 0):Nat)] 34)).alloc (.cells #[.int .i64 (i:Nat),.int .i64 (T.g i:Nat)] 34)):=((Only.refl [] w).alloc _).alloc _;have hcn:=nodes_any _ tr T (h.only hA);have hle:=Nat.le_trans (countTo_le T.nd T.p.N) h.small.N
 have HB:Hid (∀ W,Only [] ((w.alloc (.cells #[.int .i64 (ch 0:Nat),.int .i64 (T.g (ch 0):Nat)] 34)).alloc (.cells #[.int .i64 (i:Nat),.int .i64 (T.g i:Nat)] 34)) W→HBox W w.heap.size (ch 0) (T.g (ch 0))∧HBox W (w.heap.size+1) i (T.g i)):=fun W ho=>by
  have h1:=heap_alloc_last w (.cells #[.int .i64 (ch 0:Nat),.int .i64 (T.g (ch 0):Nat)] 34);have h2:=heap_alloc_last (w.alloc (.cells #[.int .i64 (ch 0:Nat),.int .i64 (T.g (ch 0):Nat)] 34)) (.cells #[.int .i64 (i:Nat),.int .i64 (T.g i:Nat)] 34);rw [World.size_alloc] at h2
  exact ⟨HBox.kept (show HBox _ w.heap.size (ch 0) (T.g (ch 0)) from h1) (only_nilT ((Only.refl [] _).alloc _) ho) (by simp),HBox.kept (show HBox _ (w.heap.size+1) i (T.g i) from h2) ho (by simp)⟩
 have HA:Hid (Only [] w ((w.alloc (.cells #[.int .i64 (ch 0:Nat),.int .i64 (T.g (ch 0):Nat)] 34)).alloc (.cells #[.int .i64 (i:Nat),.int .i64 (T.g i:Nat)] 34))):=hA
 have HTO:Hid (∀ j,∃ K z l c,∀ W,Only [] w W→Calls Tryz.prog 98 #[.pointer (some ⟨tr,0,none⟩),.agg #[.int .i64 (ch j:Nat),.int .i64 (T.g (ch j):Nat)]] W fun e w'=>e = .returned (.agg #[.int .i64 K,.int .i64 z,.int .i64 l,.int .i64 c,.int .i64 (ch (j+1):Nat),.int .i64 (T.g (ch (j+1)):Nat)])∧Only [] W w'):=fun j=>by
  obtain ⟨n,hn,hK,hU,hG⟩:=hch j;refine ⟨n.K,n.Z,n.L,n.C,fun W ho=>?_⟩;have:=told_ok W tr T (ch j) n n.Z (h.only ho) hn (Or.inr ⟨hK,rfl⟩);unfold attrV at this;rw [hU,hG] at this;exact this
 clear h hch hA;generalize countTo T.nd T.p.N=cn at hcn hle ⊢
 go_enter Tryz.func85,Tryz.ntmps85
 go_wp2_with (first
  | (go_at_call 17;go_must (refine hcn.mono ?_);rintro e w1 ⟨rfl,ho1⟩;have HO1:Hid (Only [] w w1∧_):=⟨only_nilT HA.out ho1,HB.out w1 ho1⟩;clear ho1 hcn))
 go_loopw [9] (fun k wr=>∃ j:Nat,k = .int .i64 j∧j≤cn∧(∀ q,q < j→ch q≠i)∧HBox wr w.heap.size (ch j) (T.g (ch j))∧HBox wr (w.heap.size+1) i (T.g i)∧Only [] w wr) (fun k _=>cn - (intOf k).toNat)
 case atStart=>exact ⟨0,rfl,Nat.zero_le _,(fun q hq=>by omega),HO1.out.2.1,HO1.out.2.2,HO1.out.1⟩
 case round =>
  obtain ⟨j,rfl,hj,hall,hb0,hb1,hor⟩:=hrel;have HAL:Hid (∀ q,q < j→ch q≠i):=hall;have HB0:Hid (HBox wr w.heap.size (ch j) (T.g (ch j))):=hb0;have HB1:Hid (HBox wr (w.heap.size+1) i (T.g i)):=hb1;have HOR:Hid (Only [] w wr):=hor;obtain ⟨x0,x1⟩:=hb0.cells;obtain ⟨y0,y1⟩:=hb1.cells;clear hall hb0 hb1 hor
  by_cases hlt:j < cn
  · by_cases he:ch j=i
    · have HY:Hid _:=any_yes (ch:=ch) hlt he
      rw [he] at x0 x1
      go_wp2
      go_ret
      exact ⟨by rw [HY.out];rfl,HOR.out⟩
    · have hne:((ch j:Nat):Int)≠(i:Nat):=fun e=>he (Int.ofNat_inj.1 e)
      have HNE:Hid (ch j≠i):=he;obtain ⟨K,z,l,c,hto⟩:=HTO.out j;have hto1:=hto wr HOR.out;clear hto;have hfu:∀ W:World,(Instr.field 111 (.agg #[.int .i64 K,.int .i64 z,.int .i64 l,.int .i64 c,.int .i64 (ch (j+1):Nat),.int .i64 (T.g (ch (j+1)):Nat)]) 4).run Tryz.prog W = .ok (.agg #[.int .i64 (ch (j+1):Nat),.int .i64 (T.g (ch (j+1)):Nat)]) W:=fun W=>fieldUp W _ _ _ _ _ _
      go_wp2_with (first
       | (go_at_call 98;go_must (refine hto1.mono ?_);rintro e w2 ⟨rfl,ho2⟩;have hb2:HBox w2 w.heap.size (ch j) (T.g (ch j)):=HB0.out.kept ho2 (by simp);have HB2:Hid (HBox w2 w.heap.size (ch j) (T.g (ch j))∧HBox w2 (w.heap.size+1) i (T.g i)∧Only [] w w2):=⟨hb2,HB1.out.kept ho2 (by simp),only_nilT HOR.out ho2⟩;have f0:=hb2.frozen;have hlt2:=hb2.lt;obtain ⟨z0,z1⟩:=hb2.cells;clear hto1 ho2 hb2 x0 x1 y0 y1))
      go_roundw
      case rel=>exact ⟨j+1,by go_num,by omega,(fun q hq=>by
           rcases Nat.lt_or_ge q j with h1 | h1
           · exact HAL.out q h1
           · obtain rfl:q=j:=by omega
             exact HNE.out),HB2.out.1.fill _ _,(HB2.out.2.1.other (by omega)).other (by omega),(HB2.out.2.2.setCell (Or.inr (Nat.le_refl _)) _).setCell (Or.inr (Nat.le_refl _)) _⟩
      case measure=>simp [intOf];omega
  · obtain rfl:cn=j:=by omega
    have HY:Hid _:=any_no (ch:=ch) HAL.out
    go_wp2
    go_ret
    exact ⟨by rw [HY.out];rfl,HOR.out⟩
end
end Go.Proofs.YtbdfjbmocifhmaaGreatDoor
