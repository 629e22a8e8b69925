import Derived.Test.YtmnidbnaneagjaaGreatDoorK17
set_option maxRecDepth 100000
set_option maxHeartbeats 8000000
namespace Go.Proofs.YtmnidbnaneagjaaGreatDoor
section
open Go Go.RowKit Go.Deep Go.Maps
theorem own_two {w W:World}{T:Tr}{a:Nat}{M:List Nat}(ho:Only M ((w.alloc (.cells #[.int .i64 a,.int .i64 (T.g a:Nat)] 94)).alloc (.cells #[.int .i64 0,.int .i64 0] 94)) W)(h0:w.heap.size∉M)(h1:w.heap.size+1∉M):W.cell? ⟨w.heap.size,0,none⟩=some (.int .i64 a)∧W.cell? ⟨w.heap.size,1,none⟩=some (.int .i64 (T.g a:Nat))∧W.cell? ⟨w.heap.size+1,0,none⟩=some (.int .i64 0)∧W.cell? ⟨w.heap.size+1,1,none⟩=some (.int .i64 0)∧(∀ o,W.frozen? ⟨w.heap.size+1,o,none⟩=false)∧w.heap.size+1 < W.heap.size:=by
 have hA:=heap_alloc_last w (.cells #[.int .i64 a,.int .i64 (T.g a:Nat)] 94);have hZ:=heap_alloc_last (w.alloc (.cells #[.int .i64 a,.int .i64 (T.g a:Nat)] 94)) (.cells #[.int .i64 0,.int .i64 0] 94);rw [World.size_alloc] at hZ;have oA:Only [] (w.alloc (.cells #[.int .i64 a,.int .i64 (T.g a:Nat)] 94)) ((w.alloc (.cells #[.int .i64 a,.int .i64 (T.g a:Nat)] 94)).alloc (.cells #[.int .i64 0,.int .i64 0] 94)):=(Only.refl [] _).alloc _
 have hl:w.heap.size+1 < (((w.alloc (.cells #[.int .i64 a,.int .i64 (T.g a:Nat)] 94)).alloc (.cells #[.int .i64 0,.int .i64 0] 94))).heap.size:=by simp
 have hl0:w.heap.size < (((w.alloc (.cells #[.int .i64 a,.int .i64 (T.g a:Nat)] 94)).alloc (.cells #[.int .i64 0,.int .i64 0] 94))).heap.size:=by simp;omega
 exact ⟨(ho.cell (p:=⟨w.heap.size,0,none⟩) hl0 h0).trans ((oA.cell (p:=⟨w.heap.size,0,none⟩) (by simp) (by simp)).trans (cell_of_row _ _ 0 _ _ _ hA)),(ho.cell (p:=⟨w.heap.size,1,none⟩) hl0 h0).trans ((oA.cell (p:=⟨w.heap.size,1,none⟩) (by simp) (by simp)).trans (cell_of_row _ _ 1 _ _ _ hA)),
  (ho.cell (p:=⟨w.heap.size+1,0,none⟩) hl h1).trans (cell_of_row _ _ 0 _ _ _ hZ),(ho.cell (p:=⟨w.heap.size+1,1,none⟩) hl h1).trans (cell_of_row _ _ 1 _ _ _ hZ),fun o=>(ho.frozen (p:=⟨w.heap.size+1,o,none⟩) hl h1).trans (frozen_of_row _ _ _ _ _ hZ),Nat.lt_of_lt_of_le hl ho.size⟩
theorem check_yes (s:ByteArray)(A:Nat→Addr)(w:World)(h:Errs w A)(hok:OkN s):Calls Tryz.prog 45 #[.string s] w fun e w'=>e = .returned .nilIface∧Only [] w w' :=
 (check_any s A w h).mono fun _ _ hh=>⟨hh.1.elim (fun x=>x.2) (fun x=>absurd hok x.1),Only.of_below hh.2 []⟩
theorem first_none (w:World):Calls Tryz.prog 265 #[.slice (some ⟨w.heap.size,0,none⟩) 2 2] (w.alloc (.cells #[.nilIface,.nilIface] 27)) fun e w'=>e = .returned .nilIface∧(w.alloc (.cells #[.nilIface,.nilIface] 27))=w' :=
 firstOf_any (w.alloc (.cells #[.nilIface,.nilIface] 27)) w.heap.size 2 2 [none,none] rfl (by decide) (fun j o hj=>by
  have hh:=heap_alloc_last w (.cells #[.nilIface,.nilIface] 27);rw [cell_of_row _ _ _ _ _ _ hh]
  match j,hj with
  | 0,hj=>simp at hj;subst hj;rfl
  | 1,hj=>simp at hj;subst hj;rfl
  | j+2,hj=>simp at hj)
theorem dir_yes {w:World}{tr:Nat}{T:Tr}{a:Nat}{na:Nod}(h:TreeAt w tr T)(ha:T.nd a=some na)(hKa:na.K=2):Calls Tryz.prog 266 #[.pointer (some ⟨tr,0,none⟩),.agg #[.int .i64 a,.int .i64 (T.g a:Nat)]] w fun e w'=>e = .returned .nilIface∧Only [] w w' :=
 checkDir_yes w tr T.t a (T.g a:Nat) na.Z na.L na.C na.UN na.UG h.c0 (fun w1 ho=>by
  have:=tattr_ok w1 T.t T.p T.most a T.g T.nd na na.Z (h.only ho).tab ha (Or.inr ⟨hKa,rfl⟩);rw [hKa] at this;unfold attrV at this
  exact this)
theorem own_box {w W:World}{N G:Int}{M:List Nat}(ho:Only M (w.alloc (.cells #[.int .i64 N,.int .i64 G] 94)) W)(h0:w.heap.size∉M):W.cell? ⟨w.heap.size,0,none⟩=some (.int .i64 N)∧W.cell? ⟨w.heap.size,1,none⟩=some (.int .i64 G):=by
 have hh:=heap_alloc_last w (.cells #[.int .i64 N,.int .i64 G] 94);exact ⟨(ho.cell (p:=⟨w.heap.size,0,none⟩) (by simp) h0).trans (cell_of_row _ _ 0 _ _ _ hh),(ho.cell (p:=⟨w.heap.size,1,none⟩) (by simp) h0).trans (cell_of_row _ _ 1 _ _ _ hh)⟩
theorem nodes_any (w:World)(tr:Nat)(T:Tr)(h:TreeAt w tr T):
  Calls Tryz.prog 17 #[.pointer (some ⟨tr,0,none⟩)] w fun e w'=>e = .returned (.int .i64 (countTo T.nd T.p.N:Nat))∧Only [] w w':=by
 have hcn:=tcount w T.t T.p T.most T.g T.nd h.tab h.small.N;have ct:=h.c0;have hle:=countTo_le T.nd T.p.N;clear h;generalize countTo T.nd T.p.N=cn at hcn hle ⊢
 go_enter Tryz.func17,Tryz.ntmps17
 go_wp2_with (go_at_call 36;go_must (refine hcn.mono ?_);rintro e w1 ⟨rfl,ho1⟩)
 go_ret
 exact ⟨rfl,ho1⟩
theorem root_any (w:World)(v:Value):Calls Tryz.prog 136 #[v] w fun e w'=>e = .returned (.agg #[.int .i64 0,.int .i64 0])∧Only [] w w':=by
 go_enter Tryz.func136,Tryz.ntmps136
 go_wp2
 have hh:=heap_alloc_last w (.cells #[.int .i64 0,.int .i64 0] 94);have c0:=cell_of_row _ _ 0 _ _ _ hh;have c1:=cell_of_row _ _ 1 _ _ _ hh
 first
  | exact bodyPost_ret (v := .agg #[.int .i64 0,.int .i64 0]) (by simp [results,Tryz.results136,go_sem,c0,c1]) rfl ⟨rfl,(Only.refl [] w).alloc _⟩
theorem HBox.fill {w:World}{B i c:Nat}(h:HBox w B i c)(j d:Nat):HBox ((w.setCell ⟨B,0,none⟩ (.int .i64 (j:Nat))).setCell ⟨B,1,none⟩ (.int .i64 (d:Nat))) B j d:=by
 have h1:=heap_setCell_same w B 0 _ _ (.int .i64 (j:Nat)) h;have h2:=heap_setCell_same _ B 1 _ _ (.int .i64 (d:Nat)) h1;unfold HBox;rw [h2];rfl
theorem HBox.other {w:World}{B i c b o:Nat}{v:Value}(h:HBox w B i c)(hb:B≠b):HBox (w.setCell ⟨b,o,none⟩ v) B i c :=
 h.kept ((Only.refl [b] w).setCell (p:=⟨b,o,none⟩) (Or.inl (List.mem_singleton.2 rfl)) v) (by simpa using hb)
theorem HBox.frozen {w:World}{B i c:Nat}(h:HBox w B i c)(o:Nat):w.frozen? ⟨B,o,none⟩=false:=frozen_of_row _ _ _ _ _ h
theorem any_no {ch:Nat→Nat}{i n:Nat}(h:∀ q,q < n→ch q≠i):((List.range n).any fun j=>ch j==i)=false:=by
 rw [List.any_eq_false];intro x hx;have:=h x (List.mem_range.1 hx)
 simpa using this
theorem any_yes {ch:Nat→Nat}{i n j:Nat}(hj:j < n)(h:ch j=i):((List.range n).any fun j=>ch j==i)=true:=by
 rw [List.any_eq_true];exact ⟨j,List.mem_range.2 hj,by simpa using h⟩
theorem isIn_any (w:World)(tr:Nat)(T:Tr)(ch:Nat→Nat)(i:Nat)(h:TreeAt w tr T)(hch:∀ j,∃ n,T.nd (ch j)=some n∧n.K=2∧n.UN=(ch (j+1):Nat)∧n.UG=(T.g (ch (j+1)):Nat)):
  Calls Tryz.prog 137 #[.pointer (some ⟨tr,0,none⟩),.agg #[.int .i64 (ch 0:Nat),.int .i64 (T.g (ch 0):Nat)],.agg #[.int .i64 (i:Nat),.int .i64 (T.g i:Nat)]] w fun e w'=>e = .returned (.bool ((List.range (countTo T.nd T.p.N)).any fun j=>ch j==i))∧Only [] w w':=by
 have hA:Only [] w ((w.alloc (.cells #[.int .i64 (ch 0:Nat),.int .i64 (T.g (ch 0):Nat)] 94)).alloc (.cells #[.int .i64 (i:Nat),.int .i64 (T.g i:Nat)] 94)):=((Only.refl [] w).alloc _).alloc _;have hcn:=nodes_any _ tr T (h.only hA);have hle:=Nat.le_trans (countTo_le T.nd T.p.N) h.small.N
 have HB:Hid (∀ W,Only [] ((w.alloc (.cells #[.int .i64 (ch 0:Nat),.int .i64 (T.g (ch 0):Nat)] 94)).alloc (.cells #[.int .i64 (i:Nat),.int .i64 (T.g i:Nat)] 94)) W→HBox W w.heap.size (ch 0) (T.g (ch 0))∧HBox W (w.heap.size+1) i (T.g i)):=fun W ho=>by
  have h1:=heap_alloc_last w (.cells #[.int .i64 (ch 0:Nat),.int .i64 (T.g (ch 0):Nat)] 94);have h2:=heap_alloc_last (w.alloc (.cells #[.int .i64 (ch 0:Nat),.int .i64 (T.g (ch 0):Nat)] 94)) (.cells #[.int .i64 (i:Nat),.int .i64 (T.g i:Nat)] 94);rw [World.size_alloc] at h2
  exact ⟨HBox.kept (show HBox _ w.heap.size (ch 0) (T.g (ch 0)) from h1) (only_nilT ((Only.refl [] _).alloc _) ho) (by simp),HBox.kept (show HBox _ (w.heap.size+1) i (T.g i) from h2) ho (by simp)⟩
 have HA:Hid (Only [] w ((w.alloc (.cells #[.int .i64 (ch 0:Nat),.int .i64 (T.g (ch 0):Nat)] 94)).alloc (.cells #[.int .i64 (i:Nat),.int .i64 (T.g i:Nat)] 94))):=hA
 have HTO:Hid (∀ j,∃ K z l c,∀ W,Only [] w W→Calls Tryz.prog 148 #[.pointer (some ⟨tr,0,none⟩),.agg #[.int .i64 (ch j:Nat),.int .i64 (T.g (ch j):Nat)]] W fun e w'=>e = .returned (.agg #[.int .i64 K,.int .i64 z,.int .i64 l,.int .i64 c,.int .i64 (ch (j+1):Nat),.int .i64 (T.g (ch (j+1)):Nat)])∧Only [] W w'):=fun j=>by
  obtain ⟨n,hn,hK,hU,hG⟩:=hch j;refine ⟨n.K,n.Z,n.L,n.C,fun W ho=>?_⟩;have:=told_ok W tr T (ch j) n n.Z (h.only ho) hn (Or.inr ⟨hK,rfl⟩);unfold attrV at this;rw [hU,hG] at this;exact this
 clear h hch hA;generalize countTo T.nd T.p.N=cn at hcn hle ⊢
 go_enter Tryz.func137,Tryz.ntmps137
 go_wp2_with (first
  | (go_at_call 17;go_must (refine hcn.mono ?_);rintro e w1 ⟨rfl,ho1⟩;have HO1:Hid (Only [] w w1∧_):=⟨only_nilT HA.out ho1,HB.out w1 ho1⟩;clear ho1 hcn))
 go_loopw [9] (fun k wr=>∃ j:Nat,k = .int .i64 j∧j≤cn∧(∀ q,q < j→ch q≠i)∧HBox wr w.heap.size (ch j) (T.g (ch j))∧HBox wr (w.heap.size+1) i (T.g i)∧Only [] w wr) (fun k _=>cn - (intOf k).toNat)
 case atStart=>exact ⟨0,rfl,Nat.zero_le _,(fun q hq=>by omega),HO1.out.2.1,HO1.out.2.2,HO1.out.1⟩
 case round =>
  obtain ⟨j,rfl,hj,hall,hb0,hb1,hor⟩:=hrel;have HAL:Hid (∀ q,q < j→ch q≠i):=hall;have HB0:Hid (HBox wr w.heap.size (ch j) (T.g (ch j))):=hb0;have HB1:Hid (HBox wr (w.heap.size+1) i (T.g i)):=hb1;have HOR:Hid (Only [] w wr):=hor;obtain ⟨x0,x1⟩:=hb0.cells;obtain ⟨y0,y1⟩:=hb1.cells;clear hall hb0 hb1 hor
  by_cases hlt:j < cn
  · by_cases he:ch j=i
    · have HY:Hid _:=any_yes (ch:=ch) hlt he
      rw [he] at x0 x1
      go_wp2
      go_ret
      exact ⟨by rw [HY.out];rfl,HOR.out⟩
    · have hne:((ch j:Nat):Int)≠(i:Nat):=fun e=>he (Int.ofNat_inj.1 e)
      have HNE:Hid (ch j≠i):=he;obtain ⟨K,z,l,c,hto⟩:=HTO.out j;have hto1:=hto wr HOR.out;clear hto;have hfu:∀ W:World,(Instr.field 293 (.agg #[.int .i64 K,.int .i64 z,.int .i64 l,.int .i64 c,.int .i64 (ch (j+1):Nat),.int .i64 (T.g (ch (j+1)):Nat)]) 4).run Tryz.prog W = .ok (.agg #[.int .i64 (ch (j+1):Nat),.int .i64 (T.g (ch (j+1)):Nat)]) W:=fun W=>fieldUp W _ _ _ _ _ _
      go_wp2_with (first
       | (go_at_call 148;go_must (refine hto1.mono ?_);rintro e w2 ⟨rfl,ho2⟩;have hb2:HBox w2 w.heap.size (ch j) (T.g (ch j)):=HB0.out.kept ho2 (by simp);have HB2:Hid (HBox w2 w.heap.size (ch j) (T.g (ch j))∧HBox w2 (w.heap.size+1) i (T.g i)∧Only [] w w2):=⟨hb2,HB1.out.kept ho2 (by simp),only_nilT HOR.out ho2⟩;have f0:=hb2.frozen;have hlt2:=hb2.lt;obtain ⟨z0,z1⟩:=hb2.cells;clear hto1 ho2 hb2 x0 x1 y0 y1))
      go_roundw
      case rel=>exact ⟨j+1,by go_num,by omega,(fun q hq=>by
           rcases Nat.lt_or_ge q j with h1 | h1
           · exact HAL.out q h1
           · obtain rfl:q=j:=by omega
             exact HNE.out),HB2.out.1.fill _ _,(HB2.out.2.1.other (by omega)).other (by omega),(HB2.out.2.2.setCell (Or.inr (Nat.le_refl _)) _).setCell (Or.inr (Nat.le_refl _)) _⟩
      case measure=>simp [intOf];omega
  · obtain rfl:cn=j:=by omega
    have HY:Hid _:=any_no (ch:=ch) HAL.out
    go_wp2
    go_ret
    exact ⟨by rw [HY.out];rfl,HOR.out⟩
end
end Go.Proofs.YtmnidbnaneagjaaGreatDoor
