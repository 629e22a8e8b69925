import Derived.Test.YtbdfjbmocifhmaaGreatDoorK23
set_option maxRecDepth 100000
set_option maxHeartbeats 8000000
namespace Go.Proofs.YtbdfjbmocifhmaaGreatDoor
section
open Go Go.RowKit Go.Deep Go.Maps
theorem HBox.fill {w:World}{B i c:Nat}(h:HBox w B i c)(j d:Nat):HBox ((w.setCell ⟨B,0,none⟩ (.int .i64 (j:Nat))).setCell ⟨B,1,none⟩ (.int .i64 (d:Nat))) B j d:=by
 have h1:=heap_setCell_same w B 0 _ _ (.int .i64 (j:Nat)) h;have h2:=heap_setCell_same _ B 1 _ _ (.int .i64 (d:Nat)) h1;unfold HBox;rw [h2];rfl
theorem HBox.other {w:World}{B i c b o:Nat}{v:Value}(h:HBox w B i c)(hb:B≠b):HBox (w.setCell ⟨b,o,none⟩ v) B i c :=
 h.kept ((Only.refl [b] w).setCell (p:=⟨b,o,none⟩) (Or.inl (List.mem_singleton.2 rfl)) v) (by simpa using hb)
theorem HBox.frozen {w:World}{B i c:Nat}(h:HBox w B i c)(o:Nat):w.frozen? ⟨B,o,none⟩=false:=frozen_of_row _ _ _ _ _ h
theorem any_no {ch:Nat→Nat}{i n:Nat}(h:∀ q,q < n→ch q≠i):((List.range n).any fun j=>ch j==i)=false:=by
 rw [List.any_eq_false];intro x hx;have:=h x (List.mem_range.1 hx)
 simpa using this
theorem any_yes {ch:Nat→Nat}{i n j:Nat}(hj:j < n)(h:ch j=i):((List.range n).any fun j=>ch j==i)=true:=by
 rw [List.any_eq_true];exact ⟨j,List.mem_range.2 hj,by simpa using h⟩
theorem isIn_any (w:World)(tr:Nat)(T:Tr)(ch:Nat→Nat)(i:Nat)(h:TreeAt w tr T)(hch:∀ j,∃ n,T.nd (ch j)=some n∧n.K=2∧n.UN=(ch (j+1):Nat)∧n.UG=(T.g (ch (j+1)):Nat)):
  Calls Tryz.prog 85 #[.pointer (some ⟨tr,0,none⟩),.agg #[.int .i64 (ch 0:Nat),.int .i64 (T.g (ch 0):Nat)],.agg #[.int .i64 (i:Nat),.int .i64 (T.g i:Nat)]] w fun e w'=>e = .returned (.bool ((List.range (countTo T.nd T.p.N)).any fun j=>ch j==i))∧Only [] w w':=by
 have hA:Only [] w ((w.alloc (.cells #[.int .i64 (ch 0:Nat),.int .i64 (T.g (ch 0):Nat)] 34)).alloc (.cells #[.int .i64 (i:Nat),.int .i64 (T.g i:Nat)] 34)):=((Only.refl [] w).alloc _).alloc _;have hcn:=nodes_any _ tr T (h.only hA);have hle:=Nat.le_trans (countTo_le T.nd T.p.N) h.small.N
 have HB:Hid (∀ W,Only [] ((w.alloc (.cells #[.int .i64 (ch 0:Nat),.int .i64 (T.g (ch 0):Nat)] 34)).alloc (.cells #[.int .i64 (i:Nat),.int .i64 (T.g i:Nat)] 34)) W→HBox W w.heap.size (ch 0) (T.g (ch 0))∧HBox W (w.heap.size+1) i (T.g i)):=fun W ho=>by
  have h1:=heap_alloc_last w (.cells #[.int .i64 (ch 0:Nat),.int .i64 (T.g (ch 0):Nat)] 34);have h2:=heap_alloc_last (w.alloc (.cells #[.int .i64 (ch 0:Nat),.int .i64 (T.g (ch 0):Nat)] 34)) (.cells #[.int .i64 (i:Nat),.int .i64 (T.g i:Nat)] 34);rw [World.size_alloc] at h2
  exact ⟨HBox.kept (show HBox _ w.heap.size (ch 0) (T.g (ch 0)) from h1) (only_nilT ((Only.refl [] _).alloc _) ho) (by simp),HBox.kept (show HBox _ (w.heap.size+1) i (T.g i) from h2) ho (by simp)⟩
 have HA:Hid (Only [] w ((w.alloc (.cells #[.int .i64 (ch 0:Nat),.int .i64 (T.g (ch 0):Nat)] 34)).alloc (.cells #[.int .i64 (i:Nat),.int .i64 (T.g i:Nat)] 34))):=hA
 have HTO:Hid (∀ j,∃ K z l c,∀ W,Only [] w W→Calls Tryz.prog 98 #[.pointer (some ⟨tr,0,none⟩),.agg #[.int .i64 (ch j:Nat),.int .i64 (T.g (ch j):Nat)]] W fun e w'=>e = .returned (.agg #[.int .i64 K,.int .i64 z,.int .i64 l,.int .i64 c,.int .i64 (ch (j+1):Nat),.int .i64 (T.g (ch (j+1)):Nat)])∧Only [] W w'):=fun j=>by
  obtain ⟨n,hn,hK,hU,hG⟩:=hch j;refine ⟨n.K,n.Z,n.L,n.C,fun W ho=>?_⟩;have:=told_ok W tr T (ch j) n n.Z (h.only ho) hn (Or.inr ⟨hK,rfl⟩);unfold attrV at this;rw [hU,hG] at this;exact this
 clear h hch hA;generalize countTo T.nd T.p.N=cn at hcn hle ⊢
 go_enter Tryz.func85,Tryz.ntmps85
 go_wp2_with (first
  | (go_at_call 17;go_must (refine hcn.mono ?_);rintro e w1 ⟨rfl,ho1⟩;have HO1:Hid (Only [] w w1∧_):=⟨only_nilT HA.out ho1,HB.out w1 ho1⟩;clear ho1 hcn))
 go_loopw [9] (fun k wr=>∃ j:Nat,k = .int .i64 j∧j≤cn∧(∀ q,q < j→ch q≠i)∧HBox wr w.heap.size (ch j) (T.g (ch j))∧HBox wr (w.heap.size+1) i (T.g i)∧Only [] w wr) (fun k _=>cn - (intOf k).toNat)
 case atStart=>exact ⟨0,rfl,Nat.zero_le _,(fun q hq=>by omega),HO1.out.2.1,HO1.out.2.2,HO1.out.1⟩
 case round =>
  obtain ⟨j,rfl,hj,hall,hb0,hb1,hor⟩:=hrel;have HAL:Hid (∀ q,q < j→ch q≠i):=hall;have HB0:Hid (HBox wr w.heap.size (ch j) (T.g (ch j))):=hb0;have HB1:Hid (HBox wr (w.heap.size+1) i (T.g i)):=hb1;have HOR:Hid (Only [] w wr):=hor;obtain ⟨x0,x1⟩:=hb0.cells;obtain ⟨y0,y1⟩:=hb1.cells;clear hall hb0 hb1 hor
  by_cases hlt:j < cn
  · by_cases he:ch j=i
    · have HY:Hid _:=any_yes (ch:=ch) hlt he
      rw [he] at x0 x1
      go_wp2
      go_ret
      exact ⟨by rw [HY.out];rfl,HOR.out⟩
    · have hne:((ch j:Nat):Int)≠(i:Nat):=fun e=>he (Int.ofNat_inj.1 e)
      have HNE:Hid (ch j≠i):=he;obtain ⟨K,z,l,c,hto⟩:=HTO.out j;have hto1:=hto wr HOR.out;clear hto;have hfu:∀ W:World,(Instr.field 111 (.agg #[.int .i64 K,.int .i64 z,.int .i64 l,.int .i64 c,.int .i64 (ch (j+1):Nat),.int .i64 (T.g (ch (j+1)):Nat)]) 4).run Tryz.prog W = .ok (.agg #[.int .i64 (ch (j+1):Nat),.int .i64 (T.g (ch (j+1)):Nat)]) W:=fun W=>fieldUp W _ _ _ _ _ _
      go_wp2_with (first
       | (go_at_call 98;go_must (refine hto1.mono ?_);rintro e w2 ⟨rfl,ho2⟩;have hb2:HBox w2 w.heap.size (ch j) (T.g (ch j)):=HB0.out.kept ho2 (by simp);have HB2:Hid (HBox w2 w.heap.size (ch j) (T.g (ch j))∧HBox w2 (w.heap.size+1) i (T.g i)∧Only [] w w2):=⟨hb2,HB1.out.kept ho2 (by simp),only_nilT HOR.out ho2⟩;have f0:=hb2.frozen;have hlt2:=hb2.lt;obtain ⟨z0,z1⟩:=hb2.cells;clear hto1 ho2 hb2 x0 x1 y0 y1))
      go_roundw
      case rel=>exact ⟨j+1,by go_num,by omega,(fun q hq=>by
           rcases Nat.lt_or_ge q j with h1 | h1
           · exact HAL.out q h1
           · obtain rfl:q=j:=by omega
             exact HNE.out),HB2.out.1.fill _ _,(HB2.out.2.1.other (by omega)).other (by omega),(HB2.out.2.2.setCell (Or.inr (Nat.le_refl _)) _).setCell (Or.inr (Nat.le_refl _)) _⟩
      case measure=>simp [intOf];omega
  · obtain rfl:cn=j:=by omega
    have HY:Hid _:=any_no (ch:=ch) HAL.out
    go_wp2
    go_ret
    exact ⟨by rw [HY.out];rfl,HOR.out⟩
end
end Go.Proofs.YtbdfjbmocifhmaaGreatDoor
