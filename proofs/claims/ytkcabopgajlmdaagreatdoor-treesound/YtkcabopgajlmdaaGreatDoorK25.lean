import Derived.Lib.Strings
import Derived.Test.YtkcabopgajlmdaaGreatDoorK1
import Derived.Deep.AppendLies
set_option maxRecDepth 100000
set_option maxHeartbeats 8000000
namespace Go.Proofs.YtkcabopgajlmdaaGreatDoor
section
open Go Go.RowKit Go.Deep
theorem zeros_all (k:Nat)(w:World)(hk:k≤5000):zK 94 #[zI k] w fun e w'=>e = .returned (.string (zer k))∧Below w.heap.size w w':=by
 have hmk:=run_make_row' (P:=Tryz.prog) 183 5 (.int .u8 0) 1 Tryz.underlying183 Tryz.info5 rfl .i64 .i64 k (by omega) (by omega)
 have hcv:=run_convert_bytes_back (P:=Tryz.prog) (w.alloc (.cells (madeCells #[.int .u8 0] k) 5)) 183 9 5 ⟨w.heap.size,0,none⟩ k (List.replicate k 0) Tryz.underlying183 Tryz.underlying5 Tryz.underlying9 (fun x hx=>by
  have hx':x < k:=by simpa using hx
  have:=(World.rowIs_made w (.int .u8 0) k 5).cell hx';rw [addr_head,this]
  simp)
 rw [List.length_replicate] at hcv;have hcv':(convert 183 9 (.slice (some ⟨w.heap.size,0,none⟩) k k)).run Tryz.prog (w.alloc (.cells (madeCells #[.int .u8 0] k) 5)) = .ok (.string (zer k)) (w.alloc (.cells (madeCells #[.int .u8 0] k) 5)):=hcv;clear hcv
 go_enter Tryz.func94,Tryz.ntmps94
 go_wp2
 go_ret
 exact ⟨rfl,(Below.refl _ _).alloc (Nat.le_refl _) _⟩
def RestN (R:Nat→Option Value)(w:World)(g:Nat):Prop:=(∀ j,j≠4→j≠5→w.cell? ⟨g,j,none⟩=R j)∧∃ cs,w.heap[g]?=some (.cells cs 84 (0,0))
theorem RestN.block {R:Nat→Option Value}{w w':World}{g:Nat}(h:RestN R w g)(hb:w'.heap[g]?=w.heap[g]?):RestN R w' g :=
 ⟨fun j h1 h2=>(World.cell?_of_block (w:=w) (a:=⟨g,j,none⟩) hb).trans (h.1 j h1 h2),by obtain ⟨cs,hc⟩:=h.2;exact ⟨cs,hb.trans hc⟩⟩
theorem RestN.set {R:Nat→Option Value}{w:World}{g k:Nat}(h:RestN R w g)(hk:k=4∨k=5)(u:Value):RestN R (w.setCell ⟨g,k,none⟩ u) g :=
 ⟨fun j h1 h2=>by rw [World.cell?_setCell_other _ _ _ _ (by first | (simp;omega) | (rcases hk with rfl | rfl<;>simp_all))];exact h.1 j h1 h2,by
  obtain ⟨cs,hc⟩:=h.2
  exact ⟨_,heap_setCell_same w g k _ _ _ hc⟩⟩
theorem RestN.other {R:Nat→Option Value}{w:World}{g:Nat}(h:RestN R w g){a:Addr}(ha:a.block≠g)(u:Value):RestN R (w.setCell a u) g :=
 h.block (Below.heap_setCell w a u g (fun e=>ha e.symm))
variable {R:Nat→Option Value}
structure BytesN (R:Nat→Option Value)(w:World)(base g:Nat)(S:ByteArray)(H:List Bool)(v:Value):Prop where
 text:w.cell? (zA g 4)=some (.string S)
 row:w.cell? (zA g 5)=some v
 fz:∀ o,w.frozen? ⟨g,o,none⟩=false
 owns:w.ownsRow base 4 1 v H.length (H.map Value.bool)
 lt:g < base
 rest:RestN R w g
def footN (g:Nat)(v:Value):List Nat:=g::v.ownBlock.toList
theorem BytesN.kept {w w':World}{base g:Nat}{S:ByteArray}{H:List Bool}{v:Value}{L:List Nat}(h:BytesN R w base g S H v)(ho:Only L w w')(hd:∀ k∈footN g v,k∉L):BytesN R w' base g S H v :=
 ⟨(ho.cell (p:=⟨g,4,none⟩) (zv h.text) (hd g (List.mem_cons_self ..))).trans h.text,(ho.cell (p:=⟨g,5,none⟩) (zv h.row) (hd g (List.mem_cons_self ..))).trans h.row,
  fun o=>(ho.frozen (p:=⟨g,o,none⟩) (show g < w.heap.size from zv h.text) (hd g (List.mem_cons_self ..))).trans (h.fz o),
  ho.owns h.owns (fun k hk=>hd k (List.mem_cons_of_mem _ (by rw [hk];simp))),h.lt,h.rest.block (ho.block g (show g < w.heap.size from zv h.text) (hd g (List.mem_cons_self ..)))⟩
variable {R:Nat→Option Value}
theorem nresize_bound (w:World)(g:Nat)(n:Int)(h:n < 0∨4096 < n):zE 73 #[.pointer (some ⟨g,4,none⟩),zI n] w (zI 2):=by
 rcases h with h | h
 · have hd:decide (n < 0)=true:=decide_eq_true h
   go_enter Tryz.func73,Tryz.ntmps73
   go_wp2
   go_ret
   exact ⟨rfl,rfl⟩
 · have hd:decide (n < 0)=false:=decide_eq_false (by omega)
   have hd':decide (4096 < n)=true:=decide_eq_true h
   go_enter Tryz.func73,Tryz.ntmps73
   go_wp2
   go_ret
   exact ⟨rfl,rfl⟩
theorem nresize_more (w:World)(g:Nat)(S:ByteArray)(n:Nat)(hc:w.cell? (zA g 4)=some (.string S))(hf:∀ o,w.frozen? ⟨g,o,none⟩=false)(hn:n≤4096)(h:S.size≤n):
  zK 73 #[.pointer (some ⟨g,4,none⟩),zI n] w fun e w'=>e = .returned (zI 0)∧∃ w1,Below w.heap.size w w1∧w'=w1.setCell (zA g 4) (.string (S++zer (n - S.size))):=by
 have hd:decide ((n:Int) < 0)=false:=decide_eq_false (by omega);have hd':decide (4096 < (n:Int))=false:=decide_eq_false (by omega);have hz:=fun W=>zeros_all (n - S.size) W (by omega);have hzs:(zer (n - S.size)).size=n - S.size:=zer_size _;have hlt:g < w.heap.size:=zv hc;generalize zer (n - S.size)=Z at hz hzs ⊢;obtain ⟨k,hk⟩:∃ k,n - S.size=k:=⟨_,rfl⟩
 have hk':(n:Int) - (S.size:Int)=(k:Int):=by omega
 have hkb:k≤4096:=by omega
 have hwk:IntKind.i64.wrap (k:Int)=(k:Int):=by simp [IntKind.wrap,IntKind.signed,IntKind.bits];omega
 rw [hk] at hz hzs;have hadd:∀ W:World,(Op.stringOp .add S Z).run Tryz.prog W = .ok (.string (S++Z)) W:=fun W=>run_string_add W S Z (by omega) (by omega)
 go_enter Tryz.func73,Tryz.ntmps73
 go_wp2
 go_region_with (go_at_call 94;refine (hz _).mono ?_;rintro e w1 ⟨rfl,hb⟩;have k1:w1.cell? (zA g 4)=some (.string S):=(hb.cell (p:=⟨g,4,none⟩) hlt).trans hc;have k2:w1.frozen? ⟨g,4,none⟩=false:=(hb.frozen (p:=⟨g,4,none⟩) hlt).trans (hf 4))
 all_goals
  go_wp2
  go_ret
  exact ⟨rfl,w1,below_from_drew hb,rfl⟩
theorem BytesN.retext {w:World}{base g:Nat}{S:ByteArray}{H:List Bool}{v:Value}(h:BytesN R w base g S H v)(S':ByteArray):BytesN R (w.setCell (zA g 4) (.string S')) base g S' H v∧Only (footN g v) w (w.setCell (zA g 4) (.string S')) :=
 ⟨⟨World.cell?_setCell_same _ _ _ h.text,by rw [World.cell?_setCell_other _ _ _ _ (by simp)];exact h.row,fun o=>by have:=h.fz o;simpa using this,ownsRow_setCell_below h.owns h.lt _,h.lt,h.rest.set (Or.inl rfl) _⟩,
  (Only.refl (footN g v) w).setCell (p:=⟨g,4,none⟩) (Or.inl (by simp [footN])) _⟩
theorem BytesN.rehole {w:World}{base g gh cap n:Nat}{S:ByteArray}{H:List Bool}(h:BytesN R w base g S H (.slice (some ⟨gh,0,none⟩) n cap))(hn:n=H.length)(j:Nat)(b:Bool):BytesN R (w.setCell ⟨gh,j,none⟩ (.bool b)) base g S (H.set j b) (.slice (some ⟨gh,0,none⟩) n cap)∧Only (footN g (.slice (some ⟨gh,0,none⟩) n cap)) w (w.setCell ⟨gh,j,none⟩ (.bool b)):=by
 have hgh:base≤gh:=(h.owns.lt gh rfl).1
 have hne:gh≠g:=by have:=h.lt;omega
 subst hn;refine ⟨⟨?_,?_,fun o=>?_,?_,h.lt,h.rest.other hne _⟩,(Only.refl _ _).setCell (Or.inl (List.mem_cons_of_mem _ (by simp [Value.ownBlock]))) _⟩
 · rw [World.cell?_setCell_other _ _ _ _ (fun k=>hne (congrArg Addr.block k))]
   exact h.text
 · rw [World.cell?_setCell_other _ _ _ _ (fun k=>hne (congrArg Addr.block k))]
   exact h.row
 · have:=h.fz o
   simpa using this
 · have:=(h.owns.stored j (.bool b)).1
   rw [List.length_set,List.map_set];exact this
variable {R:Nat→Option Value}
theorem nresize_nil (w:World)(g:Nat)(S:ByteArray)(n:Nat)(hc:w.cell? (zA g 4)=some (.string S))(hr:w.cell? (zA g 5)=some (.slice none 0 0))(hf:∀ o,w.frozen? ⟨g,o,none⟩=false)(hS:S.size≤4096)(h:n < S.size):
  zK 73 #[.pointer (some ⟨g,4,none⟩),zI n] w fun e w'=>e = .returned (zI 0)∧w'=w.setCell (zA g 4) (.string (S.extract 0 n)):=by
 have hd:decide ((n:Int) < 0)=false:=decide_eq_false (by omega);have hd':decide (4096 < (n:Int))=false:=decide_eq_false (by omega);have hf0:=hf 4
 have r2:(w.setCell (zA g 4) (.string (S.extract 0 n))).cell? (zA g 5)=some (.slice none 0 0):=by rw [World.cell?_setCell_other _ _ _ _ (by simp)];exact hr
 go_enter Tryz.func73,Tryz.ntmps73
 go_wp2
 refine wp_loop_rounds 1 ?_;rw [rounds_succ]
 go_wp2
 go_ret
 exact ⟨rfl,rfl⟩
theorem nresize_some (w:World)(base g gh cap:Nat)(S:ByteArray)(H:List Bool)(n:Nat)(hB:BytesN R w base g S H (.slice (some ⟨gh,0,none⟩) H.length cap))(hS:S.size≤4096)(hH:H.length≤1000)(h:n < S.size):
  zK 73 #[.pointer (some ⟨g,4,none⟩),zI n] w fun e w'=>e = .returned (zI 0)∧BytesN R w' base g (S.extract 0 n) (shrinkTo H n H.length) (.slice (some ⟨gh,0,none⟩) H.length cap)∧Only (footN g (.slice (some ⟨gh,0,none⟩) H.length cap)) w w':=by
 have hd:decide ((n:Int) < 0)=false:=decide_eq_false (by omega);have hd':decide (4096 < (n:Int))=false:=decide_eq_false (by omega);have hc:=hB.text;have hr:=hB.row;have hf0:=hB.fz 4;obtain ⟨h1,h2⟩:=hB.retext (S.extract 0 n);have H1:Hid (BytesN R (w.setCell (zA g 4) (.string (S.extract 0 n))) base g (S.extract 0 n) H (.slice (some ⟨gh,0,none⟩) H.length cap)):=h1;have H2:Hid (Only (footN g (.slice (some ⟨gh,0,none⟩) H.length cap)) w (w.setCell (zA g 4) (.string (S.extract 0 n)))):=h2;clear h1 h2 hB
 go_enter Tryz.func73,Tryz.ntmps73
 go_wp2
 clear hc hr hf0 hd hd'
 go_loopw [5] (fun i wr=>∃ j:Nat,j≤H.length∧i=zI j∧BytesN R wr base g (S.extract 0 n) (shrinkTo H n j) (.slice (some ⟨gh,0,none⟩) H.length cap)∧Only (footN g (.slice (some ⟨gh,0,none⟩) H.length cap)) w wr) (fun i _=>H.length - (intOf i).toNat)
 case atStart=>exact ⟨0,Nat.zero_le _,rfl,by rw [shrinkTo_zero];exact H1.out,H2.out⟩
 case round =>
  obtain ⟨j,hj,rfl,I,O⟩:=hrel;clear H1 H2;have hr:=I.row;have HI:Hid (BytesN R wr base g (S.extract 0 n) (shrinkTo H n j) (.slice (some ⟨gh,0,none⟩) H.length cap)):=I;have HO:Hid (Only (footN g (.slice (some ⟨gh,0,none⟩) H.length cap)) w wr):=O
  by_cases hlt:j < H.length
  · by_cases hge:n≤j*64
    · have ho:=I.owns
      rw [shrinkTo_len] at ho
      have c1:wr.cell? ⟨gh,j,none⟩=some (.bool ((shrinkTo H n j)[j]'(by rw [shrinkTo_len];exact hlt))):=by
       rw [ho.cellAt j (by omega)];simp [shrinkTo_len,hlt]
      have cf:=ho.frozenAt j;have nx:=I.rehole (shrinkTo_len H n j).symm j true;rw [shrinkTo_yes H n j hge] at nx;have HN:Hid (BytesN R (wr.setCell ⟨gh,j,none⟩ (.bool true)) base g (S.extract 0 n) (shrinkTo H n (j+1)) (.slice (some ⟨gh,0,none⟩) H.length cap)):=nx.1;have HN2:Hid (Only (footN g (.slice (some ⟨gh,0,none⟩) H.length cap)) w (wr.setCell ⟨gh,j,none⟩ (.bool true))):=HO.out.trans nx.2 (fun i hi=>Or.inl hi);have hdg:decide ((n:Int)≤(j:Int)*64)=true:=decide_eq_true (by omega);clear nx ho I O
      go_wp2
      go_roundw
      case rel=>exact ⟨j+1,by omega,by go_num,HN.out,HN2.out⟩
      case measure=>simp [intOf];omega
    · have hdg:decide ((n:Int)≤(j:Int)*64)=false:=decide_eq_false (by omega)
      have HN:Hid (BytesN R wr base g (S.extract 0 n) (shrinkTo H n (j+1)) (.slice (some ⟨gh,0,none⟩) H.length cap)):=by
       have:BytesN R wr base g (S.extract 0 n) (shrinkTo H n (j+1)) (.slice (some ⟨gh,0,none⟩) H.length cap):=by rw [shrinkTo_no H n j (by omega)];exact I
       exact this
      clear I O
      go_wp2
      go_roundw
      case rel=>exact ⟨j+1,by omega,by go_num,HN.out,HO.out⟩
      case measure=>simp [intOf];omega
  · obtain rfl:j=H.length:=by omega
    clear I O
    go_wp2
    go_ret
    exact ⟨rfl,HI.out,HO.out⟩
theorem nresize_any (w:World)(base g:Nat)(S:ByteArray)(H:List Bool)(v:Value)(n:Nat)(hB:BytesN R w base g S H v)(hS:S.size≤4096)(hH:H.length≤1000)(hn:n≤4096):
   zK 73 #[.pointer (some ⟨g,4,none⟩),zI n] w fun e w'=>e = .returned (zI 0)∧BytesN R w' base g (resizeS S n) (resizeH S H n) v∧Only (footN g v) w w':=by
 unfold resizeS resizeH
 by_cases h:S.size≤n
 · rw [if_pos h,if_pos h]
   refine (nresize_more w g S n hB.text hB.fz hn h).mono ?_;rintro e w' ⟨he,w1,hb,rfl⟩;have o1:=Only.of_below hb [];have k1:=hB.kept o1 (fun _ _=>by simp);have k2:=k1.retext (S++zer (n - S.size));exact ⟨he,k2.1,(Only.of_below hb (footN g v)).trans k2.2 (fun i hi=>Or.inl hi)⟩
 · rw [if_neg h,if_neg h]
   rcases hB.owns.2 with ⟨hv,hz⟩ | ⟨gh,cap,cur,hv,_⟩
   · subst hv
     have hH0:H=[]:=List.eq_nil_of_length_eq_zero hz;subst hH0;refine (nresize_nil w g S n hB.text hB.row hB.fz hS (by omega)).mono ?_;rintro e w' ⟨he,rfl⟩;have k2:=hB.retext (S.extract 0 n);exact ⟨he,k2.1,k2.2⟩
   · subst hv
     exact nresize_some w base g gh cap S H n hB hS hH (by omega)
variable {R:Nat→Option Value}
theorem nwrite_bound (w:World)(g:Nat)(s:ByteArray)(a:Int)(h:a < 0∨4096 < a+(s.size:Int))(ha:a < 9223372036854775808):zE 71 #[.pointer (some ⟨g,4,none⟩),zI a,.string s] w (zI 2):=by
 by_cases h1:a < 0
 · have hd:decide (a < 0)=true:=decide_eq_true h1
   go_enter Tryz.func71,Tryz.ntmps71
   go_wp2
   go_ret
   exact ⟨rfl,rfl⟩
 · have hd:decide (a < 0)=false:=decide_eq_false h1
   by_cases h2:4096 < a
   · have hd2:decide (4096 < a)=true:=decide_eq_true h2
     go_enter Tryz.func71,Tryz.ntmps71
     go_wp2
     go_ret
     exact ⟨rfl,rfl⟩
   · have hd2:decide (4096 < a)=false:=decide_eq_false h2
     obtain ⟨a,rfl⟩:∃ k:Nat,a=(k:Int):=⟨a.toNat,by omega⟩;have hd3:decide (4096 - (a:Int) < (s.size:Int))=true:=decide_eq_true (by omega)
     go_enter Tryz.func71,Tryz.ntmps71
     go_wp2
     go_ret
     exact ⟨rfl,rfl⟩
theorem nwrite_none (w:World)(g:Nat)(a:Nat)(ha:a≤4096):zE 71 #[.pointer (some ⟨g,4,none⟩),zI a,.string ⟨#[]⟩] w (zI 0):=by
 have hd:decide ((a:Int) < 0)=false:=decide_eq_false (by omega);have hd2:decide (4096 < (a:Int))=false:=decide_eq_false (by omega);have hz:(⟨#[]⟩:ByteArray).size=0:=rfl
 go_enter Tryz.func71,Tryz.ntmps71
 go_wp2
 go_ret
 exact ⟨rfl,rfl⟩
variable {R:Nat→Option Value}
structure GrowsN (R:Nat→Option Value)(w wx:World)(F:List Nat)(base g:Nat)(S:ByteArray)(v:Value)(L:List Bool)(l:Value):Prop where
 text:wx.cell? (zA g 4)=some (.string S)
 row:wx.cell? (zA g 5)=some v
 fz:∀ o,wx.frozen? ⟨g,o,none⟩=false
 owns:wx.ownsRow base 4 1 l L.length (L.map Value.bool)
 lt:g < base
 rest:RestN R wx g
 le:base≤w.heap.size
 only:Only F w wx
 foot:∀ k,l.ownBlock=some k→k∈F∨w.heap.size≤k
theorem GrowsN.step {w wx w3:World}{F:List Nat}{base g:Nat}{S:ByteArray}{v l l':Value}{L:List Bool}{o:Obj}(h:GrowsN R w wx F base g S v L l)
   (ho:w3.ownsRow base 4 1 l' (L.length+1) (L.map Value.bool++[.bool true])) (hg:(wx.alloc o).grownBy w3 l.ownBlock) (hf:∀ k,l'.ownBlock=some k→l.ownBlock=some k∨wx.heap.size≤k):GrowsN R w w3 F base g S v (L++[true]) l':=by
 have hne:∀ k,l.ownBlock=some k→k≠g:=fun k hk e=>by have:=(h.owns.lt k hk).1;have:=h.lt;omega
 have hgl:g < wx.heap.size:=zv h.text;have hb:w3.heap[g]?=wx.heap[g]?:=(hg.block g (by simp;omega) (fun e=>hne g e.symm rfl)).trans (Below.heap_alloc wx o g hgl);refine ⟨(World.cell?_of_block (w:=wx) (a:=⟨g,4,none⟩) hb).trans h.text,(World.cell?_of_block (w:=wx) (a:=⟨g,5,none⟩) hb).trans h.row,fun k=>(World.frozen?_of_block (w:=wx) (a:=⟨g,k,none⟩) hb).trans (h.fz k),?_,h.lt,h.rest.block hb,h.le,?_,fun k hk=>?_⟩
 · simpa using ho
 · exact (h.only.alloc o).grown hg (fun k hk=>h.foot k hk)
 · rcases hf k hk with h1 | h1
   · exact h.foot k h1
   · exact Or.inr (Nat.le_trans h.only.size h1)
theorem Tryz.infoBoN:(Tryz.prog.info? 4).map (fun i=>(i.zero,i.size,i.bytes))=some (some (.bool false),1,1):=by kernel_rfl
theorem GrowsN.done {w wx:World}{F:List Nat}{base g gl n cap k:Nat}{S:ByteArray}{v:Value}{L:List Bool}(h:GrowsN R w wx F base g S v L (.slice (some ⟨gl,0,none⟩) n cap))(hn:n=L.length)(hg:g∈F):
   BytesN R ((wx.setCell ⟨gl,k,none⟩ (.bool false)).setCell (zA g 5) (.slice (some ⟨gl,0,none⟩) n cap)) base g S (L.set k false) (.slice (some ⟨gl,0,none⟩) n cap)∧Only F w ((wx.setCell ⟨gl,k,none⟩ (.bool false)).setCell (zA g 5) (.slice (some ⟨gl,0,none⟩) n cap)):=by
 have hgl:base≤gl:=(h.owns.lt gl rfl).1
 have hne:gl≠g:=by have:=h.lt;omega
 subst hn;have ho:=(h.owns.stored k (.bool false)).1
 have e0:(wx.setCell ⟨gl,k,none⟩ (.bool false)).cell? (zA g 4)=some (.string S):=by rw [World.cell?_setCell_other _ _ _ _ (fun q=>hne (congrArg Addr.block q))];exact h.text
 have e1:(wx.setCell ⟨gl,k,none⟩ (.bool false)).cell? (zA g 5)=some v:=by rw [World.cell?_setCell_other _ _ _ _ (fun q=>hne (congrArg Addr.block q))];exact h.row
 refine ⟨⟨?_,World.cell?_setCell_same _ _ _ e1,fun o=>?_,?_,h.lt,(h.rest.other (a:=⟨gl,k,none⟩) hne _).set (Or.inr rfl) _⟩,?_⟩
 · rw [World.cell?_setCell_other _ _ _ _ (by simp)];exact e0
 · have:=h.fz o
   simpa using this
 · rw [List.length_set,List.map_set]
   exact ownsRow_setCell_below ho h.lt _
 · exact (h.only.setCell (p:=⟨gl,k,none⟩) (h.foot gl rfl) _).setCell (p:=⟨g,5,none⟩) (Or.inl hg) _
theorem BytesN.grows {w wr:World}{F:List Nat}{base g:Nat}{S:ByteArray}{v:Value}{H:List Bool}(h:BytesN R wr base g S H v)(hle:base≤w.heap.size)(ho:Only F w wr)(hf:∀ k,v.ownBlock=some k→k∈F∨w.heap.size≤k):GrowsN R w wr F base g S v H v :=
 ⟨h.text,h.row,h.fz,h.owns,h.lt,h.rest,hle,ho,hf⟩
variable {R:Nat→Option Value}
def lenOfN:Value→Nat
 | .slice _ n _=>n
 | _=>0
theorem one_trueN (w:World)(t:TypeId):∀ j u,[Value.bool true][j]?=some u→(w.alloc (.cells #[.bool true] t)).cell? ((⟨w.heap.size,0,none⟩:Addr).add j)=some u:=by
 intro j u h
 match j with
 | 0 =>
  simp at h;subst h;simp [Addr.add]
 | j+1=>simp at h
theorem nwrite_walk (w:World)(base g:Nat)(S s:ByteArray)(H:List Bool)(v:Value)(a:Nat)(hB:BytesN R w base g S H v)(hS:S.size≤4096)(hH:H.length≤64)(hs1:1≤s.size)(hle:a+s.size≤4096)(hbw:base≤w.heap.size):
  zK 71 #[.pointer (some ⟨g,4,none⟩),zI a,.string s] w fun e w'=>e = .returned (zI 0)∧∃ v',BytesN R w' base g (writeS S a s) (marksH H (a / 64) ((a+s.size - 1) / 64+1 - a / 64)) v'∧Only (footN g v) w w'∧∀ k,v'.ownBlock=some k→k∈footN g v∨w.heap.size≤k:=by
 have hd:decide ((a:Int) < 0)=false:=decide_eq_false (by omega);have hd2:decide (4096 < (a:Int))=false:=decide_eq_false (by omega);have hd3:decide (4096 - (a:Int) < (s.size:Int))=false:=decide_eq_false (by omega)
 have hse:(s.toList==[])=false:=by
  rw [Lib.toList_data,beq_eq_false_iff_ne];intro k;have:s.data.toList.length=s.size:=rfl;rw [k] at this;simp at this;omega
 have hc:=hB.text;have hf0:=hB.fz 4;have hlt:g < w.heap.size:=zv hc;have HB:Hid (BytesN R w base g S H v):=hB;obtain ⟨p1,p2⟩:=padS_size S a;obtain ⟨P,hP⟩:∃ P,padS S a=P:=⟨_,rfl⟩;have HP:Hid (padS S a=P):=hP;rw [hP] at p1 p2;clear hB hP
 go_enter Tryz.func71,Tryz.ntmps71
 go_upto_if 31 with fail
 go_cut [] (fun wx=>BytesN R wx base g P H v∧Only (footN g v) w wx)
 case first =>
  by_cases hgt:S.size < a
  · have hz:=fun W=>zeros_all (a - S.size) W (by omega)
    have hzs:(zer (a - S.size)).size=a - S.size:=zer_size _
    have hPZ:Hid (P=S++zer (a - S.size)):=by
     have:P=S++zer (a - S.size):=by rw [← HP.out,padS,if_pos hgt]
     exact this
    generalize zer (a - S.size)=Z at hz hzs hPZ;obtain ⟨k,hk⟩:∃ k,a - S.size=k:=⟨_,rfl⟩
    have hk':(a:Int) - (S.size:Int)=(k:Int):=by omega
    have hkb:k≤4096:=by omega
    have hwk:IntKind.i64.wrap (k:Int)=(k:Int):=by simp [IntKind.wrap,IntKind.signed,IntKind.bits];omega
    rw [hk] at hz hzs;have hadd:∀ W:World,(Op.stringOp .add S Z).run Tryz.prog W = .ok (.string (S++Z)) W:=fun W=>run_string_add W S Z (by omega) (by omega);clear hd hd2 hd3 hse p1 p2
    go_wp2
    go_region_with (go_at_call 94;refine (hz _).mono ?_;rintro e w1 ⟨rfl,hb⟩;have k1:w1.cell? (zA g 4)=some (.string S):=(hb.cell (p:=⟨g,4,none⟩) hlt).trans hc;have k2:w1.frozen? ⟨g,4,none⟩=false:=(hb.frozen (p:=⟨g,4,none⟩) hlt).trans hf0)
    all_goals
     have hb':=below_from_drew hb;have q1:=HB.out.kept (Only.of_below hb' []) (fun _ _=>by simp);have q2:=q1.retext (S++Z);rw [← hPZ.out] at q2;have Q1:Hid (BytesN R (w1.setCell (zA g 4) (.string P)) base g P H v):=q2.1;have Q2:Hid (Only (footN g v) w (w1.setCell (zA g 4) (.string P))):=(Only.of_below hb' (footN g v)).trans q2.2 (fun i hi=>Or.inl hi);rw [← hPZ.out];clear q1 q2 hb hb'
     go_wp2
     go_meet
     exact ⟨Q1.out,Q2.out⟩
  · have hPS:P=S:=by rw [← HP.out,padS,if_neg hgt]
    subst hPS
    go_wp2
    go_meet
    exact ⟨HB.out,Only.refl _ _⟩
 case rest =>
 obtain ⟨I,O⟩:=hcut;have hc2:=I.text;have hf2:=I.fz 4;have HI:Hid (BytesN R wc base g P H v):=I;have HO:Hid (Only (footN g v) w wc):=O
 have hP4:P.size≤4096:=by omega
 clear hc hf0 hlt HB I O hd hd2 hd3 hse
 go_upto_if 57 with fail
 go_cut [7] (fun t wx=>t = .string (tailS P (a+s.size))∧wc=wx)
 case first =>
  by_cases ht:a+s.size < P.size
  · have hT:tailS P (a+s.size)=P.extract (a+s.size) P.size:=if_pos ht
    have hdt:decide ((a:Int)+(s.size:Int) < (P.size:Int))=true:=decide_eq_true (by omega)
    go_wp2
    go_meet
    exact ⟨by rw [hT],rfl⟩
  · have hT:tailS P (a+s.size)=⟨#[]⟩:=if_neg ht
    have hdt:decide ((a:Int)+(s.size:Int) < (P.size:Int))=false:=decide_eq_false (by omega)
    go_wp2
    go_meet
    exact ⟨by rw [hT],rfl⟩
 case rest =>
 obtain ⟨rfl,rfl⟩:=hcut
 have hTs:(tailS P (a+s.size)).size≤4096:=by
  unfold tailS
  split
  · rw [ByteArray.size_extract];omega
  · exact Nat.zero_le _
 have hEs:(P.extract 0 a).size≤4096:=by rw [ByteArray.size_extract];omega
 have hWS:Hid (writeS S a s=P.extract 0 a++s++tailS P (a+s.size)):=by
  have:writeS S a s=P.extract 0 a++s++tailS P (a+s.size):=by unfold writeS;rw [HP.out]
  exact this
 generalize tailS P (a+s.size)=Tl at hTs hWS;obtain ⟨q1,q2⟩:=HI.out.retext (P.extract 0 a++s++Tl)
 have Q1:Hid (BytesN R (wc.setCell (zA g 4) (.string (P.extract 0 a++s++Tl))) base g (writeS S a s) H v):=by
  rw [← hWS.out] at q1
  have:BytesN R (wc.setCell (zA g 4) (.string (P.extract 0 a++s++Tl))) base g (writeS S a s) H v:=by rw [← hWS.out];exact q1
  exact this
 have Q2:Hid (Only (footN g v) w (wc.setCell (zA g 4) (.string (P.extract 0 a++s++Tl)))):=HO.out.trans q2 (fun i hi=>Or.inl hi)
 have hsz4:s.size≤4096:=by omega
 clear q1 q2
 go_wp2
 clear hc2 hf2 hTs hEs HI HO;generalize wc.setCell (zA g 4) (.string (P.extract 0 a++s++Tl))=wd at Q1 Q2 ⊢;obtain ⟨T,hT⟩:∃ T,writeS S a s=T:=⟨_,rfl⟩;have HT:Hid (writeS S a s=T):=hT;rw [hT] at Q1;clear hT hWS hP4;obtain ⟨k0,hk0⟩:∃ k0,a / 64=k0:=⟨_,rfl⟩;obtain ⟨E,hE⟩:∃ E,(a+s.size - 1) / 64=E:=⟨_,rfl⟩;have HK0:Hid (a / 64=k0∧(a+s.size - 1) / 64=E):=⟨hk0,hE⟩
 have hki:(a:Int) / 64=(k0:Int):=by omega
 have hEi:((a:Int)+(s.size:Int) - 1) / 64=(E:Int):=by omega
 have hE63:E≤63:=by omega
 have hkE:k0≤E:=by omega
 clear hk0 hE;rw [hki]
 go_loopw [8] (fun kk wr=>∃ (K i:Nat) (v1:Value),k0+i=K∧K≤E+1∧kk=zI K∧BytesN R wr base g T (marksH H k0 i) v1∧Only (footN g v) w wr∧∀ k,v1.ownBlock=some k→k∈footN g v∨w.heap.size≤k) (fun kk _=>E+1 - (intOf kk).toNat)
 case atStart=>exact ⟨k0,0,v,rfl,by omega,rfl,Q1.out,Q2.out,fun k hk=>Or.inl (List.mem_cons_of_mem _ (by rw [hk];simp))⟩
 case round =>
  obtain ⟨K,i,v1,hKi,hKE,rfl,I,O,hft⟩:=hrel;clear Q1 Q2 hki;have hr:=I.row
  by_cases hlt:K≤E
  · obtain ⟨L1,hL1⟩:∃ L1,marksH H k0 i=L1:=⟨_,rfl⟩
    have hlen:L1.length≤64:=by
     rw [← hL1];have:=marksH_len H k0 i;omega
    have HL1:Hid (marksH H k0 i=L1):=hL1;rw [hL1] at I
    obtain ⟨x1,cp1,hv1⟩:∃ x1 cp1,v1 = .slice x1 L1.length cp1:=by
     rcases I.owns.2 with ⟨hv,hz⟩ | ⟨gh,cap,cur,hv,_⟩
     · exact ⟨none,0,by rw [hv,hz]⟩
     · exact ⟨_,_,hv⟩
    have HG:Hid (GrowsN R w wr (footN g v) base g T v1 (moreH L1 0) v1):=by
     have:GrowsN R w wr (footN g v) base g T v1 (moreH L1 0) v1:=by
       rw [show moreH L1 0=L1 by simp [moreH]];exact I.grows hbw O hft
     exact this
    subst hv1;clear I O hft hL1
    go_wp2_with fail
    rw [hEi]
    go_loopw [9] (fun l wx=>∃ (q N:Nat) (x:Option Addr) (cp:Nat),l = .slice x N cp∧L1.length+q=N∧N≤max L1.length (K+1)∧GrowsN R w wx (footN g v) base g T (.slice x1 L1.length cp1) (moreH L1 q) (.slice x N cp)) (fun l _=>K+1 - lenOfN l)
    case atStart=>exact ⟨0,L1.length,x1,cp1,rfl,rfl,by omega,HG.out⟩
    case round =>
     obtain ⟨q,N,x,cp,rfl,hN,hq,G⟩:=hrel;clear HG;have HGG:Hid (GrowsN R w wr (footN g v) base g T (.slice x1 L1.length cp1) (moreH L1 q) (.slice x N cp)):=G
     by_cases hqK:N≤K
     · obtain ⟨i0,hi,hz0,hz1,hz2⟩:=info_parts Tryz.infoBoN
       have hown:=G.owns.alloc (.cells #[.bool true] 4);rw [moreH_len,hN] at hown;have hbl:base≤wr.heap.size:=Nat.le_trans G.le G.only.size;clear G hr
       go_wp2_with (at_builtin;refine wpList_append_lies _ rfl (.tmp 100) (.tmp 101) 80 rfl base 4 i0 _ 1 1 Tryz.underlying80 hi hz0 hz1 hz2 rfl (by decide) _ N ((moreH L1 q).map Value.bool) rfl hown ⟨wr.heap.size,0,none⟩ 1 1 [.bool true] rfl rfl ?c1 ?c2 (by decide) ?c3 ?c4 ?c5 _ rfl ?_)
       case c1=>exact one_trueN wr 4
       case c2=>intro u hu;obtain rfl:=List.mem_singleton.1 hu;rfl
       case c3=>unfold maxLen;omega
       case c4=>omega
       case c5=>simp;omega
       · intro gl cp' w3 ho hg hat _
         have hst:=HGG.out.step (l' := .slice (some ⟨gl,0,none⟩) (N+1) cp') (by rw [moreH_len,hN];exact ho) hg (fun k hk=>by
          have hk':gl=k:=by simpa [Value.ownBlock] using hk
          subst hk';rcases hat with h1 | h1
          · exact Or.inl h1
          · exact Or.inr (by rw [h1];simp))
         rw [← moreH_succ] at hst;have HST:Hid (GrowsN R w w3 (footN g v) base g T (.slice x1 L1.length cp1) (moreH L1 (q+1)) (.slice (some ⟨gl,0,none⟩) (N+1) cp')):=hst;clear hst ho hg hat hown HGG
         go_wp2
         go_roundw
         case rel=>exact ⟨q+1,N+1,some ⟨gl,0,none⟩,cp',rfl,by omega,by omega,HST.out⟩
         case measure=>simp [lenOfN];omega
     · have hqe:q=K+1 - L1.length:=by omega
       obtain ⟨gl,cpl,hvl,_,_⟩:=World.ownsRow.form (by have:=G.owns;rw [moreH_len,hN] at this;exact this) (by omega)
       obtain ⟨rfl,rfl⟩:x=some ⟨gl,0,none⟩∧cp=cpl:=by simpa using hvl
       obtain ⟨d1,d2⟩:=G.done (k:=K) (hN.symm.trans (moreH_len L1 q).symm) (by simp [footN]);have ho:=G.owns;rw [moreH_len,hN] at ho
       have hKl:K < (moreH L1 q).length:=by rw [moreH_len];omega
       have c1:wr.cell? ⟨gl,K,none⟩=some (.bool (moreH L1 q)[K]):=by
         rw [ho.cellAt K (by omega)];simp [hKl]
       have cf:=ho.frozenAt K;have hgl:base≤gl:=(ho.lt gl rfl).1
       have hne:gl≠g:=by have:=G.lt;omega
       have e1:(wr.setCell ⟨gl,K,none⟩ (.bool false)).cell? (zA g 5)=some (.slice x1 L1.length cp1):=by rw [World.cell?_setCell_other _ _ _ _ (fun q=>hne (congrArg Addr.block q))];exact G.row
       have e2:(wr.setCell ⟨gl,K,none⟩ (.bool false)).frozen? ⟨g,5,none⟩=false:=by have:=G.fz 5;simpa using this
       have hmk:(moreH L1 q).set K false=marksH H k0 (i+1):=by rw [marksH,HL1.out,markH,hKi,hqe]
       rw [hmk] at d1;have D1:Hid (BytesN R ((wr.setCell ⟨gl,K,none⟩ (.bool false)).setCell (zA g 5) (.slice (some ⟨gl,0,none⟩) N cp)) base g T (marksH H k0 (i+1)) (.slice (some ⟨gl,0,none⟩) N cp)):=d1;have D2:Hid (Only (footN g v) w ((wr.setCell ⟨gl,K,none⟩ (.bool false)).setCell (zA g 5) (.slice (some ⟨gl,0,none⟩) N cp))):=d2;have D3:Hid (∀ k,(Value.slice (some ⟨gl,0,none⟩) N cp).ownBlock=some k→k∈footN g v∨w.heap.size≤k):=G.foot;clear d1 d2 ho G HGG hmk hvl hr hqe
       go_wp2
       go_roundw
       case rel=>exact ⟨K+1,i+1,_,by omega,by omega,by go_num,D1.out,D2.out,D3.out⟩
       case measure=>simp [intOf];omega
  · have hKe:K=E+1:=by omega
    have hHi:marksH H (a / 64) ((a+s.size - 1) / 64+1 - a / 64)=marksH H k0 i:=by rw [HK0.out.1,HK0.out.2,show E+1 - k0=i by omega]
    have HF:Hid (BytesN R wr base g (writeS S a s) (marksH H (a / 64) ((a+s.size - 1) / 64+1 - a / 64)) v1):=by
     have:BytesN R wr base g (writeS S a s) (marksH H (a / 64) ((a+s.size - 1) / 64+1 - a / 64)) v1:=by rw [hHi,HT.out];exact I
     exact this
    clear hHi
    go_wp2
    go_ret
    exact ⟨rfl,v1,HF.out,O,hft⟩
end
end Go.Proofs.YtkcabopgajlmdaaGreatDoor
