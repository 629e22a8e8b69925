import Derived.Test.YtodldddakjmonaaGreatDoorK29
set_option maxRecDepth 100000
set_option maxHeartbeats 8000000
namespace Go.Proofs.YtodldddakjmonaaGreatDoor
section
open Go Go.RowKit Go.Deep Go.Maps
theorem AftR.weak {B B' X Y:Nat}{R:World→World→Prop}{w:World}(h:AftR B X R w)(hB:B'≤B)(hY:Y≤X):AftR B' Y R w:=by
 obtain ⟨W0,w1,M0,h1,h2,h3,h4⟩:=h;exact ⟨W0,w1,M0,Nat.le_trans hY h1,h2,h3,fun k hk=>⟨Nat.le_trans hB (h4 k hk).1,(h4 k hk).2⟩⟩
def DoR (w:World)(kc:Int)(L:List Nat)(R:World→World→Prop)(e:Ending)(w':World):Prop:=∃ g c,e = .returned (.slice (some ⟨g,0,none⟩) 2 c)∧w'.ownsRow w.heap.size 169 9 (.slice (some ⟨g,0,none⟩) 2 c) 2 (rpC (rpv 0,Value.slice none 0 0)++rpC (rpv kc,Value.slice none 0 0))∧AftR w.heap.size w.heap.size R w'∧Only L w w'
theorem do_two (A:Nat→Addr)(w:World)(l c s:Nat)(a t nm:ByteArray)(kc:Int)(L:List Nat)(R:World→World→Prop)(hE:Errs w A)(hl:LsnAt w l c a s)(ht:t.size≤400)(hp:pAll pOp t=some [opR,opM nm])
  (hC:∀ W g cap,Only [] w W→Rws W W.heap.size opC 9 (some ⟨g,0,none⟩) [opR,opM nm]→g < W.heap.size→Calls Tryz.prog 231 #[.pointer (some ⟨s,0,none⟩),.slice (some ⟨g,0,none⟩) 2 cap] W fun e w'=>TwoR W kc L R e w') :
  Calls Tryz.prog 174 #[.pointer (some ⟨l,0,none⟩),.string t] w fun e w'=>DoR w kc L R e w':=by
 have HR:Hid (Calls Tryz.prog 230 #[.string t] w fun e w'=>∃ g cap,e = .returned (.tuple #[.slice (some ⟨g,0,none⟩) 2 cap,.nilIface])∧Rws w' w'.heap.size opC 9 (some ⟨g,0,none⟩) [opR,opM nm]∧g < w'.heap.size∧Only [] w w'):=(wireReadOps A t w hE.er3 (by omega)).mono fun e w' q=>by
  obtain ⟨⟨r,he,hq⟩,ho⟩:=q;rcases hq with ⟨h1,_⟩ | ⟨l',h1,h2,_⟩ | ⟨l',v,h1,h2,hr,hown⟩
  · rw [hp] at h1;cases h1
  · rw [hp] at h1;cases h1;simp at h2
  · rw [hp] at h1
    cases h1
    obtain ⟨ad,cap,hv,hrw⟩:=own_rws (B:=w'.heap.size) hown opC_len (Nat.le_refl _);obtain ⟨g,hg,hgl,_⟩:=hrw.at_ 0 opR rfl;subst hg hv;exact ⟨g,cap,by rw [he,hr];rfl,hrw,hgl,ho⟩
 have HC:Hid (∀ W g cap,Only [] w W→Rws W W.heap.size opC 9 (some ⟨g,0,none⟩) [opR,opM nm]→g < W.heap.size→Calls Tryz.prog 231 #[.pointer (some ⟨s,0,none⟩),.slice (some ⟨g,0,none⟩) 2 cap] W fun e w'=>TwoR W kc L R e w'):=hC
 have HL:Hid (∀ W,Only [] w W→W.cell? ⟨l,2,none⟩=some (.pointer (some ⟨s,0,none⟩))):=fun W ho=>by
  have h1:W.heap[l]?=_:=(ho.block l (Array.getElem?_eq_some_iff.1 hl).1 (by simp)).trans hl;simp [World.cell?,h1]
 clear hE hl ht hp hC
 go_enter Tryz.func174,Tryz.ntmps174
 go_wp2_with (first
  | (go_at_call 230;go_must (refine HR.out.mono ?_);rintro e w1 ⟨g,cap,rfl,hr,hg,ho⟩;have H1:Hid (Rws w1 w1.heap.size opC 9 (some ⟨g,0,none⟩) [opR,opM nm]∧g < w1.heap.size∧Only [] w w1):=⟨hr,hg,ho⟩;have c2:=HL.out w1 ho;clear hr hg ho)
  | (go_at_call 231;go_must (refine (HC.out w1 g cap H1.out.2.2 H1.out.1 H1.out.2.1).mono ?_);rintro e w2 ⟨g2,cap2,rfl,hq⟩;have H2:Hid (w2.ownsRow w1.heap.size 169 9 (.slice (some ⟨g2,0,none⟩) 2 cap2) 2 (rpC (rpv 0,Value.slice none 0 0)++rpC (rpv kc,Value.slice none 0 0))∧AftR w1.heap.size w1.heap.size R w2∧Only L w1 w2):=hq;clear hq))
 go_ret
 have hs:=H1.out.2.2.size;exact ⟨g2,cap2,rfl,own_low H2.out.1 hs,H2.out.2.1.weak hs hs,(H1.out.2.2.mono (L':=L) (fun _ hk=>by cases hk)).trans H2.out.2.2 (fun k hk=>Or.inl hk)⟩
def RepT (kc:Int)(u:ByteArray):Prop:=runW (S0,0) (listsW (fun p:RpV×Value=>rpW p.1) [(rpv 0,Value.slice none 0 0),(rpv kc,Value.slice none 0 0)])=(u,0)∧u.size≤400
theorem encodeReps (A:Nat→Addr)(w:World)(base g cap n:Nat)(kc:Int)(u:ByteArray)(hE:Errs w A)(hn:n < 9223372036854775808)(hk:kc=0∨kc=4)(hu:RepT kc u)(hrow:w.ownsRow base 169 9 (.slice (some ⟨g,0,none⟩) 2 cap) 2 (rpC (rpv 0,Value.slice none 0 0)++rpC (rpv kc,Value.slice none 0 0))):
  Calls Tryz.prog 173 #[.int .i64 n,.slice (some ⟨g,0,none⟩) 2 cap] w fun e w'=>e = .returned (.tuple #[.string (reqS n u),.nilIface])∧Only [] w w':=by
 have HR:Hid (Calls Tryz.prog 229 #[.slice (some ⟨g,0,none⟩) 2 cap] w fun e w'=>e = .returned (.tuple #[.string u,.nilIface])∧Only [] w w'):=by
  have hrow2:w.ownsRow base 169 9 (.slice (some ⟨g,0,none⟩) 2 cap) [(rpv 0,Value.slice none 0 0),(rpv kc,Value.slice none 0 0)].length (rowOf rpC [(rpv 0,Value.slice none 0 0),(rpv kc,Value.slice none 0 0)]):=by
    have e:rowOf rpC [(rpv 0,Value.slice none 0 0),(rpv kc,Value.slice none 0 0)]=rpC (rpv 0,Value.slice none 0 0)++rpC (rpv kc,Value.slice none 0 0):=by simp [rowOf]
    rw [e];exact hrow
  obtain ⟨ad,cp,hv,hrw⟩:=own_rws (B:=w.heap.size) hrow2 rpC_len (Nat.le_refl _)
  cases hv
  refine (wireReps A _ cap [(rpv 0,Value.slice none 0 0),(rpv kc,Value.slice none 0 0)] w hE.er3 (show 2≤4294967295 by decide) hrw (rp_oks kc hk) (fun x hx=>?_)).mono fun e w' q=>?_
  · simp only [List.mem_cons,List.not_mem_nil,or_false] at hx
    rcases hx with rfl | rfl<;>exact ⟨none,0,rfl,Rws.nil _ _ _ _ _⟩
  · obtain ⟨⟨r,he,hq⟩,ho⟩:=q
    refine ⟨?_,ho⟩;rw [he];rcases hq with ⟨h1,_⟩ | ⟨_,t,h2,rfl⟩ | ⟨_,k,t,h2,_⟩
    · exact absurd h1 (show ¬ 16 < 2 by decide)
    · rw [hu.1] at h2
      cases h2
      rfl
    · rw [hu.1] at h2
      cases h2
 have HE:Hid (∀ W,Only [] w W→Calls Tryz.prog 97 #[.agg #[.int .i64 n,.string u]] W fun e w'=>e = .returned (.tuple #[.string (reqS n u),.nilIface])∧Only [] W w'):=fun W ho=>(encode_ok A n u W (hE.below (ho.to_below (Nat.le_refl _) (fun _ h=>by cases h)) (Nat.le_refl _)) hn (by have:=hu.2;omega) (by have:=hu.2;have:=reqS_size n u;have:=fillN_lt u.size;omega)).mono fun e w' q=>⟨q.1,Only.of_below q.2 _⟩;clear hE hn hk hu hrow
 go_enter Tryz.func173,Tryz.ntmps173
 go_wp2_with (first
  | (go_at_call 229;go_must (refine HR.out.mono ?_);rintro e w1 ⟨rfl,ho⟩;have H1:Hid (Only [] w w1):=ho;clear ho)
  | (go_at_call 97;go_must (refine (HE.out w1 H1.out).mono ?_);rintro e w2 ⟨rfl,ho⟩;have H2:Hid (Only [] w w2):=H1.out.trans ho (fun _ hk=>by cases hk);clear ho))
 go_ret2
 exact ⟨rfl,H2.out⟩
theorem ans_step {w w1:World}{n:Int}{t:ByteArray}{L:List Nat}{R:World→World→Prop}(hN:w.heap.size∉L)(ho:Only L (w.alloc (.cells #[.int .i64 n,.string t] 220)).drew w1)(ha:AftR (w.alloc (.cells #[.int .i64 n,.string t] 220)).drew.heap.size (w.alloc (.cells #[.int .i64 n,.string t] 220)).drew.heap.size R w1):
  Only L w w1∧∀ W,Only [] w1 W→(W.cell? ⟨w.heap.size,0,none⟩=some (.int .i64 n)∧W.cell? ⟨w.heap.size,1,none⟩=some (.string t))∧AftR w.heap.size w.heap.size R W∧Only L w W:=by
 have hA:Only [] w (w.alloc (.cells #[.int .i64 n,.string t] 220)).drew:=((Only.refl [] w).alloc _).drew;have hz:w.heap.size≤(w.alloc (.cells #[.int .i64 n,.string t] 220)).drew.heap.size:=hA.size;have k0:w1.cell? ⟨w.heap.size,0,none⟩=some (.int .i64 n):=(ho.cell (p:=⟨w.heap.size,0,none⟩) (by simp) hN).trans (by simp);have k1:w1.cell? ⟨w.heap.size,1,none⟩=some (.string t):=(ho.cell (p:=⟨w.heap.size,1,none⟩) (by simp) hN).trans (by simp);have hO:Only L w w1:=(hA.mono (L':=L) (fun _ hk=>by cases hk)).trans ho (fun k hk=>Or.inl hk);exact ⟨hO,fun W h=>⟨⟨(h.cell (p:=⟨w.heap.size,0,none⟩) (lt_of_cell k0) (by simp)).trans k0,(h.cell (p:=⟨w.heap.size,1,none⟩) (lt_of_cell k1) (by simp)).trans k1⟩,(ha.weak hz hz).only h (fun k hk=>by cases hk),hO.trans h (fun _ hk=>by cases hk)⟩⟩
theorem answer_two (A:Nat→Addr)(w:World)(l c s n:Nat)(a t nm u:ByteArray)(kc:Int)(L:List Nat)(R:World→World→Prop)(hE:Errs w A)(hl:LsnAt w l c a s)(ht:t.size≤400)(hp:pAll pOp t=some [opR,opM nm])(hn:n < 9223372036854775808)(hk:kc=0∨kc=4)(hu:RepT kc u)(hL:∀ k∈L,k < w.heap.size)(hEL:∀ W,Only L w W→Errs W A)
  (hC:∀ W g cap,Only [] w W→Rws W W.heap.size opC 9 (some ⟨g,0,none⟩) [opR,opM nm]→g < W.heap.size→Calls Tryz.prog 231 #[.pointer (some ⟨s,0,none⟩),.slice (some ⟨g,0,none⟩) 2 cap] W fun e w'=>TwoR W kc L R e w') :
  Calls Tryz.prog 123 #[.pointer (some ⟨l,0,none⟩),.agg #[.int .i64 n,.string t]] w fun e w'=>e = .returned (.string (reqS n u))∧AftR w.heap.size w.heap.size R w'∧Only L w w':=by
 have hoA:Only [] w (w.alloc (.cells #[.int .i64 n,.string t] 220)):=(Only.refl [] w).alloc _;have HA:Hid (Only [] w (w.alloc (.cells #[.int .i64 n,.string t] 220))):=hoA
 have HD:Hid (Calls Tryz.prog 174 #[.pointer (some ⟨l,0,none⟩),.string t] (w.alloc (.cells #[.int .i64 n,.string t] 220)).drew fun e w'=>DoR (w.alloc (.cells #[.int .i64 n,.string t] 220)).drew kc L R e w') :=
  do_two A _ l c s a t nm kc L R (hE.below (hoA.drew.to_below (Nat.le_refl _) (fun _ h=>by cases h)) (Nat.le_refl _)) ((hoA.drew.block l (Array.getElem?_eq_some_iff.1 hl).1 (by simp)).trans hl) ht hp (fun W g cap ho=>hC W g cap (hoA.drew.trans ho (fun _ hk=>by cases hk)))
 have HX:Hid (∀ W base g cap,Only L w W→W.ownsRow base 169 9 (.slice (some ⟨g,0,none⟩) 2 cap) 2 (rpC (rpv 0,Value.slice none 0 0)++rpC (rpv kc,Value.slice none 0 0))→Calls Tryz.prog 173 #[.int .i64 n,.slice (some ⟨g,0,none⟩) 2 cap] W fun e w'=>e = .returned (.tuple #[.string (reqS n u),.nilIface])∧Only [] W w'):=fun W base g cap ho hr=>encodeReps A W base g cap n kc u (hEL W ho) hn hk hu hr;have HS0:Hid ((w.alloc (.cells #[.int .i64 n,.string t] 220)).drew.cell? ⟨w.heap.size,0,none⟩=some (.int .i64 n)∧(w.alloc (.cells #[.int .i64 n,.string t] 220)).drew.cell? ⟨w.heap.size,1,none⟩=some (.string t)):=⟨by simp,by simp⟩
 have HN:Hid (w.heap.size∉L):=fun h=>by have:=hL _ h;omega
 clear hE hl ht hp hn hk hu hL hEL hC hoA
 go_enter Tryz.func123,Tryz.ntmps123
 go_wp2
 go_region_held3 (fun W=>W.cell? ⟨w.heap.size,0,none⟩=some (.int .i64 n)∧W.cell? ⟨w.heap.size,1,none⟩=some (.string t))
  (with_reducible first | exact HS0.out | exact HS1.out | exact HS2.out)
  (first
   | (go_at_call 174;(with_reducible refine HD.out.mono ?_);rintro e w1 ⟨g,cap,rfl,hr,ha,ho⟩;obtain ⟨hO1,hK1⟩:=ans_step HN.out ho ha;have HX1:Hid (Calls Tryz.prog 173 #[.int .i64 n,.slice (some ⟨g,0,none⟩) 2 cap] w1 fun e w'=>e = .returned (.tuple #[.string (reqS n u),.nilIface])∧Only [] w1 w'):=HX.out w1 _ g cap hO1 hr;have HK1:Hid (∀ W,Only [] w1 W→(W.cell? ⟨w.heap.size,0,none⟩=some (.int .i64 n)∧W.cell? ⟨w.heap.size,1,none⟩=some (.string t))∧AftR w.heap.size w.heap.size R W∧Only L w W):=hK1;have HS1:Hid (w1.cell? ⟨w.heap.size,0,none⟩=some (.int .i64 n)∧w1.cell? ⟨w.heap.size,1,none⟩=some (.string t)):=(hK1 w1 (Only.refl [] w1)).1;clear hr ha ho hO1 hK1)
   | (go_at_call 173;(with_reducible refine HX1.out.mono ?_);rintro e w2 ⟨rfl,ho⟩;have HS2:Hid (w2.cell? ⟨w.heap.size,0,none⟩=some (.int .i64 n)∧w2.cell? ⟨w.heap.size,1,none⟩=some (.string t)):=(HK1.out w2 ho).1;have HZ2:Hid (AftR w.heap.size w.heap.size R w2∧Only L w w2):=(HK1.out w2 ho).2;clear ho))
 all_goals go_wp2
 all_goals go_ret
 all_goals exact ⟨rfl,HZ2.out⟩
def QBox (w:World)(B:Nat)(x:Kp):Prop:=w.heap[B]?=some (.cells #[.string x.c,.int .i64 x.n] 366 (0,0))
theorem QBox.cells {w:World}{B:Nat}{x:Kp}(h:QBox w B x):w.cell? ⟨B,0,none⟩=some (.string x.c)∧w.cell? ⟨B,1,none⟩=some (.int .i64 x.n):=⟨cell_of_row _ _ 0 _ _ _ h,cell_of_row _ _ 1 _ _ _ h⟩
theorem QBox.kept {w w':World}{B:Nat}{x:Kp}{L:List Nat}(h:QBox w B x)(ho:Only L w w')(hn:B∉L):QBox w' B x:=(ho.block B (Array.getElem?_eq_some_iff.1 h).1 hn).trans h
theorem Only.drewsK {L:List Nat}{a w:World}(h:Only L a w)(n:Nat):Only L a (w.drewN n):=⟨h.os,h.tape,h.output,h.size,h.block⟩
def KeepR (A:Nat→Addr)(w w':World)(base t b:Nat)(v:Value)(most:Nat)(L:List Kp)(x:Kp)(e:Ending):Prop :=
 e = .returned (errN A (keepK most L x).1)∧∃ v',CaAt w' base t b v' most (keepK most L x).2∧Only (t::b::v.ownBlock.toList) w w'
theorem Rqs.form {w:World}{base:Nat}{v:Value}{L:List Kp}(h:Rqs w base v L):∃ ad cap,v = .slice ad L.length cap:=by
 rcases h.open with ⟨e,e2⟩ | ⟨g,cap,cur,e,_⟩
 · rw [e2];exact ⟨_,_,e⟩
 · exact ⟨_,_,e⟩
theorem keep_end {w w5 w6:World}{base t b n:Nat}{v:Value}{most:Nat}{L:List Kp}{x:Kp}{g c:Nat}{D:DataW Unit}
  (h:CaAt w base t b v most L) (hn:L.length=n) (hl:n < most) (hf:findK L x.k=none) (hx:OkQ x.k)
  (hown:w5.ownsMap Tryz.prog 366 anElem b (L++[x]).length D) (hsz:Maps.size D=(L++[x]).length) (hrd:Reads qkey anV D (findK (L++[x]))) (ho5:Only [b] w w5)
  (ho6:Only v.ownBlock.toList w5 w6) (hrow:w6.ownsRow base 366 2 (.slice (some ⟨g,0,none⟩) (n+1) c) (n+1) (rowOf rqC L++rqC x)) :
  w6.cell? ⟨t,2,none⟩=some v∧w6.frozen? ⟨t,2,none⟩=false∧t < w6.heap.size∧CaAt (w6.setCell ⟨t,2,none⟩ (.slice (some ⟨g,0,none⟩) (n+1) c)) base t b (.slice (some ⟨g,0,none⟩) (n+1) c) most (L++[x])∧Only (t::b::v.ownBlock.toList) w (w6.setCell ⟨t,2,none⟩ (.slice (some ⟨g,0,none⟩) (n+1) c)):=by
 have hvb:b∉v.ownBlock.toList:=fun hm=>(h.vne (k:=b) (by simpa using hm)).2 rfl;have hvt:t∉v.ownBlock.toList:=fun hm=>(h.vne (k:=t) (by simpa using hm)).1 rfl;have ho:Only (b::v.ownBlock.toList) w w6:=(ho5.mono (fun k hk=>Or.inl (by rw [List.mem_singleton.1 hk];simp))).trans ho6 (fun k hk=>Or.inl (List.mem_cons_of_mem _ hk));have ht:=(ho.block t h.lt (by simp only [List.mem_cons,not_or];exact ⟨h.ne.symm,hvt⟩)).trans h.tab;obtain ⟨r1,r2,r3,r4,r5⟩:=CaAt.reordered (L:=L++[x]) (v' := .slice (some ⟨g,0,none⟩) (n+1) c) ht ⟨D,own_onlyK hown ho6 hvb,hsz,hrd⟩ (Rqs.snoc hn hrow) (h.inv.snoc (by omega) x hf hx);exact ⟨r1,r2,r3,r4,(ho.mono (fun k hk=>Or.inl (List.mem_cons_of_mem _ hk))).trans r5 (fun k hk=>Or.inl (by rw [List.mem_singleton.1 hk];simp))⟩
theorem keep_known (A:Nat→Addr)(w:World)(base t b:Nat)(v:Value)(most:Nat)(L:List Kp)(x:Kp)(hE:Err4 w A)(h:CaAt w base t b v most L)(hx:OkQ x.k)(y:Kp)(hf:findK L x.k=some y):
  Calls Tryz.prog 172 #[.pointer (some ⟨t,0,none⟩),.string x.c,.int .i64 x.n,.string x.t,.string x.r] w fun e w'=>KeepR A w w' base t b v most L x e:=by
 have HK:Hid (keepK most L x=(6,L)):=by show _=_;unfold keepK;rw [hf];rfl
 have htl:=h.lt;have c5:w.cell? ⟨9,0,none⟩=some (.iface 416 (.pointer (some (A 5)))):=hE 5 (by simp);have HC:Hid (∀ W,Only [] w W→W.cell? ⟨9,0,none⟩=some (.iface 416 (.pointer (some (A 5))))):=fun W ho=>(ho.cell (lt_of_cell c5) (by simp)).trans c5
 have HLK:Hid (∀ W,Only [] w W→W.cell? ⟨t,1,none⟩=some (.map (some b))∧(Instr.lookup 137 (.map (some b)) (.agg #[.string x.c,.int .i64 x.n]) true).run Tryz.prog W = .ok (.tuple #[.agg #[.string y.t,.string y.r],.bool true]) W):=fun W ho=>⟨(h.only ho).c1,by
  have:=(h.only ho).look hx;unfold ansV at this;rw [hf] at this
  exact this⟩
 have o1:Only [] w (w.alloc (.cells #[.string x.c,.int .i64 x.n] 366)):=(Only.refl [] w).alloc _;obtain ⟨p1,p2⟩:=HLK.out _ o1.drew;obtain ⟨q1,q2⟩:=HLK.out _ (o1.alloc (.cells #[.string ⟨#[]⟩,.string ⟨#[]⟩] 363)).drew;have H:Hid (CaAt w base t b v most L):=h;clear h hE c5 hf
 go_enter Tryz.func172,Tryz.ntmps172
 go_upto_region 2 with fail
 go_cut [13] (fun q wx=>q = .bool true∧Only [] w wx)
 case first =>
  go_region
  all_goals go_wp2
  all_goals go_meet
  all_goals exact ⟨rfl,(o1.alloc _).drew⟩
 case rest =>
  obtain ⟨rfl,hO⟩:=hcut;have c6:=HC.out wc hO;have HO:Hid (Only [] w wc):=hO;clear p1 p2 q1 q2 o1 hO
  go_wp2
  go_ret
  unfold KeepR;rw [HK.out];exact ⟨rfl,v,H.out.only HO.out,HO.out.mono (fun _ hk=>by cases hk)⟩
theorem keep_full (A:Nat→Addr)(w:World)(base t b:Nat)(v:Value)(most:Nat)(L:List Kp)(x:Kp)(h:CaAt w base t b v most L)(hx:OkQ x.k)(hbs:base≤w.heap.size)(hf:findK L x.k=none)(hl:L.length=most):
  Calls Tryz.prog 172 #[.pointer (some ⟨t,0,none⟩),.string x.c,.int .i64 x.n,.string x.t,.string x.r] w fun e w'=>KeepR A w w' base t b v most L x e:=by
 have HK:Hid (keepK most L x=(0,roomK most L++[x])):=by show _=_;unfold keepK;rw [hf];rfl
 have htl:=h.lt
 have HLK:Hid (∀ W,Only [] w W→W.cell? ⟨t,1,none⟩=some (.map (some b))∧(Instr.lookup 137 (.map (some b)) (.agg #[.string x.c,.int .i64 x.n]) true).run Tryz.prog W = .ok (.tuple #[.agg #[.string ⟨#[]⟩,.string ⟨#[]⟩],.bool false]) W):=fun W ho=>⟨(h.only ho).c1,by
  have:=(h.only ho).look hx;unfold ansV at this;rw [hf] at this
  exact this⟩
 have o1:Only [] w (w.alloc (.cells #[.string x.c,.int .i64 x.n] 366)):=(Only.refl [] w).alloc _;have hB1:QBox (w.alloc (.cells #[.string x.c,.int .i64 x.n] 366)) w.heap.size x:=heap_alloc_last w _;obtain ⟨p1,p2⟩:=HLK.out _ o1.drew;obtain ⟨q1,q2⟩:=HLK.out _ (o1.alloc (.cells #[.string ⟨#[]⟩,.string ⟨#[]⟩] 363)).drew;have H:Hid (CaAt w base t b v most L):=h;have HX:Hid (OkQ x.k):=hx;have HBS:Hid (base≤w.heap.size):=hbs;have HFR:Hid (findK (roomK most L) x.k=none):=findK_room_none hf;have HRM:Hid (KInv most (roomK most L)∧(roomK most L).length < most):=h.inv.room;have hm20:=h.inv.most2;have hlm:=h.inv.len;clear h hf hx hbs
 go_enter Tryz.func172,Tryz.ntmps172
 go_upto_region 2 with fail
 go_cut [13] (fun q wx=>q = .bool false∧Only [] w wx∧QBox wx w.heap.size x)
 case first =>
  go_region
  all_goals go_wp2
  all_goals go_meet
  all_goals exact ⟨rfl,(o1.alloc _).drew,hB1.kept ((Only.refl [] _).alloc _).drew (by simp)⟩
 case rest =>
  obtain ⟨rfl,hO,hB⟩:=hcut;clear p1 p2 q1 q2 o1 hB1;have HC1:Hid (CaAt wc base t b v most L):=H.out.only hO;have HO1:Hid (Only [] w wc):=hO;have HB1:Hid (QBox wc w.heap.size x):=hB;have c0:=HC1.out.c0;have c2:=HC1.out.c2;have hct:=HC1.out.lt;obtain ⟨ad,cap,hv⟩:=HC1.out.row.form;rw [hv] at c2;clear hO hB hv
  have HNB:Hid (w.heap.size∉t::b::v.ownBlock.toList):=fun hm=>by
   have h1:=H.out.lt;have h2:=H.out.blt;rcases List.mem_cons.1 hm with e | e
   · omega
   · rcases List.mem_cons.1 e with e | e
     · omega
     · have:=(own_block H.out.row (b:=w.heap.size) (by simpa using e)).2.1
       omega
  have d5:((L.length:Int)==(most:Int))=true:=by rw [hl];simp
  obtain ⟨y,L',hyL⟩:∃ y L',L=y::L':=by
   cases L with
   | nil=>have:=H.out.inv.most1;simp at hl;omega
   | cons y L'=>exact ⟨y,L',rfl⟩
  have hrk:roomK most L=L':=by unfold roomK;rw [if_pos hl,hyL];rfl
  have HFG:Hid (∀ k,Calls Tryz.prog 228 #[.pointer (some ⟨t,0,none⟩)] (wc.drewN k) fun e w'=>ForgetR (wc.drewN k) w' base t b v most L' e):=fun k=>forget_any (wc.drewN k) base t b v most y L' (by rw [← hyL];exact HC1.out.only ((Only.refl [] wc).drewsK k));have HBd:Hid (∀ k,QBox (wc.drewN k) w.heap.size x):=fun k=>HB1.out.kept ((Only.refl [] wc).drewsK k) (by simp);have HRK:Hid (roomK most L=L'):=hrk;clear hl hyL hrk
  go_upto_region 5 with fail
  go_quiet (fail)
  go_upto_region 7 with (go_at_call 228;refine (HFG.out _).mono ?_;rintro e wt ⟨rfl,vt,hCt,hot,hvb⟩;have HVB:Hid (vt.ownBlock=v.ownBlock):=hvb;have HCt:Hid (CaAt wt base t b vt most (roomK most L)):=(by show CaAt wt base t b vt most (roomK most L);rw [HRK.out];exact hCt);have HOt:Hid (Only (t::b::v.ownBlock.toList) w wt):=((HO1.out.mono (fun _ hk=>by cases hk)).trans ((Only.refl [] wc).drewsK _) (fun _ hk=>by cases hk)).trans hot (fun _ hk=>Or.inl hk);have HBt:Hid (QBox wt w.heap.size x):=(HBd.out _).kept hot HNB.out;clear hCt hot hvb)
  clear d5 c0 c2 hct HC1 HB1;have HWF:Hid (∀ k,vt.ownBlock=some k→k∈t::b::v.ownBlock.toList∨w.heap.size≤k):=fun k hk=>Or.inl (by rw [← HVB.out,hk];simp);obtain ⟨w5,D5,hr5,hown5,hsz5,hrd5,ho5⟩:=(HCt.out.only (Only.refl [] wt).drew).put x HX.out HFR.out;have ho5':Only [b] wt w5:=((Only.refl [] wt).drew.mono (fun _ hk=>by cases hk)).trans ho5 (fun _ hk=>Or.inl hk);have y1:=(HCt.out.only (Only.refl [] wt).drew).c1;obtain ⟨z0,z1⟩:=(HBt.out.kept (Only.refl [] wt).drew (by simp)).cells;have HH5:Hid (w5.ownsMap Tryz.prog 366 anElem b (roomK most L++[x]).length D5∧Maps.size D5=(roomK most L++[x]).length∧Reads qkey anV D5 (findK (roomK most L++[x]))∧Only [b] wt w5):=⟨hown5,hsz5,hrd5,ho5'⟩
  have hbB:w.heap.size≠b:=fun e=>by have:=H.out.blt;omega
  have HB5:Hid (QBox w5 w.heap.size x):=HBt.out.kept ho5' (by simpa using hbB);have htl2:=HCt.out.lt;clear hown5 hsz5 hrd5 ho5
  go_cut [] (fun wx=>wx=w5)
  case first =>
   go_region
   all_goals go_wp2
   all_goals go_meet
   all_goals exact rfl
  case rest =>
   subst hcut;clear y1 z0 z1 hr5;obtain ⟨n,hn⟩:∃ n,(roomK most L).length=n:=⟨_,rfl⟩;have HN:Hid ((roomK most L).length=n):=hn
   have hln:n < most:=by have:=HRM.out.2;omega
   have HLN:Hid (n < most):=hln;obtain ⟨i0,hi0,hz0,hz1,hz2⟩:=rqInfo';have hbv:b∉vt.ownBlock.toList:=fun hm=>(HCt.out.vne (k:=b) (by simpa using hm)).2 rfl;have HRW:Hid (∀ W,Only [] wc W→W.ownsRow base 366 2 vt n (rowOf rqC (roomK most L))):=fun W ho=>((HCt.out.row.only HH5.out.2.2.2 (fun k hk hkb=>(HCt.out.vne hk).2 (List.mem_singleton.1 hkb))).only ho (fun _ _=>by simp)).own hn
   have HSD:Hid (∀ W,Only [] wc W→W.cell? ⟨t,2,none⟩=some vt∧W.cell? ⟨w.heap.size,0,none⟩=some (.string x.c)∧W.cell? ⟨w.heap.size,1,none⟩=some (.int .i64 x.n)):=fun W ho=>by
     have ht:wc.cell? ⟨t,2,none⟩=some vt:=(HH5.out.2.2.2.cell (p:=⟨t,2,none⟩) HCt.out.lt (by simpa using HCt.out.ne.symm)).trans HCt.out.c2;exact ⟨(ho.cell (p:=⟨t,2,none⟩) (lt_of_cell ht) (by simp)).trans ht,(HB5.out.kept ho (by simp)).cells⟩
   have HS0:Hid (wc.drew.cell? ⟨t,2,none⟩=some vt∧wc.drew.cell? ⟨w.heap.size,0,none⟩=some (.string x.c)∧wc.drew.cell? ⟨w.heap.size,1,none⟩=some (.int .i64 x.n)):=HSD.out _ (Only.refl [] wc).drew;have HSA:Hid ((wc.alloc (.cells #[.string x.c,.int .i64 x.n] 366)).drew.cell? ⟨t,2,none⟩=some vt∧(wc.alloc (.cells #[.string x.c,.int .i64 x.n] 366)).drew.cell? ⟨w.heap.size,0,none⟩=some (.string x.c)∧(wc.alloc (.cells #[.string x.c,.int .i64 x.n] 366)).drew.cell? ⟨w.heap.size,1,none⟩=some (.int .i64 x.n)):=HSD.out _ ((Only.refl [] wc).alloc _).drew;have HBS2:Hid (base≤(wc.alloc (.cells #[.string x.c,.int .i64 x.n] 366)).drew.heap.size):=Nat.le_trans HBS.out (Nat.le_trans HOt.out.size (Nat.le_trans ho5'.size (((Only.refl [] wc).alloc _).drew).size))
   have HEND:Hid (∀ w6 g6 c6,Only vt.ownBlock.toList (wc.alloc (.cells #[.string x.c,.int .i64 x.n] 366)).drew w6→w6.ownsRow base 366 2 (.slice (some ⟨g6,0,none⟩) (n+1) c6) (n+1) (rowOf rqC (roomK most L)++rqC x)→w6.cell? ⟨t,2,none⟩=some vt∧w6.frozen? ⟨t,2,none⟩=false∧t < w6.heap.size∧CaAt (w6.setCell ⟨t,2,none⟩ (.slice (some ⟨g6,0,none⟩) (n+1) c6)) base t b (.slice (some ⟨g6,0,none⟩) (n+1) c6) most (roomK most L++[x])∧Only (t::b::v.ownBlock.toList) w (w6.setCell ⟨t,2,none⟩ (.slice (some ⟨g6,0,none⟩) (n+1) c6))):=fun w6 g6 c6 ho6 hrow6=>by
     have hq:Only vt.ownBlock.toList wc w6:=((((Only.refl [] wc).alloc _).drew).mono (fun _ hk=>by cases hk)).trans ho6 (fun _ hk=>Or.inl hk);obtain ⟨r1,r2,r3,r4,r5⟩:=keep_end HCt.out HN.out HLN.out HFR.out HX.out HH5.out.1 HH5.out.2.1 HH5.out.2.2.1 HH5.out.2.2.2 hq hrow6;refine ⟨r1,r2,r3,r4,HOt.out.trans r5 (fun k hk=>?_)⟩;rcases List.mem_cons.1 hk with e | e
     · exact Or.inl (by rw [e];simp)
     · rcases List.mem_cons.1 e with e | e
       · exact Or.inl (by rw [e];simp)
       · exact HWF.out k (by simpa using e)
   have HB6:Hid (∀ w6,Only vt.ownBlock.toList (wc.alloc (.cells #[.string x.c,.int .i64 x.n] 366)).drew w6→w6.cell? ⟨w.heap.size,0,none⟩=some (.string x.c)∧w6.cell? ⟨w.heap.size,1,none⟩=some (.int .i64 x.n)):=fun w6 ho6=>((HB5.out.kept ((Only.refl [] wc).alloc _).drew (by simp)).kept ho6 (fun hm=>by
     have hk:vt.ownBlock=some w.heap.size:=by simpa using hm
     exact HNB.out (by rw [← HVB.out,hk];simp))).cells
   have hsz:(wc.alloc (.cells #[.string x.c,.int .i64 x.n] 366)).drew.heap.size=wc.heap.size+1:=by show (wc.alloc _).heap.size=_;simp
   have HSZ:Hid ((wc.alloc (.cells #[.string x.c,.int .i64 x.n] 366)).drew.heap.size=wc.heap.size+1):=hsz;have HNW:Hid (∀ (r1:Nat) (q1:Value),(rqC x)[r1]?=some q1→(wc.alloc (.cells #[.string x.c,.int .i64 x.n] 366)).drew.cell? ((⟨wc.heap.size,0,none⟩:Addr).add r1)=some q1):=rq_news (w:=wc) x 366;have HRA:Hid ((wc.alloc (.cells #[.string x.c,.int .i64 x.n] 366)).drew.ownsRow base 366 2 vt n (rowOf rqC (roomK most L))):=HRW.out _ ((Only.refl [] wc).alloc _).drew;clear hn hbv hsz ho5';obtain ⟨ad2,cap2,hv2⟩:=HCt.out.row.form;rw [HN.out] at hv2;subst hv2
   go_upto_region 8 with fail
   obtain ⟨x0,x1,x2⟩:=HSD.out wc (Only.refl [] wc);have xl0:=lt_of_cell x0;have xl1:=lt_of_cell x1
   have mixed:Tryz.prog.follows Departure.mixedOrders=true:=by kernel_rfl
   go_region_law_o
     ((refine step_append_lies _ (by rfl) (.tmp 52) (.tmp 54) 138 (by rfl) base 366 i0 _ 2 24 rqsUnd hi0 hz0 hz1 hz2 (by rfl) (by decide) (.slice ad2 n cap2) n (rowOf rqC (roomK most L)) (by rfl) HRA.out ⟨wc.heap.size,0,none⟩ 1 1 (rqC x) (by rfl) (by rfl) HNW.out (rqC_one _) (by decide) (by unfold maxLen;omega) (by omega) HBS2.out (wc.heap.size+1) HSZ.out ?_;intro g6 c6 w6 hown6 hgr6 hat6 hlt6;have hq6:Only (Value.slice ad2 n cap2).ownBlock.toList (wc.alloc (.cells #[.string x.c,.int .i64 x.n] 366)).drew w6:=(Only.refl _ _).grown hgr6 (fun k hk=>Or.inl (by rw [hk];simp));obtain ⟨k0,k1,k2,hR⟩:=HEND.out w6 g6 c6 hq6 hown6;have HS6:Hid (w6.cell? ⟨t,2,none⟩=some (.slice ad2 n cap2)∧w6.cell? ⟨w.heap.size,0,none⟩=some (.string x.c)∧w6.cell? ⟨w.heap.size,1,none⟩=some (.int .i64 x.n)):=⟨k0,HB6.out w6 hq6⟩;have HR:Hid (CaAt (w6.setCell ⟨t,2,none⟩ (.slice (some ⟨g6,0,none⟩) (n+1) c6)) base t b (.slice (some ⟨g6,0,none⟩) (n+1) c6) most (roomK most L++[x])∧Only (t::b::v.ownBlock.toList) w (w6.setCell ⟨t,2,none⟩ (.slice (some ⟨g6,0,none⟩) (n+1) c6))):=hR;clear hown6 hgr6 hat6 hlt6 hq6 hR))
   all_goals go_wp2
   all_goals go_ret
   all_goals unfold KeepR
   all_goals rw [HK.out]
   all_goals exact ⟨rfl,_,HR.out⟩
theorem keep_room (A:Nat→Addr)(w:World)(base t b:Nat)(v:Value)(most:Nat)(L:List Kp)(x:Kp)(h:CaAt w base t b v most L)(hx:OkQ x.k)(hbs:base≤w.heap.size)(hf:findK L x.k=none)(hl:¬ L.length=most):
  Calls Tryz.prog 172 #[.pointer (some ⟨t,0,none⟩),.string x.c,.int .i64 x.n,.string x.t,.string x.r] w fun e w'=>KeepR A w w' base t b v most L x e:=by
 have HK:Hid (keepK most L x=(0,roomK most L++[x])):=by show _=_;unfold keepK;rw [hf];rfl
 have htl:=h.lt
 have HLK:Hid (∀ W,Only [] w W→W.cell? ⟨t,1,none⟩=some (.map (some b))∧(Instr.lookup 137 (.map (some b)) (.agg #[.string x.c,.int .i64 x.n]) true).run Tryz.prog W = .ok (.tuple #[.agg #[.string ⟨#[]⟩,.string ⟨#[]⟩],.bool false]) W):=fun W ho=>⟨(h.only ho).c1,by
  have:=(h.only ho).look hx;unfold ansV at this;rw [hf] at this
  exact this⟩
 have o1:Only [] w (w.alloc (.cells #[.string x.c,.int .i64 x.n] 366)):=(Only.refl [] w).alloc _;have hB1:QBox (w.alloc (.cells #[.string x.c,.int .i64 x.n] 366)) w.heap.size x:=heap_alloc_last w _;obtain ⟨p1,p2⟩:=HLK.out _ o1.drew;obtain ⟨q1,q2⟩:=HLK.out _ (o1.alloc (.cells #[.string ⟨#[]⟩,.string ⟨#[]⟩] 363)).drew;have H:Hid (CaAt w base t b v most L):=h;have HX:Hid (OkQ x.k):=hx;have HBS:Hid (base≤w.heap.size):=hbs;have HFR:Hid (findK (roomK most L) x.k=none):=findK_room_none hf;have HRM:Hid (KInv most (roomK most L)∧(roomK most L).length < most):=h.inv.room;have hm20:=h.inv.most2;have hlm:=h.inv.len;clear h hf hx hbs
 go_enter Tryz.func172,Tryz.ntmps172
 go_upto_region 2 with fail
 go_cut [13] (fun q wx=>q = .bool false∧Only [] w wx∧QBox wx w.heap.size x)
 case first =>
  go_region
  all_goals go_wp2
  all_goals go_meet
  all_goals exact ⟨rfl,(o1.alloc _).drew,hB1.kept ((Only.refl [] _).alloc _).drew (by simp)⟩
 case rest =>
  obtain ⟨rfl,hO,hB⟩:=hcut;clear p1 p2 q1 q2 o1 hB1;have HC1:Hid (CaAt wc base t b v most L):=H.out.only hO;have HO1:Hid (Only [] w wc):=hO;have HB1:Hid (QBox wc w.heap.size x):=hB;have c0:=HC1.out.c0;have c2:=HC1.out.c2;have hct:=HC1.out.lt;obtain ⟨ad,cap,hv⟩:=HC1.out.row.form;rw [hv] at c2;clear hO hB hv
  have HNB:Hid (w.heap.size∉t::b::v.ownBlock.toList):=fun hm=>by
   have h1:=H.out.lt;have h2:=H.out.blt;rcases List.mem_cons.1 hm with e | e
   · omega
   · rcases List.mem_cons.1 e with e | e
     · omega
     · have:=(own_block H.out.row (b:=w.heap.size) (by simpa using e)).2.1
       omega
  have d5:((L.length:Int)==(most:Int))=false:=beq_eq_false_iff_ne.2 (by omega)
  have hrk:roomK most L=L:=by unfold roomK;rw [if_neg hl]
  go_upto_region 5 with fail
  go_quiet (fail)
  go_upto_region 7 with fail
  have HCt:Hid (CaAt (wc.drewN nq) base t b v most (roomK most L)):=by show CaAt (wc.drewN nq) base t b v most (roomK most L);rw [hrk];exact HC1.out.only ((Only.refl [] wc).drewsK _)
  have HOt:Hid (Only (t::b::v.ownBlock.toList) w (wc.drewN nq)):=(HO1.out.mono (fun _ hk=>by cases hk)).trans ((Only.refl [] wc).drewsK _) (fun _ hk=>by cases hk);have HBt:Hid (QBox (wc.drewN nq) w.heap.size x):=HB1.out.kept ((Only.refl [] wc).drewsK _) (by simp);clear d5 hrk c0 c2 hct HC1 HB1;generalize wc.drewN nq=wt at HCt HOt HBt ⊢;obtain ⟨vt,hvt⟩:∃ vt,v=vt:=⟨_,rfl⟩;rw [hvt] at HCt
  have HVB:Hid (vt.ownBlock=v.ownBlock):=by show _=_;rw [hvt]
  clear hvt;have HWF:Hid (∀ k,vt.ownBlock=some k→k∈t::b::v.ownBlock.toList∨w.heap.size≤k):=fun k hk=>Or.inl (by rw [← HVB.out,hk];simp);obtain ⟨w5,D5,hr5,hown5,hsz5,hrd5,ho5⟩:=(HCt.out.only (Only.refl [] wt).drew).put x HX.out HFR.out;have ho5':Only [b] wt w5:=((Only.refl [] wt).drew.mono (fun _ hk=>by cases hk)).trans ho5 (fun _ hk=>Or.inl hk);have y1:=(HCt.out.only (Only.refl [] wt).drew).c1;obtain ⟨z0,z1⟩:=(HBt.out.kept (Only.refl [] wt).drew (by simp)).cells;have HH5:Hid (w5.ownsMap Tryz.prog 366 anElem b (roomK most L++[x]).length D5∧Maps.size D5=(roomK most L++[x]).length∧Reads qkey anV D5 (findK (roomK most L++[x]))∧Only [b] wt w5):=⟨hown5,hsz5,hrd5,ho5'⟩
  have hbB:w.heap.size≠b:=fun e=>by have:=H.out.blt;omega
  have HB5:Hid (QBox w5 w.heap.size x):=HBt.out.kept ho5' (by simpa using hbB);have htl2:=HCt.out.lt;clear hown5 hsz5 hrd5 ho5
  go_cut [] (fun wx=>wx=w5)
  case first =>
   go_region
   all_goals go_wp2
   all_goals go_meet
   all_goals exact rfl
  case rest =>
   subst hcut;clear y1 z0 z1 hr5;obtain ⟨n,hn⟩:∃ n,(roomK most L).length=n:=⟨_,rfl⟩;have HN:Hid ((roomK most L).length=n):=hn
   have hln:n < most:=by have:=HRM.out.2;omega
   have HLN:Hid (n < most):=hln;obtain ⟨i0,hi0,hz0,hz1,hz2⟩:=rqInfo';have hbv:b∉vt.ownBlock.toList:=fun hm=>(HCt.out.vne (k:=b) (by simpa using hm)).2 rfl;have HRW:Hid (∀ W,Only [] wc W→W.ownsRow base 366 2 vt n (rowOf rqC (roomK most L))):=fun W ho=>((HCt.out.row.only HH5.out.2.2.2 (fun k hk hkb=>(HCt.out.vne hk).2 (List.mem_singleton.1 hkb))).only ho (fun _ _=>by simp)).own hn
   have HSD:Hid (∀ W,Only [] wc W→W.cell? ⟨t,2,none⟩=some vt∧W.cell? ⟨w.heap.size,0,none⟩=some (.string x.c)∧W.cell? ⟨w.heap.size,1,none⟩=some (.int .i64 x.n)):=fun W ho=>by
     have ht:wc.cell? ⟨t,2,none⟩=some vt:=(HH5.out.2.2.2.cell (p:=⟨t,2,none⟩) HCt.out.lt (by simpa using HCt.out.ne.symm)).trans HCt.out.c2;exact ⟨(ho.cell (p:=⟨t,2,none⟩) (lt_of_cell ht) (by simp)).trans ht,(HB5.out.kept ho (by simp)).cells⟩
   have HS0:Hid (wc.drew.cell? ⟨t,2,none⟩=some vt∧wc.drew.cell? ⟨w.heap.size,0,none⟩=some (.string x.c)∧wc.drew.cell? ⟨w.heap.size,1,none⟩=some (.int .i64 x.n)):=HSD.out _ (Only.refl [] wc).drew;have HSA:Hid ((wc.alloc (.cells #[.string x.c,.int .i64 x.n] 366)).drew.cell? ⟨t,2,none⟩=some vt∧(wc.alloc (.cells #[.string x.c,.int .i64 x.n] 366)).drew.cell? ⟨w.heap.size,0,none⟩=some (.string x.c)∧(wc.alloc (.cells #[.string x.c,.int .i64 x.n] 366)).drew.cell? ⟨w.heap.size,1,none⟩=some (.int .i64 x.n)):=HSD.out _ ((Only.refl [] wc).alloc _).drew;have HBS2:Hid (base≤(wc.alloc (.cells #[.string x.c,.int .i64 x.n] 366)).drew.heap.size):=Nat.le_trans HBS.out (Nat.le_trans HOt.out.size (Nat.le_trans ho5'.size (((Only.refl [] wc).alloc _).drew).size))
   have HEND:Hid (∀ w6 g6 c6,Only vt.ownBlock.toList (wc.alloc (.cells #[.string x.c,.int .i64 x.n] 366)).drew w6→w6.ownsRow base 366 2 (.slice (some ⟨g6,0,none⟩) (n+1) c6) (n+1) (rowOf rqC (roomK most L)++rqC x)→w6.cell? ⟨t,2,none⟩=some vt∧w6.frozen? ⟨t,2,none⟩=false∧t < w6.heap.size∧CaAt (w6.setCell ⟨t,2,none⟩ (.slice (some ⟨g6,0,none⟩) (n+1) c6)) base t b (.slice (some ⟨g6,0,none⟩) (n+1) c6) most (roomK most L++[x])∧Only (t::b::v.ownBlock.toList) w (w6.setCell ⟨t,2,none⟩ (.slice (some ⟨g6,0,none⟩) (n+1) c6))):=fun w6 g6 c6 ho6 hrow6=>by
     have hq:Only vt.ownBlock.toList wc w6:=((((Only.refl [] wc).alloc _).drew).mono (fun _ hk=>by cases hk)).trans ho6 (fun _ hk=>Or.inl hk);obtain ⟨r1,r2,r3,r4,r5⟩:=keep_end HCt.out HN.out HLN.out HFR.out HX.out HH5.out.1 HH5.out.2.1 HH5.out.2.2.1 HH5.out.2.2.2 hq hrow6;refine ⟨r1,r2,r3,r4,HOt.out.trans r5 (fun k hk=>?_)⟩;rcases List.mem_cons.1 hk with e | e
     · exact Or.inl (by rw [e];simp)
     · rcases List.mem_cons.1 e with e | e
       · exact Or.inl (by rw [e];simp)
       · exact HWF.out k (by simpa using e)
   have HB6:Hid (∀ w6,Only vt.ownBlock.toList (wc.alloc (.cells #[.string x.c,.int .i64 x.n] 366)).drew w6→w6.cell? ⟨w.heap.size,0,none⟩=some (.string x.c)∧w6.cell? ⟨w.heap.size,1,none⟩=some (.int .i64 x.n)):=fun w6 ho6=>((HB5.out.kept ((Only.refl [] wc).alloc _).drew (by simp)).kept ho6 (fun hm=>by
     have hk:vt.ownBlock=some w.heap.size:=by simpa using hm
     exact HNB.out (by rw [← HVB.out,hk];simp))).cells
   have hsz:(wc.alloc (.cells #[.string x.c,.int .i64 x.n] 366)).drew.heap.size=wc.heap.size+1:=by show (wc.alloc _).heap.size=_;simp
   have HSZ:Hid ((wc.alloc (.cells #[.string x.c,.int .i64 x.n] 366)).drew.heap.size=wc.heap.size+1):=hsz;have HNW:Hid (∀ (r1:Nat) (q1:Value),(rqC x)[r1]?=some q1→(wc.alloc (.cells #[.string x.c,.int .i64 x.n] 366)).drew.cell? ((⟨wc.heap.size,0,none⟩:Addr).add r1)=some q1):=rq_news (w:=wc) x 366;have HRA:Hid ((wc.alloc (.cells #[.string x.c,.int .i64 x.n] 366)).drew.ownsRow base 366 2 vt n (rowOf rqC (roomK most L))):=HRW.out _ ((Only.refl [] wc).alloc _).drew;clear hn hbv hsz ho5';obtain ⟨ad2,cap2,hv2⟩:=HCt.out.row.form;rw [HN.out] at hv2;subst hv2
   go_upto_region 8 with fail
   obtain ⟨x0,x1,x2⟩:=HSD.out wc (Only.refl [] wc);have xl0:=lt_of_cell x0;have xl1:=lt_of_cell x1
   have mixed:Tryz.prog.follows Departure.mixedOrders=true:=by kernel_rfl
   go_region_law_o
     ((refine step_append_lies _ (by rfl) (.tmp 52) (.tmp 54) 138 (by rfl) base 366 i0 _ 2 24 rqsUnd hi0 hz0 hz1 hz2 (by rfl) (by decide) (.slice ad2 n cap2) n (rowOf rqC (roomK most L)) (by rfl) HRA.out ⟨wc.heap.size,0,none⟩ 1 1 (rqC x) (by rfl) (by rfl) HNW.out (rqC_one _) (by decide) (by unfold maxLen;omega) (by omega) HBS2.out (wc.heap.size+1) HSZ.out ?_;intro g6 c6 w6 hown6 hgr6 hat6 hlt6;have hq6:Only (Value.slice ad2 n cap2).ownBlock.toList (wc.alloc (.cells #[.string x.c,.int .i64 x.n] 366)).drew w6:=(Only.refl _ _).grown hgr6 (fun k hk=>Or.inl (by rw [hk];simp));obtain ⟨k0,k1,k2,hR⟩:=HEND.out w6 g6 c6 hq6 hown6;have HS6:Hid (w6.cell? ⟨t,2,none⟩=some (.slice ad2 n cap2)∧w6.cell? ⟨w.heap.size,0,none⟩=some (.string x.c)∧w6.cell? ⟨w.heap.size,1,none⟩=some (.int .i64 x.n)):=⟨k0,HB6.out w6 hq6⟩;have HR:Hid (CaAt (w6.setCell ⟨t,2,none⟩ (.slice (some ⟨g6,0,none⟩) (n+1) c6)) base t b (.slice (some ⟨g6,0,none⟩) (n+1) c6) most (roomK most L++[x])∧Only (t::b::v.ownBlock.toList) w (w6.setCell ⟨t,2,none⟩ (.slice (some ⟨g6,0,none⟩) (n+1) c6))):=hR;clear hown6 hgr6 hat6 hlt6 hq6 hR))
   all_goals go_wp2
   all_goals go_ret
   all_goals unfold KeepR
   all_goals rw [HK.out]
   all_goals exact ⟨rfl,_,HR.out⟩
theorem keep_any (A:Nat→Addr)(w:World)(base t b:Nat)(v:Value)(most:Nat)(L:List Kp)(x:Kp)(hE:Err4 w A)(h:CaAt w base t b v most L)(hx:OkQ x.k)(hbs:base≤w.heap.size):
  Calls Tryz.prog 172 #[.pointer (some ⟨t,0,none⟩),.string x.c,.int .i64 x.n,.string x.t,.string x.r] w fun e w'=>KeepR A w w' base t b v most L x e:=by
 cases hf:findK L x.k with
 | some y=>exact keep_known A w base t b v most L x hE h hx y hf
 | none =>
  by_cases hl:L.length=most
  · exact keep_full A w base t b v most L x h hx hbs hf hl
  · exact keep_room A w base t b v most L x h hx hbs hf hl
theorem once_known (A:Nat→Addr)(w:World)(base c b:Nat)(v fv:Value)(most:Nat)(L:List Kp)(a t r:ByteArray)(n:Int)(hE:Errs w A)(hc:CaAt w base c b v most L)(hq:OkQ (a,n))(hk:lookK L (a,n) t=(0,true,r)):
  Calls Tryz.prog 122 #[.agg #[.pointer (some ⟨c,0,none⟩)],.string a,.agg #[.int .i64 n,.string t],fv] w fun e w'=>e = .returned (.tuple #[.string r,.bool false,.nilIface])∧Only [] w w':=by
 have oA:Only [] w ((w.alloc (.cells #[.pointer (some ⟨c,0,none⟩)] 86)).alloc (.cells #[.int .i64 n,.string t] 220)):=((Only.refl [] w).alloc _).alloc _
 have HL:Hid (Calls Tryz.prog 171 #[.pointer (some ⟨c,0,none⟩),.string a,.int .i64 n,.string t] ((w.alloc (.cells #[.pointer (some ⟨c,0,none⟩)] 86)).alloc (.cells #[.int .i64 n,.string t] 220)) fun e w'=>e = .returned (.tuple #[.string r,.bool true,.nilIface])∧Only [] w w') :=
  (look_any A _ base c b v most L (a,n) t (hE.below (oA.to_below (Nat.le_refl _) (fun _ h=>by cases h)) (Nat.le_refl _)).four (hc.only oA) hq).mono fun e w' q=>⟨by rw [q.1];unfold lookV;rw [hk];rfl,oA.trans q.2 (fun _ hk=>by cases hk)⟩
 clear hE hc hq hk oA
 go_enter Tryz.func122,Tryz.ntmps122
 go_wp2_with (go_at_call 171;go_must (refine HL.out.mono ?_);rintro e w1 ⟨rfl,ho⟩;have H1:Hid (Only [] w w1):=ho;clear ho)
 go_ret3
 exact ⟨rfl,H1.out⟩
theorem once_new (A:Nat→Addr)(w:World)(base c b l N0:Nat)(most:Nat)(a t r:ByteArray)(n:Int)(L:List Nat)(R:World→World→Prop)(hE:Errs w A)(hc:CaAt w base c b (.slice none 0 0) most [])(hb:base≤w.heap.size)(hq:OkQ (a,n))(hcN:N0≤c)(hbN:N0≤b)(hbw:b < w.heap.size)(hLN:∀ k∈L,k < N0)(hNw:N0≤w.heap.size)(hEL:∀ W,Only L w W→Errs W A)
   (hA:∀ W,Only [] w W→Calls Tryz.prog 123 #[.pointer (some ⟨l,0,none⟩),.agg #[.int .i64 n,.string t]] W fun e w'=>e = .returned (.string r)∧AftR W.heap.size W.heap.size R w'∧Only L W w') :
   Calls Tryz.prog 122 #[.agg #[.pointer (some ⟨c,0,none⟩)],.string a,.agg #[.int .i64 n,.string t],.func (.func 123) #[.pointer (some ⟨l,0,none⟩)] #[]] w fun e w'=>e = .returned (.tuple #[.string r,.bool true,.nilIface])∧(∃ v',CaAt w' base c b v' most [⟨a,n,t,r⟩])∧AftR N0 w.heap.size R w'∧Only (c::b::L) w w':=by
 have oA:Only [] w ((w.alloc (.cells #[.pointer (some ⟨c,0,none⟩)] 86)).alloc (.cells #[.int .i64 n,.string t] 220)):=((Only.refl [] w).alloc _).alloc _
 have HL:Hid (Calls Tryz.prog 171 #[.pointer (some ⟨c,0,none⟩),.string a,.int .i64 n,.string t] ((w.alloc (.cells #[.pointer (some ⟨c,0,none⟩)] 86)).alloc (.cells #[.int .i64 n,.string t] 220)) fun e w'=>e = .returned (.tuple #[.string ⟨#[]⟩,.bool false,.nilIface])∧Only [] ((w.alloc (.cells #[.pointer (some ⟨c,0,none⟩)] 86)).alloc (.cells #[.int .i64 n,.string t] 220)) w') :=
   (look_any A _ base c b _ most [] (a,n) t (hE.below (oA.to_below (Nat.le_refl _) (fun _ h=>by cases h)) (Nat.le_refl _)).four (hc.only oA) hq).mono fun e w' q=>⟨by rw [q.1];rfl,q.2⟩
 have hcl:=hc.lt
 have ncL:∀ k,N0≤k→k∉L:=fun k hk h=>by have:=hLN k h;omega
 have HA:Hid (Only [] w ((w.alloc (.cells #[.pointer (some ⟨c,0,none⟩)] 86)).alloc (.cells #[.int .i64 n,.string t] 220))):=oA
 have HB:Hid (∀ w1,Only [] ((w.alloc (.cells #[.pointer (some ⟨c,0,none⟩)] 86)).alloc (.cells #[.int .i64 n,.string t] 220)) w1→∀ w2,Only L w1 w2→w2.cell? ⟨w.heap.size,0,none⟩=some (.pointer (some ⟨c,0,none⟩))∧w2.cell? ⟨w.heap.size+1,0,none⟩=some (.int .i64 n)∧w2.cell? ⟨w.heap.size+1,1,none⟩=some (.string t)):=fun w1 h1 w2 h2=>by
   have hs:=h1.size;simp at hs;have a0:w1.cell? ⟨w.heap.size,0,none⟩=some (.pointer (some ⟨c,0,none⟩)):=(h1.cell (p:=⟨w.heap.size,0,none⟩) (by simp;omega) (by simp)).trans (by simp);have a1:w1.cell? ⟨w.heap.size+1,0,none⟩=some (.int .i64 n):=(h1.cell (p:=⟨w.heap.size+1,0,none⟩) (by simp) (by simp)).trans (by simp);have a2:w1.cell? ⟨w.heap.size+1,1,none⟩=some (.string t):=(h1.cell (p:=⟨w.heap.size+1,1,none⟩) (by simp) (by simp)).trans (by simp);exact ⟨(h2.cell (p:=⟨w.heap.size,0,none⟩) (lt_of_cell a0) (ncL _ (by omega))).trans a0,(h2.cell (p:=⟨w.heap.size+1,0,none⟩) (lt_of_cell a1) (ncL _ (by show N0≤w.heap.size+1;omega))).trans a1,(h2.cell (p:=⟨w.heap.size+1,1,none⟩) (lt_of_cell a2) (ncL _ (by show N0≤w.heap.size+1;omega))).trans a2⟩
 have HN:Hid (∀ W,Only [] w W→Calls Tryz.prog 123 #[.pointer (some ⟨l,0,none⟩),.agg #[.int .i64 n,.string t]] W fun e w'=>e = .returned (.string r)∧AftR W.heap.size W.heap.size R w'∧Only L W w'):=hA
 have HK:Hid (∀ W,Only L w W→Calls Tryz.prog 172 #[.pointer (some ⟨c,0,none⟩),.string a,.int .i64 n,.string t,.string r] W fun e w'=>e = .returned .nilIface∧(∃ v',CaAt w' base c b v' most [⟨a,n,t,r⟩])∧Only [c,b] W w'):=fun W ho=>(keep_any A W base c b _ most [] ⟨a,n,t,r⟩ (hEL W ho).four (hc.kept ho (ncL c hcN) (ncL b hbN) (fun k hk=>by cases hk)) hq (Nat.le_trans hb ho.size)).mono fun e w' q=>by
   obtain ⟨he,v',h1,h2⟩:=q;refine ⟨by rw [he];rfl,⟨v',?_⟩,h2⟩
   have e2:(keepK most [] (⟨a,n,t,r⟩:Kp)).2=[⟨a,n,t,r⟩]:=by
     show roomK most []++[_]=_;unfold roomK
     split<;>rfl
   rw [e2] at h1;exact h1
 have HZ:Hid (c < w.heap.size∧b < w.heap.size∧N0≤c∧N0≤b∧N0≤w.heap.size):=⟨hcl,hbw,hcN,hbN,hNw⟩;clear hE hc hb hq hcN hbN hbw hLN hNw hEL hA oA ncL
 go_enter Tryz.func122,Tryz.ntmps122
 go_wp2_with (go_at_call 171;go_must (refine HL.out.mono ?_);rintro e w1 ⟨rfl,ho⟩;have H1:Hid (Only [] ((w.alloc (.cells #[.pointer (some ⟨c,0,none⟩)] 86)).alloc (.cells #[.int .i64 n,.string t] 220)) w1):=ho;obtain ⟨b0,b1,b2⟩:=HB.out w1 ho w1 (Only.refl _ _);clear ho)
 have HW1:Hid (Only [] w w1):=HA.out.trans H1.out (fun _ hk=>by cases hk);clear b0 b1 b2;refine (HN.out w1 HW1.out).mono ?_;rintro e w2 ⟨rfl,ha,ho⟩;obtain ⟨b0,b1,b2⟩:=HB.out w1 H1.out w2 ho;have H2:Hid (AftR w1.heap.size w1.heap.size R w2):=ha;have HW2:Hid (Only L w w2):=(HW1.out.mono (L':=L) (fun _ hk=>by cases hk)).trans ho (fun k hk=>Or.inl hk);clear ha ho
 go_wp2_with (go_at_call 172;go_must (refine (HK.out w2 HW2.out).mono ?_);rintro e w3 ⟨rfl,hv,ho⟩;have H3:Hid (∃ v',CaAt w3 base c b v' most [⟨a,n,t,r⟩]):=hv;have HO3:Hid (Only [c,b] w2 w3):=ho;clear hv ho)
 go_ret3
 have hz:=HZ.out;have hs:=HW1.out.size;refine ⟨rfl,H3.out,(((H2.out.weak (B':=N0) (Y:=w.heap.size) (by omega) hs)).only HO3.out (fun k hk=>?_)),?_⟩
 · simp at hk
   rcases hk with rfl | rfl<;>omega
 · refine (HW2.out.mono (L':=c::b::L) (fun k hk=>Or.inl (List.mem_cons_of_mem _ (List.mem_cons_of_mem _ hk)))).trans HO3.out (fun k hk=>Or.inl ?_)
   simp at hk;rcases hk with rfl | rfl
   · exact List.mem_cons_self
   · exact List.mem_cons_of_mem _ List.mem_cons_self
end
end Go.Proofs.YtodldddakjmonaaGreatDoor
