import Derived.Shelf.SlSortCmp.QuietGrown
import Derived.Test.YtbdfjbmocifhmaaGreatDoorK13
set_option maxRecDepth 100000
set_option maxHeartbeats 8000000
namespace Go.Proofs.YtbdfjbmocifhmaaGreatDoor
section
open Go Go.RowKit Go.Deep
structure OnlyBy (w0:World) where
 w:World
 ho:Only [] w0 w
theorem wp_region_quiet_only {P:Program}{id:Nat}{Q:Exit→Act→World→Prop}{a:Act}{w0 w:World}{l:List Oper}(hO:Only [] w0 w)(hm:P.follows .mixedOrders=true)(hB:Region.lexB .any l.toArray=true)
  (h:wpQuiet P l.toArray (fun w'=>∃ p:OnlyBy w0,w'=p.w) (fun a'=>∀ w',(∃ p:OnlyBy w0,w'=p.w)→Q .normal a' w') l a):(Code.region id l.toArray true).wp P Q a w :=
 wp_region_quiet (C:=fun w'=>∃ p:OnlyBy w0,w'=p.w) hm hB ⟨⟨w.drew,hO.drew⟩,rfl⟩ (by simpa using h)
theorem Calls.only_of {P:Program}{f:FuncId}{args:Array Value}{w0:World}{p:OnlyBy w0}{v:Value}(h:Calls P f args p.w fun e w'=>e = .returned v∧Only [] p.w w'):Calls P f args p.w fun e w''=>e = .returned v∧∃ q:OnlyBy w0,w''=q.w :=
 h.mono fun _ w'' ⟨he,ho⟩=>⟨he,⟨w'',p.ho.trans ho (fun _ hk=>by cases hk)⟩,rfl⟩
end
section
open Go Go.RowKit Go.Deep Go.Maps
def Tr.freed (T:Tr)(i:Nat):Tr:={ T with g:=setN T.g i (T.g i+1),nd:=setN T.nd i none }
theorem TreeAt.freed {w w':World}{tr i:Nat}{T:Tr}(h:TreeAt w tr T)(hds:T.ds i=none)(hpn:T.pn i=0)(hg:T.g i+1≤5000000000000000000)(ht:TabAt w' T.t T.p T.most (setN T.g i (T.g i+1)) (setN T.nd i none))(ho:Only T.p.a.toList w w'):TreeAt w' tr (T.freed i) :=
 h.table (p':=T.p) ht ho (fun k hk=>Or.inr (Or.inl (by simpa using hk))) (fun k hk=>Or.inl (by
  rcases hk with h1 | h1 | ⟨j,m,hj,hk⟩
  · exact Or.inl h1
  · exact Or.inr (Or.inl h1)
  · by_cases e:j=i
    · subst e
      rw [setN_same] at hj
      cases hj
    · rw [setN_other _ _ e] at hj
      exact .node hj hk)) ⟨h.small.N,fun j=>by
    show setN T.g i (T.g i+1) j≤_
    by_cases e:j=i
    · rw [e,setN_same];exact hg
    · rw [setN_other _ _ e];exact h.small.g j⟩ (Nat.le_refl _) (fun k=>by
    obtain ⟨j,c⟩:=k;show (if c=setN T.g i (T.g i+1) j then (T.ds j).map (·.b) else none)=(if c=T.g j then (T.ds j).map (·.b) else none)
    by_cases e:j=i
    · rw [e,hds]
      simp
    · rw [setN_other _ _ e]) (fun k=>by
    obtain ⟨j,c⟩:=k;show (if c=setN T.g i (T.g i+1) j∧0 < T.pn j then some (T.pn j) else none)=(if c=T.g j∧0 < T.pn j then some (T.pn j) else none)
    by_cases e:j=i
    · rw [e,hpn]
      simp
    · rw [setN_other _ _ e])
theorem infoInt6:(Tryz.prog.info? 3).map (fun i=>(i.zero,i.size))=some (some (.int .i64 0),1):=by kernel_rfl
theorem zeroInt6 (w:World):(zeroValue 3).run Tryz.prog w = .ok (.int .i64 0) w:=(zero_of_info infoInt6).1 w
theorem look_pin {w:World}{tr:Nat}{T:Tr}(h:TreeAt w tr T){i:Nat}(hi:i < T.p.N):(Instr.lookup 128 (.map (some T.pb)) (.agg #[.int .i64 i,.int .i64 (T.g i:Nat)]) false).run Tryz.prog w = .ok (.int .i64 (T.pn i:Nat)) w:=by
 obtain ⟨D,n,d1,_,d3⟩:=h.pins;obtain ⟨c,hrun,hat,_⟩:=d1.lookup_int lawH undPins Tryz.underlying3 (zeroInt6 _) (h.key hi);rw [d3.look] at hat;unfold Tr.pinsF at hat
 by_cases hp:0 < T.pn i
 · rw [if_pos ⟨rfl,hp⟩] at hat
   have e:c=(T.pn i:Nat):=by
    unfold numD at hat
    simpa using hat.symm
   rw [e] at hrun;exact hrun
 · rw [if_neg (fun hh=>hp hh.2)] at hat
   have e:c=0:=by simpa using hat.symm
   have e2:T.pn i=0:=by omega
   rw [e] at hrun;rw [e2];exact hrun
theorem fieldLinks (W:World)(a b c d e f:Value):(Instr.field 111 (.agg #[a,b,c,d,e,f]) 2).run Tryz.prog W = .ok c W:=by
 unfold Instr.field;simp [run_underlying Tryz.underlying111,part,asAgg,isAgg,run_underlying Tryz.underlying3,go_sem]
def Settled (w w':World)(tr:Nat)(T:Tr)(i:Nat)(L:Int):Prop :=
 (L=0∧T.pn i=0∧TreeAt w' tr (T.freed i)∧Only T.p.a.toList w w')∨(¬ (L=0∧T.pn i=0)∧Only [] w w')
theorem settle_any (w:World)(tr:Nat)(T:Tr)(i:Nat)(n:Nod)(h:TreeAt w tr T)(hn:T.nd i=some n)(hK:n.K=1)(hds:T.ds i=none)(hg:T.g i+1≤5000000000000000000):
  Calls Tryz.prog 96 #[.pointer (some ⟨tr,0,none⟩),.agg #[.int .i64 i,.int .i64 (T.g i:Nat)]] w fun e w'=>e = .returned (.tuple #[])∧Settled w w' tr T i n.L:=by
 have hil:=h.tab.lt hn;have htl:tr < w.heap.size:=lt_of_cell h.c0
 have HB:Hid (∀ W,Only [] (w.alloc (.cells #[.int .i64 i,.int .i64 (T.g i:Nat)] 34)) W→HBox W w.heap.size i (T.g i)):=fun W ho=>HBox.kept (show HBox _ w.heap.size i (T.g i) from heap_alloc_last w _) ho (by simp)
 have HA:Hid (Only [] w (w.alloc (.cells #[.int .i64 i,.int .i64 (T.g i:Nat)] 34))):=(Only.refl [] w).alloc _;have HS:Hid (∀ W,Only [] (w.alloc (.cells #[.int .i64 i,.int .i64 (T.g i:Nat)] 34)) W→W.cell? ⟨w.heap.size,0,none⟩=some (.int .i64 i)∧W.cell? ⟨w.heap.size,1,none⟩=some (.int .i64 (T.g i:Nat))∧W.cell? ⟨tr,2,none⟩=some (.map (some T.pb))∧(Instr.lookup 128 (.map (some T.pb)) (.agg #[.int .i64 i,.int .i64 (T.g i:Nat)]) false).run Tryz.prog W = .ok (.int .i64 (T.pn i:Nat)) W):=fun W ho=>⟨((HB.out W ho).cells).1,((HB.out W ho).cells).2,(h.only (only_nilT HA.out ho)).c2,look_pin (h.only (only_nilT HA.out ho)) hil⟩;have HS2:Hid (∀ W,Only [] (w.alloc (.cells #[.int .i64 i,.int .i64 (T.g i:Nat)] 34)) W→W.cell? ⟨tr,0,none⟩=some (.pointer (some ⟨T.t,0,none⟩))∧W.cell? ⟨w.heap.size,0,none⟩=some (.int .i64 i)∧W.cell? ⟨w.heap.size,1,none⟩=some (.int .i64 (T.g i:Nat))):=fun W ho=>⟨(h.only (only_nilT HA.out ho)).c0,((HB.out W ho).cells).1,((HB.out W ho).cells).2⟩;have HD:Hid (Only [] (w.alloc (.cells #[.int .i64 i,.int .i64 (T.g i:Nat)] 34)) ((w.alloc (.cells #[.int .i64 i,.int .i64 (T.g i:Nat)] 34)).drew)):=(Only.refl [] _).drew;have K0:Hid (((w.alloc (.cells #[.int .i64 i,.int .i64 (T.g i:Nat)] 34)).drew).cell? ⟨w.heap.size,0,none⟩=some (.int .i64 i)∧((w.alloc (.cells #[.int .i64 i,.int .i64 (T.g i:Nat)] 34)).drew).cell? ⟨w.heap.size,1,none⟩=some (.int .i64 (T.g i:Nat))∧((w.alloc (.cells #[.int .i64 i,.int .i64 (T.g i:Nat)] 34)).drew).cell? ⟨tr,2,none⟩=some (.map (some T.pb))∧(Instr.lookup 128 (.map (some T.pb)) (.agg #[.int .i64 i,.int .i64 (T.g i:Nat)]) false).run Tryz.prog ((w.alloc (.cells #[.int .i64 i,.int .i64 (T.g i:Nat)] 34)).drew) = .ok (.int .i64 (T.pn i:Nat)) ((w.alloc (.cells #[.int .i64 i,.int .i64 (T.g i:Nat)] 34)).drew)):=HS.out _ HD.out;have htold:Calls Tryz.prog 98 #[.pointer (some ⟨tr,0,none⟩),.agg #[.int .i64 i,.int .i64 (T.g i:Nat)]] ((w.alloc (.cells #[.int .i64 i,.int .i64 (T.g i:Nat)] 34)).drew) fun e w'=>e = .returned (attrV n.K (n.S.size:Nat) n.L n.C n.UN n.UG)∧Only [] ((w.alloc (.cells #[.int .i64 i,.int .i64 (T.g i:Nat)] 34)).drew) w':=told_ok ((w.alloc (.cells #[.int .i64 i,.int .i64 (T.g i:Nat)] 34)).drew) tr T i n (n.S.size:Nat) (h.only (only_nilT HA.out HD.out)) hn (Or.inl ⟨hK,rfl⟩);unfold attrV at htold;have HTO:Hid (∀ W,Only [] (w.alloc (.cells #[.int .i64 i,.int .i64 (T.g i:Nat)] 34)) W→Calls Tryz.prog 98 #[.pointer (some ⟨tr,0,none⟩),.agg #[.int .i64 i,.int .i64 (T.g i:Nat)]] W fun e w'=>e = .returned (.agg #[.int .i64 n.K,.int .i64 (n.S.size:Nat),.int .i64 n.L,.int .i64 n.C,.int .i64 n.UN,.int .i64 n.UG])∧Only [] W w'):=fun W ho=>told_ok W tr T i n (n.S.size:Nat) (h.only (only_nilT HA.out ho)) hn (Or.inl ⟨hK,rfl⟩);have hfl:=fieldLinks;have HFR:Hid (∀ W,Only [] (w.alloc (.cells #[.int .i64 i,.int .i64 (T.g i:Nat)] 34)) W→Calls Tryz.prog 125 #[.pointer (some ⟨T.t,0,none⟩),.agg #[.int .i64 i,.int .i64 (T.g i:Nat)]] W fun e w'=>e = .returned .nilIface∧TabAt w' T.t T.p T.most (setN T.g i (T.g i+1)) (setN T.nd i none)∧Only T.p.a.toList W w'):=fun W ho=>tfree_ok W T.t T.p T.most i T.g T.nd n (h.only (only_nilT HA.out ho)).tab hn (by omega);have HFD:Hid (∀ w2 w',Only [] (w.alloc (.cells #[.int .i64 i,.int .i64 (T.g i:Nat)] 34)) w2→TabAt w' T.t T.p T.most (setN T.g i (T.g i+1)) (setN T.nd i none)→Only T.p.a.toList w2 w'→T.pn i=0→TreeAt w' tr (T.freed i)∧Only T.p.a.toList w w'):=fun w2 w' o2 ht ho hp=>⟨(h.only (only_nilT HA.out o2)).freed hds hp hg ht ho,((only_nilT HA.out o2).mono (fun _ hk=>by cases hk)).trans ho (fun _ hk=>Or.inl hk)⟩
 have HPA:Hid (tr∉T.p.a.toList∧w.heap.size∉T.p.a.toList):=⟨fun hm=>h.ftr (Or.inr (Or.inl (by simpa using hm))),fun hm=>by
  have:=h.tab.foot_lt w.heap.size (Or.inr (Or.inl (by simpa using hm)))
  omega⟩
 clear h hn hds
 go_enter Tryz.func96,Tryz.ntmps96
 go_upto_region 1 with fail
 go_cut [17] from 4 to 23 (fun q wx=>q = .bool (decide (n.L=0)&&decide (T.pn i=0))∧Only [] (w.alloc (.cells #[.int .i64 i,.int .i64 (T.g i:Nat)] 34)) wx)
 case first =>
  by_cases hL:n.L=0
  · have hLb:(n.L==0)=true:=by simpa using hL
    go_region_held3 (fun W=>W.cell? ⟨w.heap.size,0,none⟩=some (.int .i64 i)∧W.cell? ⟨w.heap.size,1,none⟩=some (.int .i64 (T.g i:Nat))∧W.cell? ⟨tr,2,none⟩=some (.map (some T.pb))∧(Instr.lookup 128 (.map (some T.pb)) (.agg #[.int .i64 i,.int .i64 (T.g i:Nat)]) false).run Tryz.prog W = .ok (.int .i64 (T.pn i:Nat)) W)
     (with_reducible first | exact K0.out | exact K2.out)
     (first
       | (go_at_call 98;refine htold.mono ?_;rintro e w2 ⟨rfl,ho2⟩;have HO2:Hid (Only [] (w.alloc (.cells #[.int .i64 i,.int .i64 (T.g i:Nat)] 34)) w2):=only_nilT HD.out ho2;have K2:Hid (w2.cell? ⟨w.heap.size,0,none⟩=some (.int .i64 i)∧w2.cell? ⟨w.heap.size,1,none⟩=some (.int .i64 (T.g i:Nat))∧w2.cell? ⟨tr,2,none⟩=some (.map (some T.pb))∧(Instr.lookup 128 (.map (some T.pb)) (.agg #[.int .i64 i,.int .i64 (T.g i:Nat)]) false).run Tryz.prog w2 = .ok (.int .i64 (T.pn i:Nat)) w2):=HS.out w2 HO2.out;clear ho2))
    all_goals go_wp2
    all_goals go_meet
    all_goals refine ⟨?_,HO2.out⟩
    all_goals
     rw [decide_eq_true hL,Bool.true_and];congr 1
     by_cases hp:T.pn i=0
     · rw [hp];rfl
     · rw [decide_eq_false hp]
       simpa using hp
  · have hLb:(n.L==0)=false:=by simpa using hL
    have z0:∀ p:OnlyBy (w.alloc (.cells #[.int .i64 i,.int .i64 (T.g i:Nat)] 34)),p.w.cell? ⟨w.heap.size,0,none⟩=some (.int .i64 i):=fun p=>(HS.out p.w p.ho).1;have z1:∀ p:OnlyBy (w.alloc (.cells #[.int .i64 i,.int .i64 (T.g i:Nat)] 34)),p.w.cell? ⟨w.heap.size,1,none⟩=some (.int .i64 (T.g i:Nat)):=fun p=>(HS.out p.w p.ho).2.1
    haveI:Nonempty (OnlyBy (w.alloc (.cells #[.int .i64 i,.int .i64 (T.g i:Nat)] 34))):=⟨⟨_,Only.refl _ _⟩⟩
    refine wp_region_quiet_only (w0:=w.alloc (.cells #[.int .i64 i,.int .i64 (T.g i:Nat)] 34)) (Only.refl [] _) (by kernel_rfl) (by kernel_rfl) ?_
    repeat (first | go_big_quiet_skip | quiet_step (first | (go_at_call 98;refine Calls.only_of (HTO.out _ (OnlyBy.ho _)))))
    refine wpQuiet_nil ?_;intro _ hw';obtain ⟨p,hw2⟩:=hw';subst hw2
    go_wp2
    go_meet
    exact ⟨by rw [decide_eq_false hL];rfl,p.ho⟩
 case rest =>
  obtain ⟨rfl,hoc⟩:=hcut;generalize wc=wt at hoc ⊢;have HOC:Hid (Only [] (w.alloc (.cells #[.int .i64 i,.int .i64 (T.g i:Nat)] 34)) wt):=hoc;clear hoc
  by_cases hz:n.L=0∧T.pn i=0
  · have hb:(decide (n.L=0)&&decide (T.pn i=0))=true:=by rw [decide_eq_true hz.1,decide_eq_true hz.2];rfl
    rw [hb];have HZ:Hid (n.L=0∧T.pn i=0):=hz;have K0:Hid (wt.drew.cell? ⟨tr,0,none⟩=some (.pointer (some ⟨T.t,0,none⟩))∧wt.drew.cell? ⟨w.heap.size,0,none⟩=some (.int .i64 i)∧wt.drew.cell? ⟨w.heap.size,1,none⟩=some (.int .i64 (T.g i:Nat))):=HS2.out _ HOC.out.drew;have hfr:=HFR.out wt.drew HOC.out.drew;clear hb hz htold hfl
    go_wp2
    go_region_held3 (fun W=>W.cell? ⟨tr,0,none⟩=some (.pointer (some ⟨T.t,0,none⟩))∧W.cell? ⟨w.heap.size,0,none⟩=some (.int .i64 i)∧W.cell? ⟨w.heap.size,1,none⟩=some (.int .i64 (T.g i:Nat)))
     (with_reducible first | exact K0.out | exact K4.out)
     (first
       | (go_at_call 125;refine hfr.mono ?_;rintro e w4 ⟨rfl,ht4,ho4⟩;have HE4:Hid (TreeAt w4 tr (T.freed i)∧Only T.p.a.toList w w4):=HFD.out wt.drew w4 HOC.out.drew ht4 ho4 HZ.out.2;have K4:Hid (w4.cell? ⟨tr,0,none⟩=some (.pointer (some ⟨T.t,0,none⟩))∧w4.cell? ⟨w.heap.size,0,none⟩=some (.int .i64 i)∧w4.cell? ⟨w.heap.size,1,none⟩=some (.int .i64 (T.g i:Nat))):=⟨(ho4.cell (p:=⟨tr,0,none⟩) (lt_of_cell K0.out.1) HPA.out.1).trans K0.out.1,(ho4.cell (p:=⟨w.heap.size,0,none⟩) (lt_of_cell K0.out.2.1) HPA.out.2).trans K0.out.2.1,(ho4.cell (p:=⟨w.heap.size,1,none⟩) (lt_of_cell K0.out.2.2) HPA.out.2).trans K0.out.2.2⟩;clear ht4 ho4 hfr))
    all_goals go_wp2
    all_goals go_end0
    all_goals exact ⟨rfl,Or.inl ⟨HZ.out.1,HZ.out.2,HE4.out.1,HE4.out.2⟩⟩
  · have hb:(decide (n.L=0)&&decide (T.pn i=0))=false:=by
     by_cases h1:n.L=0
     · rw [decide_eq_false (fun h2=>hz ⟨h1,h2⟩),Bool.and_false]
     · rw [decide_eq_false h1,Bool.false_and]
    rw [hb];have HZ:Hid (¬ (n.L=0∧T.pn i=0)):=hz;clear hb hz htold hfl
    go_wp2
    go_end0
    exact ⟨rfl,Or.inr ⟨HZ.out,only_nilT HA.out HOC.out⟩⟩
def Tr.shut (T:Tr)(i:Nat):Tr:={ T with ds:=setN T.ds i none }
theorem dir_del {w:World}{tr:Nat}{T:Tr}(h:TreeAt w tr T){i:Nat}(hi:i < T.p.N)(ty:TypeId):∃ w',(Builtin.delete_ #[127,34] ty #[.map (some T.db),.agg #[.int .i64 i,.int .i64 (T.g i:Nat)]]).run Tryz.prog w = .ok (.tuple #[]) w'∧TreeAt w' tr (T.shut i)∧Only [T.db] w w':=by
 obtain ⟨D,n,d1,d2,d3⟩:=h.dirs;obtain ⟨P,m,p1,p2,p3⟩:=h.pins;obtain ⟨w',hr,ho,ht⟩:=d1.drop lawH undDirs (h.key hi) ty;have hon:=only_turned ht;refine ⟨w',hr,?_,hon⟩;have htr:tr < w.heap.size:=lt_of_cell h.c0
 have hne:tr∉[T.db]:=by simpa using (own_ne_cell d1 h.c0).symm
 have hN:=h.small.N;have hg:=h.small.g
 have hds:∀ j d,(T.shut i).ds j=some d→j≠i∧T.ds j=some d:=fun j d e=>by
   by_cases hj:j=i
   · subst hj
     rw [show (T.shut j).ds j=none from setN_same _ _ _] at e
     cases e
   · rw [show (T.shut i).ds j=T.ds j from setN_other _ _ hj] at e
     exact ⟨hj,e⟩
 refine ⟨(hon.cell (p:=⟨tr,0,none⟩) htr hne).trans h.c0,(hon.cell (p:=⟨tr,1,none⟩) htr hne).trans h.c1,(hon.cell (p:=⟨tr,2,none⟩) htr hne).trans h.c2,h.tab.kept hon (fun k hk hm=>by simp at hm;subst hm;exact h.fdb hk),
   dirs_put (T':=T.shut i) ho (d3.del (fun j e=>hkey_only (by omega) (by have:=hg i;omega) j e) ?_ (fun j hj=>?_)) (fun j d e=>h.dlt j d (hds j d e).2) ⟨h.small.N,h.small.g⟩,fun j d e=>own_only (h.dir j d (hds j d e).2) hon (by simpa using (h.fdir j d (hds j d e).2).2.1),⟨P,m,own_only p1 hon (show T.pb∉[T.db] from by simpa using h.dp.symm),p2,p3⟩,
   fun j k d d' e e' hb=>h.one j k d d' (hds j d e).2 (hds k d' e').2 hb,⟨h.small.N,h.small.g⟩,h.ftr,h.fdb,h.fpb,fun j d e=>h.fdir j d (hds j d e).2,h.dp,fun j d e=>h.dlt j d (hds j d e).2,h.plt⟩
 · show (if T.g i=T.g i then (setN T.ds i none i).map (·.b) else none)=none
   rw [if_pos rfl,setN_same];rfl
 · obtain ⟨q,c⟩:=j
   show (if c=T.g q then (setN T.ds i none q).map (·.b) else none)=(if c=T.g q then (T.ds q).map (·.b) else none)
   by_cases hq:q=i
   · subst hq
     have hc:c≠T.g q:=fun e=>hj (by rw [e]);rw [if_neg hc,if_neg hc]
   · rw [setN_other _ _ hq]
def Tr.lostD (T:Tr)(a i:Nat)(na:Nod)(d:DirM)(s:List UInt8):Tr:=(Tr.shut { T.named a d.b (dropE d.l s) with nd:=setN T.nd a (some { na with Z:=((dropE d.l s).length:Nat),L:=2+(dirsIn (dropE d.l s) (T.named a d.b (dropE d.l s)).ds:Int) }) } i).freed i
theorem lose_dir (w:World)(tr:Nat)(T:Tr)(a i:Nat)(na ni:Nod)(d:DirM)(s:ByteArray)(h:TreeAt w tr T)(hd:T.ds a=some d)(ha:T.nd a=some na)(hKa:na.K=2)(hi:T.nd i=some ni)(hKi:ni.K=2)(hai:a≠i)(hdi:(T.ds i).isSome=true)(hpn:T.pn i=0)(hg:T.g i+1≤5000000000000000000)(he:findE d.l s.data.toList=some ⟨s.data.toList,i,T.g i⟩)(hl:d.l.length≤900)(hs:s.size≤1000)(hlive:∀ e∈d.l,e.i < T.p.N∧e.c=T.g e.i):
  Calls Tryz.prog 72 #[.pointer (some ⟨tr,0,none⟩),.agg #[.int .i64 a,.int .i64 (T.g a:Nat)],.string s] w fun e w'=>e = .returned (.tuple #[])∧TreeAt w' tr (T.lostD a i na d s.data.toList)∧Only ([d.b,na.b,T.db]++T.p.a.toList) w w':=by
 have hal:=h.tab.lt ha;have hil:=h.tab.lt hi;have htl:tr < w.heap.size:=lt_of_cell h.c0;have hdb:d.b < w.heap.size:=World.ownsMap.lt (h.dir a d hd);have hnb:na.b < w.heap.size:=lt_of_cell (h.tab.node a na ha).c0;have hib:ni.b < w.heap.size:=lt_of_cell (h.tab.node i ni hi).c0;have HLK:Hid (∀ W,Only [] w W→W.cell? ⟨tr,1,none⟩=some (.map (some T.db))∧(Instr.lookup 127 (.map (some T.db)) (.agg #[.int .i64 a,.int .i64 (T.g a:Nat)]) false).run Tryz.prog W = .ok (.map (some d.b)) W∧(Instr.lookup 136 (.map (some d.b)) (.string s) false).run Tryz.prog W = .ok (.agg #[.int .i64 (i:Nat),.int .i64 (T.g i:Nat)]) W):=fun W ho=>⟨(h.only ho).c1,look_dir (h.only ho) hal hd,look_name0 ((h.only ho).dir a d hd) s hs he⟩;have hA:Only [] w (w.alloc (.cells #[.int .i64 a,.int .i64 (T.g a:Nat)] 34)):=(Only.refl [] w).alloc _;obtain ⟨p1,p2,p3⟩:=HLK.out _ hA.drew;obtain ⟨r1,r2,r3⟩:=HLK.out _ (hA.alloc (.cells #[.int .i64 0,.int .i64 0] 34)).drew
 have HBN:Hid (HBox ((w.alloc (.cells #[.int .i64 a,.int .i64 (T.g a:Nat)] 34)).alloc (.cells #[.int .i64 i,.int .i64 (T.g i:Nat)] 34)).drew (w.heap.size+1) i (T.g i)):=by
  have hh:=heap_alloc_last (w.alloc (.cells #[.int .i64 a,.int .i64 (T.g a:Nat)] 34)) (.cells #[.int .i64 i,.int .i64 (T.g i:Nat)] 34);rw [World.size_alloc] at hh;exact hh
 go_enter Tryz.func72,Tryz.ntmps72
 go_upto_region 1 with fail
 go_cut [6] from 7 to 38 (fun q wx=>∃ B,q = .pointer (some ⟨B,0,none⟩)∧w.heap.size < B∧HBox wx B i (T.g i)∧Only [] (w.alloc (.cells #[.int .i64 a,.int .i64 (T.g a:Nat)] 34)) wx)
 case first =>
  go_region
  all_goals go_wp2
  all_goals go_meet
  all_goals exact ⟨w.heap.size+1,rfl,Nat.lt_succ_self _,HBN.out,((Only.refl [] _).alloc _).drew⟩
 case rest =>
  obtain ⟨B,rfl,hB,hbx,hoc⟩:=hcut;clear p1 p2 p3 r1 r2 r3 HBN;have hOc:Only [] w wc:=only_nilT hA hoc
  have hbA:HBox wc w.heap.size a (T.g a):=HBox.kept (show HBox _ w.heap.size a (T.g a) from heap_alloc_last w _) hoc (by simp)
  generalize wc=wt at hOc hbx hbA ⊢;clear hA hoc;have htake:=take_dir wt tr T a i na ni d s (h.only hOc) hd ha hKa hi hKi he hl hs hlive;obtain ⟨x0,x1⟩:=hbA.cells;have HOT:Hid (Only [] w wt):=hOc;have HBX:Hid (HBox wt B i (T.g i)):=hbx;obtain ⟨T1,hT1⟩:∃ T1,{ T.named a d.b (dropE d.l s.data.toList) with nd:=setN T.nd a (some { na with Z:=((dropE d.l s.data.toList).length:Nat),L:=2+(dirsIn (dropE d.l s.data.toList) (T.named a d.b (dropE d.l s.data.toList)).ds:Int) }) }=T1:=⟨_,rfl⟩;rw [hT1] at htake
  have e1:T1.g=T.g∧T1.t=T.t∧T1.p=T.p∧T1.db=T.db∧T1.pn=T.pn∧T1.most=T.most:=by rw [← hT1];exact ⟨rfl,rfl,rfl,rfl,rfl,rfl⟩
  have e2:(T1.ds i).isSome=true:=by
   rw [← hT1];show (setN T.ds a _ i).isSome=true;rw [setN_other _ _ (Ne.symm hai)];exact hdi
  have e3:T1.nd i=some ni:=by
   rw [← hT1];show setN T.nd a _ i=_;rw [setN_other _ _ (Ne.symm hai)];exact hi
  obtain ⟨f1,f2,f3,f4,f5,f6⟩:=e1
  have HFIN:Hid (T.lostD a i na d s.data.toList=(T1.shut i).freed i):=by show _=_;unfold Tr.lostD;rw [hT1]
  have HIS:Hid (∀ W,TreeAt W tr T1→Calls Tryz.prog 124 #[.pointer (some ⟨tr,0,none⟩),.agg #[.int .i64 i,.int .i64 (T.g i:Nat)]] W fun e w'=>e = .returned (.bool true)∧Only [] W w'):=fun W hW=>by
   have:=isDir_any W tr T1 i hW (by rw [f3];exact hil);rw [f1,e2] at this;exact this
  have HDL:Hid (∀ W,TreeAt W tr T1→W.cell? ⟨tr,1,none⟩=some (.map (some T.db))∧∃ w',(Builtin.delete_ #[127,34] 0 #[.map (some T.db),.agg #[.int .i64 i,.int .i64 (T.g i:Nat)]]).run Tryz.prog W = .ok (.tuple #[]) w'∧TreeAt w' tr (T1.shut i)∧Only [T.db] W w'):=fun W hW=>by
   have h1:=hW.c1;have h2:=dir_del hW (i:=i) (by rw [f3];exact hil) 0;rw [f1,f4] at h2;rw [f4] at h1;exact ⟨h1,h2⟩
  have HFR:Hid (∀ W,TreeAt W tr (T1.shut i)→Calls Tryz.prog 125 #[.pointer (some ⟨T.t,0,none⟩),.agg #[.int .i64 i,.int .i64 (T.g i:Nat)]] W fun e w'=>e = .returned .nilIface∧TreeAt w' tr ((T1.shut i).freed i)∧Only T.p.a.toList W w'):=fun W hW=>by
   have hh:=tfree_ok W T1.t T1.p T1.most i T1.g T1.nd ni hW.tab e3 (by rw [f1];omega);rw [f1,f2,f3] at hh
   refine hh.mono fun e w' hx=>⟨hx.1,hW.freed (show setN T1.ds i none i=none from setN_same _ _ _) (show T1.pn i=0 by rw [f5];exact hpn) (show T1.g i+1≤_ by rw [f1];exact hg) ?_ (show Only T1.p.a.toList W w' by rw [f3];exact hx.2.2),hx.2.2⟩
   show TabAt w' T1.t T1.p T1.most (setN T1.g i (T1.g i+1)) (setN T1.nd i none);rw [f1,f2,f3];exact hx.2.1
  have HPA:Hid (tr∉T.p.a.toList∧(∀ k,w.heap.size≤k→k∉T.p.a.toList)∧(∀ k,w.heap.size≤k→k∉[d.b,na.b]∧k∉[T.db])∧tr∉[d.b,na.b]∧tr∉[T.db]):=by
   obtain ⟨D,n,d1,_,_⟩:=h.dirs;have hdl:=d1.lt;refine ⟨fun hm=>h.ftr (Or.inr (Or.inl (by simpa using hm))),fun k hk hm=>?_,fun k hk=>⟨by simp;omega,by simp;omega⟩,?_,by simpa using (own_ne_cell d1 h.c0).symm⟩
   · have:=h.tab.foot_lt k (Or.inr (Or.inl (by simpa using hm)))
     omega
   · have q1:=(own_ne_cell (h.dir a d hd) h.c0).symm
     have q2:tr≠na.b:=fun e=>h.ftr (by rw [e];exact .node ha na.b_foot);simp [q1,q2]
  have HT0:Hid (∀ W,TreeAt W tr T1→W.cell? ⟨tr,0,none⟩=some (.pointer (some ⟨T.t,0,none⟩))):=fun W hW=>by have:=hW.c0;rw [f2] at this;exact this
  have HT2:Hid (∀ W,TreeAt W tr (T1.shut i)→W.cell? ⟨tr,0,none⟩=some (.pointer (some ⟨T.t,0,none⟩))):=fun W hW=>by have:=hW.c0;rw [show (T1.shut i).t=T.t from f2] at this;exact this
  clear hT1 h hd ha hi he hlive hbA hbx hOc f1 f2 f3 f4 f5 f6 e2 e3 HLK
  go_wp2_with (first
   | (go_at_call 87;refine htake.mono ?_;rintro e w3 ⟨rfl,hT3,ho3⟩;have HT3:Hid (TreeAt w3 tr T1):=hT3;have HO3:Hid (Only [d.b,na.b] wt w3):=ho3;have hB3:HBox w3 B i (T.g i):=HBox.kept HBX.out ho3 (HPA.out.2.2.1 B (Nat.le_of_lt hB)).1;have HB3:Hid (HBox w3 B i (T.g i)):=hB3;obtain ⟨z0,z1⟩:=hB3.cells;have his:=HIS.out w3 hT3;clear htake hT3 ho3 hB3 x0 x1)
   | (go_at_call 124;go_must (refine his.mono ?_);rintro e w4 ⟨rfl,ho4⟩;have HO4:Hid (Only [] w3 w4):=ho4;clear his ho4 z0 z1))
  have hT4:TreeAt w4.drew tr T1:=HT3.out.only HO4.out.drew;obtain ⟨q1,w5,hdel,hT5,ho5⟩:=HDL.out w4.drew hT4;have hb4:HBox w4 B i (T.g i):=HBox.kept HB3.out HO4.out (by simp);obtain ⟨y0,y1⟩:=hb4.cells;have hb5:HBox w5 B i (T.g i):=(HBox.kept hb4 ((Only.refl [] w4).drew) (by simp)).kept ho5 (HPA.out.2.2.1 B (Nat.le_of_lt hB)).2;have HT5:Hid (TreeAt w5.drew tr (T1.shut i)):=hT5.only ((Only.refl [] w5).drew);have HB5:Hid (HBox w5.drew B i (T.g i)):=HBox.kept hb5 ((Only.refl [] w5).drew) (by simp)
  have HO5:Hid (Only ([d.b,na.b,T.db]++T.p.a.toList) w w5.drew):=by
   have o1:Only [d.b,na.b,T.db] w w3:=(HOT.out.mono (fun _ hk=>by cases hk)).trans HO3.out (fun k hk=>Or.inl (by simp at hk;rcases hk with e | e<;>simp [e]));have o2:Only [d.b,na.b,T.db] w w4.drew:=o1.trans HO4.out.drew (fun _ hk=>by cases hk);have o3:Only [d.b,na.b,T.db] w w5:=o2.trans ho5 (fun k hk=>Or.inl (by simp at hk;simp [hk]));exact (o3.drew).mono (fun k hk=>Or.inl (List.mem_append_left _ hk))
  have K0:Hid (w5.drew.cell? ⟨tr,0,none⟩=some (.pointer (some ⟨T.t,0,none⟩))∧w5.drew.cell? ⟨B,0,none⟩=some (.int .i64 (i:Nat))∧w5.drew.cell? ⟨B,1,none⟩=some (.int .i64 (T.g i:Nat))):=⟨HT2.out _ HT5.out,HB5.out.cells.1,HB5.out.cells.2⟩;have hfr:=HFR.out w5.drew HT5.out;clear hT4 hT5 ho5 hb4 hb5
  go_region
  all_goals go_wp2
  all_goals go_region_held3 (fun W=>W.cell? ⟨tr,0,none⟩=some (.pointer (some ⟨T.t,0,none⟩))∧W.cell? ⟨B,0,none⟩=some (.int .i64 (i:Nat))∧W.cell? ⟨B,1,none⟩=some (.int .i64 (T.g i:Nat)))
   (with_reducible first | exact K0.out | exact K6.out)
   (first
     | (go_at_call 125;refine hfr.mono ?_;rintro e w6 ⟨rfl,hT6,ho6⟩;have HE6:Hid (TreeAt w6 tr ((T1.shut i).freed i)∧Only ([d.b,na.b,T.db]++T.p.a.toList) w w6):=⟨hT6,HO5.out.trans ho6 (fun k hk=>Or.inl (List.mem_append_right _ hk))⟩;have K6:Hid (w6.cell? ⟨tr,0,none⟩=some (.pointer (some ⟨T.t,0,none⟩))∧w6.cell? ⟨B,0,none⟩=some (.int .i64 (i:Nat))∧w6.cell? ⟨B,1,none⟩=some (.int .i64 (T.g i:Nat))):=⟨(ho6.cell (p:=⟨tr,0,none⟩) (lt_of_cell K0.out.1) HPA.out.1).trans K0.out.1,(ho6.cell (p:=⟨B,0,none⟩) (lt_of_cell K0.out.2.1) (HPA.out.2.1 B (Nat.le_of_lt hB))).trans K0.out.2.1,(ho6.cell (p:=⟨B,1,none⟩) (lt_of_cell K0.out.2.2) (HPA.out.2.1 B (Nat.le_of_lt hB))).trans K0.out.2.2⟩;clear hT6 ho6 hfr))
  all_goals go_wp2
  all_goals refine bodyPost_ret (results_none rfl _ _ _) rfl ?_
  all_goals exact ⟨rfl,by rw [HFIN.out];exact HE6.out.1,HE6.out.2⟩
def Tr.takenF (T:Tr)(a i:Nat)(na ni:Nod)(d:DirM)(s:List UInt8):Tr:={ T.named a d.b (dropE d.l s) with nd:=setN (setN T.nd i (some { ni with L:=ni.L - 1 })) a (some { na with Z:=((dropE d.l s).length:Nat),L:=2+(dirsIn (dropE d.l s) (T.named a d.b (dropE d.l s)).ds:Int) }) }
def Tr.lostF (T:Tr)(a i:Nat)(na ni:Nod)(d:DirM)(s:List UInt8):Tr:={ T.takenF a i na ni d s with nd:=setN (T.takenF a i na ni d s).nd i (some { ni with L:=ni.L - 1,C:=ni.C+1 }) }
def LostF (w w':World)(tr:Nat)(T:Tr)(a i:Nat)(na ni:Nod)(d:DirM)(s:List UInt8):Prop :=
 ((ni.L=1∧T.pn i=0∧TreeAt w' tr ((T.lostF a i na ni d s).freed i))∨(¬ (ni.L=1∧T.pn i=0)∧TreeAt w' tr (T.lostF a i na ni d s)))∧Only ([d.b,ni.b,na.b]++T.p.a.toList) w w'
theorem lose_file (w:World)(tr:Nat)(T:Tr)(a i:Nat)(na ni:Nod)(d:DirM)(s:ByteArray)(h:TreeAt w tr T)(hd:T.ds a=some d)(ha:T.nd a=some na)(hKa:na.K=2)(hi:T.nd i=some ni)(hKi:ni.K=1)(hL:1≤ni.L∧ni.L≤1000)(hC:0≤ni.C∧ni.C≤9000000000000000000)(hdi:T.ds i=none)(hg:T.g i+1≤5000000000000000000)(he:findE d.l s.data.toList=some ⟨s.data.toList,i,T.g i⟩)(hl:d.l.length≤900)(hs:s.size≤1000)(hlive:∀ e∈d.l,e.i < T.p.N∧e.c=T.g e.i):
  Calls Tryz.prog 72 #[.pointer (some ⟨tr,0,none⟩),.agg #[.int .i64 a,.int .i64 (T.g a:Nat)],.string s] w fun e w'=>e = .returned (.tuple #[])∧LostF w w' tr T a i na ni d s.data.toList:=by
 have hal:=h.tab.lt ha;have hil:=h.tab.lt hi;have htl:tr < w.heap.size:=lt_of_cell h.c0;have hdb:d.b < w.heap.size:=World.ownsMap.lt (h.dir a d hd);have hnb:na.b < w.heap.size:=lt_of_cell (h.tab.node a na ha).c0;have hib:ni.b < w.heap.size:=lt_of_cell (h.tab.node i ni hi).c0;have HLK:Hid (∀ W,Only [] w W→W.cell? ⟨tr,1,none⟩=some (.map (some T.db))∧(Instr.lookup 127 (.map (some T.db)) (.agg #[.int .i64 a,.int .i64 (T.g a:Nat)]) false).run Tryz.prog W = .ok (.map (some d.b)) W∧(Instr.lookup 136 (.map (some d.b)) (.string s) false).run Tryz.prog W = .ok (.agg #[.int .i64 (i:Nat),.int .i64 (T.g i:Nat)]) W):=fun W ho=>⟨(h.only ho).c1,look_dir (h.only ho) hal hd,look_name0 ((h.only ho).dir a d hd) s hs he⟩;have hA:Only [] w (w.alloc (.cells #[.int .i64 a,.int .i64 (T.g a:Nat)] 34)):=(Only.refl [] w).alloc _;obtain ⟨p1,p2,p3⟩:=HLK.out _ hA.drew;obtain ⟨r1,r2,r3⟩:=HLK.out _ (hA.alloc (.cells #[.int .i64 0,.int .i64 0] 34)).drew
 have HBN:Hid (HBox ((w.alloc (.cells #[.int .i64 a,.int .i64 (T.g a:Nat)] 34)).alloc (.cells #[.int .i64 i,.int .i64 (T.g i:Nat)] 34)).drew (w.heap.size+1) i (T.g i)):=by
  have hh:=heap_alloc_last (w.alloc (.cells #[.int .i64 a,.int .i64 (T.g a:Nat)] 34)) (.cells #[.int .i64 i,.int .i64 (T.g i:Nat)] 34);rw [World.size_alloc] at hh;exact hh
 go_enter Tryz.func72,Tryz.ntmps72
 go_upto_region 1 with fail
 go_cut [6] from 7 to 38 (fun q wx=>∃ B,q = .pointer (some ⟨B,0,none⟩)∧w.heap.size < B∧HBox wx B i (T.g i)∧Only [] (w.alloc (.cells #[.int .i64 a,.int .i64 (T.g a:Nat)] 34)) wx)
 case first =>
  go_region
  all_goals go_wp2
  all_goals go_meet
  all_goals exact ⟨w.heap.size+1,rfl,Nat.lt_succ_self _,HBN.out,((Only.refl [] _).alloc _).drew⟩
 case rest =>
  obtain ⟨B,rfl,hB,hbx,hoc⟩:=hcut;clear p1 p2 p3 r1 r2 r3 HBN;have hOc:Only [] w wc:=only_nilT hA hoc
  have hbA:HBox wc w.heap.size a (T.g a):=HBox.kept (show HBox _ w.heap.size a (T.g a) from heap_alloc_last w _) hoc (by simp)
  generalize wc=wt at hOc hbx hbA ⊢;clear hA hoc;have htake:=take_file wt tr T a i na ni d s (h.only hOc) hd ha hKa hi hKi hL he hl hs hlive;obtain ⟨x0,x1⟩:=hbA.cells;have HOT:Hid (Only [] w wt):=hOc;have HBX:Hid (HBox wt B i (T.g i)):=hbx;obtain ⟨T1,hT1⟩:∃ T1,T.takenF a i na ni d s.data.toList=T1:=⟨_,rfl⟩
  have htk:Calls Tryz.prog 87 #[.pointer (some ⟨tr,0,none⟩),.agg #[.int .i64 a,.int .i64 (T.g a:Nat)],.string s] wt fun e w'=>e = .returned (.tuple #[])∧TreeAt w' tr T1∧Only [d.b,ni.b,na.b] wt w':=by rw [← hT1];exact htake
  have hai:a≠i:=fun e=>by
    rw [e,hi] at ha
    cases ha
    omega
  have e1:T1.g=T.g∧T1.p=T.p∧T1.pn=T.pn:=by rw [← hT1];exact ⟨rfl,rfl,rfl⟩
  obtain ⟨f1,f3,f5⟩:=e1
  have e2:T1.ds i=none:=by
    rw [← hT1];show setN T.ds a _ i=none;rw [setN_other _ _ (Ne.symm hai)];exact hdi
  have e3:T1.nd i=some { ni with L:=ni.L - 1 }:=by
    rw [← hT1];show setN (setN T.nd i _) a _ i=_;rw [setN_other _ _ (Ne.symm hai),setN_same]
  obtain ⟨T2,hT2⟩:∃ T2,{ T1 with nd:=setN T1.nd i (some { ni with L:=ni.L - 1,C:=ni.C+1 }) }=T2:=⟨_,rfl⟩
  have g1:T2.g=T.g∧T2.p=T.p∧T2.pn=T.pn∧T2.ds i=none∧T2.nd i=some { ni with L:=ni.L - 1,C:=ni.C+1 }:=by rw [← hT2];exact ⟨f1,f3,f5,e2,setN_same _ _ _⟩
  obtain ⟨g1,g3,g5,g6,g7⟩:=g1
  have HFIN:Hid (T.lostF a i na ni d s.data.toList=T2):=by show _=_;unfold Tr.lostF;rw [hT1,hT2]
  have HIS:Hid (∀ W,TreeAt W tr T1→Calls Tryz.prog 124 #[.pointer (some ⟨tr,0,none⟩),.agg #[.int .i64 i,.int .i64 (T.g i:Nat)]] W fun e w'=>e = .returned (.bool false)∧Only [] W w'):=fun W hW=>by
    have:=isDir_any W tr T1 i hW (by rw [f3];exact hil);rw [f1,e2] at this;exact this
  have HTO:Hid (∀ W,TreeAt W tr T1→Calls Tryz.prog 70 #[.pointer (some ⟨tr,0,none⟩),.agg #[.int .i64 i,.int .i64 (T.g i:Nat)]] W fun e w'=>e = .returned (.tuple #[])∧TreeAt w' tr T2∧Only [ni.b] W w'):=fun W hW=>by
    have hh:=touch_ok W tr T1 i { ni with L:=ni.L - 1 } hW e3 hC;rw [← f1];refine hh.mono fun e w' hx=>⟨hx.1,?_,hx.2.2⟩;rw [← hT2];exact hx.2.1
  have HSE:Hid (∀ W,TreeAt W tr T2→Calls Tryz.prog 96 #[.pointer (some ⟨tr,0,none⟩),.agg #[.int .i64 i,.int .i64 (T.g i:Nat)]] W fun e w'=>e = .returned (.tuple #[])∧Settled W w' tr T2 i (ni.L - 1)):=fun W hW=>by
    have hh:=settle_any W tr T2 i { ni with L:=ni.L - 1,C:=ni.C+1 } hW g7 hKi g6 (by rw [g1];exact hg);rw [g1] at hh;exact hh
  have HNO:Hid (∀ k,w.heap.size≤k→k∉[d.b,ni.b,na.b]∧k∉[ni.b]):=fun k hk=>⟨by simp;omega,by simp;omega⟩;have HG:Hid (T2.p=T.p∧T2.pn=T.pn):=⟨g3,g5⟩;clear htake hT1 hT2 h hd ha hi he hlive hbA hbx hOc f1 f3 f5 e2 e3 g1 g3 g5 g6 g7 HLK
  go_wp2_with (first
    | (go_at_call 87;refine htk.mono ?_;rintro e w3 ⟨rfl,hT3,ho3⟩;have HT3:Hid (TreeAt w3 tr T1):=hT3;have HO3:Hid (Only [d.b,ni.b,na.b] wt w3):=ho3;have hB3:HBox w3 B i (T.g i):=HBox.kept HBX.out ho3 (HNO.out B (Nat.le_of_lt hB)).1;have HB3:Hid (HBox w3 B i (T.g i)):=hB3;obtain ⟨z0,z1⟩:=hB3.cells;have his:=HIS.out w3 hT3;clear htk hT3 ho3 hB3 x0 x1)
    | (go_at_call 124;go_must (refine his.mono ?_);rintro e w4 ⟨rfl,ho4⟩;have HO4:Hid (Only [] w3 w4):=ho4;have hB4:HBox w4 B i (T.g i):=HBox.kept HB3.out ho4 (by simp);have HB4:Hid (HBox w4 B i (T.g i)):=hB4;clear z0 z1;obtain ⟨z0,z1⟩:=hB4.cells;have hto:=HTO.out w4 (HT3.out.only ho4);clear his ho4 hB4)
    | (go_at_call 70;go_must (refine hto.mono ?_);rintro e w5 ⟨rfl,hT5,ho5⟩;have HO5:Hid (Only [ni.b] w4 w5):=ho5;have hB5:HBox w5 B i (T.g i):=HBox.kept HB4.out ho5 (HNO.out B (Nat.le_of_lt hB)).2;clear z0 z1;obtain ⟨z0,z1⟩:=hB5.cells;have HT5:Hid (TreeAt w5 tr T2):=hT5;have hse:=HSE.out w5 hT5;clear hto ho5 hB5 hT5)
    | (go_at_call 96;go_must (refine hse.mono ?_);rintro e w6 ⟨rfl,hs6⟩;have HS6:Hid (Settled w5 w6 tr T2 i (ni.L - 1)):=hs6;clear hse hs6 z0 z1))
  go_end0
  have o5:Only ([d.b,ni.b,na.b]++T.p.a.toList) w w5:=by
    have o3:Only [d.b,ni.b,na.b] w w3:=(HOT.out.mono (fun _ hk=>by cases hk)).trans HO3.out (fun k hk=>Or.inl hk);have o4:Only [d.b,ni.b,na.b] w w4:=o3.trans HO4.out (fun _ hk=>by cases hk);have o5:Only [d.b,ni.b,na.b] w w5:=o4.trans HO5.out (fun k hk=>Or.inl (by simp at hk;simp [hk]));exact o5.mono (fun k hk=>Or.inl (List.mem_append_left _ hk))
  obtain ⟨k3,k5⟩:=HG.out;refine ⟨rfl,?_⟩;unfold LostF;rw [HFIN.out];rcases HS6.out with ⟨s1,s2,s3,s4⟩ | ⟨s1,s2⟩
  · rw [k3] at s4
    rw [k5] at s2;exact ⟨Or.inl ⟨by omega,s2,s3⟩,o5.trans s4 (fun k hk=>Or.inl (List.mem_append_right _ hk))⟩
  · rw [k5] at s1
    exact ⟨Or.inr ⟨fun e=>s1 ⟨by omega,e.2⟩,HT5.out.only s2⟩,o5.trans s2 (fun _ hk=>by cases hk)⟩
end
end Go.Proofs.YtbdfjbmocifhmaaGreatDoor
