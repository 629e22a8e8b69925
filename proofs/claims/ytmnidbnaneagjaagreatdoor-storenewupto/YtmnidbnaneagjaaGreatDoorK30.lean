import Derived.Test.YtmnidbnaneagjaaGreatDoorK29
set_option maxRecDepth 100000
set_option maxHeartbeats 8000000
namespace Go.Proofs.YtmnidbnaneagjaaGreatDoor
section
open Go Go.RowKit Go.Deep Go.Maps
theorem Only.toG1 {w w':World}{b:Nat}(h:Only [b] w w'):w.grownBy w' (some b):=⟨h.os,h.tape,h.output,h.size,fun k hk hne=>h.block k hk (fun hm=>hne (by rw [List.mem_singleton.1 hm]))⟩
abbrev isN (i:Nat)(e:Ent):Bool:=e.i==i
theorem below_any (w:World)(tr:Nat)(T:Tr)(c:Lc)(i:Nat)(h:TreeAt w tr T)(hA:absT T=c){q:Nat}(hok:LcOk (absT T) q)(h0:T.g 0=0)(hi:∃ n,c.nd i=some n∧n.K=2):
  Calls Tryz.prog 137 #[.pointer (some ⟨tr,0,none⟩),.agg #[.int .i64 (i:Nat),.int .i64 (T.g i:Nat)],.agg #[.int .i64 0,.int .i64 0]] w fun e w'=>e = .returned (.bool (belowC c i))∧Only [] w w':=by
 subst hA;obtain ⟨n,hn,hK⟩:=hi
 have hch:=isIn_any w tr T (chC (absT T) i) 0 h (fun j=>by
  obtain ⟨m,hm,h2,h3,h4⟩:=ch_up hok hn hK j;obtain ⟨m',hm',rfl⟩:=of_nd hm
  exact ⟨m',hm',h2,h3,h4⟩)
 rw [h0] at hch;have hcn:countTo T.nd T.p.N=countTo (absT T).nd (absT T).N:=countTo_some (fun k=>by show _=((T.nd k).map bareN).isSome;rw [Option.isSome_map]) _;rw [hcn] at hch;exact hch
def KEnd (A:Nat→Addr)(w:World)(ok:Bool)(e:Ending)(w':World):Prop:=((ok=true∧e = .returned (.tuple #[]))∨(ok=false∧e = .panicked (thr A)))∧Only [] w w'
theorem check_ends (w0 w:World)(A:Nat→Addr)(R B lb xb tr most:Nat)(v:Value)(l:List Nmb)(c:Lc)(t:ByteArray)(T:Tr)(q:Nat)(h:Fill w0 w A R B lb xb tr most v l c t T q)(hl:1≤l.length∧l.length≤300)(hh:pHead l=true):
  Calls Tryz.prog 77 #[.pointer (some ⟨lb,0,none⟩)] w (KEnd A w (chkC l c)):=by
 obtain ⟨n,hn⟩:∃ n,l.length=n:=⟨_,rfl⟩
 obtain ⟨g,cap,hv⟩:∃ g cap,v = .slice (some ⟨g,0,none⟩) n cap:=by
  rcases h.d.row.2 with ⟨_,e2⟩ | ⟨g,cap,cur,e,_⟩
  · omega
  · exact ⟨g,cap,by rw [e,hn]⟩
 subst hv;have HN:Hid (l.length=n):=hn
 have hn3:1≤n∧n≤300:=by omega
 clear hn;have HF:Hid (∀ W,Only [] w W→Fill w0 W A R B lb xb tr most (.slice (some ⟨g,0,none⟩) n cap) l c t T q):=fun W ho=>h.sees ho;have hT:=h.d.tree;obtain ⟨D,nD,d1,d2,d3⟩:=hT.dirs;have hmk:=run_makeMap (P:=Tryz.prog) 126 w;have d1':(w.alloc (.map #[] 0)).ownsMap Tryz.prog 94 mapElem T.db nD D:=d1.alloc _;obtain ⟨w2,hrange,hrg,hgr,hsz⟩:=d1'.range lawH undDirs;rw [World.size_alloc] at hrange hrg hsz;have HRG:Hid (w2.ranges Tryz.prog 94 mapElem T.db (w.heap.size+1) nD D (has D) (Maps.size D)):=hrg;have HD3:Hid (Reads hkey numD D T.dirsF):=d3;have HO2:Hid (Only [] w w2):=((Only.refl [] w).alloc _).grown hgr (fun k hk=>by cases hk)
 have HC2:Hid (CntAt w2 w.heap.size T.g (fun _=>0) 0):=by
  have ho:Only [] (w.alloc (.map #[] 0)) w2:=(Only.refl [] _).grown hgr (fun k hk=>by cases hk);exact CntAt.kept (w:=w.alloc (.map #[] 0)) ⟨_,0,World.ownsMap_made (H:=Unit) w Tryz.prog 94 (plainElem Tryz.prog 3),Nat.le_refl _,Reads.empty.congr (fun k=>by simp [cntF])⟩ ho (by simp)
 have HTL:Hid (∀ k,FootT tr T k→k < w.heap.size):=hT.foot_lt;have HSM:Hid (T.p.N≤1000∧(∀ i,T.g i≤5000000000000000000)):=⟨hT.small.N,hT.small.g⟩
 have HOK:Hid (LcOk (absT T) q):=by show LcOk _ _;rw [h.abs];exact h.ok
 have HLN:Hid (∀ k d,T.ds k=some d→d.l.length≤60∧k < T.p.N∧∀ e∈d.l,e.i < T.p.N∧e.c=T.g e.i):=fun k d hd=>by
  refine ⟨HOK.out.len k _ (absT_ds hd),hT.dlt k d hd,fun e he=>?_⟩;obtain ⟨⟨m,hm⟩,h2,_⟩:=HOK.out.live k _ (absT_ds hd) e he;exact ⟨(HOK.out.kind _ _ hm).2,h2⟩
 have c1:=h.d.ld.c1;have ct:=hT.c1;have hlb:=h.d.ld.lt;have htl:tr < w.heap.size:=lt_of_cell ct;obtain ⟨eb,heb⟩:∃ eb,w.heap.size=eb:=⟨_,rfl⟩;have HEB:Hid (w.heap.size=eb):=heb;have HHD:Hid (pHead l=true):=hh;have HLL:Hid (1≤l.length∧l.length≤300):=hl;have HABS:Hid (absT T=c):=h.abs;rw [heb] at hmk hrange HRG HC2;clear h hT d1 d1' d2 d3 hrg hgr hsz hl hh heb
 go_enter Tryz.func77,Tryz.ntmps77
 go_wp2
 clear hmk hrange c1 ct hlb htl
 go_loopw [4] (fun _ wr=>∃ (left:Lit→Bool) (cnt:Nat),wr.ranges Tryz.prog 94 mapElem T.db (eb+1) nD D left cnt∧Only [] w wr∧(∀ kl,left kl=true→has D kl=true)∧CntAt wr eb T.g (fun i=>doneD T (isN i) left T.p.N) (doneD T (fun _=>true) left T.p.N)) (fun _ wr=>wr.rangeLeft T.db (eb+1))
 case atStart =>
  have hst:∀ k d,T.ds k=some d→has D (hkey (k,T.g k))=true:=fun k d hd=>(HD3.out.there (k,T.g k) d.b (by unfold Tr.dirsF;rw [if_pos rfl,hd];rfl)).1;refine ⟨_,_,HRG.out,HO2.out,fun _ h=>h,?_⟩
  rw [doneD_start hst,show (fun i=>doneD T (isN i) (has D) T.p.N)=fun _=>0 from funext fun i=>doneD_start hst _]
  exact HC2.out
 case round =>
  obtain ⟨left,cnt,hrg,hO,hleft,hC⟩:=hrel
  go_wp2_with (first
    | (at_next;refine wpList_next_ranges _ rfl _ rfl 94 lawH mapElem id id (fun key _ _=>⟨key,rfl⟩) (fun v _ _=>⟨v,rfl⟩) T.db (eb+1) nD _ _ _ rfl hrg ?_ ?_)
    | go_in)
  · intro _ hl0
    have HC:Hid (CntAt wr eb T.g (totC c) (totD T (fun _=>true))):=by
      show CntAt _ _ _ _ _
      have e1:(fun i=>doneD T (isN i) left T.p.N)=totC c:=funext fun i=>by rw [doneD_end hl0,← HABS.out];exact totD_C T i
      rw [e1,doneD_end hl0] at hC;exact hC
    have HO:Hid (Only [] w wr):=hO;have c1:=(HF.out wr hO).d.ld.c1;have hlb:=(HF.out wr hO).d.ld.lt;have hro:=root_any wr (.pointer (some ⟨tr,0,none⟩));clear hrg hleft hC hl0 hO HRG HC2 HO2
    go_upto_region 9 with (go_at_call 136;refine hro.mono ?_;rintro e w3 ⟨rfl,o3⟩;have HO3:Hid (Only [] wr w3):=o3;clear hro o3)
    have HO4:Hid (Only [] wr (w3.alloc (.cells #[.int .i64 0,.int .i64 0] 94))):=HO3.out.alloc _;have HRB:Hid (HBox (w3.alloc (.cells #[.int .i64 0,.int .i64 0] 94)) w3.heap.size 0 0):=heap_alloc_last w3 _;clear c1 hlb HO3;generalize w3.alloc (.cells #[.int .i64 0,.int .i64 0] 94)=w4 at HO4 HRB ⊢;generalize w3.heap.size=rb at HRB ⊢
    have hg0:T.g 0=0:=by
      have e1:T.g=gL l:=by have:=(HF.out w (Only.refl _ _)).fit.2.1;rw [← this,← HABS.out];rfl
      rw [e1];have:=HHD.out;unfold pHead at this;unfold gL
      cases e:l[0]? with
      | none=>rfl
      | some x=>rw [e] at this;simp only [Bool.and_eq_true,decide_eq_true_eq] at this;exact this.2
    have HOW:Hid (Only [] w w4):=HO.out.trans HO4.out (fun _ hk=>by cases hk);have HCW:Hid (∀ W,Only [] w4 W→CntAt W eb T.g (totC c) (totD T (fun _=>true))):=fun W ho=>(HC.out.kept HO4.out (by simp)).kept ho (by simp)
    have lk:(Instr.lookup 126 (.map (some eb)) (.agg #[.int .i64 0,.int .i64 0]) false).run Tryz.prog w4 = .ok (.int .i64 (totC c 0:Nat)) w4:=by
      have:=cnt_look (HCW.out w4 (Only.refl _ _)) (i:=0) (by omega) (HSM.out.2 0);rw [hg0] at this;exact this
    obtain ⟨r0,r1⟩:=HRB.out.cells;have hrl:=HRB.out.lt
    by_cases ht0:totC c 0=0
    · rw [ht0] at lk
      have c2:=(HF.out w4 HOW.out).d.ld.c2;have hlb:=(HF.out w4 HOW.out).d.ld.lt;have HT0:Hid (totC c 0=0):=ht0;have HBE:Hid (∀ W,Only [] w4 W→HBox W rb 0 0):=fun W ho=>HRB.out.kept ho (by simp);have HFW:Hid (∀ W,Only [] w4 W→Fill w0 W A R B lb xb tr most (.slice (some ⟨g,0,none⟩) n cap) l c t T q):=fun W ho=>HF.out W (HOW.out.trans ho (fun _ hk=>by cases hk));have HG0:Hid (T.g 0=0):=hg0;have HEN:Hid (∀ W ok,Only [] w4 W→chkC l c=ok→KEnd A w ok (if ok then .returned (.tuple #[]) else .panicked (thr A)) W):=fun W ok ho hok=>⟨by cases ok;exact Or.inr ⟨rfl,rfl⟩;exact Or.inl ⟨rfl,rfl⟩,HOW.out.trans ho (fun _ hk=>by cases hk)⟩
      have hcap:n≤cap:=by
        have hr:=(HF.out w (Only.refl _ _)).d.row;rcases hr.2 with ⟨e,_⟩ | ⟨g',cap',cur,e,_,_,hr3,_⟩
        · simp at e
        · simp only [Value.slice.injEq] at e
          have:=HN.out;omega
      have hn1:∃ m,n=m+1:=⟨n - 1,by omega⟩;obtain ⟨m,rfl⟩:=hn1;clear ht0 hg0
      go_wp2_with (go_at_call 78;refine (must_yes _ _).mono ?_;rintro e w5 ⟨rfl,rfl⟩)
      case inl =>
        obtain rfl:m=0:=by omega
        go_loopw [53] (fun qv wq=>qv = .int .i64 0∧Only [] w4 wq) (fun _ _=>0)
        case atStart=>exact ⟨rfl,Only.refl _ _⟩
        case round =>
          obtain ⟨rfl,hO⟩:=hrel
          have HE:Hid (KEnd A w (chkC l c) (.returned (.tuple #[])) wr):=by
            have hk:chkC l c=true:=by
              unfold chkC;rw [HN.out,decide_eq_true HT0.out];rfl
            have:=HEN.out wr true hO hk;show KEnd _ _ _ _ _;rw [hk];exact this
          clear hO
          go_wp2
          go_end0
          exact HE.out
      go_loopw [53] (fun qv wq=>∃ j:Nat,qv = .int .i64 (j:Nat)∧j≤m∧Only [] w4 wq∧(List.range j).all (fun k=>chk1 l c (k+1))=true) (fun qv _=>m - (intOf qv).toNat)
      case atStart=>exact ⟨0,rfl,Nat.zero_le _,Only.refl _ _,rfl⟩
      case round =>
        obtain ⟨j,rfl,hj,hO,hall⟩:=hrel;have HO5:Hid (Only [] w4 wr):=hO;have HALL:Hid ((List.range j).all (fun k=>chk1 l c (k+1))=true):=hall;clear hO hall
        by_cases hlt:j < m
        · obtain ⟨x,hx⟩:∃ x,l[j+1]?=some x:=⟨l[j+1]'(by have:=HN.out;omega),List.getElem?_eq_getElem _⟩
          have HX:Hid (l[j+1]?=some x):=hx;obtain ⟨y0,y1,y2⟩:=(HFW.out wr HO5.out).d.row.cells HN.out hx;rw [show (j+1)*3=3+j*3 by omega] at y0 y1 y2;have hgl:g < wr.heap.size:=lt_of_cell y0
          have HKL:Hid (kindL l (j+1)=x.k):=by show _=_;unfold kindL;rw [hx]
          have hgx:T.g (j+1)=x.g:=by
            have e1:T.g=gL l:=by have:=(HF.out w (Only.refl _ _)).fit.2.1;rw [← this,← HABS.out];rfl
            rw [e1];unfold gL;rw [hx]
          have HGX:Hid (T.g (j+1)=x.g):=hgx
          have HNX:Hid (∀ b,chk1 l c (j+1)=b→(List.range (j+1)).all (fun k=>chk1 l c (k+1))=b):=fun b hb=>by rw [List.range_succ,List.all_append,HALL.out];simp [hb]
          have HNO:Hid (chk1 l c (j+1)=false→chkC l c=false):=fun hb=>by
            unfold chkC
            have:(List.range (l.length - 1)).all (fun j=>chk1 l c (j+1))=false:=by
              rw [List.all_eq_false];exact ⟨j,List.mem_range.2 (by have:=HN.out;omega),by rw [hb];decide⟩
            rw [this,Bool.and_false]
          have hwj:IntKind.i64.wrap ((j:Int)+1)=(j:Int)+1:=wrap_small (by omega) (by omega)
          have ej:((j+1:Nat):Int)=(j:Int)+1:=by omega
          clear hx hgx
          go_upto_region 13 with fail
          have HOB:Hid (Only [] w4 (wr.alloc (.cells #[.int .i64 (x.g:Nat),.int .i64 (x.k:Nat),.int .i64 (x.c:Nat)] 233))):=HO5.out.alloc _;have HBK:Hid ((wr.alloc (.cells #[.int .i64 (x.g:Nat),.int .i64 (x.k:Nat),.int .i64 (x.c:Nat)] 233)).heap[wr.heap.size]?=some (.cells #[.int .i64 (x.g:Nat),.int .i64 (x.k:Nat),.int .i64 (x.c:Nat)] 233 (0,0))):=heap_alloc_last wr _;clear y0 y1 y2 hgl HO5;generalize wr.alloc (.cells #[.int .i64 (x.g:Nat),.int .i64 (x.k:Nat),.int .i64 (x.c:Nat)] 233)=wb at HOB HBK ⊢;generalize wr.heap.size=bx at HBK ⊢;have hhd:=lhandle_ok wb A lb xb _ _ t R l (j+1) x (HFW.out wb HOB.out).d.ld (HFW.out wb HOB.out).d.row HX.out;rw [ej] at hhd
          go_upto_region 14 with (go_at_call 133;refine hhd.mono ?_;rintro e w6 ⟨rfl,o6⟩;have HO6:Hid (Only [] wb w6):=o6;clear hhd o6)
          have HO7:Hid (Only [] wb (w6.alloc (.cells #[.int .i64 ((j:Int)+1),.int .i64 (x.g:Nat)] 94))):=HO6.out.alloc _
          have HHB:Hid (HBox (w6.alloc (.cells #[.int .i64 ((j:Int)+1),.int .i64 (x.g:Nat)] 94)) w6.heap.size (j+1) x.g):=by
            have:=heap_alloc_last w6 (.cells #[.int .i64 ((j:Int)+1),.int .i64 (x.g:Nat)] 94);show _=_;rw [ej];exact this
          clear HO6;generalize w6.alloc (.cells #[.int .i64 ((j:Int)+1),.int .i64 (x.g:Nat)] 94)=w7 at HO7 HHB ⊢;generalize w6.heap.size=hb at HHB ⊢;have HO8:Hid (Only [] w4 w7):=HOB.out.trans HO7.out (fun _ hk=>by cases hk);have k1:w7.cell? ⟨bx,1,none⟩=some (.int .i64 (x.k:Nat)):=cell_of_row _ _ 1 _ _ _ ((HO7.out.block bx (Array.getElem?_eq_some_iff.1 HBK.out).1 (by simp)).trans HBK.out);obtain ⟨q0,q1⟩:=HHB.out.cells;rw [ej] at q0;have hhl:=HHB.out.lt
          have HLK:Hid (∀ W,Only [] w7 W→(Instr.lookup 126 (.map (some eb)) (.agg #[.int .i64 ((j:Int)+1),.int .i64 (x.g:Nat)]) false).run Tryz.prog W = .ok (.int .i64 (totC c (j+1):Nat)) W):=fun W ho=>by
            have:=cnt_look (HCW.out W (HO8.out.trans ho (fun _ hk=>by cases hk))) (i:=j+1) (by omega) (HSM.out.2 _);rw [HGX.out,ej] at this;exact this
          have lk7:=HLK.out w7 (Only.refl _ _)
          have HPAN:Hid (∀ W,Only [] w7 W→chk1 l c (j+1)=false→KEnd A w (chkC l c) (.panicked (thr A)) W):=fun W ho hb=>by
            have hk:=HNO.out hb;have:=HEN.out W false (HO8.out.trans ho (fun _ hk=>by cases hk)) hk;rw [hk];exact this
          have hmn:=must_no A lb w7 (HFW.out w7 HO8.out).d.ld.err
          by_cases hk2:x.k=2
          · have z1:w7.cell? ⟨bx,1,none⟩=some (.int .i64 2):=by rw [k1,hk2];rfl
            have HCH:Hid (chk1 l c (j+1)=(decide (totC c (j+1)=1)&&belowC c (j+1))):=by
              show _=_;unfold chk1;rw [HKL.out,if_pos hk2]
            have HIN:Hid (∀ W,Only [] w7 W→Calls Tryz.prog 137 #[.pointer (some ⟨tr,0,none⟩),.agg #[.int .i64 ((j:Int)+1),.int .i64 (x.g:Nat)],.agg #[.int .i64 0,.int .i64 0]] W fun e w'=>e = .returned (.bool (belowC c (j+1)))∧Only [] W w'):=fun W ho=>by
              have hin:=below_any W tr T c (j+1) ((HFW.out W (HO8.out.trans ho (fun _ hk=>by cases hk))).d.tree) HABS.out HOK.out HG0.out (by
                have h2:=(HFW.out w7 HO8.out).fit;obtain ⟨x',n',e1,e2,e3,_⟩:=h2.node (i:=j+1) (by rw [HKL.out];omega);obtain rfl:x=x':=Option.some.inj (HX.out.symm.trans e1)
                exact ⟨n',e2,by rw [e3,hk2];rfl⟩)
              rw [HGX.out,ej] at hin;exact hin
            have HMY:Hid (∀ W,Calls Tryz.prog 78 #[.pointer (some ⟨lb,0,none⟩),.bool true] W fun e w'=>e = .returned (.tuple #[])∧Only [] W w'):=fun W=>(must_yes _ _).mono fun e w' hh=>⟨hh.1,hh.2 ▸ Only.refl [] _⟩;have HMN:Hid (∀ W,Only [] w7 W→chk1 l c (j+1)=false→Calls Tryz.prog 78 #[.pointer (some ⟨lb,0,none⟩),.bool false] W fun e w'=>∃ ch,e = .panicked ch∧KEnd A w (chkC l c) (.panicked ch) w'):=fun W ho hb=>(must_no A lb W (HFW.out W (HO8.out.trans ho (fun _ hk=>by cases hk))).d.ld.err).mono fun e w' hh=>⟨thr A,hh.1,hh.2 ▸ HPAN.out W ho hb⟩;clear k1 hk2 hmn
            go_upto_region 16 with fail
            have z0:∀ p:OnlyBy w7,p.w.cell? ⟨hb,0,none⟩=some (.int .i64 ((j:Int)+1)):=fun p=>by have:=(HHB.out.kept p.ho (by simp)).cells.1;rw [ej] at this;exact this
            have z1':∀ p:OnlyBy w7,p.w.cell? ⟨hb,1,none⟩=some (.int .i64 (x.g:Nat)):=fun p=>(HHB.out.kept p.ho (by simp)).cells.2;have r0':∀ p:OnlyBy w7,p.w.cell? ⟨rb,0,none⟩=some (.int .i64 0):=fun p=>(HBE.out p.w (HO8.out.trans p.ho (fun _ hk=>by cases hk))).cells.1;have r1':∀ p:OnlyBy w7,p.w.cell? ⟨rb,1,none⟩=some (.int .i64 0):=fun p=>(HBE.out p.w (HO8.out.trans p.ho (fun _ hk=>by cases hk))).cells.2;have c1':∀ p:OnlyBy w7,p.w.cell? ⟨lb,1,none⟩=some (.pointer (some ⟨tr,0,none⟩)):=fun p=>(HFW.out p.w (HO8.out.trans p.ho (fun _ hk=>by cases hk))).d.ld.c1;have lkp:∀ p:OnlyBy w7,(Instr.lookup 126 (.map (some eb)) (.agg #[.int .i64 ((j:Int)+1),.int .i64 (x.g:Nat)]) false).run Tryz.prog p.w = .ok (.int .i64 (totC c (j+1):Nat)) p.w:=fun p=>HLK.out p.w p.ho;clear q0 q1 hhl lk7 z1
            haveI:Nonempty (OnlyBy w7):=⟨⟨_,Only.refl _ _⟩⟩
            generalize totC c (j+1)=tc at lkp HCH
            by_cases h1:tc=1
            · subst h1
              cases hbl:belowC c (j+1) with
              | true =>
                have HOKJ:Hid (chk1 l c (j+1)=true):=by show _=_;rw [HCH.out,hbl];rfl
                rw [hbl] at HIN;refine wp_region_quiet_only (w0:=w7) (Only.refl [] _) (by kernel_rfl) (by kernel_rfl) ?_
                repeat (first | go_big_quiet_skip | quiet_step (first
                  | (go_at_call 137;refine Calls.only_of (HIN.out _ (OnlyBy.ho _)))
                  | (go_at_call 78;refine Calls.only_of (HMY.out _))))
                refine wpQuiet_nil ?_;intro _ hw';obtain ⟨p,hw2⟩:=hw';subst hw2
                go_wp2
                go_roundw
                · exact ⟨j+1,by go_num,by omega,HO8.out.trans p.ho (fun _ hk=>by cases hk),HNX.out _ HOKJ.out⟩
                · simp [intOf]
                  omega
              | false =>
                have HNJ:Hid (chk1 l c (j+1)=false):=by show _=_;rw [HCH.out,hbl];rfl
                rw [hbl] at HIN;refine wp_region_quiet_only_panic (w0:=w7) ?oo ?ho (fun _ d _ _ _ h=>by cases d<;>exact h) (Only.refl [] _) (by kernel_rfl) (by kernel_rfl) ?main
                case ho=>simp only [List.getLast?_cons_cons,List.getLast?_singleton];exact rfl
                simp only [List.dropLast]
                repeat (first | go_big_quiet_skip | quiet_step (first
                  | (go_at_call 137;refine Calls.only_of (HIN.out _ (OnlyBy.ho _)))))
                refine wpQuiet_nil ⟨rfl,?_⟩;intro W hW;obtain ⟨p,rfl⟩:=hW
                go_simp
                refine (HMN.out p.w p.ho HNJ.out).mono ?_;rintro e w9 ⟨ch,rfl,hk⟩;exact ⟨ch,rfl,⟨rfl,hk⟩⟩
            · have d1:((tc:Int)==1)=false:=by simp;omega
              have HNJ:Hid (chk1 l c (j+1)=false):=by show _=_;rw [HCH.out,decide_eq_false h1,Bool.false_and]
              refine wp_region_quiet_only_panic (w0:=w7) ?o2 ?ho2 (fun _ d _ _ _ h=>by cases d<;>exact h) (Only.refl [] _) (by kernel_rfl) (by kernel_rfl) ?main2
              case ho2=>simp only [List.getLast?_cons_cons,List.getLast?_singleton];exact rfl
              simp only [List.dropLast]
              repeat (first | go_big_quiet_skip | quiet_step (fail))
              refine wpQuiet_nil ⟨rfl,?_⟩;intro W hW;obtain ⟨p,rfl⟩:=hW
              go_simp
              refine (HMN.out p.w p.ho HNJ.out).mono ?_;rintro e w9 ⟨ch,rfl,hk⟩;exact ⟨ch,rfl,⟨rfl,hk⟩⟩
          · by_cases hk1:x.k=1
            · have z1:w7.cell? ⟨bx,1,none⟩=some (.int .i64 1):=by rw [k1,hk1];rfl
              have HCH:Hid (chk1 l c (j+1)=(decide (1≤totC c (j+1))&&decide (totC c (j+1)≤8))):=by
                show _=_;unfold chk1;rw [HKL.out,if_neg hk2,if_pos hk1]
              clear k1 hk1 hk2;generalize totC c (j+1)=tc at lk7 HCH
              by_cases h1:1≤tc
              · have e1:decide ((1:Int)≤(tc:Int))=true:=decide_eq_true (by omega)
                by_cases h8:tc≤8
                · have e2:decide ((tc:Int)≤8)=true:=decide_eq_true (by omega)
                  have HOKJ:Hid (chk1 l c (j+1)=true):=by show _=_;rw [HCH.out,decide_eq_true h1,decide_eq_true h8];rfl
                  go_wp2_with (go_at_call 78;refine (must_yes _ _).mono ?_;rintro e w8 ⟨rfl,rfl⟩)
                  go_roundw
                  · exact ⟨j+1,by go_num,by omega,HO8.out,HNX.out _ HOKJ.out⟩
                  · simp [intOf]
                    omega
                · have e2:decide ((tc:Int)≤8)=false:=decide_eq_false (by omega)
                  have HNJ:Hid (chk1 l c (j+1)=false):=by show _=_;rw [HCH.out,decide_eq_false h8,Bool.and_false]
                  go_wp2_with (go_at_call 78;refine hmn.mono ?_;rintro e w8 ⟨rfl,rfl⟩)
                  exact ⟨rfl,HPAN.out _ (Only.refl _ _) HNJ.out⟩
              · have e1:decide ((1:Int)≤(tc:Int))=false:=decide_eq_false (by omega)
                have HNJ:Hid (chk1 l c (j+1)=false):=by show _=_;rw [HCH.out,decide_eq_false h1,Bool.false_and]
                go_wp2_with (go_at_call 78;refine hmn.mono ?_;rintro e w8 ⟨rfl,rfl⟩)
                exact ⟨rfl,HPAN.out _ (Only.refl _ _) HNJ.out⟩
            · have d2:((x.k:Int)==2)=false:=by simp;omega
              have d1:((x.k:Int)==1)=false:=by simp;omega
              have HOKJ:Hid (chk1 l c (j+1)=true):=by show _=_;unfold chk1;rw [HKL.out,if_neg hk2,if_neg hk1]
              clear hk1 hk2 hmn
              go_wp2
              go_roundw
              · exact ⟨j+1,by go_num,by omega,HO8.out,HNX.out _ HOKJ.out⟩
              · simp [intOf]
                omega
        · obtain rfl:m=j:=by omega
          have HE:Hid (KEnd A w (chkC l c) (.returned (.tuple #[])) wr):=by
            have hk:chkC l c=true:=by
              unfold chkC;rw [HN.out,decide_eq_true HT0.out,show m+1 - 1=m by omega,HALL.out];rfl
            have:=HEN.out wr true HO5.out hk;show KEnd _ _ _ _ _;rw [hk];exact this
          go_wp2
          go_end0
          exact HE.out
    · have d0:((totC c 0:Int)==0)=false:=by simp;omega
      have HNO:Hid (chkC l c=false):=by show _=_;unfold chkC;rw [decide_eq_false ht0];rfl
      have hmu:=must_no A lb w4 (HF.out w4 HOW.out).d.ld.err;clear ht0 hg0
      go_wp2_with (go_at_call 78;refine hmu.mono ?_;rintro e w5 ⟨rfl,rfl⟩)
      exact ⟨rfl,Or.inr ⟨HNO.out,rfl⟩,HOW.out⟩
  · intro x cv kl yd yp w1 cnt1 hky hlx hv hat hrg1 hlt hg1 hs1 hen
    obtain ⟨⟨k0,gk⟩,bb,rfl,hbb⟩:=HD3.out.keys kl (hleft kl hlx)
    obtain ⟨d,rfl,hd,rfl⟩:∃ d,gk=T.g k0∧T.ds k0=some d∧d.b=bb:=by
      unfold Tr.dirsF at hbb
      by_cases e:gk=T.g k0
      · simp only [e,if_true] at hbb
        obtain ⟨d,hd,hb⟩:=Option.map_eq_some_iff.1 hbb;exact ⟨d,e,hd,hb⟩
      · simp only [if_neg e] at hbb
        cases hbb
    have hy:yd=numD d.b:=((hat .nil).symm.trans ((HD3.out.there _ _ hbb).2 _));subst hy;obtain rfl:=mapElem_inv hv;have hO1:Only [] w w1:=hO.grown hg1 (fun k hk=>by cases hk;exact Or.inr (by rw [HEB.out];omega));have hdir:DirAt w1 d:=((HF.out w1 hO1).d.tree).dir k0 d hd;obtain ⟨w3,hrange,hrg3,hg3,_⟩:=World.ownsMap.range hdir lawS undNames
    have hw1:eb+2≤w1.heap.size:=by have:=hrg1.lt;omega
    have HR1:Hid (w1.ranges Tryz.prog 94 mapElem T.db (eb+1) nD D (fun z=>left z&&!z.sameKey (hkey (k0,T.g k0))) cnt1):=hrg1;have HRO:Hid (wr.ranges Tryz.prog 94 mapElem T.db (eb+1) nD D left cnt∧cnt1 < cnt):=⟨hrg,hlt⟩;have HO1:Hid (Only [] w w1):=hO1;have HLF:Hid ((∀ kl,left kl=true→has D kl=true)∧left (hkey (k0,T.g k0))=true):=⟨hleft,hlx⟩;have HDS:Hid (T.ds k0=some d):=hd;have HND:Hid ((d.l.map (·.s)).Nodup):=hdir.nodup;have HOR:Hid (Only [] w1 w3):=(Only.refl [] w1).grown hg3 (fun k hk=>by cases hk);have hC1:CntAt w1 eb T.g (fun i=>doneD T (isN i) left T.p.N) (doneD T (fun _=>true) left T.p.N):=hC.kept ((Only.refl [eb+1] wr).grown hg1 (fun k hk=>by cases hk;exact Or.inl (by simp))) (by simp);have HC3:Hid (CntAt w3 eb T.g (fun i=>doneD T (isN i) left T.p.N) (doneD T (fun _=>true) left T.p.N)):=hC1.kept HOR.out (by simp);have HDB:Hid (d.b≠eb∧T.db≠eb):=⟨by have:=HTL.out d.b (Or.inr (Or.inr (Or.inr (Or.inl ⟨k0,d,hd,rfl⟩))));have:=HEB.out;omega,by have:=HTL.out T.db (Or.inr (Or.inl rfl));have:=HEB.out;omega⟩
    have HBND:Hid (∀ p,doneD T p left T.p.N≤60000):=fun p=>by have:=doneD_le T p left T.p.N (fun k d hd=>(HLN.out k d hd).1);have:=HSM.out.1;omega
    have HRG3:Hid (w3.ranges Tryz.prog 9 handElem d.b w1.heap.size d.l.length (entD d.l) (has (entD d.l)) (Maps.size (entD d.l))):=hrg3;have HW1:Hid (eb+2≤w1.heap.size):=hw1;clear hrg hO hleft hC hky hlx hv hat hrg1 hlt hg1 hs1 hbb hd hO1 hdir hrg3 hg3 hC1 hw1
    go_wp2
    clear hrange hen
    go_loopw [6] (fun _ wq=>∃ (lf:Lit→Bool) (ct:Nat),wq.ranges Tryz.prog 9 handElem d.b w1.heap.size d.l.length (entD d.l) lf ct∧Only [eb] w1 wq∧(∀ kl,lf kl=true→has (entD d.l) kl=true)∧CntAt wq eb T.g (fun i=>doneD T (isN i) left T.p.N+doneP d.l (isN i) lf) (doneD T (fun _=>true) left T.p.N+doneP d.l (fun _=>true) lf)) (fun _ wq=>wq.rangeLeft d.b w1.heap.size)
    case atStart =>
      refine ⟨_,_,HRG3.out,HOR.out.mono (fun _ hk=>by cases hk),fun _ h=>h,?_⟩
      rw [doneP_start,show (fun i=>doneD T (isN i) left T.p.N+doneP d.l (isN i) (has (entD d.l)))=fun i=>doneD T (isN i) left T.p.N from funext fun i=>by rw [doneP_start];rfl]
      exact HC3.out
    case round =>
      obtain ⟨lf,ct,hrg,hO,hleft,hC⟩:=hrel
      go_wp2_with (first
        | (at_next;refine wpList_next_ranges _ rfl _ rfl 9 lawS handElem id id (fun key _ _=>⟨key,rfl⟩) (fun v _ _=>⟨v,rfl⟩) d.b w1.heap.size d.l.length _ _ _ rfl hrg ?_ ?_)
        | go_in)
      · intro _ hl0
        have hC2:=hC
        rw [doneP_end d.l _ hl0,show (fun i=>doneD T (isN i) left T.p.N+doneP d.l (isN i) lf)=fun i=>doneD T (isN i) left T.p.N+allP d.l (isN i) from funext fun i=>by rw [doneP_end d.l _ hl0]] at hC2
        have hst:∀ p,doneD T p (fun z=>left z&&!z.sameKey (hkey (k0,T.g k0))) T.p.N=doneD T p left T.p.N+allP d.l p:=fun p=>by
          have hk:=(HLN.out k0 d HDS.out).2.1;have:=HSM.out.1;have:=HSM.out.2 k0;rw [doneD_step (by omega) (by omega) HLF.out.2,if_pos hk];unfold perD;rw [HDS.out]
        have hC3:CntAt wr eb T.g (fun i=>doneD T (isN i) (fun z=>left z&&!z.sameKey (hkey (k0,T.g k0))) T.p.N) (doneD T (fun _=>true) (fun z=>left z&&!z.sameKey (hkey (k0,T.g k0))) T.p.N):=by
          rw [hst,show (fun i=>doneD T (isN i) (fun z=>left z&&!z.sameKey (hkey (k0,T.g k0))) T.p.N)=fun i=>doneD T (isN i) left T.p.N+allP d.l (isN i) from funext fun i=>hst _]
          exact hC2
        have hrg2:=HR1.out.kept hO.toG1 (by have:=HDB.out.2;simpa using this) (by simp);have HRR:Hid (wr.ranges Tryz.prog 94 mapElem T.db (eb+1) nD D (fun z=>left z&&!z.sameKey (hkey (k0,T.g k0))) cnt1∧Only [] w wr∧CntAt wr eb T.g (fun i=>doneD T (isN i) (fun z=>left z&&!z.sameKey (hkey (k0,T.g k0))) T.p.N) (doneD T (fun _=>true) (fun z=>left z&&!z.sameKey (hkey (k0,T.g k0))) T.p.N)):=⟨hrg2,HO1.out.trans hO (fun k hk=>Or.inr (by rw [List.mem_singleton.1 hk,HEB.out];exact Nat.le_refl _)),hC3⟩;clear hC hC2 hst hC3 hrg hO hleft hl0 hrg2
        go_wp2
        go_roundw
        case rel=>exact ⟨_,cnt1,HRR.out.1,HRR.out.2.1,fun kl h=>HLF.out.1 kl (by simp at h;exact h.1),HRR.out.2.2⟩
        case measure=>rw [HRR.out.1.left_eq,HRO.out.1.left_eq];exact HRO.out.2
      · intro x cv kl yd yp w5 cnt5 hky hlx hv hat hrg5 hlt hg5 hs5 hen
        obtain ⟨sx,rfl,rfl,_⟩:=WideMaps.string_of_keyOf Tryz.underlying9 hky;have hhas:=hleft _ hlx;rw [has_entD] at hhas;obtain ⟨e,he⟩:=Option.isSome_iff_exists.1 hhas
        have hes:e.s=sx.data.toList:=by
          have:=List.find?_some he
          simpa using this
        have hem:e∈d.l:=List.mem_of_find?_eq_some he;have hy:=hat .nil;rw [at_entD,he] at hy;simp only at hy;subst hy;obtain rfl:=handElem_inv hv;obtain ⟨hei,hec⟩:=(HLN.out k0 d HDS.out).2.2 e hem;unfold handV at hen ⊢;rw [hec] at hen ⊢;have hO5:Only [eb] w1 w5:=hO.grown hg5 (fun k hk=>by cases hk;exact Or.inr (Nat.le_refl _));have hC5:=hC.kept ((Only.refl [w1.heap.size] wr).grown hg5 (fun k hk=>by cases hk;exact Or.inl (by simp))) (by have:=HW1.out;simp;omega);have hCA:=hC5.kept (((Only.refl [] w5).alloc (.cells #[.int .i64 (e.i:Nat),.int .i64 (T.g e.i:Nat)] 94)).drew) (by simp);have hcs:=cn_step (fun i=>doneD T (isN i) left T.p.N) HND.out hem (by rw [hes];exact hlx);have hms:=doneP_step d.l (fun _=>true) lf e HND.out hem (by rw [hes];exact hlx);rw [hes] at hcs hms;have hb1:=HBND.out (isN e.i);have hb2:=HBND.out (fun _=>true);have hb3:=doneP_le d.l (isN e.i) lf;have hb4:=doneP_le d.l (fun _=>true) lf;have hb5:=(HLN.out k0 d HDS.out).1;have hN:=HSM.out.1;have hgi:=HSM.out.2 e.i;have l2:=cnt_look hCA (i:=e.i) (by omega) hgi;obtain ⟨v0,st,w6,w7,m1,m2,hC7,ho7,m3⟩:=cnt_put hCA (by omega) (i:=e.i) (k:=doneD T (isN e.i) left T.p.N+doneP d.l (isN e.i) lf+1) (by omega) hgi (by omega) (by omega) (IntKind.i64.wrap (((doneD T (isN e.i) left T.p.N+doneP d.l (isN e.i) lf:Nat):Int)+1)) (by rw [wrap_small (by omega) (by omega)];omega)
        have HEND:Hid (w7.ranges Tryz.prog 9 handElem d.b w1.heap.size d.l.length (entD d.l) (fun z=>lf z&&!z.sameKey (.string sx.data.toList)) cnt5∧Only [eb] w1 w7∧CntAt w7 eb T.g (fun i=>doneD T (isN i) left T.p.N+doneP d.l (isN i) (fun z=>lf z&&!z.sameKey (.string sx.data.toList))) (doneD T (fun _=>true) left T.p.N+doneP d.l (fun _=>true) (fun z=>lf z&&!z.sameKey (.string sx.data.toList)))):=by
          have o57:Only [eb] w5 w7:=((((Only.refl [] w5).alloc _).drew).mono (L':=[eb]) (fun _ hk=>by cases hk)).trans ho7 (fun k hk=>Or.inl hk);refine ⟨hrg5.kept o57.toG1 (by have:=HDB.out.1;simpa using this) (by have:=HW1.out;simp;omega),hO5.trans o57 (fun k hk=>Or.inl hk),?_⟩;rw [hcs,hms];exact hC7
        have HRW:Hid (wr.ranges Tryz.prog 9 handElem d.b w1.heap.size d.l.length (entD d.l) lf ct∧cnt5 < ct):=⟨hrg,hlt⟩;have HLI:Hid (∀ kl,lf kl=true→has (entD d.l) kl=true):=hleft;generalize doneD T (isN e.i) left T.p.N+doneP d.l (isN e.i) lf=cn at l2 m2 m3;clear hrg hO hleft hC hky hlx hv hat hrg5 hlt hg5 hs5 hhas he hes hem hec hO5 hC5 hCA hcs hms hb1 hb2 hb3 hb4 hb5 hC7 ho7
        go_upto_region 7 with fail
        go_region
        all_goals go_wp2
        all_goals go_roundw
        all_goals first
          | exact ⟨_,cnt5,HEND.out.1,HEND.out.2.1,fun kl h=>HLI.out kl (by simp at h;exact h.1),HEND.out.2.2⟩
          | (rw [HEND.out.1.left_eq,HRW.out.1.left_eq];exact HRW.out.2)
end
end Go.Proofs.YtmnidbnaneagjaaGreatDoor
