import Derived.Test.YtkcabopgajlmdaaGreatDoorK27
set_option maxRecDepth 100000
set_option maxHeartbeats 8000000
namespace Go.Proofs.YtkcabopgajlmdaaGreatDoor
section
open Go Go.RowKit Go.Deep Go.Maps
theorem dsweep_any (w:World)(base m:Nat)(lv tv:Value)(ns:List Nm)(D:Dt)(h:DtM w base m lv tv ns D)(hn:(D.L.map (·.i)).Nodup)(hl:ns.length≤1000)(hb:base≤w.heap.size)(he:∀ x∈D.L,x.es.length≤1000)(hv:∀ x∈D.L,x.K=2→∀ e∈x.es,∃ y∈D.L,y.i=e.i∧y.c=e.c):
  zK 76 #[zP m] w fun e w'=>e = .returned (.tuple #[])∧∃ v',DtM w' base m v' tv (ns.filter fun n=>D.held n.x) D.sweep∧Only [m] w w':=by
 obtain ⟨i0,hi0,hz0,hz1,hz2⟩:=infoPt';have H:Hid (DtM w base m lv tv ns D):=h;have HBS:Hid (base≤w.heap.size):=hb;obtain ⟨ad,cap,hlv,hlies⟩:=h.lies;have HL:Hid (∀ W,zQ w W→Lies W m ad cap ns):=hlies;obtain ⟨k,hk⟩:∃ k,ns.length=k:=⟨_,rfl⟩;have HN:Hid (ns.length=k):=hk;have HLK:Hid (∀ W n,zQ w W→n∈ns→zO 60 #[zP m,zP n.b] W (zI (D.links n.x:Nat))):=fun W n ho hm=>dlinks_any W base m lv tv ns D n (h.only ho) hn hl hm he (hv _ (h.inL hm));rw [hk] at hl
 have HEND:Hid (∀ w5 v',zQ w w5→Pts w5 w.heap.size v' (ns.filter fun n=>D.held n.x)→w5.cell? (zA m 1)=some lv∧w5.frozen? ⟨m,1,none⟩=false∧m < w5.heap.size∧DtM (w5.setCell (zA m 1) v') base m v' tv (ns.filter fun n=>D.held n.x) D.sweep∧Only [m] w (w5.setCell (zA m 1) v')):=fun w5 v' ho hown=>by
  have:=H.out.rerow ho hown List.filter_sublist HBS.out
  have e:({ D with L:=(ns.filter fun n=>D.held n.x).map (·.x) }:Dt)=D.sweep:=by
    unfold Dt.sweep;congr 1;rw [H.out.nodes,List.filter_map];rfl
  rw [e] at this;exact this
 clear h hk hb hlies hn he hv;subst hlv
 go_enter Tryz.func76,Tryz.ntmps76
 go_wp2
 go_loopw [2,3] (fun o i0 wr=>∃ j:Nat,i0=zI j∧j≤k∧MkP w wr ((ns.take j).filter fun n=>D.held n.x) o) (fun _ i0 _=>k - (intOf i0).toNat)
 case atStart=>exact ⟨0,rfl,Nat.zero_le _,Pts.nil _ _,Only.refl _ _⟩
 case round =>
  obtain ⟨j,rfl,hj,hmk⟩:=hrel;have HM:Hid (MkP w wr ((ns.take j).filter fun n=>D.held n.x) u2):=hmk;have hW:=HL.out wr hmk.only;have c1:=hW.c1;rw [HN.out] at c1;obtain ⟨dn,hdn⟩:∃ dn,((ns.take j).filter fun n=>D.held n.x).length=dn:=⟨_,rfl⟩;have HDN:Hid (((ns.take j).filter fun n=>D.held n.x).length=dn):=hdn
  have hdb:dn≤1000:=by rw [← hdn];exact filt_len (by omega)
  by_cases hlt:j < k
  · obtain ⟨a,hx⟩:∃ a,ns[j]?=some a:=⟨_,List.getElem?_eq_getElem (by rw [HN.out];exact hlt)⟩
    obtain ⟨g,rfl,r0⟩:=hW.row j a hx;have hA:=hW.has a (List.mem_of_getElem? hx);have d2:=hA.c2;have d7:=hA.c7;have hlk:=HLK.out wr a hmk.only (List.mem_of_getElem? hx);have HTK:Hid ((ns.take (j+1)).filter (fun n=>D.held n.x)=if D.held a.x then (ns.take j).filter (fun n=>D.held n.x)++[a] else (ns.take j).filter (fun n=>D.held n.x)):=filt_snoc (p:=fun n:Nm=>D.held n.x) hx;clear hW hx hA hmk hdn
    by_cases hK:a.x.K=2
    · have HR:Hid ((ns.take (j+1)).filter (fun n=>D.held n.x)=(ns.take j).filter (fun n=>D.held n.x)++[a]):=by
        show _=_;rw [HTK.out,if_pos (held_of (Or.inl hK))]
      rw [hK] at d2;clear hK hlk
      go_wp2_with (first
        | (at_builtin;refine wpList_append_lies _ rfl (.tmp 39) (.tmp 41) 76 rfl w.heap.size 79 i0 _ 1 8 undPts hi0 hz0 hz1 hz2 rfl (by decide) u2 dn _ rfl (World.ownsRow.alloc (Pts.own HDN.out HM.out.own) _) ⟨wr.heap.size,0,none⟩ 1 1 [ptrOf a] rfl rfl (pt_news a _) (by intro u hu;rw [List.mem_singleton.1 hu];rfl) (by decide) (by unfold maxLen;omega) (by omega) (by rw [World.size_alloc];exact Nat.le_succ_of_le HM.out.only.size) (wr.heap.size+1) (by rw [World.size_alloc]) ?_;intro g5 c5 w5 hown5 hgr5 hat5 hlt5;have HM5:Hid (MkP w w5 ((ns.take j).filter (fun n=>D.held n.x)++[a]) (.slice (some ⟨g5,0,none⟩) (dn+1) c5)):=HM.out.add HDN.out _ hown5 hgr5;clear hown5 hgr5 hat5 hlt5)
        | go_in)
      go_roundw
      case rel=>exact ⟨j+1,by go_num,by omega,by rw [HR.out];exact HM5.out⟩
      case measure=>simp [intOf];omega
    · have dK:(a.x.K==2)=false:=zb hK
      by_cases hp:0 < a.x.p
      · have HR:Hid ((ns.take (j+1)).filter (fun n=>D.held n.x)=(ns.take j).filter (fun n=>D.held n.x)++[a]):=by
          show _=_;rw [HTK.out,if_pos (held_of (Or.inr (Or.inl hp)))]
        obtain ⟨z,hz⟩:∃ z:Int,(a.x.p:Int)=z:=⟨_,rfl⟩;rw [hz] at d7;have dp:decide (0 < z)=true:=decide_eq_true (by omega);clear hK hlk hp hz
        go_wp2_with (first
          | (at_builtin;refine wpList_append_lies _ rfl (.tmp 39) (.tmp 41) 76 rfl w.heap.size 79 i0 _ 1 8 undPts hi0 hz0 hz1 hz2 rfl (by decide) u2 dn _ rfl (World.ownsRow.alloc (Pts.own HDN.out HM.out.own) _) ⟨wr.heap.size,0,none⟩ 1 1 [ptrOf a] rfl rfl (pt_news a _) (by intro u hu;rw [List.mem_singleton.1 hu];rfl) (by decide) (by unfold maxLen;omega) (by omega) (by rw [World.size_alloc];exact Nat.le_succ_of_le HM.out.only.size) (wr.heap.size+1) (by rw [World.size_alloc]) ?_;intro g5 c5 w5 hown5 hgr5 hat5 hlt5;have HM5:Hid (MkP w w5 ((ns.take j).filter (fun n=>D.held n.x)++[a]) (.slice (some ⟨g5,0,none⟩) (dn+1) c5)):=HM.out.add HDN.out _ hown5 hgr5;clear hown5 hgr5 hat5 hlt5)
          | go_in)
        go_roundw
        case rel=>exact ⟨j+1,by go_num,by omega,by rw [HR.out];exact HM5.out⟩
        case measure=>simp [intOf];omega
      · have hp0:(a.x.p:Int)=0:=by omega
        rw [hp0] at d7;have HMX:Hid (∀ W,zQ wr W→MkP w W ((ns.take j).filter fun n=>D.held n.x) u2):=fun W ho=>⟨Pts.only HM.out.own ho (fun _ _=>by simp),zo HM.out.only ho⟩
        have HHD:Hid (D.held a.x=decide (0 < D.links a.x)):=by
          show _=_;unfold Dt.held;rw [dK,decide_eq_false hp];rfl
        obtain ⟨lk,hlkk⟩:∃ lk,D.links a.x=lk:=⟨_,rfl⟩;rw [hlkk] at hlk HHD;clear hK hp hp0 hlkk
        by_cases hpos:0 < lk
        · have HR:Hid ((ns.take (j+1)).filter (fun n=>D.held n.x)=(ns.take j).filter (fun n=>D.held n.x)++[a]):=by
            show _=_;rw [HTK.out,HHD.out,decide_eq_true hpos];rfl
          obtain ⟨z,hz⟩:∃ z:Int,(lk:Int)=z:=⟨_,rfl⟩;rw [hz] at hlk;have dp:decide (0 < z)=true:=decide_eq_true (by omega);clear hpos hz
          go_wp2_with (first
            | (go_at_call 60;refine hlk.mono ?_;rintro e w2 ⟨rfl,ho2⟩;have HM2:Hid (MkP w w2 ((ns.take j).filter fun n=>D.held n.x) u2):=HMX.out w2 ho2;clear hlk ho2)
            | (at_builtin;refine wpList_append_lies _ rfl (.tmp 39) (.tmp 41) 76 rfl w.heap.size 79 i0 _ 1 8 undPts hi0 hz0 hz1 hz2 rfl (by decide) u2 dn _ rfl (World.ownsRow.alloc (Pts.own HDN.out HM2.out.own) _) ⟨w2.heap.size,0,none⟩ 1 1 [ptrOf a] rfl rfl (pt_news a _) (by intro u hu;rw [List.mem_singleton.1 hu];rfl) (by decide) (by unfold maxLen;omega) (by omega) (by rw [World.size_alloc];exact Nat.le_succ_of_le HM2.out.only.size) (w2.heap.size+1) (by rw [World.size_alloc]) ?_;intro g5 c5 w5 hown5 hgr5 hat5 hlt5;have HM5:Hid (MkP w w5 ((ns.take j).filter (fun n=>D.held n.x)++[a]) (.slice (some ⟨g5,0,none⟩) (dn+1) c5)):=HM2.out.add HDN.out _ hown5 hgr5;clear hown5 hgr5 hat5 hlt5)
            | go_in)
          go_roundw
          case rel=>exact ⟨j+1,by go_num,by omega,by rw [HR.out];exact HM5.out⟩
          case measure=>simp [intOf];omega
        · have HR:Hid ((ns.take (j+1)).filter (fun n=>D.held n.x)=(ns.take j).filter (fun n=>D.held n.x)):=by
            show _=_;rw [HTK.out,HHD.out,decide_eq_false hpos];rfl
          obtain rfl:lk=0:=by omega
          clear hpos
          go_wp2_with (first
            | (go_at_call 60;refine hlk.mono ?_;rintro e w2 ⟨rfl,ho2⟩;have HM2:Hid (MkP w w2 ((ns.take j).filter fun n=>D.held n.x) u2):=HMX.out w2 ho2;clear hlk ho2)
            | go_in)
          go_roundw
          case rel=>exact ⟨j+1,by go_num,by omega,by rw [HR.out];exact HM2.out⟩
          case measure=>simp [intOf];omega
  · obtain rfl:k=j:=by omega
    obtain ⟨a4,c4,hu4⟩:=HM.out.shape HDN.out
    obtain ⟨t0,t1,t2,hR⟩:=HEND.out wr u2 HM.out.only (by
      have:=HM.out.own;rw [← HN.out,List.take_length] at this
      exact this)
    subst hu4;have HR:Hid (DtM (wr.setCell (zA m 1) (.slice a4 dn c4)) base m (.slice a4 dn c4) tv (ns.filter fun n=>D.held n.x) D.sweep∧Only [m] w (wr.setCell (zA m 1) (.slice a4 dn c4))):=hR;clear hR hW hmk hdn
    go_wp2
    go_end0
    exact ⟨rfl,_,HR.out⟩
theorem NmAt.touch {w:World}{n:Nm}(h:NmAt w n)(v:Int):NmAt (w.setCell (zA n.b 3) (zI v)) { n with x:={ n.x with C:=v } }∧Only [n.b] w (w.setCell (zA n.b 3) (zI v)):=by
 have hs:Only [n.b] w (w.setCell (zA n.b 3) (zI v)):=(Only.refl [n.b] w).setCell (Or.inl (by simp)) _;refine ⟨⟨heap_setCell_same w n.b 3 _ _ _ h.blk,hs.owns h.holes (fun k hk=>?_),h.ents.only hs (fun k hk=>?_)⟩,hs⟩
 · have:=(own_blk h.holes hk).1
   simp;omega
 · have:=(own_blk h.ents hk).1
   simp;omega
theorem NmAt.repin {w:World}{n:Nm}(h:NmAt w n)(p:Nat)(z:Int)(hz:z=(p:Int)):NmAt (w.setCell (zA n.b 7) (zI z)) { n with x:={ n.x with p:=p } }∧Only [n.b] w (w.setCell (zA n.b 7) (zI z)):=by
 subst hz;have hs:Only [n.b] w (w.setCell (zA n.b 7) (zI (p:Int))):=(Only.refl [n.b] w).setCell (Or.inl (by simp)) _;refine ⟨⟨heap_setCell_same w n.b 7 _ _ _ h.blk,hs.owns h.holes (fun k hk=>?_),h.ents.only hs (fun k hk=>?_)⟩,hs⟩
 · have:=(own_blk h.holes hk).1
   simp;omega
 · have:=(own_blk h.ents hk).1
   simp;omega
structure DOk (D:Dt):Prop where
 nos:(D.L.map (·.i)).Nodup
 len:D.L.length≤1000
 es:∀ x∈D.L,x.es.length≤1000
 live:∀ x∈D.L,∀ e∈x.es,∃ y∈D.L,y.i=e.i∧y.c=e.c
 num:∀ x∈D.L,0≤x.C∧x.C≤1000000∧x.p≤1000000
theorem nos_len {L:List Dn}(hn:(L.map (·.i)).Nodup){m:Nat}(h:∀ x∈L,x.i < m):L.length≤m:=by
 have hp:(L.map (·.i)).Perm ((List.range m).filter (fun k=>(L.map (·.i)).contains k)):=by
  rw [List.perm_ext_iff_of_nodup hn (List.Pairwise.filter _ (List.nodup_range (n:=m)))];intro k;rw [List.mem_filter,List.mem_range]
  constructor
  · intro hk
    refine ⟨?_,by simpa using hk⟩;obtain ⟨x,hx,rfl⟩:=List.mem_map.1 hk;exact h x hx
  · intro hk
    simpa using hk.2
 have h1:=hp.length_eq;have h2:=List.length_filter_le (fun k=>(L.map (·.i)).contains k) (List.range m);rw [List.length_range] at h2;rw [List.length_map] at h1;omega
theorem DMid.ok {D:Dt}{k:Nat}(h:DMid D k)(hb:∀ x∈D.L,0≤x.C∧x.C≤1000000∧x.p≤1000000):DOk D :=
 ⟨h.nos,by have:=nos_len h.nos (fun x hx=>(h.lt x hx).1);have:=h.most;omega,fun x hx=>by have:=(h.rise x hx).2;omega,fun x hx e he=>(h.live x hx e he).2.1,hb⟩
theorem DOk.turn {D:Dt}(h:DOk D){i c:Nat}{f:Dn→Dn}(hf:∀ x,(f x).i=x.i∧(f x).c=x.c)(hes:∀ x,(f x).es=x.es)(hb:∀ x∈D.L,x.i=i→0≤(f x).C∧(f x).C≤1000000∧(f x).p≤1000000):DOk (D.turn i c f):=by
 have back:∀ y∈(D.turn i c f).L,∃ x∈D.L,y.i=x.i∧y.c=x.c∧y.es=x.es∧(0≤y.C∧y.C≤1000000∧y.p≤1000000):=fun y hy=>by
   obtain ⟨x,hx,e⟩:=mem_turnL.1 hy;refine ⟨x,hx,?_⟩
   split at e
   · rename_i hi
     rw [e];exact ⟨(hf x).1,(hf x).2,hes x,hb x hx (is_iff.1 hi).1⟩
   · rw [e]
     exact ⟨rfl,rfl,rfl,h.num x hx⟩
 refine ⟨?_,?_,fun y hy=>?_,fun y hy e he=>?_,fun y hy=>(back y hy).choose_spec.2.2.2.2⟩
 · show ((turnL i c f D.L).map (·.i)).Nodup
   rw [turnL_nos (fun x=>(hf x).1)];exact h.nos
 · show (turnL i c f D.L).length≤1000
   unfold turnL;rw [List.length_map];exact h.len
 · obtain ⟨x,hx,_,_,e,_⟩:=back y hy
   rw [e];exact h.es x hx
 · obtain ⟨x,hx,_,_,e1,_⟩:=back y hy
   rw [e1] at he;obtain ⟨z,hz,h1,h2⟩:=h.live x hx e he
   by_cases hi:z.is i c=true
   · exact ⟨f z,mem_turnL.2 ⟨z,hz,by rw [if_pos hi]⟩,by rw [(hf z).1];exact h1,by rw [(hf z).2];exact h2⟩
   · exact ⟨z,mem_turnL.2 ⟨z,hz,by rw [if_neg hi]⟩,h1,h2⟩
theorem DtM.nlen {w:World}{base m:Nat}{lv tv:Value}{ns:List Nm}{D:Dt}(h:DtM w base m lv tv ns D)(ho:DOk D):ns.length≤1000:=by
 have:=ho.len;rw [h.nodes,List.length_map] at this;exact this
theorem DtM.touch {w:World}{base m:Nat}{lv tv:Value}{ns:List Nm}{D:Dt}(h:DtM w base m lv tv ns D)(hn:(D.L.map (·.i)).Nodup){n:Nm}(hm:n∈ns):
  DtM (w.setCell (zA n.b 3) (zI (n.x.C+1))) base m lv tv (putNm { n with x:=n.x.touched } ns) (D.turn n.x.i n.x.c Dn.touched)∧Only [n.b] w (w.setCell (zA n.b 3) (zI (n.x.C+1))):=by
 obtain ⟨h1,h2⟩:=(h.each n hm).2.touch (n.x.C+1);exact ⟨h.turned (n':={ n with x:=n.x.touched }) hn hm rfl rfl h2 (fun k hk=>Or.inl (by simpa using hk)) h1 (fun k hk=>Or.inl hk) rfl,h2⟩
theorem mem_putNm {n' q:Nm}{ns:List Nm}(hq:q∈ns)(hne:q.b≠n'.b):q∈putNm n' ns:=List.mem_map.2 ⟨q,hq,by rw [if_neg hne]⟩
theorem mem_putNm_same {n n':Nm}{ns:List Nm}(hn:n∈ns)(hb:n'.b=n.b):n'∈putNm n' ns:=List.mem_map.2 ⟨n,hn,by rw [if_pos hb.symm]⟩
def LoseR (w w':World)(base m:Nat)(tv:Value)(ns:List Nm)(D:Dt)(n:Nm):Prop :=
 ∃ v' ns',DtM w' base m v' tv ns' (D.lost n.x)∧DocW base w w'∧∀ a∈ns,a.x.K=2→a.x.i≠n.x.i→a∈ns'
theorem dlose_any (w:World)(base m:Nat)(lv tv:Value)(ns:List Nm)(D:Dt)(n:Nm)(h:DtM w base m lv tv ns D)(hk:DOk D)(hm:n∈ns)(hb:base≤w.heap.size)(hC:n.x.C < 1000000):
   zK 63 #[zP m,zG n.x.i n.x.c] w fun e w'=>e = .returned (.tuple #[])∧LoseR w w' base m tv ns D n:=by
 have hl:=h.nlen hk;have o1:zQ w (w.alloc (zH n.x.i n.x.c)):=(Only.refl [] w).alloc _;have hat:=dat_any _ base m lv tv ns D (n.x.i:Int) (n.x.c:Int) (h.only o1) hk.nos hl;have HO1:Hid (zQ w (w.alloc (zH n.x.i n.x.c))):=o1;have HB:Hid (HBox (w.alloc (zH n.x.i n.x.c)) w.heap.size n.x.i n.x.c):=zh w _;have HZ:Hid (D.atZ (n.x.i:Int) (n.x.c:Int)=some n.x):=atZ_of hk.nos (h.inL hm) (isB_iff.2 ⟨rfl,rfl⟩);have HSM:Hid (∀ a∈ns,a.x=n.x→a=n):=fun a ha e=>h.same hk.nos ha hm (by rw [e]);have H:Hid (DtM w base m lv tv ns D):=h;have HK:Hid (DOk D):=hk;have HM:Hid (n∈ns):=hm;have HBS:Hid (base≤w.heap.size):=hb;have hC0:=(hk.num _ (h.inL hm)).1;clear h hk hm hb o1 hl
 go_enter Tryz.func63,Tryz.ntmps63
 go_wp2_with fail
 refine hat.mono ?_;rintro e w2 ⟨⟨a,ha,hz,h1,h2,rfl⟩ | ⟨hz,rfl⟩,ho2⟩
 · obtain rfl:a=n:=HSM.out a ha (by rw [HZ.out] at hz;exact (Option.some.inj hz).symm)
   have HO:Hid (zQ w w2):=zo HO1.out ho2;have h2':=H.out.only HO.out;have hA:=(h2'.each a ha).2;have c2:=hA.c2;have c3:=hA.c3;have f3:=hA.fz 3;have hbl:=hA.lt;obtain ⟨b0,b1⟩:=(HB.out.kept ho2 (by simp)).cells;clear hat ho2 hz h1 h2
   by_cases hK:a.x.K=2
   · have hgo:=dgone_any w2 base m lv tv ns D a.x.i a.x.c h2' (h2'.nlen HK.out) (Nat.le_trans HBS.out HO.out.size)
     have HE:Hid (D.lost a.x=D.gone a.x.i a.x.c):=by show _=_;unfold Dt.lost;rw [if_pos hK]
     have HDW:Hid (∀ w',Only [m] w2 w'→DocW base w w'):=fun w' ho=>DocW.trans (DocW.none HO.out) ((H.out.only HO.out).docW ho (fun k hk=>Or.inl (by simpa using hk)));rw [hK] at c2;clear hK hA h2'
     go_wp2_with (go_at_call 92;refine hgo.mono ?_;rintro e w3 ⟨rfl,v',h3,ho3⟩;have HR:Hid (LoseR w w3 base m tv ns D a):=(by refine ⟨v',_,(by rw [HE.out];exact h3),HDW.out w3 ho3,fun q hq _ hqi=>List.mem_filter.2 ⟨hq,?_⟩⟩;have:q.x.is a.x.i a.x.c=false:=(by rw [Bool.eq_false_iff];exact fun e=>hqi (is_iff.1 e).1);rw [this];rfl);clear hgo h3 ho3)
     exact bodyPost_ret (results_none rfl _ _ _) rfl ⟨rfl,HR.out⟩
   · have dK:(a.x.K==2)=false:=zb hK
     obtain ⟨h3,ho3⟩:=h2'.touch HK.out.nos ha
     have hk3:DOk (D.turn a.x.i a.x.c Dn.touched):=HK.out.turn (fun _=>⟨rfl,rfl⟩) (fun _=>rfl) (fun x hx hi=>by
      have e:=same_no HK.out.nos hx (H.out.inL ha) hi;have:=HK.out.num x hx;rw [e] at this ⊢
      exact ⟨by show 0≤a.x.C+1;omega,by show a.x.C+1≤1000000;omega,this.2.2⟩)
     have hsz:base≤(w2.setCell (zA a.b 3) (zI (a.x.C+1))).heap.size:=Nat.le_trans (Nat.le_trans HBS.out HO.out.size) ho3.size;have hsw:=dsweep_any _ base m lv tv _ _ h3 hk3.nos (h3.nlen hk3) hsz hk3.es (fun x hx _=>hk3.live x hx)
     have HE:Hid (D.lost a.x=(D.turn a.x.i a.x.c Dn.touched).sweep):=by show _=_;unfold Dt.lost;rw [if_neg hK]
     have HDW:Hid (∀ w',Only [m] (w2.setCell (zA a.b 3) (zI (a.x.C+1))) w'→DocW base w w'):=fun w' ho=>DocW.trans (DocW.none HO.out) (DocW.trans (h2'.docW ho3 (fun k hk=>Or.inr (Or.inr (Or.inr ⟨a,ha,Or.inl (by simpa using hk)⟩)))) (h3.docW ho (fun k hk=>Or.inl (by simpa using hk))));have HKB:Hid (∀ q∈ns,q.x.K=2→q.x.i≠a.x.i→q∈(putNm { a with x:=a.x.touched } ns).filter fun n=>(D.turn a.x.i a.x.c Dn.touched).held n.x):=fun q hq hqK hqi=>List.mem_filter.2 ⟨mem_putNm hq (fun e=>hqi (by rw [H.out.byB hq ha e])),held_of (Or.inl hqK)⟩;clear hK hA h2' h3 ho3 hk3 hsz
     go_wp2_with (go_at_call 76;refine hsw.mono ?_;rintro e w3 ⟨rfl,v',h4,ho4⟩;have HR:Hid (LoseR w w3 base m tv ns D a):=⟨v',_,(by rw [HE.out];exact h4),HDW.out w3 ho4,HKB.out⟩;clear hsw h4 ho4)
     go_end0
     exact ⟨rfl,HR.out⟩
 · exfalso
   rw [HZ.out] at hz
   cases hz
end
end Go.Proofs.YtkcabopgajlmdaaGreatDoor
