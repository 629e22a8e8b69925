import Derived.Test.YtkcabopgajlmdaaGreatDoorK43
namespace Go.Proofs.YtkcabopgajlmdaaGreatDoor
section
open Go Go.RowKit Go.Deep Go.Maps
section
variable {w:World}{B tr:Nat}{T:Tr}{D:Dt}{A:Nat→Addr}{Bd:Nat}
def pinArgs (tr:Nat)(N G:Int):Array Value:=#[zP tr,zG N G]
theorem cfBad (P:Prg B w tr T)(R:Rep T D)(I:DInv D)(hE:Errs w A){N G:Int}(h:fileN D N G≠0):∀ W,zQ w W→zO 74 #[zP tr,zG N G] W (errV (A (fileN D N G - 1))):=fun W hW =>
 checkFile_err W tr T.t N G _ none (P.tree.only hW).c0 fun W' hW'=>fileBad P R I hE h W' (zo hW hW')
theorem cfYes (P:Prg B w tr T)(R:Rep T D)(I:DInv D)(hE:Errs w A){y:Dn}(hy:y∈D.L)(hK:y.K=1):∀ W,zQ w W→zO 74 #[zP tr,zG y.i y.c] W .nilIface:=fun W hW=>by
 obtain ⟨n,_,hda⟩:=fileYes P R I hE hy hK;exact checkFile_yes W tr T.t y.i y.c _ (P.tree.only hW).c0 fun W' hW'=>hda W' (zo hW hW')
theorem pinI (I:DInv D){y:Dn}(hy:y∈D.L)(hK:y.K=1)(k:Nat)(hk:0 < k∨0 < D.cnt y.i y.c):DInv (D.turn y.i y.c (Dn.pinned k)):=I.quiet (f:=Dn.pinned k) (fun _=>⟨rfl,rfl,rfl,rfl⟩) fun x hx q=>by
 obtain rfl:=same_no I.nos hx hy (is_iff.1 q).1;exact ⟨(fun e=>by omega),(fun _=>hk.symm)⟩
theorem Rep.pinned (R:Rep T D)(I:DInv D){y:Dn}(hy:y∈D.L)(k:Nat):Rep (T.pinned y.i k) (D.turn y.i y.c (Dn.pinned k)):=by
 obtain ⟨n,n0,n1,n2,n3,n4,n5,n6⟩:=R.counted I hy;refine R.quiet (f:=Dn.pinned k) (n:=n) (n':=n) I hy (fun _=>⟨rfl,rfl⟩) (fun _=>rfl) (fun _=>rfl) n0 rfl rfl rfl ?_ rfl rfl n2 n3 n4 rfl rfl rfl rfl;funext i;show T.nd i=setN T.nd y.i (some n) i
 by_cases e:i=y.i
 · rw [e,setN_same];exact n0
 · rw [setN_other _ _ e]
theorem pin_rep (P:Prg B w tr T)(R:Rep T D)(I:DInv D)(hE:Errs w A)(hb:DB D Bd)(hB:Bd≤900){N G:Int}{c:Nat}{D':Dt}(h:PinR D N G c D'):
   DInv D'∧zK 39 (pinArgs tr N G) w (Acts B w tr A D' c):=by
 unfold pinArgs;rcases h with ⟨h,rfl,rfl⟩ | ⟨y,hy,hK,rfl,rfl⟩
 · exact ⟨I,(pin_err w tr N G _ (cfBad P R I hE h)).mono fun r w' hh=>Acts.same P R (by rw [code_some h];exact hh.1) hh.2⟩
 · obtain ⟨hym,rfl,rfl⟩:=atZ_some hy
   obtain ⟨n,hn,_⟩:=R.nd y hym;have hp:=(hb.1 y hym).2.2;have hpn:=R.pn y hym;have cf:=cfYes P R I hE hym hK;rw [← R.g y hym] at cf ⊢;refine ⟨by rw [R.g y hym];exact pinI I hym hK _ (Or.inl (Nat.succ_pos _)),(pin_ok w tr T y.i P.tree (P.tree.tab.lt hn) (by omega) cf).mono fun r w' hh=>?_⟩;obtain ⟨q1,q2⟩:=P.go hh.2.1 hh.2.2 (fun k hk=>by rw [List.mem_singleton.1 hk];exact bpb) ⟨rfl,rfl,rfl,fun _ h=>Or.inl h,NdS.refl,DsS.refl⟩;exact ⟨_,hh.1,q1,by rw [R.g y hym,hpn];exact R.pinned I hym _,q2⟩
theorem unpin_rep (P:Prg B w tr T)(R:Rep T D)(I:DInv D)(hE:Errs w A)(hb:DB D Bd)(hB:Bd≤900){N G:Int}{c:Nat}{D':Dt}(h:UnpinR D N G c D'):
   DInv D'∧zK 41 (pinArgs tr N G) w (Acts B w tr A D' c):=by
 unfold pinArgs;rcases h with ⟨h,rfl,rfl⟩ | ⟨y,hy,hK,h⟩
 · exact ⟨I,(unpin_err w tr N G _ (cfBad P R I hE h)).mono fun r w' hh=>Acts.same P R (by rw [code_some h];exact hh.1) hh.2⟩
 · obtain ⟨hym,rfl,rfl⟩:=atZ_some hy
   obtain ⟨n,n0,n1,n2,n3,n4,n5,n6⟩:=R.counted I hym;have hp:=(hb.1 y hym).2.2;have hpn:=R.pn y hym;have hg:=R.g y hym;have cf:=cfYes P R I hE hym hK;have hG:=hb.g (by omega) I hym;rw [← hg] at cf;rcases h with ⟨h0,rfl,rfl⟩ | ⟨h0,rfl,rfl⟩
   · have:=unpin_none w tr T A y.i P.tree hE (P.tree.tab.lt n0) (hpn.trans h0) cf
     rw [hg] at this;exact ⟨I,this.mono fun r w' hh=>Acts.same P R hh.1 hh.2⟩
   · have hes:y.es=[]:=by rcases I.kind y hym with ⟨_,k⟩ | ⟨k,_⟩;exact k;omega
     by_cases h1:y.p=1
     · have hl:=unpin_last w tr T y.i n P.tree n0 (n1.trans hK) ((R.ds y hym).2 hK) (by rw [hg];omega) (hpn.trans h1) cf
       rw [hg] at hl;have hLn:n.L=(D.cnt y.i y.c:Int):=(n5 hK).1;rw [show y.p - 1=0 by omega]
       by_cases hc:D.cnt y.i y.c=0
       · obtain ⟨e1,I'⟩:=I.unpinned hym hK hc
         rw [e1];refine ⟨I',hl.mono fun r w' hh=>?_⟩;obtain ⟨hr,hu,ho⟩:=hh
         have ht:TreeAt w' tr ((T.pinned y.i 0).freed y.i):=by
           rcases hu with ⟨_,h⟩ | ⟨h,_⟩
           · exact h
           · exact absurd (by rw [hLn,hc];rfl) h
         obtain ⟨q1,q2⟩:=P.go ht ho (fun k hk=>by
           rcases List.mem_cons.1 hk with rfl | hk
           · exact bpb
           · exact bp (by simpa using hk)) ⟨rfl,rfl,rfl,fun _ h=>Or.inl h,NdS.refl.off,DsS.refl⟩
         refine ⟨_,hr,q1,R.alone I hym hes I' (fun i=>?_) rfl (fun i=>rfl) (fun i=>?_) (fun i=>rfl),q2⟩
         · show setN T.g y.i (T.g y.i+1) i=if i=y.i then y.c+1 else T.g i
           rw [hg];rfl
         · show T.ds i=if i=y.i then none else T.ds i
           split
           · rename_i e;rw [e];exact (R.ds y hym).2 hK
           · rfl
       · have I':=pinI I hym hK 0 (Or.inr (Nat.pos_of_ne_zero hc))
         rw [I'.swept];refine ⟨I',hl.mono fun r w' hh=>?_⟩;obtain ⟨hr,hu,ho⟩:=hh
         have ht:TreeAt w' tr (T.pinned y.i 0):=by
           rcases hu with ⟨h,_⟩ | ⟨_,h⟩
           · rw [hLn] at h;omega
           · exact h
         obtain ⟨q1,q2⟩:=P.go ht ho (fun k hk=>by
           rcases List.mem_cons.1 hk with rfl | hk
           · exact bpb
           · exact bp (by simpa using hk)) ⟨rfl,rfl,rfl,fun _ h=>Or.inl h,NdS.refl,DsS.refl⟩
         exact ⟨_,hr,q1,R.pinned I hym 0,q2⟩
     · have I':=pinI I hym hK (y.p - 1) (Or.inl (by omega))
       have hm:=unpin_more w tr T y.i P.tree (P.tree.tab.lt n0) (by omega) (by omega) cf;rw [hg,hpn] at hm;rw [I'.swept];refine ⟨I',hm.mono fun r w' hh=>?_⟩;obtain ⟨q1,q2⟩:=P.go hh.2.1 hh.2.2 (fun k hk=>by rw [List.mem_singleton.1 hk];exact bpb) ⟨rfl,rfl,rfl,fun _ h=>Or.inl h,NdS.refl,DsS.refl⟩;exact ⟨_,hh.1,q1,R.pinned I hym _,q2⟩
def AttrR (D:Dt)(N G:Int)(K Z L C UN UG:Int)(c:Nat):Prop :=
 (D.atZ N G=none∧c=10∧K=0∧Z=0∧L=0∧C=0∧UN=0∧UG=0)∨∃ y,D.atZ N G=some y∧c=0∧K=y.K∧C=y.C∧L=(D.links y:Nat)∧((y.K=1∧Z=(y.S.size:Nat)∧UN=0∧UG=0)∨(y.K=2∧Z=(y.es.length:Nat)∧UN=((D.up y.i y.c).1:Nat)∧UG=((D.up y.i y.c).2:Nat)))
theorem attr_rep (P:Prg B w tr T)(R:Rep T D)(I:DInv D)(hE:Errs w A)(N G:Int):∃ K Z L C UN UG c,AttrR D N G K Z L C UN UG c∧∀ W,zQ w W→zO 22 #[zP tr,zG N G] W (.tuple #[.agg #[zI K,zI Z,zI L,zI C,zI UN,zI UG],codeE A c]):=by
 obtain ⟨K,Z,L,C,UN,UG,o,h,hc⟩:=attr_any P.tree hE (R.kinds I) N G
 cases ha:D.atZ N G with
 | none =>
  have hs:=R.at_none ha;rcases h with ⟨i,n,h1,h2,h3,_⟩ | ⟨_,rfl,e1,e2,e3,e4,e5,e6⟩
  · exact absurd h2 (hs i n h1 h3)
  · exact ⟨K,Z,L,C,UN,UG,10,Or.inl ⟨ha,rfl,e1,e2,e3,e4,e5,e6⟩,hc⟩
 | some y =>
  obtain ⟨hy,h1,h2⟩:=R.at_some ha;obtain ⟨n',hn',n1,n2,n3,n4,n5,n6,n7⟩:=R.nd y hy;rcases h with ⟨i,n,e1,e2,e3,rfl,rfl,e4,rfl,rfl,rfl,rfl⟩ | ⟨hs,_⟩
  · have:i=y.i:=Int.ofNat_inj.1 (e1.symm.trans h1)
    subst this;rw [hn'] at e3
    cases e3
    refine ⟨_,Z,_,_,_,_,0,Or.inr ⟨y,ha,rfl,n1,n2,n5,?_⟩,hc⟩;rcases I.kind y hy with ⟨k,_⟩ | ⟨k,_⟩
    · rw [if_pos (n1.trans k),n3] at e4
      exact Or.inl ⟨k,e4,n7 k⟩
    · rw [if_neg (by rw [n1];omega)] at e4
      exact Or.inr ⟨k,e4.trans (n6 k).1,(n6 k).2⟩
  · exact absurd hs (R.not_stale ha)
def ListQ (w w':World)(A:Nat→Addr)(D:Dt)(N G c q:Int)(r:Ending):Prop :=
 zQ w w'∧((dirN D N G≠0∧r = .returned (.tuple #[.slice none 0 0,zI 0,codeE A (dirN D N G)]))∨(dirN D N G=0∧(c < 0∨q < 0)∧r = .returned (.tuple #[.slice none 0 0,zI 0,codeE A 2])) ∨
 ∃ x v,D.atZ N G=some x∧x.K=2∧0≤c∧0≤q∧EntV w' v ((x.es.drop (min c.toNat x.es.length)).take q.toNat)∧r = .returned (.tuple #[v,zI ((min c.toNat x.es.length+((x.es.drop (min c.toNat x.es.length)).take q.toNat).length:Nat):Int),codeE A 0]))
theorem list_rep (P:Prg B w tr T)(R:Rep T D)(I:DInv D)(hE:Errs w A){N G c q:Int}(hc:c < 9223372036854775808)(hq:q < 9223372036854775808):∀ W,zQ w W→zK 14 #[zP tr,zG N G,zI c,zI q] W fun r w'=>ListQ W w' A D N G c q r:=fun W hW=>by
 have c1:=fun W' (hW':zQ W W')=>dirC P R I hE N G W' (zo hW hW')
 by_cases h0:dirN D N G=0
 · have k1:∀ W',zQ W W'→zO 44 #[zP tr,zG N G] W' .nilIface:=fun W' hW'=>dirYes P R I hE h0 W' (zo hW hW')
   by_cases hb:c < 0∨q < 0
   · exact (list_bound W tr N G c q A (errs_only hE hW) k1 hb).mono fun r w' hh=>⟨hh.2,Or.inr (Or.inl ⟨h0,hb,hh.1⟩)⟩
   · obtain ⟨c',rfl⟩:=Int.eq_ofNat_of_zero_le (show 0≤c by omega)
     obtain ⟨q',rfl⟩:=Int.eq_ofNat_of_zero_le (show 0≤q by omega)
     obtain ⟨x,hx,hK⟩:∃ x,D.atZ N G=some x∧x.K=2:=by
      rcases dir_cases D N G with ⟨x,h1,h2,_⟩ | ⟨h1,_⟩ | ⟨h1,_⟩
      · exact ⟨x,h1,h2⟩
      · omega
      · omega
     obtain ⟨hm,rfl,rfl⟩:=atZ_some hx;obtain ⟨b0,hd⟩:=(R.ds x hm).1 hK;have hl:=(I.rise x hm).2
     have hso:∀ W',zQ W W'→zK 51 #[zP tr,zG x.i x.c] W' fun e w'=>∃ v,e = .returned v∧Ents w' W'.heap.size v x.es∧zQ W' w':=fun W' hW'=>by
      have:=sorted_row W' tr T x.i ⟨b0,x.es⟩ (P.tree.only (zo hW hW')) hd hl (fun e he=>by have:=(I.live x hm e he).2.2;omega);rw [R.g x hm] at this;exact this
     refine (list_go W tr x.i x.c x.es c' q' hl hc hq k1 hso).mono fun r w' hh=>?_;obtain ⟨v,hr,hv,ho⟩:=hh
     have e:(x.es.drop (min c' x.es.length)).take (min q' (x.es.length - min c' x.es.length))=(x.es.drop (min c' x.es.length)).take q':=by
      rcases Nat.le_total q' (x.es.length - min c' x.es.length) with h | h
      · rw [Nat.min_eq_left h]
      · rw [Nat.min_eq_right h,List.take_of_length_le (by simp),List.take_of_length_le (by simp;omega)]
     rw [e] at hv;refine ⟨ho,Or.inr (Or.inr ⟨x,v,hx,hK,by omega,by omega,hv,?_⟩)⟩;rw [hr]
     have e2:min q' (x.es.length - min c' x.es.length)=((x.es.drop (min (c':Int).toNat x.es.length)).take (q':Int).toNat).length:=by simp
     rw [e2];rfl
 · have k1:=c1
   rw [oc_some h0] at k1;exact (list_err W tr N G c q _ k1).mono fun r w' hh=>⟨hh.2,Or.inl ⟨h0,by rw [code_some h0];exact hh.1⟩⟩
end
end
end Go.Proofs.YtkcabopgajlmdaaGreatDoor
