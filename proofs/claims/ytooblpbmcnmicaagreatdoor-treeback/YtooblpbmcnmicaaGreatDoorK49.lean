import Derived.Test.YtooblpbmcnmicaaGreatDoorK48
namespace Go.Proofs.YtooblpbmcnmicaaGreatDoor
section
open Go Go.RowKit Go.Deep Go.Maps
structure Pair6 (W w:World)(base tr m hb:Nat)(D D':Dt)(hl:List (Nat×Nat))(B:Nat):Prop where
 prg:∃ T,Prg W.heap.size w tr T∧Rep T D'
 doc:DM w base m D
 I:DInv D
 I':DInv D'
 bd:Bd D B
 hands:∃ v,HandsAt w base hb v hl
 below:Below W.heap.size W w
 lo:W.heap.size≤base
 hi:base≤w.heap.size
 hlo:W.heap.size≤hb
def Both (W w:World)(base tr m hb:Nat)(D:Dt)(hl:List (Nat×Nat))(B:Nat):Prop:=Pair6 W w base tr m hb D D hl B
section
variable {W w w':World}{base tr m hb B:Nat}{D D':Dt}{hl:List (Nat×Nat)}{A:Nat→Addr}
theorem HandsAt.stays {v:Value}(h:HandsAt w base hb v hl)(hk:∀ (k:Nat) (cs:Array Value) (ty:TypeId) (fr:Nat×Nat),w.heap[k]?=some (.cells cs ty fr)→(ty=39∨ty=32)→w'.heap[k]?=some (.cells cs ty fr)):HandsAt w' base hb v hl:=by
 refine ⟨hk _ _ _ _ h.tab (Or.inl rfl),?_⟩;obtain ⟨h1,h2⟩:=h.row;refine ⟨h1,?_⟩;rcases h2 with h2 | ⟨g,cap,cur,hv,hg,hh,r⟩
 · exact Or.inl h2
 · exact Or.inr ⟨g,cap,cur,hv,hg,hk _ _ _ _ hh (Or.inr rfl),r⟩
theorem hand_tys:(39:TypeId)∉treeTys∧(32:TypeId)∉treeTys∧(43:TypeId)∉treeTys∧(39:TypeId)∉docTys∧(32:TypeId)∉docTys∧(43:TypeId)∉docTys:=by decide
theorem Pair6.only (h:Pair6 W w base tr m hb D D' hl B)(ho:zQ w w'):Pair6 W w' base tr m hb D D' hl B:=by
 obtain ⟨T,hP,hR⟩:=h.prg;obtain ⟨v,hv⟩:=h.hands;exact ⟨⟨T,hP.only ho,hR⟩,h.doc.only ho,h.I,h.I',h.bd,⟨v,hv.kept ho (by simp) (by simp)⟩,h.below.trans (ho.to_below h.below.size (fun k hk=>by cases hk)),h.lo,Nat.le_trans h.hi ho.size,h.hlo⟩
theorem Pair6.errs (h:Pair6 W w base tr m hb D D' hl B)(hE:Errs W A):Errs w A:=hE.below h.below (Nat.le_refl _)
theorem Both.prog {T':Tr}(h:Both W w base tr m hb D hl B)(hP:Prg W.heap.size w' tr T')(hR:Rep T' D')(hI:DInv D')(hw:TreeW W.heap.size w w'):Pair6 W w' base tr m hb D D' hl B:=by
 obtain ⟨v,hv⟩:=h.hands;have hb2:=hw.below h.below.size;refine ⟨⟨T',hP,hR⟩,hw.dm h.doc,h.I,hI,h.bd,⟨v,hv.stays fun k cs ty fr hk ht=>hw.stays hk ?_⟩,h.below.trans hb2,h.lo,Nat.le_trans h.hi hb2.size,h.hlo⟩;rcases ht with rfl | rfl
 · exact hand_tys.1
 · exact hand_tys.2.1
theorem Pair6.docs {B':Nat}(h:Pair6 W w base tr m hb D D' hl B)(hd:DM w' base m D')(hw:DocW base w w')(hB:Bd D' B'):Both W w' base tr m hb D' hl B':=by
 obtain ⟨T,hP,hR⟩:=h.prg;obtain ⟨v,hv⟩:=h.hands;have hb2:=hw.below h.hi;refine ⟨⟨T,hP.doc hw,hR⟩,hd,h.I',h.I',hB,⟨v,hv.stays fun k cs ty fr hk ht=>hw.stays hk ?_⟩,h.below.trans (hb2.mono h.lo),h.lo,Nat.le_trans h.hi hw.size,h.hlo⟩;rcases ht with rfl | rfl
 · exact hand_tys.2.2.2.1
 · exact hand_tys.2.2.2.2.1
def BoxAt (w:World)(b:Nat)(cs:Array Value)(ty:TypeId):Prop:=w.heap[b]?=some (.cells cs ty (0,0))
theorem BoxAt.only {b:Nat}{cs:Array Value}{ty:TypeId}(h:BoxAt w b cs ty)(ho:zQ w w'):BoxAt w' b cs ty:=(ho.block b (Array.getElem?_eq_some_iff.1 h).1 (by simp)).trans h
theorem BoxAt.tree {b:Nat}{cs:Array Value}{ty:TypeId}(h:BoxAt w b cs ty)(hw:TreeW B w w')(ht:ty∉treeTys):BoxAt w' b cs ty:=hw.stays h ht
theorem BoxAt.doc {b:Nat}{cs:Array Value}{ty:TypeId}(h:BoxAt w b cs ty)(hw:DocW base w w')(ht:ty∉docTys):BoxAt w' b cs ty:=hw.stays h ht
def ProgP (W w:World)(base tr m hb:Nat)(D D':Dt)(hl:List (Nat×Nat))(B:Nat)(v:Value)(r:Ending)(w':World):Prop:=r = .returned v∧Pair6 W w' base tr m hb D D' hl B∧TreeW W.heap.size w w'
def DocP (W w:World)(base tr m hb:Nat)(D':Dt)(hl:List (Nat×Nat))(B:Nat)(v:Value)(r:Ending)(w':World):Prop:=r = .returned v∧Both W w' base tr m hb D' hl B∧DocW base w w'
theorem ProgP.of {c:Nat}{r:Ending}(h:Both W w base tr m hb D hl B)(hI:DInv D')(ha:Acts W.heap.size w tr A D' c r w'):ProgP W w base tr m hb D D' hl B (codeE A c) r w':=by
 obtain ⟨T',h1,h2,h3,h4⟩:=ha;exact ⟨h1,h.prog h2 h3 hI h4,h4⟩
def Sides (W w:World)(base tr m hb:Nat)(D:Dt)(hl:List (Nat×Nat))(B:Nat)(A:Nat→Addr)(f g:Nat)(af ag:Array Value):Prop :=
 ∃ c D',c≤14∧(∀ W1,zQ w W1→zK f af W1 fun r w'=>ProgP W W1 base tr m hb D D' hl B (codeE A c) r w')∧(∀ W1,Pair6 W W1 base tr m hb D D' hl B→zK g ag W1 fun r w'=>DocP W W1 base tr m hb D' hl (B+4) (.int .i64 ((c:Nat):Int)) r w')
theorem link_both (N G M F:Int)(s:ByteArray)(h:Both W w base tr m hb D hl B)(hE:Errs W A)(hB:B≤800):Sides W w base tr m hb D hl B A 34 35 (linkArgs tr N G M F s) (linkArgs m N G M F s):=by
 obtain ⟨c,D',hR⟩:=link_tot D N G M F s;refine ⟨c,D',link_le hR,fun W1 ho=>?_,fun W1 hM=>?_⟩
 · have h1:Both W W1 base tr m hb D hl B:=Pair6.only h ho
   obtain ⟨T,P,R⟩:=h1.prg;obtain ⟨hI,hc⟩:=link_rep P R h.I (h1.errs hE) h.bd.db (by omega) hR;exact hc.mono fun r w' hh=>ProgP.of h1 hI hh
 · unfold linkArgs
   refine (dlink_any W1 base m D N G M F s B hM.doc hM.I hM.bd.db (by omega)).mono fun r w' hh=>?_;obtain ⟨c2,D2,hr,hR2,hd,hw⟩:=hh;obtain ⟨rfl,rfl⟩:=link_det hR hR2;exact ⟨hr,hM.docs hd hw (link_bd hM.bd hR2),hw⟩
theorem remove_both (N G:Int)(s:ByteArray)(h:Both W w base tr m hb D hl B)(hE:Errs W A)(hB:B≤800):Sides W w base tr m hb D hl B A 36 37 (remArgs tr N G s) (remArgs m N G s):=by
 obtain ⟨c,D',hR⟩:=rem_tot h.I N G s;refine ⟨c,D',rem_le hR,fun W1 ho=>?_,fun W1 hM=>?_⟩
 · have h1:Both W W1 base tr m hb D hl B:=Pair6.only h ho
   obtain ⟨T,P,R⟩:=h1.prg;obtain ⟨hI,hc⟩:=remove_rep P R h.I (h1.errs hE) h.bd.db (by omega) hR;exact hc.mono fun r w' hh=>ProgP.of h1 hI hh
 · unfold remArgs
   refine (dremove_any W1 base m D N G s B hM.doc hM.I hM.bd.db (by omega) hM.hi).mono fun r w' hh=>?_;obtain ⟨c2,D2,hr,hR2,hd,hw⟩:=hh;obtain ⟨rfl,rfl⟩:=rem_det h.I hR hR2;exact ⟨hr,hM.docs hd hw (rem_bd hM.bd hR2),hw⟩
theorem rename_both (N G M F:Int)(s u:ByteArray)(h:Both W w base tr m hb D hl B)(hE:Errs W A)(hB:B≤800):Sides W w base tr m hb D hl B A 27 38 (renArgs tr N G s M F u) (renArgs m N G s M F u):=by
 obtain ⟨c,D',hR⟩:=ren_tot h.I N G M F s u;refine ⟨c,D',ren_le hR,fun W1 ho=>?_,fun W1 hM=>?_⟩
 · have h1:Both W W1 base tr m hb D hl B:=Pair6.only h ho
   obtain ⟨T,P,R⟩:=h1.prg;obtain ⟨hI,hc⟩:=rename_rep P R h.I (h1.errs hE) h.bd.db (by omega) hR;exact hc.mono fun r w' hh=>ProgP.of h1 hI hh
 · unfold renArgs
   refine (drename_any W1 base m D N G M F s u B hM.doc hM.I hM.bd.db (by omega) hM.hi).mono fun r w' hh=>?_;obtain ⟨c2,D2,hr,hR2,hd,hw⟩:=hh;obtain ⟨rfl,rfl⟩:=ren_det h.I hR hR2;exact ⟨hr,hM.docs hd hw (ren_bd hM.bd hR2),hw⟩
theorem write_both (N G a:Int)(s:ByteArray)(hs:s.size≤5000)(ha1:a < 9223372036854775808)(ha2 : -9223372036854775808≤a)(h:Both W w base tr m hb D hl B)(hE:Errs W A)(hB:B≤800):Sides W w base tr m hb D hl B A 39 40 (writeArgs tr N G a s) (writeArgs m N G a s):=by
 obtain ⟨c,D',hR⟩:=write_tot D N G a s;refine ⟨c,D',write_le hR,fun W1 ho=>?_,fun W1 hM=>?_⟩
 · have h1:Both W W1 base tr m hb D hl B:=Pair6.only h ho
   obtain ⟨T,P,R⟩:=h1.prg;obtain ⟨hI,hc⟩:=write_rep P R h.I (h1.errs hE) h.bd.db (by omega) hs ha1 ha2 hR;exact hc.mono fun r w' hh=>ProgP.of h1 hI hh
 · unfold writeArgs
   refine (dtwrite_any W1 base m D N G a s B hM.doc hM.I hM.bd.db (by omega) hM.bd.dz ha1).mono fun r w' hh=>?_;obtain ⟨c2,D2,hr,hR2,hd,hw⟩:=hh;obtain ⟨rfl,rfl⟩:=write_det hR hR2;exact ⟨hr,hM.docs hd hw (write_bd hM.bd hR2),hw⟩
theorem resize_both (N G a:Int)(h:Both W w base tr m hb D hl B)(hE:Errs W A)(hB:B≤800):Sides W w base tr m hb D hl B A 41 42 (sizeArgs tr N G a) (sizeArgs m N G a):=by
 obtain ⟨c,D',hR⟩:=size_tot D N G a;refine ⟨c,D',size_le hR,fun W1 ho=>?_,fun W1 hM=>?_⟩
 · have h1:Both W W1 base tr m hb D hl B:=Pair6.only h ho
   obtain ⟨T,P,R⟩:=h1.prg;obtain ⟨hI,hc⟩:=resize_rep P R h.I (h1.errs hE) h.bd.db (by omega) hR;exact hc.mono fun r w' hh=>ProgP.of h1 hI hh
 · unfold sizeArgs
   refine (dtresize_any W1 base m D N G a B hM.doc hM.I hM.bd.db (by omega) hM.bd.dz).mono fun r w' hh=>?_;obtain ⟨c2,D2,hr,hR2,hd,hw⟩:=hh;obtain ⟨rfl,rfl⟩:=size_det hR hR2;exact ⟨hr,hM.docs hd hw (size_bd hM.bd hR2),hw⟩
theorem pin_both (N G:Int)(h:Both W w base tr m hb D hl B)(hE:Errs W A)(hB:B≤800):Sides W w base tr m hb D hl B A 43 44 (pinArgs tr N G) (pinArgs m N G):=by
 obtain ⟨c,D',hR⟩:=pin_tot D N G;refine ⟨c,D',pin_le hR,fun W1 ho=>?_,fun W1 hM=>?_⟩
 · have h1:Both W W1 base tr m hb D hl B:=Pair6.only h ho
   obtain ⟨T,P,R⟩:=h1.prg;obtain ⟨hI,hc⟩:=pin_rep P R h.I (h1.errs hE) h.bd.db (by omega) hR;exact hc.mono fun r w' hh=>ProgP.of h1 hI hh
 · unfold pinArgs
   refine (dtpin_any W1 base m D N G B hM.doc hM.I hM.bd.db (by omega) hM.bd.dz).mono fun r w' hh=>?_;obtain ⟨c2,D2,hr,hR2,hd,hw⟩:=hh;obtain ⟨rfl,rfl⟩:=pin_det hR hR2;exact ⟨hr,hM.docs hd hw (pin_bd hM.bd hR2),hw⟩
theorem unpin_both (N G:Int)(h:Both W w base tr m hb D hl B)(hE:Errs W A)(hB:B≤800):Sides W w base tr m hb D hl B A 45 46 (pinArgs tr N G) (pinArgs m N G):=by
 obtain ⟨c,D',hR⟩:=unpin_tot D N G;refine ⟨c,D',unpin_le hR,fun W1 ho=>?_,fun W1 hM=>?_⟩
 · have h1:Both W W1 base tr m hb D hl B:=Pair6.only h ho
   obtain ⟨T,P,R⟩:=h1.prg;obtain ⟨hI,hc⟩:=unpin_rep P R h.I (h1.errs hE) h.bd.db (by omega) hR;exact hc.mono fun r w' hh=>ProgP.of h1 hI hh
 · unfold pinArgs
   refine (dtunpin_any W1 base m D N G B hM.doc hM.I hM.bd.db (by omega) hM.bd.dz hM.hi).mono fun r w' hh=>?_;obtain ⟨c2,D2,hr,hR2,hd,hw⟩:=hh;obtain ⟨rfl,rfl⟩:=unpin_det hR hR2;exact ⟨hr,hM.docs hd hw (unpin_bd hM.bd hR2),hw⟩
theorem make_both (N G:Int)(s:ByteArray)(K:Int)(h:Both W w base tr m hb D hl B)(hE:Errs W A)(hB:B≤800):∃ c i g D',c≤14∧i≤300∧g≤900∧(∀ W1,zQ w W1→zK 28 (makeArgs tr N G s K) W1 fun r w'=>ProgP W W1 base tr m hb D D' hl B (.tuple #[.agg #[.int .i64 (i:Nat),.int .i64 (g:Nat)],codeE A c]) r w')∧(∀ W1,Pair6 W W1 base tr m hb D D' hl B→zK 33 (makeArgs m N G s K) W1 fun r w'=>DocP W W1 base tr m hb D' hl (B+4) (.tuple #[.agg #[.int .i64 ((i:Nat):Int),.int .i64 ((g:Nat):Int)],.int .i64 ((c:Nat):Int)]) r w'):=by
 obtain ⟨c,i,g,D',hR⟩:=make_tot D N G s K
 have hbig:i≤300∧g≤900:=by
   have hm:=h.I.most;have ht:=h.bd.db.2;rcases hR with ⟨_,_,rfl,rfl,_⟩ | ⟨_,_,_,rfl,rfl,_⟩ | ⟨x,_,_,_,⟨_,_,rfl,rfl,_⟩ | ⟨_,_,_,rfl,rfl,_⟩ | ⟨_,_,_,_,rfl,rfl,_⟩ | ⟨_,_,_,hi,_,_,_,rfl,_⟩⟩
   all_goals first | omega | (have:=ht i;omega)
 refine ⟨c,i,g,D',make_le hR,hbig.1,hbig.2,fun W1 ho=>?_,fun W1 hM=>?_⟩
 · have h1:Both W W1 base tr m hb D hl B:=Pair6.only h ho
   obtain ⟨T,P,R⟩:=h1.prg;obtain ⟨hI,hc⟩:=make_rep P R h.I (h1.errs hE) h.bd.db (by omega) hR;refine hc.mono fun r w' hh=>?_;obtain ⟨T',q1,q2,q3,q4⟩:=hh;exact ⟨q1,h1.prog q2 q3 hI q4,q4⟩
 · unfold makeArgs
   refine (dmake_any W1 base m D N G s K B hM.doc hM.I hM.bd.db (by omega) hM.hi).mono fun r w' hh=>?_;obtain ⟨c2,i2,g2,D2,hr,hR2,hd,hw⟩:=hh;obtain ⟨rfl,rfl,rfl,rfl⟩:=make_det hR hR2;exact ⟨hr,hM.docs hd hw (make_bd hM.bd hR2).1,hw⟩
end
end
end Go.Proofs.YtooblpbmcnmicaaGreatDoor
