import Derived.Test.YtkcabopgajlmdaaGreatDoorK26
import Derived.Laws.AppendOwnNone
set_option maxRecDepth 100000
set_option maxHeartbeats 8000000
namespace Go.Proofs.YtkcabopgajlmdaaGreatDoor
section
open Go Go.RowKit Go.Deep Go.Maps
theorem Ents.own {w:World}{base n:Nat}{v:Value}{l:List Ent}(hn:l.length=n)(h:Ents w base v l):w.ownsRow base 110 3 v n (rowOf entC l):=by
 unfold Ents at h;rw [hn] at h;exact h
theorem Ents.low {w:World}{base b2:Nat}{v:Value}{l:List Ent}(h:Ents w base v l)(hb:b2≤base):Ents w b2 v l:=⟨h.1,by
 rcases h.2 with e | ⟨g,cp,cur,h1,h2,h3⟩
 · exact Or.inl e
 · exact Or.inr ⟨g,cp,cur,h1,Nat.le_trans hb h2,h3⟩⟩
theorem ent_news {w:World}(x:Ent)(ty:TypeId):∀ (r:Nat) (q:Value),(entC x)[r]?=some q→(w.alloc (.cells #[.string (bs x.s),zI x.i,zI x.c] ty)).cell? ((⟨w.heap.size,0,none⟩:Addr).add r)=some q:=World.news_of_block (w:=w.alloc (.cells #[.string (bs x.s),zI x.i,zI x.c] ty)) (zh w _)
def entTo (e:Ent)(l:List Ent)(j:Nat):Bool×List Ent:=(l.take j).foldl (fun a y=>if a.1 then (true,a.2++[y]) else if bytesBefore e.s y.s then (true,a.2++[e,y]) else (false,a.2++[y])) (false,[])
theorem entTo_succ {e y:Ent}{l:List Ent}{j:Nat}(h:l[j]?=some y):entTo e l (j+1)=if (entTo e l j).1 then (true,(entTo e l j).2++[y]) else if bytesBefore e.s y.s then (true,(entTo e l j).2++[e,y]) else (false,(entTo e l j).2++[y]):=by
 unfold entTo;rw [List.take_add_one,h,List.foldl_append];rfl
theorem entTo_len (e:Ent)(l:List Ent)(j:Nat)(hj:j≤l.length):(entTo e l j).2.length=j+if (entTo e l j).1 then 1 else 0:=by
 induction j with
 | zero=>simp [entTo]
 | succ j ih =>
  have hx:l[j]?=some (l[j]'(by omega)):=List.getElem?_eq_getElem _;have:=ih (by omega);rw [entTo_succ hx]
  by_cases h1:(entTo e l j).1=true
  · rw [if_pos h1] at this ⊢
    simp [this]
  · rw [if_neg h1] at this ⊢
    split<;>simp [this]
theorem entTo_end (e:Ent)(l:List Ent):(if (entTo e l l.length).1 then (entTo e l l.length).2 else (entTo e l l.length).2++[e])=insE e l:=by
 have key:∀ (l:List Ent) (d:Bool) (acc:List Ent),let r:=l.foldl (fun a y=>if a.1 then (true,a.2++[y]) else if bytesBefore e.s y.s then (true,a.2++[e,y]) else (false,a.2++[y])) (d,acc);(if r.1 then r.2 else r.2++[e])=if d then acc++l else acc++insE e l:=by
  intro l
  induction l with
  | nil =>
   intro d acc
   cases d<;>simp [insE]
  | cons y l ih =>
   intro d acc;rw [List.foldl_cons]
   cases d with
   | true =>
    have:=ih true (acc++[y]);simp only [if_true] at this ⊢;rw [this];simp
   | false =>
    by_cases hb:bytesBefore e.s y.s=true
    · have:=ih true (acc++[e,y])
      simp only [if_true,hb] at this ⊢;unfold insE;rw [if_pos hb]
      simpa using this
    · have:=ih false (acc++[y])
      simp only [hb] at this ⊢;unfold insE;rw [if_neg hb]
      simpa using this
 have:=key l false [];unfold entTo;rw [List.take_length]
 simpa using this
theorem less_before:∀ (a b:List UInt8),Op.bytesLess a b=bytesBefore a b
 | [],[]=>rfl
 | [],_::_=>rfl
 | _::_,[]=>rfl
 | a::r,b::s=>by
  show (decide (a < b) || (a==b&&Op.bytesLess r s))=(decide (a < b) || (a==b&&bytesBefore r s));rw [less_before r s]
theorem bsL (l:List UInt8):(bs l).toList=l:=by rw [Lib.toList_data];simp [bs]
structure Mk (w wr:World)(l:List Ent)(o:Value):Prop where
 own:Ents wr w.heap.size o l
 only:zQ w wr
theorem Mk.add {w wr w6:World}{l:List Ent}{o:Value}{x:Ent}{n gl cp:Nat}(h:Mk w wr l o)(hn:l.length=n)(ob:Obj)(hown:w6.ownsRow w.heap.size 110 3 (.slice (some ⟨gl,0,none⟩) (n+1) cp) (n+1) (rowOf entC l++entC x))(hgr:(wr.alloc ob).grownBy w6 o.ownBlock):Mk w w6 (l++[x]) (.slice (some ⟨gl,0,none⟩) (n+1) cp) :=
 ⟨ents_snoc hn hown,(h.only.alloc ob).grown hgr (fun _ hk=>Or.inr (own_blk h.own hk).1)⟩
theorem NmAt.reent {w w5:World}{n:Nm}{v':Value}{es':List Ent}(h:NmAt w n)(ho:zQ w w5)(hown:Ents w5 w.heap.size v' es'):
   NmAt (w5.setCell (zA n.b 6) v') { n with ev:=v',x:={ n.x with es:=es' } }∧Only [n.b] w (w5.setCell (zA n.b 6) v'):=by
 have h5:=h.kept ho (by simp) (fun _ _=>by simp) (fun _ _=>by simp);have hlt:=h.lt;have hs:Only [n.b] w5 (w5.setCell (zA n.b 6) v'):=(Only.refl [n.b] w5).setCell (Or.inl (by simp)) _;have hb:(w5.setCell (zA n.b 6) v').heap[n.b]?=some (.cells #[zI n.x.i,zI n.x.c,zI n.x.K,zI n.x.C,.string n.x.S,n.hv,v',zI n.x.p] 84 (0,0)):=heap_setCell_same w5 n.b 6 _ _ _ h5.blk;refine ⟨⟨hb,hs.owns h5.holes (fun k hk=>?_),?_⟩,(ho.mono (fun _ hk=>by cases hk)).trans hs (fun k hk=>Or.inl hk)⟩
 · have:=(own_blk h5.holes hk).1
   simp;omega
 · have hlow:Ents w5 (n.b+1) v' es':=⟨hown.1,by
    rcases hown.2 with e | ⟨g,cp,cur,h1,h2,h3⟩
    · exact Or.inl e
    · exact Or.inr ⟨g,cp,cur,h1,by omega,h3⟩⟩
   exact hlow.only hs (fun k hk=>by
    have:=(own_blk hlow hk).1;simp
    omega)
theorem ent_row {w:World}{n:Nm}(h:NmAt w n){k:Nat}(hk:n.x.es.length=k):∃ ad cap,n.ev = .slice ad k cap∧∀ W,zQ w W→W.cell? (zA n.b 6)=some (.slice ad k cap)∧n.b < W.heap.size∧W.frozen? ⟨n.b,6,none⟩=false∧∀ j e,n.x.es[j]?=some e→∃ g,ad=some ⟨g,0,none⟩∧W.cell? ⟨g,j*3,none⟩=some (.string (bs e.s))∧W.cell? ⟨g,j*3+1,none⟩=some (zI e.i)∧W.cell? ⟨g,j*3+2,none⟩=some (zI e.c):=by
 obtain ⟨ad,cap,hev,hf⟩:=h.form;rw [hk] at hev;refine ⟨ad,cap,hev,fun W ho=>?_⟩;have hW:=h.kept ho (by simp) (fun _ _=>by simp) (fun _ _=>by simp);refine ⟨by rw [hW.c6,hev],hW.lt,hW.fz 6,fun j e he=>?_⟩;obtain ⟨g,h1,_,a0,a1,a2⟩:=hf j e he;exact ⟨g,h1,(ho.cell (p:=⟨g,j*3,none⟩) (zv a0) (by simp)).trans a0,(ho.cell (p:=⟨g,j*3+1,none⟩) (zv a1) (by simp)).trans a1,(ho.cell (p:=⟨g,j*3+2,none⟩) (zv a2) (by simp)).trans a2⟩
def EnterR (w w':World)(n:Nm)(es':List Ent):Prop:=∃ v',NmAt w' { n with ev:=v',x:={ n.x with es:=es' } }∧Only [n.b] w w'
theorem denter_any (w:World)(n:Nm)(e:Ent)(h:NmAt w n)(hl:n.x.es.length≤1000):
  zK 59 #[zP n.b,.string (bs e.s),zG e.i e.c] w fun x w'=>x = .returned (.tuple #[])∧EnterR w w' n (insE e n.x.es):=by
 obtain ⟨i0,hi0,hz0,hz1,hz2⟩:=entInfo';obtain ⟨k,hk⟩:∃ k,n.x.es.length=k:=⟨_,rfl⟩;have HN:Hid (n.x.es.length=k):=hk;obtain ⟨ad,cap,hev,hF⟩:=ent_row h hk;have HF:Hid (∀ W,zQ w W→W.cell? (zA n.b 6)=some (.slice ad k cap)∧n.b < W.heap.size∧W.frozen? ⟨n.b,6,none⟩=false∧∀ j e,n.x.es[j]?=some e→∃ g,ad=some ⟨g,0,none⟩∧W.cell? ⟨g,j*3,none⟩=some (.string (bs e.s))∧W.cell? ⟨g,j*3+1,none⟩=some (zI e.i)∧W.cell? ⟨g,j*3+2,none⟩=some (zI e.c)):=hF;have H:Hid (NmAt w n):=h;rw [hk] at hl;have HO1:Hid (zQ w (w.alloc (zH e.i e.c))):=(Only.refl [] w).alloc _;have HB:Hid (HBox (w.alloc (zH e.i e.c)) w.heap.size e.i e.c):=zh w _;have HBW:Hid (∀ W,zQ (w.alloc (zH e.i e.c)) W→HBox W w.heap.size e.i e.c):=fun W ho=>HB.out.kept ho (by simp);clear h hk hev hF
 go_enter Tryz.func59,Tryz.ntmps59
 go_wp2
 generalize w.alloc (zH e.i e.c)=w1 at HO1 HB HBW ⊢;generalize w.heap.size=B at HB HBW ⊢
 go_loopw [6,7,8] (fun o d i wr=>∃ j:Nat,i=zI j∧j≤k∧d = .bool (entTo e n.x.es j).1∧Mk w1 wr (entTo e n.x.es j).2 o) (fun _ _ i _=>k - (intOf i).toNat)
 case atStart=>exact ⟨0,rfl,Nat.zero_le _,rfl,Ents.nil _ _,Only.refl _ _⟩
 case round =>
  obtain ⟨j,rfl,hj,rfl,hmk⟩:=hrel;have HM:Hid (Mk w1 wr (entTo e n.x.es j).2 u6):=hmk;obtain ⟨c6,hbl,_,hce⟩:=HF.out wr (zo HO1.out hmk.only);obtain ⟨b0,b1⟩:=(HBW.out wr hmk.only).cells;have hll:=entTo_len e n.x.es j (by rw [HN.out];exact hj);clear hmk
  by_cases hlt:j < k
  · obtain ⟨y,hx⟩:∃ y,n.x.es[j]?=some y:=⟨_,List.getElem?_eq_getElem (by rw [HN.out];exact hlt)⟩
    obtain ⟨g,rfl,q0,q1,q2⟩:=hce j y hx;have HT:=entTo_succ (e:=e) hx;have HX:Hid (n.x.es[j]?=some y):=hx;clear hx hce;obtain ⟨dn,hdn⟩:∃ dn,(entTo e n.x.es j).2.length=dn:=⟨_,rfl⟩;have HDN:Hid ((entTo e n.x.es j).2.length=dn):=hdn
    have hdb:dn≤1001:=by rw [← hdn,hll];split<;>omega
    cases hd:(entTo e n.x.es j).1 with
    | true =>
     rw [hd,if_pos rfl] at HT;have HTK:Hid (entTo e n.x.es (j+1)=(true,(entTo e n.x.es j).2++[y])):=HT;clear HT hdn hll hd
     go_wp2_with (first
       | (at_builtin;refine wpList_append_lies _ rfl (.tmp 38) (.tmp 46) 49 rfl w1.heap.size 110 i0 _ 3 32 entsUnd hi0 hz0 hz1 hz2 rfl (by decide) u6 dn _ rfl (World.ownsRow.alloc (HM.out.own.own HDN.out) _) ⟨wr.heap.size,0,none⟩ 1 1 (entC y) rfl rfl (ent_news _ _) (entC_one y) (by decide) (by unfold maxLen;omega) (by omega) (by rw [World.size_alloc];have:=HM.out.only.size;omega) (wr.heap.size+1) (by simp) ?_;intro g5 c5 w5 hown hgr hat hlt5;have HM5:Hid (Mk w1 w5 ((entTo e n.x.es j).2++[y]) (.slice (some ⟨g5,0,none⟩) (dn+1) c5)):=HM.out.add HDN.out _ hown hgr;clear hown hgr hat hlt5)
       | go_in)
     go_roundw
     case rel=>exact ⟨j+1,by go_num,by omega,by rw [HTK.out],by rw [HTK.out];exact HM5.out⟩
     case measure=>simp [intOf];omega
    | false =>
     rw [hd,if_neg (by simp)] at HT
     by_cases hb:bytesBefore e.s y.s=true
     · rw [if_pos hb] at HT
       have HTK:Hid (entTo e n.x.es (j+1)=(true,((entTo e n.x.es j).2++[e])++[y])):=by show _=_;rw [HT];simp
       have hq:Op.bytesLess (bs e.s).toList (bs y.s).toList=true:=by rw [less_before,bsL,bsL];exact hb
       have HDE:Hid (((entTo e n.x.es j).2++[e]).length=dn+1):=by show _=_;rw [List.length_append,hdn];rfl
       have HCE:Hid (∀ W,zQ w W→W.cell? (zA n.b 6)=some (.slice (some ⟨g,0,none⟩) k cap)∧W.cell? ⟨g,j*3,none⟩=some (.string (bs y.s))∧W.cell? ⟨g,j*3+1,none⟩=some (zI y.i)∧W.cell? ⟨g,j*3+2,none⟩=some (zI y.c)):=fun W ho=>by
        obtain ⟨a1,_,_,a4⟩:=HF.out W ho;obtain ⟨g',e',r⟩:=a4 j y HX.out
        cases e'
        exact ⟨a1,r⟩
       clear HT hdn hll hd hb
       go_wp2_with (first
        | (at_builtin;refine wpList_append_lies _ rfl (.tmp 32) (.tmp 36) 49 rfl w1.heap.size 110 i0 _ 3 32 entsUnd hi0 hz0 hz1 hz2 rfl (by decide) u6 dn _ rfl (World.ownsRow.alloc (HM.out.own.own HDN.out) _) ⟨wr.heap.size,0,none⟩ 1 1 (entC e) rfl rfl (ent_news _ _) (entC_one e) (by decide) (by unfold maxLen;omega) (by omega) (by rw [World.size_alloc];have:=HM.out.only.size;omega) (wr.heap.size+1) (by simp) ?_;intro g5 c5 w5 hown hgr hat hlt5;have HM5:Hid (Mk w1 w5 ((entTo e n.x.es j).2++[e]) (.slice (some ⟨g5,0,none⟩) (dn+1) c5)):=HM.out.add HDN.out _ hown hgr;clear hown hgr hat hlt5;clear c6 q0 q1 q2;obtain ⟨c6,q0,q1,q2⟩:=HCE.out w5 (zo HO1.out HM5.out.only))
        | (at_builtin;refine wpList_append_lies _ rfl (.tmp 38) (.tmp 46) 49 rfl w1.heap.size 110 i0 _ 3 32 entsUnd hi0 hz0 hz1 hz2 rfl (by decide) _ (dn+1) _ rfl (World.ownsRow.alloc (HM5.out.own.own HDE.out) _) ⟨w5.heap.size,0,none⟩ 1 1 (entC y) rfl rfl (ent_news _ _) (entC_one y) (by decide) (by unfold maxLen;omega) (by omega) (by rw [World.size_alloc];have:=HM5.out.only.size;omega) (w5.heap.size+1) (by simp) ?_;intro g6 c6 w6 hown hgr hat hlt5;have HM6:Hid (Mk w1 w6 ((entTo e n.x.es j).2++[e]++[y]) (.slice (some ⟨g6,0,none⟩) ((dn+1)+1) c6)):=HM5.out.add HDE.out _ hown hgr;clear hown hgr hat hlt5)
        | go_in)
       go_roundw
       case rel=>exact ⟨j+1,by go_num,by omega,by rw [HTK.out],by rw [HTK.out];exact HM6.out⟩
       case measure=>simp [intOf];omega
     · rw [if_neg hb] at HT
       have HTK:Hid (entTo e n.x.es (j+1)=(false,(entTo e n.x.es j).2++[y])):=HT
       have hq:Op.bytesLess (bs e.s).toList (bs y.s).toList=false:=by rw [less_before,bsL,bsL];simpa using hb
       clear HT hdn hll hd hb
       go_wp2_with (first
        | (at_builtin;refine wpList_append_lies _ rfl (.tmp 38) (.tmp 46) 49 rfl w1.heap.size 110 i0 _ 3 32 entsUnd hi0 hz0 hz1 hz2 rfl (by decide) u6 dn _ rfl (World.ownsRow.alloc (HM.out.own.own HDN.out) _) ⟨wr.heap.size,0,none⟩ 1 1 (entC y) rfl rfl (ent_news _ _) (entC_one y) (by decide) (by unfold maxLen;omega) (by omega) (by rw [World.size_alloc];have:=HM.out.only.size;omega) (wr.heap.size+1) (by simp) ?_;intro g5 c5 w5 hown hgr hat hlt5;have HM5:Hid (Mk w1 w5 ((entTo e n.x.es j).2++[y]) (.slice (some ⟨g5,0,none⟩) (dn+1) c5)):=HM.out.add HDN.out _ hown hgr;clear hown hgr hat hlt5)
        | go_in)
       go_roundw
       case rel=>exact ⟨j+1,by go_num,by omega,by rw [HTK.out],by rw [HTK.out];exact HM5.out⟩
       case measure=>simp [intOf];omega
  · obtain rfl:k=j:=by omega
    clear hce;obtain ⟨dn,hdn⟩:∃ dn,(entTo e n.x.es k).2.length=dn:=⟨_,rfl⟩;have HDN:Hid ((entTo e n.x.es k).2.length=dn):=hdn
    have hdb:dn≤1001:=by rw [← hdn,hll];split<;>omega
    have hend:=entTo_end e n.x.es;rw [HN.out] at hend
    obtain ⟨ad6,cp6,hu6⟩:∃ a c,u6 = .slice a dn c:=by
     rcases HM.out.own.2 with ⟨e1,e2⟩ | ⟨_,cp,_,e1,_⟩
     · exact ⟨_,_,by rw [← hdn,e2];exact e1⟩
     · exact ⟨_,_,by rw [← hdn];exact e1⟩
    cases hd:(entTo e n.x.es k).1 with
    | true =>
     rw [hd,if_pos rfl] at hend;have hx:=H.out.reent (zo HO1.out HM.out.only) (es':=insE e n.x.es) (by rw [← hend];exact HM.out.own.low HO1.out.size);obtain ⟨c6,hbl,hfz,_⟩:=HF.out wr (zo HO1.out HM.out.only);rw [hu6] at hx;have HX:Hid (EnterR w (wr.setCell (zA n.b 6) (.slice ad6 dn cp6)) n (insE e n.x.es)):=⟨_,hx⟩;subst hu6;clear hend hdn hll hd hx
     go_wp2
     go_end0
     exact ⟨rfl,HX.out⟩
    | false =>
     rw [hd,if_neg (by simp)] at hend;have HEN:Hid ((entTo e n.x.es k).2++[e]=insE e n.x.es):=hend;clear hend hdn hll hd hu6
     go_wp2_with (first
       | (at_builtin;refine wpList_append_lies _ rfl (.tmp 50) (.tmp 54) 49 rfl w1.heap.size 110 i0 _ 3 32 entsUnd hi0 hz0 hz1 hz2 rfl (by decide) u6 dn _ rfl (World.ownsRow.alloc (HM.out.own.own HDN.out) _) ⟨wr.heap.size,0,none⟩ 1 1 (entC e) rfl rfl (ent_news _ _) (entC_one e) (by decide) (by unfold maxLen;omega) (by omega) (by rw [World.size_alloc];have:=HM.out.only.size;omega) (wr.heap.size+1) (by simp) ?_;intro g5 c5 w5 hown hgr hat hlt5;have HM5:Hid (Mk w1 w5 ((entTo e n.x.es k).2++[e]) (.slice (some ⟨g5,0,none⟩) (dn+1) c5)):=HM.out.add HDN.out _ hown hgr;clear hown hgr hat hlt5;have hx:=H.out.reent (zo HO1.out HM5.out.only) (es':=insE e n.x.es) (by rw [← HEN.out];exact HM5.out.own.low HO1.out.size);have HX:Hid (EnterR w (w5.setCell (zA n.b 6) (.slice (some ⟨g5,0,none⟩) (dn+1) c5)) n (insE e n.x.es)):=⟨_,hx⟩;clear hx c6;obtain ⟨c6,hbl,hfz,_⟩:=HF.out w5 (zo HO1.out HM5.out.only))
       | go_in)
     go_end0
     exact ⟨rfl,HX.out⟩
theorem Ents.news_take {w:World}{base g n cap:Nat}{l:List Ent}(h:Ents w base (.slice (some ⟨g,0,none⟩) n cap) l)(hn:l.length=n)(k:Nat):∀ j u,(rowOf entC (l.take k))[j]?=some u→w.cell? ((⟨g,0,none⟩:Addr).add j)=some u:=by
 subst hn;intro j u hu;rw [rowOf_take entC_len,List.getElem?_take] at hu
 split at hu
 · have hj:j < l.length*3:=by rw [← rowOf_len entC_len l];exact (List.getElem?_eq_some_iff.1 hu).1
   have ha:(⟨g,0,none⟩:Addr).add j=⟨g,j,none⟩:=by unfold Addr.add;split<;>simp_all
   rw [ha,World.ownsRow.cellAt h j hj];exact hu
 · cases hu
theorem Ents.news_drop {w:World}{base g n cap:Nat}{l:List Ent}(h:Ents w base (.slice (some ⟨g,0,none⟩) n cap) l)(hn:l.length=n)(k:Nat)(ad:Addr)(ha:(l.drop k).length=0∨ad=⟨g,k*3,none⟩):∀ j u,(rowOf entC (l.drop k))[j]?=some u→w.cell? (ad.add j)=some u:=by
 subst hn;intro j u hu;rcases ha with ha | rfl
 · rw [List.length_eq_zero_iff.1 ha] at hu
   cases hu
 · rw [rowOf_drop entC_len,List.getElem?_drop] at hu
   have hj:k*3+j < l.length*3:=by rw [← rowOf_len entC_len l];exact (List.getElem?_eq_some_iff.1 hu).1
   have ha:(⟨g,k*3,none⟩:Addr).add j=⟨g,k*3+j,none⟩:=by unfold Addr.add;split<;>simp_all
   rw [ha,World.ownsRow.cellAt h _ hj];exact hu
theorem own_shape3 {w:World}{base n:Nat}{e:TypeId}{v:Value}{xs:List Value}(h:w.ownsRow base e 3 v n xs):∃ a c m,v = .slice a m c:=by
 rcases h.2 with ⟨h1,_⟩ | ⟨g,cap,cur,h1,_⟩
 · exact ⟨_,_,_,h1⟩
 · exact ⟨_,_,_,h1⟩
theorem dleave_any (w:World)(n:Nm)(i:Nat)(h:NmAt w n)(hl:n.x.es.length≤1000)(hin:i < n.x.es.length):
  zK 62 #[zP n.b,zI i] w fun x w'=>x = .returned (.tuple #[])∧EnterR w w' n (n.x.es.take i++n.x.es.drop (i+1)):=by
 have H:Hid (NmAt w n):=h;have hents:=h.ents;have hZ:∀ W,zQ w W→NmAt W n:=fun W ho=>h.kept ho (by simp) (fun _ _=>by simp) (fun _ _=>by simp);have HKN:Hid (∀ W,zQ w W→NmAt W n):=hZ;generalize hL:n.x.es=L at hents hl hin ⊢;have HES:Hid (n.x.es=L):=hL;obtain ⟨v,hv⟩:∃ v,n.ev=v:=⟨_,rfl⟩;have HEV:Hid (n.ev=v):=hv;rw [hv] at hents
 obtain ⟨g,cap,hve,hcap⟩:∃ g cap,v = .slice (some ⟨g,0,none⟩) L.length cap∧L.length≤cap∧cap≤maxLen:=by
  rcases hents.2 with ⟨h0,hz⟩ | ⟨g,cap,_,e1,_,_,h1,h2,_⟩
  · omega
  · exact ⟨g,cap,e1,h1,h2⟩
 obtain ⟨k,hk⟩:∃ k,L.length=k:=⟨_,rfl⟩;have HN:Hid (L.length=k):=hk;rw [hk] at hin hl hcap hve;subst hve;obtain ⟨hc1,hc2⟩:=hcap;unfold maxLen at hc2;have HENT:Hid (∀ W,zQ w W→Ents W (n.b+1) (.slice (some ⟨g,0,none⟩) k cap) L):=fun W ho=>hents.only ho (fun _ _=>by simp);have HZ:Hid (∀ W,zQ w W→W.cell? (zA n.b 6)=some (.slice (some ⟨g,0,none⟩) k cap)∧n.b < W.heap.size∧W.frozen? ⟨n.b,6,none⟩=false):=fun W ho=>⟨by rw [(HKN.out W ho).c6,HEV.out],(HKN.out W ho).lt,(HKN.out W ho).fz 6⟩;obtain ⟨z0,z1,z2⟩:=HZ.out w (Only.refl _ _)
 obtain ⟨ad,had,hadr⟩:∃ ad:Addr,(if cap=i+1 then some (⟨g,0,none⟩:Addr) else some ⟨g,(i+1)*3,none⟩)=some ad∧((L.drop (i+1)).length=0∨ad=⟨g,(i+1)*3,none⟩):=by
  by_cases hc:cap=i+1
  · exact ⟨_,if_pos hc,Or.inl (by rw [List.length_drop];omega)⟩
  · exact ⟨_,if_neg hc,Or.inr rfl⟩
 have HADR:Hid ((L.drop (i+1)).length=0∨ad=⟨g,(i+1)*3,none⟩):=hadr;obtain ⟨i0,hi0,hz0,hz1,hz2⟩:=entInfo'
 have HL1:Hid ((rowOf entC (L.take i)).length=i*3):=by show (rowOf entC (L.take i)).length=i*3;rw [rowOf_len entC_len,List.length_take];congr 1;omega
 have HL2:Hid ((rowOf entC (L.drop (i+1))).length=(k - (i+1))*3):=by show (rowOf entC (L.drop (i+1))).length=(k - (i+1))*3;rw [rowOf_len entC_len,List.length_drop,hk]
 have HEND:Hid (∀ w4 v2,zQ w w4→w4.ownsRow w.heap.size 110 3 v2 (i+(k - (i+1))) (rowOf entC (L.take i)++rowOf entC (L.drop (i+1)))→EnterR w (w4.setCell (zA n.b 6) v2) n (L.take i++L.drop (i+1))):=fun w4 v2 ho hown=>⟨v2,H.out.reent ho (by
    unfold Ents;rw [rowOf_append,show (L.take i++L.drop (i+1)).length=i+(k - (i+1)) by rw [List.length_append,List.length_take,List.length_drop,HN.out];omega]
    exact hown)⟩
 have e1:((i:Int)+1).toNat=i+1:=by omega
 have e2:(i:Int)+1≤(k:Int):=by omega
 have e3:(0:Int)≤(i:Int)+1:=by omega
 have e4:(i:Int)≤(cap:Int):=by omega
 clear hents hZ hL hv hk hadr h
 go_enter Tryz.func62,Tryz.ntmps62
 go_wp2_with (first
  | (at_builtin;refine wpList_append_own_at _ rfl (.tmp 5) (.tmp 11) 49 rfl w.heap.size 110 i0 _ 3 32 entsUnd hi0 hz0 hz1 hz2 rfl (by decide) _ 0 [] rfl (World.ownsRow_nil _ _ _ _) ⟨g,0,none⟩ i cap (rowOf entC (L.take i)) rfl HL1.out (Ents.news_take (HENT.out w (Only.refl _ _)) HN.out i) (rowOf_one entC_one _) (by unfold maxLen;omega) (by omega) (Nat.le_refl _) ?_;intro v1 w3 hown1 hgr1 _ hat1;have HO3:Hid (zQ w w3):=(Only.refl _ _).grown hgr1 (fun q hq=>by cases hq);have HV1:Hid (w3.ownsRow w.heap.size 110 3 v1 i (rowOf entC (L.take i))):=(by have hh:=hown1;rw [Nat.zero_add,List.nil_append] at hh;exact hh);have HF1:Hid (∀ q,v1.ownBlock=some q→w.heap.size≤q):=(fun q hq=>by rcases hat1 with e | e;rw [e] at hq;cases hq;rw [e] at hq;cases hq;exact Nat.le_refl _);clear z0 z1 z2;obtain ⟨z0,z1,z2⟩:=HZ.out w3 HO3.out;clear hown1 hgr1 hat1)
  | (at_builtin;refine wpList_append_own_at _ rfl (.tmp 14) (.tmp 21) 49 rfl w.heap.size 110 i0 _ 3 32 entsUnd hi0 hz0 hz1 hz2 rfl (by decide) v1 i (rowOf entC (L.take i)) rfl HV1.out ad (k - (i+1)) _ (rowOf entC (L.drop (i+1))) rfl HL2.out (Ents.news_drop (HENT.out w3 HO3.out) HN.out (i+1) ad HADR.out) (rowOf_one entC_one _) (by unfold maxLen;omega) (by omega) HO3.out.size ?_;intro v2 w4 hown2 hgr2 _ hat2;obtain ⟨a2,c2,m2,rfl⟩:=own_shape3 hown2;have HO4:Hid (zQ w w4):=HO3.out.grown hgr2 (fun q hq=>Or.inr (HF1.out q hq));have HX:Hid (EnterR w (w4.setCell (zA n.b 6) (.slice a2 m2 c2)) n (L.take i++L.drop (i+1))):=HEND.out w4 _ HO4.out hown2;clear z0 z1 z2;obtain ⟨z0,z1,z2⟩:=HZ.out w4 HO4.out;clear hown2 hgr2 hat2)
  | go_in)
 go_end0
 exact ⟨rfl,HX.out⟩
theorem cut_drop {l:List Ent}(hr:RisingE l){k:Nat}{e:Ent}(hk:l[k]?=some e):l.take k++l.drop (k+1)=dropE l e.s:=by
 have hn:(l.map (·.s)).Nodup:=by
  unfold List.Nodup;rw [List.pairwise_map];refine hr.imp fun {a b} h e2=>?_;have:=before_lt h;rw [e2] at this;exact List.lt_irrefl _ this
 clear hr
 induction l generalizing k with
 | nil=>simp at hk
 | cons z l ih =>
  rw [List.map_cons,List.nodup_cons] at hn;unfold dropE;rw [List.filter_cons]
  cases k with
  | zero =>
   simp at hk;subst hk;simp
   symm
   rw [List.filter_eq_self];intro a ha;have:¬ a.s=z.s:=fun e2=>hn.1 (by rw [← e2];exact List.mem_map_of_mem ha);simp [this]
  | succ k =>
   simp at hk;have hz:¬ z.s=e.s:=fun e2=>hn.1 (by rw [e2];exact List.mem_map_of_mem (List.mem_of_getElem? hk));rw [if_pos (by simpa using hz)];have:=ih hk hn.2;unfold dropE at this;rw [← this];rfl
structure TwoH (w:World)(B:Nat)(N G a b:Int):Prop where
 x:w.heap[B]?=some (.cells #[zI N,zI G] 35 (0,0))
 y:w.heap[B+1]?=some (.cells #[zI a,zI b] 35 (0,0))
theorem TwoH.made (w:World)(N G:Int):TwoH ((w.alloc (zH N G)).alloc (zH 0 0)) w.heap.size N G 0 0:=by
 have h1:=zh (w.alloc (zH N G)) (zH 0 0);rw [World.size_alloc] at h1;exact ⟨((Only.refl [] (w.alloc (zH N G))).alloc (zH 0 0)).block w.heap.size (by rw [World.size_alloc];omega) (by simp) |>.trans (zh w _),h1⟩
theorem TwoH.kept {w w':World}{B:Nat}{N G a b:Int}{K:List Nat}(h:TwoH w B N G a b)(ho:Only K w w')(h1:B∉K)(h2:B+1∉K):TwoH w' B N G a b :=
 ⟨(ho.block B (Array.getElem?_eq_some_iff.1 h.x).1 h1).trans h.x,(ho.block (B+1) (Array.getElem?_eq_some_iff.1 h.y).1 h2).trans h.y⟩
theorem TwoH.cells {w:World}{B:Nat}{N G a b:Int}(h:TwoH w B N G a b):w.cell? (zA B 0)=some (zI N)∧w.cell? (zA B 1)=some (zI G)∧w.cell? (zA (B+1) 0)=some (zI a)∧w.cell? (zA (B+1) 1)=some (zI b)∧w.frozen? ⟨B+1,0,none⟩=false∧w.frozen? ⟨B+1,1,none⟩=false∧B+1 < w.heap.size :=
 ⟨cell_of_row _ _ 0 _ _ _ h.x,cell_of_row _ _ 1 _ _ _ h.x,cell_of_row _ _ 0 _ _ _ h.y,cell_of_row _ _ 1 _ _ _ h.y,frozen_of_row _ _ _ _ _ h.y,frozen_of_row _ _ _ _ _ h.y,(Array.getElem?_eq_some_iff.1 h.y).1⟩
theorem up_take {L:List Dn}{i c j:Nat}{x:Dn}(h:∀ y∈L.take j,y.es.any (·.to i c)=false)(hx:L[j]?=some x)(he:x.es.any (·.to i c)=true):L.find? (fun y=>y.es.any (·.to i c))=some x:=by
 have hd:L=L.take j++x::L.drop (j+1):=by
  have hlt:=(List.getElem?_eq_some_iff.1 hx).1;have hg:=(List.getElem?_eq_some_iff.1 hx).2;rw [← hg,List.getElem_cons_drop,List.take_append_drop]
 rw [hd,List.find?_append,List.find?_eq_none.2 (fun y hy=>by simpa using h y hy)];simp [he]
theorem dup_any (w:World)(base m:Nat)(lv tv:Value)(ns:List Nm)(D:Dt)(i c:Nat)(h:DtM w base m lv tv ns D)(hl:ns.length≤1000)(he:∀ x∈D.L,x.es.length≤1000):
  zO 67 #[zP m,zG i c] w (zG ((D.up i c).1:Nat) ((D.up i c).2:Nat)):=by
 obtain ⟨ad,cap,rfl,hlies⟩:=h.lies;have HL:Hid (∀ W,zQ w W→Lies W m ad cap ns):=hlies;have HE:Hid (∀ a∈ns,a.x.es.length≤1000):=fun a ha=>he _ (h.inL ha);have HD:Hid (D.L=ns.map (·.x)):=h.nodes
 have HUP:Hid (∀ j a,ns[j]?=some a→(∀ y∈ns.take j,y.x.es.any (·.to i c)=false)→a.x.es.any (·.to i c)=true→D.up i c=(a.x.i,a.x.c)):=fun j a ha hno ht=>by
  unfold Dt.up
  rw [h.nodes,up_take (j:=j) (x:=a.x) (fun y hy=>by
    rw [← List.map_take] at hy;obtain ⟨q,hq,rfl⟩:=List.mem_map.1 hy
    exact hno q hq) (by rw [List.getElem?_map,ha];rfl) ht]
 have HUN:Hid ((∀ y∈ns,y.x.es.any (·.to i c)=false)→D.up i c=(i,c)):=fun hno=>by
  unfold Dt.up
  rw [h.nodes,List.find?_eq_none.2 (fun y hy=>by
    obtain ⟨q,hq,rfl⟩:=List.mem_map.1 hy
    simpa using hno q hq)]
 obtain ⟨k,hk⟩:∃ k,ns.length=k:=⟨_,rfl⟩;have HN:Hid (ns.length=k):=hk;rw [hk] at hl;have HO1:Hid (zQ w ((w.alloc (zH i c)).alloc (zH 0 0))):=((Only.refl [] w).alloc _).alloc _;have HT:Hid (TwoH ((w.alloc (zH i c)).alloc (zH 0 0)) w.heap.size (i:Nat) (c:Nat) 0 0):=TwoH.made w _ _;clear h hk he hlies
 go_enter Tryz.func67,Tryz.ntmps67
 go_wp2
 generalize (w.alloc (zH i c)).alloc (zH 0 0)=w1 at HO1 HT ⊢;generalize hBB:w.heap.size=B at HT ⊢;have HBB:Hid (w.heap.size=B):=hBB;clear hBB
 go_loopw [5] (fun i0 wr=>∃ j:Nat,i0=zI j∧j≤k∧(∀ y∈ns.take j,y.x.es.any (·.to i c)=false)∧zQ w1 wr) (fun i0 _=>k - (intOf i0).toNat)
 case atStart=>exact ⟨0,rfl,Nat.zero_le _,fun y hy=>by simp at hy,Only.refl _ _⟩
 case round =>
  obtain ⟨j,rfl,hj,hno,ho⟩:=hrel;have HNO:Hid (∀ y∈ns.take j,y.x.es.any (·.to i c)=false):=hno;have HO:Hid (zQ w1 wr):=ho;have hW:=HL.out wr (zo HO1.out ho);have c1:=hW.c1;rw [HN.out] at c1;clear hno
  by_cases hlt:j < k
  · obtain ⟨a,hx⟩:∃ a,ns[j]?=some a:=⟨_,List.getElem?_eq_getElem (by rw [HN.out];exact hlt)⟩
    have HX:Hid (ns[j]?=some a):=hx;obtain ⟨r,hr⟩:∃ r,a.x.es.length=r:=⟨_,rfl⟩;have HRN:Hid (a.x.es.length=r):=hr
    have hrb:r≤1000:=by rw [← hr];exact HE.out a (List.mem_of_getElem? hx)
    clear ho hW hx hr
    go_wp2
    go_loopw [6] (fun q wq=>∃ p:Nat,q=zI p∧p≤r∧(∀ e∈a.x.es.take p,e.to i c=false)∧zQ w1 wq) (fun q _=>r - (intOf q).toNat)
    case atStart=>exact ⟨0,rfl,Nat.zero_le _,fun e he=>by simp at he,HO.out⟩
    case round =>
     clear c1;obtain ⟨p,rfl,hp,hne,ho⟩:=hrel;have HNE:Hid (∀ e∈a.x.es.take p,e.to i c=false):=hne;have HO2:Hid (zQ w1 wr):=ho;have hW:=HL.out wr (zo HO1.out ho);have c1:=hW.c1;rw [HN.out] at c1;obtain ⟨g,rfl,r0⟩:=hW.row j a HX.out;have hA:=hW.has a (List.mem_of_getElem? HX.out);have c6:=hA.c6;have d0:=hA.c0;have d1:=hA.c1;obtain ⟨ad2,cap2,hev,hf⟩:=hA.form;rw [hev,HRN.out] at c6;obtain ⟨b0,b1,b2,b3,f2,f3,hBl⟩:=(HT.out.kept ho (by simp) (by simp)).cells;clear hne ho hW hA hev
     by_cases hlt2:p < r
     · obtain ⟨e,hxe⟩:∃ e,a.x.es[p]?=some e:=⟨_,List.getElem?_eq_getElem (by rw [HRN.out];exact hlt2)⟩
       obtain ⟨g2,rfl,_,q0,q1,q2⟩:=hf p e hxe;have HXE:Hid (a.x.es[p]?=some e):=hxe
       have HTE:Hid (e.to i c=false→∀ y∈a.x.es.take (p+1),y.to i c=false):=fun hz y hy=>by
         rw [List.take_add_one,HXE.out] at hy;rcases List.mem_append.1 hy with h1 | h1
         · exact HNE.out y h1
         · simp at h1
           rw [h1];exact hz
       clear hf hxe
       by_cases hi:e.i=i
       · by_cases hcc:e.c=c
         · have HR:Hid (D.up i c=(a.x.i,a.x.c)):=HUP.out j a HX.out HNO.out (List.any_eq_true.2 ⟨e,List.mem_of_getElem? HXE.out,to_iff.2 ⟨hi,hcc⟩⟩)
           rw [hi] at q1;rw [hcc] at q2;clear hi hcc
           go_wp2
           go_big_quiet (fail)
           go_wp2
           refine bodyPost_ret (v:=zG a.x.i a.x.c) (by simp [results,Tryz.results67,go_sem,b2,b3]) rfl ⟨by rw [HR.out],?_⟩
           have hle:w.heap.size≤B+1:=by rw [HBB.out];omega
           exact ((((zo HO1.out HO2.out).drewsT _).setCell (p:=⟨B+1,0,none⟩) (Or.inr hle) _).setCell (p:=⟨B+1,1,none⟩) (Or.inr hle) _)
         · have HR:=HTE.out (by rw [Bool.eq_false_iff];exact fun e2=>hcc (to_iff.1 e2).2)
           have HR2:Hid (∀ y∈a.x.es.take (p+1),y.to i c=false):=HR;have db:((e.c:Int)==(c:Int))=false:=zb (by omega);rw [hi] at q1;clear hi hcc HR
           go_wp2
           go_big_quiet (fail)
           go_wp2
           go_roundw
           case rel=>exact ⟨p+1,by go_num,by omega,HR2.out,HO2.out.drewsT _⟩
           case measure=>simp [intOf];omega
       · have HR:=HTE.out (by rw [Bool.eq_false_iff];exact fun e2=>hi (to_iff.1 e2).1)
         have HR2:Hid (∀ y∈a.x.es.take (p+1),y.to i c=false):=HR;have db:((e.i:Int)==(i:Int))=false:=zb (by omega);clear hi HR
         go_wp2
         go_big_quiet (fail)
         go_wp2
         go_roundw
         case rel=>exact ⟨p+1,by go_num,by omega,HR2.out,HO2.out.drewsT _⟩
         case measure=>simp [intOf];omega
     · obtain rfl:r=p:=by omega
       have HR:Hid (∀ y∈ns.take (j+1),y.x.es.any (·.to i c)=false):=fun y hy=>by
         rw [List.take_add_one,HX.out] at hy;rcases List.mem_append.1 hy with h1 | h1
         · exact HNO.out y h1
         · simp at h1
           rw [h1,Bool.eq_false_iff];intro ht;obtain ⟨e,he,h2⟩:=List.any_eq_true.1 ht;have:=HNE.out e (by rw [← HRN.out,List.take_length];exact he);rw [this] at h2
           cases h2
       clear hf
       go_wp2
       go_roundw
       case rel=>exact ⟨j+1,by go_num,by omega,HR.out,HO2.out⟩
       case measure=>simp [intOf];omega
  · obtain rfl:k=j:=by omega
    have HR:Hid (D.up i c=(i,c)):=HUN.out (by
     have:=HNO.out;rw [← HN.out,List.take_length] at this
     exact this)
    obtain ⟨b0,b1,b2,b3,f2,f3,hBl⟩:=(HT.out.kept ho (by simp) (by simp)).cells;clear ho hW
    go_wp2
    refine bodyPost_ret (v:=zG i c) (by simp [results,Tryz.results67,go_sem,b2,b3]) rfl ⟨by rw [HR.out],?_⟩
    have hle:w.heap.size≤B+1:=by rw [HBB.out];omega
    exact ((zo HO1.out HO.out).setCell (p:=⟨B+1,0,none⟩) (Or.inr hle) _).setCell (p:=⟨B+1,1,none⟩) (Or.inr hle) _
def DocW (base:Nat)(w w':World):Prop:=∃ K,Only K w w'∧∀ k∈K,base≤k∧∃ cs ty,w.heap[k]?=some (.cells cs ty (0,0))∧ty∈docTys
theorem DocW.none {base:Nat}{w w':World}(h:zQ w w'):DocW base w w':=⟨[],h,fun k hk=>by cases hk⟩
theorem DocW.trans {base:Nat}{a b c:World}(h:DocW base a b)(k:DocW base b c):DocW base a c:=by
 obtain ⟨K1,o1,h1⟩:=h;obtain ⟨K2,o2,h2⟩:=k;refine ⟨K1++K2.filter (fun q=>decide (q < a.heap.size)&&!(K1.contains q)),(o1.mono (fun i hi=>Or.inl (List.mem_append_left _ hi))).trans o2 (fun i hi=>?_),fun q hq=>?_⟩
 · by_cases hl:i < a.heap.size
   · left
     by_cases hc:i∈K1
     · exact List.mem_append_left _ hc
     · exact List.mem_append_right _ (List.mem_filter.2 ⟨hi,by simp [hl,hc]⟩)
   · exact Or.inr (by omega)
 · rcases List.mem_append.1 hq with e | e
   · exact h1 q e
   · obtain ⟨e1,e2⟩:=List.mem_filter.1 e
     simp at e2;obtain ⟨hb,cs,ty,hc,ht⟩:=h2 q e1;rw [o1.block q e2.1 e2.2] at hc;exact ⟨hb,cs,ty,hc,ht⟩
theorem DocW.size {base:Nat}{a b:World}(h:DocW base a b):a.heap.size≤b.heap.size:=by
 obtain ⟨K,o,_⟩:=h;exact o.size
theorem DocW.below {base:Nat}{a b:World}(h:DocW base a b)(hb:base≤a.heap.size):Below base a b:=by
 obtain ⟨K,o,h1⟩:=h;exact o.to_below hb (fun k hk=>(h1 k hk).1)
theorem DocW.stays {base:Nat}{a b:World}(h:DocW base a b){k:Nat}{cs:Array Value}{ty:TypeId}{fr:Nat×Nat}(hk:a.heap[k]?=some (.cells cs ty fr))(ht:ty∉docTys):b.heap[k]?=some (.cells cs ty fr):=by
 obtain ⟨K,o,h1⟩:=h;rw [o.block k (Array.getElem?_eq_some_iff.1 hk).1 (fun hm=>?_)]
 · exact hk
 · obtain ⟨_,cs2,ty2,hc,ht2⟩:=h1 k hm
   rw [hk] at hc;simp at hc;exact ht (by rw [hc.2.1];exact ht2)
theorem DtM.docW {w w':World}{base m:Nat}{lv tv:Value}{ns:List Nm}{D:Dt}{K:List Nat}(h:DtM w base m lv tv ns D)(ho:Only K w w')(hK:∀ k∈K,FootM m lv tv ns k):DocW base w w':=⟨K,ho,fun k hk=>h.foot (hK k hk)⟩
def ptrOf (n:Nm):Value:=zP n.b
def Pts (w:World)(base:Nat)(v:Value)(ns:List Nm):Prop:=w.ownsRow base 79 1 v ns.length (ns.map ptrOf)
theorem Pts.nil (w:World)(base:Nat):Pts w base (.slice none 0 0) []:=World.ownsRow_nil _ _ _ _
theorem Pts.only {w w':World}{base:Nat}{v:Value}{ns:List Nm}{K:List Nat}(h:Pts w base v ns)(ho:Only K w w')(hn:∀ k,v.ownBlock=some k→k∉K):Pts w' base v ns:=ho.owns h hn
theorem Pts.low {w:World}{base b2:Nat}{v:Value}{ns:List Nm}(h:Pts w base v ns)(hb:b2≤base):Pts w b2 v ns:=⟨h.1,by
 rcases h.2 with e | ⟨g,cp,cur,h1,h2,h3⟩
 · exact Or.inl e
 · exact Or.inr ⟨g,cp,cur,h1,Nat.le_trans hb h2,h3⟩⟩
theorem Pts.own {w:World}{base n:Nat}{v:Value}{ns:List Nm}(hn:ns.length=n)(h:Pts w base v ns):w.ownsRow base 79 1 v n (ns.map ptrOf):=by
 unfold Pts at h;rw [hn] at h;exact h
theorem Pts.snoc {w:World}{base n:Nat}{v:Value}{ns:List Nm}{x:Nm}(hn:ns.length=n)(h:w.ownsRow base 79 1 v (n+1) (ns.map ptrOf++[ptrOf x])):Pts w base v (ns++[x]):=by
 unfold Pts;rw [List.length_append,List.length_singleton,hn,List.map_append];exact h
theorem infoPt:(Tryz.prog.info? 79).map (fun i=>(i.zero,i.size,i.bytes))=some (some (.pointer none),1,8):=by kernel_rfl
theorem infoPt':∃ i,Tryz.prog.info? 79=some i∧i.zero=some (.pointer none)∧i.size=1∧i.bytes=8:=by
 obtain ⟨i,hi,hz⟩:=Option.map_eq_some_iff.1 infoPt;simp only [Prod.mk.injEq] at hz;exact ⟨i,hi,hz⟩
theorem undPts:Tryz.prog.underlying 76=some (.slice 79):=by kernel_rfl
theorem pt_news {w:World}(x:Nm)(ty:TypeId):∀ (r:Nat) (q:Value),([ptrOf x]:List Value)[r]?=some q→(w.alloc (.cells #[zP x.b] ty)).cell? ((⟨w.heap.size,0,none⟩:Addr).add r)=some q:=World.news_of_block (w:=w.alloc (.cells #[zP x.b] ty)) (zh w _)
structure MkP (w wr:World)(l:List Nm)(o:Value):Prop where
 own:Pts wr w.heap.size o l
 only:zQ w wr
theorem MkP.add {w wr w6:World}{l:List Nm}{o:Value}{x:Nm}{n gl cp:Nat}(h:MkP w wr l o)(hn:l.length=n)(ob:Obj)(hown:w6.ownsRow w.heap.size 79 1 (.slice (some ⟨gl,0,none⟩) (n+1) cp) (n+1) (l.map ptrOf++[ptrOf x]))(hgr:(wr.alloc ob).grownBy w6 o.ownBlock):MkP w w6 (l++[x]) (.slice (some ⟨gl,0,none⟩) (n+1) cp) :=
 ⟨Pts.snoc hn hown,(h.only.alloc ob).grown hgr (fun _ hk=>Or.inr (own_blk h.own hk).1)⟩
theorem MkP.shape {w wr:World}{l:List Nm}{o:Value}{n:Nat}(h:MkP w wr l o)(hn:l.length=n):∃ a c,o = .slice a n c:=by
 rcases h.own.2 with ⟨e1,e2⟩ | ⟨_,cp,_,e1,_⟩
 · exact ⟨_,_,by rw [← hn,e2];exact e1⟩
 · exact ⟨_,_,by rw [← hn];exact e1⟩
theorem DtM.rerow {w w5:World}{base m:Nat}{lv tv v':Value}{ns ns':List Nm}{D:Dt}(h:DtM w base m lv tv ns D)(ho:zQ w w5)(hown:Pts w5 w.heap.size v' ns')(hs:ns'.Sublist ns)(hb:base≤w.heap.size):
   w5.cell? (zA m 1)=some lv∧w5.frozen? ⟨m,1,none⟩=false∧m < w5.heap.size∧DtM (w5.setCell (zA m 1) v') base m v' tv ns' { D with L:=ns'.map (·.x) }∧Only [m] w (w5.setCell (zA m 1) v'):=by
 have h5:=h.only ho;have hm5:m < w5.heap.size:=h5.lt (Or.inl rfl);have hs5:Only [m] w5 (w5.setCell (zA m 1) v'):=(Only.refl [m] w5).setCell (Or.inl (by simp)) _
 have away:∀ k cs ty,w5.heap[k]?=some (.cells cs ty (0,0))→ty≠78→k∉[m]:=fun k cs ty hc ht hk=>by
   rw [List.mem_singleton.1 hk,h5.tab] at hc;simp at hc;exact ht hc.2.symm
 refine ⟨h5.c1,h5.fz 1,hm5,⟨heap_setCell_same w5 m 1 _ _ _ h5.tab,?_,hs5.owns h5.times (fun k hk=>?_),rfl,fun n hn=>?_,h.nod.sublist (hs.map _),fun a ha b hb'=>h.hol a (hs.subset ha) b (hs.subset hb'),h.bm⟩,(ho.mono (fun _ hk=>by cases hk)).trans hs5 (fun k hk=>Or.inl hk)⟩
 · exact (hown.low hb).only hs5 (fun k hk=>by
     obtain ⟨_,_,cur,hc⟩:=own_blk hown hk
     exact away k _ _ hc (by decide))
 · obtain ⟨_,_,cur,hc⟩:=own_blk h5.times hk
   exact away k _ _ hc (by decide)
 · obtain ⟨h1,h2⟩:=h5.each n (hs.subset hn)
   refine ⟨h1,h2.kept hs5 (away _ _ _ h2.blk (by decide)) (fun k hk=>?_) (fun k hk=>?_)⟩
   · obtain ⟨_,_,cur,hc⟩:=own_blk h2.holes hk
     exact away k _ _ hc (by decide)
   · obtain ⟨_,_,cur,hc⟩:=own_blk h2.ents hk
     exact away k _ _ hc (by decide)
theorem filt_snoc {ns:List Nm}{p:Nm→Bool}{j:Nat}{x:Nm}(h:ns[j]?=some x):(ns.take (j+1)).filter p=if p x then (ns.take j).filter p++[x] else (ns.take j).filter p:=filt_take h
theorem filt_len {ns:List Nm}{p:Nm→Bool}{j k:Nat}(hk:j≤k):((ns.take j).filter p).length≤k:=by
 have h1:=List.length_filter_le p (ns.take j);have h2:=List.length_take_le j ns;omega
theorem dgone_any (w:World)(base m:Nat)(lv tv:Value)(ns:List Nm)(D:Dt)(i c:Nat)(h:DtM w base m lv tv ns D)(hl:ns.length≤1000)(hb:base≤w.heap.size):
  zK 92 #[zP m,zG i c] w fun e w'=>e = .returned (.tuple #[])∧∃ v',DtM w' base m v' tv (ns.filter fun n=>!n.x.is i c) (D.gone i c)∧Only [m] w w':=by
 obtain ⟨i0,hi0,hz0,hz1,hz2⟩:=infoPt';have H:Hid (DtM w base m lv tv ns D):=h;have HBS:Hid (base≤w.heap.size):=hb;obtain ⟨ad,cap,hlv,hlies⟩:=h.lies;have HL:Hid (∀ W,zQ w W→Lies W m ad cap ns):=hlies;obtain ⟨k,hk⟩:∃ k,ns.length=k:=⟨_,rfl⟩;have HN:Hid (ns.length=k):=hk;rw [hk] at hl;have HO1:Hid (zQ w (w.alloc (zH i c))):=(Only.refl [] w).alloc _;have HB:Hid (HBox (w.alloc (zH i c)) w.heap.size i c):=zh w _
 have HEND:Hid (∀ w5 v',zQ w w5→Pts w5 w.heap.size v' (ns.filter fun n=>!n.x.is i c)→w5.cell? (zA m 1)=some lv∧w5.frozen? ⟨m,1,none⟩=false∧m < w5.heap.size∧DtM (w5.setCell (zA m 1) v') base m v' tv (ns.filter fun n=>!n.x.is i c) (D.gone i c)∧Only [m] w (w5.setCell (zA m 1) v')):=fun w5 v' ho hown=>by
  have:=H.out.rerow ho hown List.filter_sublist HBS.out
  have e:({ D with L:=(ns.filter fun n=>!n.x.is i c).map (·.x) }:Dt)=D.gone i c:=by
    unfold Dt.gone;congr 1;rw [H.out.nodes,List.filter_map];rfl
  rw [e] at this;exact this
 clear h hk hb hlies;subst hlv
 go_enter Tryz.func92,Tryz.ntmps92
 go_wp2
 generalize w.alloc (zH i c)=w1 at HO1 HB ⊢;generalize w.heap.size=B at HB ⊢
 go_loopw [4,5] (fun o i0 wr=>∃ j:Nat,i0=zI j∧j≤k∧MkP w1 wr ((ns.take j).filter fun n=>!n.x.is i c) o) (fun _ i0 _=>k - (intOf i0).toNat)
 case atStart=>exact ⟨0,rfl,Nat.zero_le _,Pts.nil _ _,Only.refl _ _⟩
 case round =>
  obtain ⟨j,rfl,hj,hmk⟩:=hrel;have HM:Hid (MkP w1 wr ((ns.take j).filter fun n=>!n.x.is i c) u4):=hmk;have hW:=HL.out wr (zo HO1.out hmk.only);have c1:=hW.c1;rw [HN.out] at c1;obtain ⟨b0,b1⟩:=(HB.out.kept hmk.only (by simp)).cells;obtain ⟨dn,hdn⟩:∃ dn,((ns.take j).filter fun n=>!n.x.is i c).length=dn:=⟨_,rfl⟩;have HDN:Hid (((ns.take j).filter fun n=>!n.x.is i c).length=dn):=hdn
  have hdb:dn≤1000:=by rw [← hdn];exact filt_len (by omega)
  clear hmk hdn
  by_cases hlt:j < k
  · obtain ⟨a,hx⟩:∃ a,ns[j]?=some a:=⟨_,List.getElem?_eq_getElem (by rw [HN.out];exact hlt)⟩
    obtain ⟨g,rfl,r0⟩:=hW.row j a hx;have hA:=hW.has a (List.mem_of_getElem? hx);have d0:=hA.c0;have d1:=hA.c1;have HTK:Hid ((ns.take (j+1)).filter (fun n=>!n.x.is i c)=if (!a.x.is i c) then (ns.take j).filter (fun n=>!n.x.is i c)++[a] else (ns.take j).filter (fun n=>!n.x.is i c)):=filt_snoc (p:=fun n:Nm=>!n.x.is i c) hx;have HROW:Hid (∀ q:Nat,(wr.drewN q).ownsRow w1.heap.size 79 1 u4 dn (((ns.take j).filter fun n=>!n.x.is i c).map ptrOf)):=fun q=>Pts.own HDN.out (Pts.only HM.out.own ((Only.refl [] wr).drewsT q) (fun _ _=>by simp));have HMD:Hid (∀ q:Nat,MkP w1 (wr.drewN q) ((ns.take j).filter fun n=>!n.x.is i c) u4):=fun q=>⟨Pts.only HM.out.own ((Only.refl [] wr).drewsT q) (fun _ _=>by simp),HM.out.only.drewsT q⟩;clear hW hx hA
    by_cases hi:a.x.i=i
    · by_cases hcc:a.x.c=c
      · have HR:Hid ((ns.take (j+1)).filter (fun n=>!n.x.is i c)=(ns.take j).filter (fun n=>!n.x.is i c)):=by
         show _=_;rw [HTK.out,is_iff.2 ⟨hi,hcc⟩];rfl
        rw [hi] at d0;rw [hcc] at d1;clear hi hcc
        go_wp2
        go_big_quiet (fail)
        go_wp2
        go_roundw
        case rel=>exact ⟨j+1,by go_num,by omega,by rw [HR.out];exact HMD.out _⟩
        case measure=>simp [intOf];omega
      · have HR:Hid ((ns.take (j+1)).filter (fun n=>!n.x.is i c)=(ns.take j).filter (fun n=>!n.x.is i c)++[a]):=by
         show _=_
         have:a.x.is i c=false:=by rw [Bool.eq_false_iff];exact fun e=>hcc (is_iff.1 e).2
         rw [HTK.out,this];rfl
        have db:((a.x.c:Int)==(c:Int))=false:=zb (by omega);rw [hi] at d0;clear hi hcc
        go_wp2
        go_big_quiet (fail)
        go_wp2_with (first
         | (at_builtin;refine wpList_append_lies _ rfl (.tmp 27) (.tmp 35) 76 rfl w1.heap.size 79 i0 _ 1 8 undPts hi0 hz0 hz1 hz2 rfl (by decide) u4 dn _ rfl (World.ownsRow.alloc (HROW.out _) _) ⟨wr.heap.size,0,none⟩ 1 1 [ptrOf a] rfl rfl (pt_news (w:=wr.drewN _) a _) (by intro u hu;rw [List.mem_singleton.1 hu];rfl) (by decide) (by unfold maxLen;omega) (by omega) (by rw [World.size_alloc];exact Nat.le_succ_of_le HM.out.only.size) (wr.heap.size+1) (by rw [World.size_alloc];rfl) ?_;intro g5 c5 w5 hown5 hgr5 hat5 hlt5;have HM5:Hid (MkP w1 w5 ((ns.take j).filter (fun n=>!n.x.is i c)++[a]) (.slice (some ⟨g5,0,none⟩) (dn+1) c5)):=(HMD.out _).add HDN.out _ hown5 hgr5;clear hown5 hgr5 hat5 hlt5)
         | go_in)
        go_roundw
        case rel=>exact ⟨j+1,by go_num,by omega,by rw [HR.out];exact HM5.out⟩
        case measure=>simp [intOf];omega
    · have HR:Hid ((ns.take (j+1)).filter (fun n=>!n.x.is i c)=(ns.take j).filter (fun n=>!n.x.is i c)++[a]):=by
        show _=_
        have:a.x.is i c=false:=by rw [Bool.eq_false_iff];exact fun e=>hi (is_iff.1 e).1
        rw [HTK.out,this];rfl
      have db:((a.x.i:Int)==(i:Int))=false:=zb (by omega);clear hi
      go_wp2
      go_big_quiet (fail)
      go_wp2_with (first
        | (at_builtin;refine wpList_append_lies _ rfl (.tmp 27) (.tmp 35) 76 rfl w1.heap.size 79 i0 _ 1 8 undPts hi0 hz0 hz1 hz2 rfl (by decide) u4 dn _ rfl (World.ownsRow.alloc (HROW.out _) _) ⟨wr.heap.size,0,none⟩ 1 1 [ptrOf a] rfl rfl (pt_news (w:=wr.drewN _) a _) (by intro u hu;rw [List.mem_singleton.1 hu];rfl) (by decide) (by unfold maxLen;omega) (by omega) (by rw [World.size_alloc];exact Nat.le_succ_of_le HM.out.only.size) (wr.heap.size+1) (by rw [World.size_alloc];rfl) ?_;intro g5 c5 w5 hown5 hgr5 hat5 hlt5;have HM5:Hid (MkP w1 w5 ((ns.take j).filter (fun n=>!n.x.is i c)++[a]) (.slice (some ⟨g5,0,none⟩) (dn+1) c5)):=(HMD.out _).add HDN.out _ hown5 hgr5;clear hown5 hgr5 hat5 hlt5)
        | go_in)
      go_roundw
      case rel=>exact ⟨j+1,by go_num,by omega,by rw [HR.out];exact HM5.out⟩
      case measure=>simp [intOf];omega
  · obtain rfl:k=j:=by omega
    obtain ⟨a4,c4,hu4⟩:=HM.out.shape HDN.out
    obtain ⟨t0,t1,t2,hR⟩:=HEND.out wr u4 (zo HO1.out HM.out.only) (by
      have:=HM.out.own.low HO1.out.size;rw [← HN.out,List.take_length] at this
      exact this)
    subst hu4;have HR:Hid (DtM (wr.setCell (zA m 1) (.slice a4 dn c4)) base m (.slice a4 dn c4) tv (ns.filter fun n=>!n.x.is i c) (D.gone i c)∧Only [m] w (wr.setCell (zA m 1) (.slice a4 dn c4))):=hR;clear hR hW
    go_wp2
    go_end0
    exact ⟨rfl,_,HR.out⟩
end
end Go.Proofs.YtkcabopgajlmdaaGreatDoor
