import Derived.Test.YtkcabopgajlmdaaGreatDoorK45
set_option maxRecDepth 100000
set_option maxHeartbeats 8000000
namespace Go.Proofs.YtkcabopgajlmdaaGreatDoor
section
open Go Go.RowKit Go.Deep Go.Maps
structure TActM where
 K:ByteArray
 A:Int
 B:Int
 S:ByteArray
 X:ByteArray
 N:Int
def DoP (W w':World)(base tr m hb:Nat)(hl:List (Nat×Nat))(B:Nat)(A:Nat→Addr)(D:Dt)(qn:Prop)(r:Ending):Prop:=∃ c D' hl',r = .returned (.tuple #[codeE A c,zI ((c:Nat):Int)])∧c≤14∧Both W w' base tr m hb D' hl' (B+4)∧hl'.length≤hl.length+1∧(qn→NoPin D→NoPin D')
theorem DoP.weak {W w':World}{base tr m hb:Nat}{hl:List (Nat×Nat)}{B:Nat}{A:Nat→Addr}{D:Dt}{q q':Prop}{r:Ending}(hq:q'→q)(h:DoP W w' base tr m hb hl B A D q r):DoP W w' base tr m hb hl B A D q' r:=by
 obtain ⟨c,D',hl',h1,h2,h3,h4,h5⟩:=h;exact ⟨c,D',hl',h1,h2,h3,h4,fun h6=>h5 (hq h6)⟩
structure Bx3 (w:World)(ba bx bY:Nat)(cs:Array Value)(X1 X2 Y1 Y2:Int):Prop where
 a:BoxAt w ba cs 42
 x:BoxAt w bx #[zI X1,zI X2] 35
 y:BoxAt w bY #[zI Y1,zI Y2] 35
theorem BoxAt.cell {w:World}{b:Nat}{cs:Array Value}{ty:TypeId}(h:BoxAt w b cs ty)(j:Nat)(v:Value)(hv:cs[j]?=some v):w.cell? ⟨b,j,none⟩=some v:=(cell_of_row w b j cs ty (0,0) h).trans hv
section
variable {w w':World}{ba bx bY:Nat}{cs:Array Value}{X1 X2 Y1 Y2:Int}
theorem Bx3.only (h:Bx3 w ba bx bY cs X1 X2 Y1 Y2)(ho:zQ w w'):Bx3 w' ba bx bY cs X1 X2 Y1 Y2:=⟨h.a.only ho,h.x.only ho,h.y.only ho⟩
theorem Bx3.tree {B:Nat}(h:Bx3 w ba bx bY cs X1 X2 Y1 Y2)(ho:TreeW B w w'):Bx3 w' ba bx bY cs X1 X2 Y1 Y2:=⟨h.a.tree ho hand_tys.2.2.1,h.x.tree ho hand_tys.2.1,h.y.tree ho hand_tys.2.1⟩
theorem Bx3.doc {B:Nat}(h:Bx3 w ba bx bY cs X1 X2 Y1 Y2)(ho:DocW B w w'):Bx3 w' ba bx bY cs X1 X2 Y1 Y2:=⟨h.a.doc ho hand_tys.2.2.2.2.2,h.x.doc ho hand_tys.2.2.2.2.1,h.y.doc ho hand_tys.2.2.2.2.1⟩
theorem Bx3.cells {K s u:ByteArray}{i j n:Int}(h:Bx3 w ba bx bY #[.string K,zI i,zI j,.string s,.string u,zI n] X1 X2 Y1 Y2):w.cell? (zA bx 0)=some (zI X1)∧w.cell? (zA bx 1)=some (zI X2)∧w.cell? (zA bY 0)=some (zI Y1)∧w.cell? (zA bY 1)=some (zI Y2)∧w.cell? (zA ba 3)=some (.string s)∧w.cell? (zA ba 4)=some (.string u)∧w.cell? (zA ba 5)=some (zI n) :=
 ⟨h.x.cell 0 _ rfl,h.x.cell 1 _ rfl,h.y.cell 0 _ rfl,h.y.cell 1 _ rfl,h.a.cell 3 _ rfl,h.a.cell 4 _ rfl,h.a.cell 5 _ rfl⟩
end
theorem handleInfo6:(Tryz.prog.info? 35).map (fun i=>(i.zero,i.size,i.bytes))=some (some (zG 0 0),2,16):=by kernel_rfl
theorem handlesUnd6:Tryz.prog.underlying 36=some (.slice 35):=by kernel_rfl
theorem hC_one (x:Nat×Nat):∀ v∈hC x,v.oneCell'=true:=by
 intro v hv;unfold hC at hv;simp at hv;rcases hv with rfl | rfl<;>rfl
theorem Pair6.more {W w:World}{base tr m hb B B':Nat}{D D':Dt}{hl:List (Nat×Nat)}(h:Pair6 W w base tr m hb D D' hl B)(hB:B≤B'):Pair6 W w base tr m hb D D' hl B':=⟨h.prg,h.doc,h.I,h.I',h.bd.mono hB,h.hands,h.below,h.lo,h.hi,h.hlo⟩
structure Grew (w w':World)(base:Nat)(ad:Option Addr)(n cap g c:Nat)(hl:List (Nat×Nat))(x:Nat×Nat):Prop where
 row:w'.ownsRow base 35 2 (.slice (some ⟨g,0,none⟩) (n+1) c) (n+1) (rowOf hC hl++hC x)
 only:Only (Value.slice ad n cap).ownBlock.toList w w'
theorem Only.grown_at {a b c:World}{o:Option Nat}(h:zQ a b)(hg:b.grownBy c o):Only o.toList a c:=(h.mono (L':=o.toList) (by simp)).grown hg (fun k hk=>Or.inl (by rw [hk];simp))
theorem HandsAt.ne {w:World}{base n cap hb:Nat}{ad:Option Addr}{hl:List (Nat×Nat)}(hh:HandsAt w base hb (.slice ad n cap) hl){b:Nat}{cs:Array Value}{ty:TypeId}(hb2:BoxAt w b cs ty)(ht:ty≠35):b∉(Value.slice ad n cap).ownBlock.toList:=fun hm=>by
 have hm':(Value.slice ad n cap).ownBlock=some b:=by simpa using hm
 obtain ⟨_,_,cur,hc⟩:=own_blk hh.row hm';unfold BoxAt at hb2;rw [hc] at hb2
 cases hb2
 exact ht rfl
theorem HandsAt.past {w:World}{base hb:Nat}{v:Value}{hl:List (Nat×Nat)}(hh:HandsAt w base hb v hl):w.heap.size∉v.ownBlock.toList:=fun hm=>by
 obtain ⟨_,h1,_⟩:=own_blk hh.row (b:=w.heap.size) (by simpa using hm);exact Nat.lt_irrefl _ h1
theorem Grew.cells {w w':World}{base n cap g c hb bw:Nat}{ad:Option Addr}{hl:List (Nat×Nat)}{x:Nat×Nat}{u1 u2:Value}(h:Grew w w' base ad n cap g c hl x)(hh:HandsAt w base hb (.slice ad n cap) hl)(hb2:BoxAt w bw #[u1,u2] 35)(hw:bw∉(Value.slice ad n cap).ownBlock.toList):w'.cell? (zA hb 0)=some (.slice ad n cap)∧w'.cell? (zA bw 0)=some u1∧w'.cell? (zA bw 1)=some u2:=by
 have h1:BoxAt w' hb _ _:=(h.only.block hb hh.lt (hh.ne hh.tab (by decide))).trans hh.tab;have h2:BoxAt w' bw _ _:=(h.only.block bw (Array.getElem?_eq_some_iff.1 hb2).1 hw).trans hb2;exact ⟨h1.cell 0 _ rfl,h2.cell 0 _ rfl,h2.cell 1 _ rfl⟩
theorem Grew.box {w w':World}{base n cap g c hb:Nat}{ad:Option Addr}{hl:List (Nat×Nat)}{x:Nat×Nat}(h:Grew w w' base ad n cap g c hl x)(hh:HandsAt w base hb (.slice ad n cap) hl):w'.cell? (zA hb 0)=some (.slice ad n cap)∧w'.frozen? ⟨hb,0,none⟩=false∧hb < w'.heap.size:=by
 have h1:BoxAt w' hb _ _:=(h.only.block hb hh.lt (hh.ne hh.tab (by decide))).trans hh.tab;exact ⟨h1.cell 0 _ rfl,frozen_of_row _ _ _ _ _ h1,Nat.lt_of_lt_of_le hh.lt h.only.size⟩
theorem Pair6.handed {W w w':World}{base tr m hb B:Nat}{D:Dt}{hl hl':List (Nat×Nat)}{v':Value}{K:List Nat}(h:Both W w base tr m hb D hl B)(ho:Only K w w')(hK:∀ k∈K,W.heap.size≤k∧∃ cs ty fr,w.heap[k]?=some (.cells cs ty fr)∧(ty=38∨ty=35))(hv:HandsAt w' base hb v' hl'):Both W w' base tr m hb D hl' B:=by
 obtain ⟨T,P,R⟩:=h.prg;obtain ⟨lv,tv,ns,hd⟩:=h.doc
 have nt:∀ ty,(ty=38∨ty=35)→ty∉treeTys∧ty∉docTys∧ty≠105:=fun ty ht=>by
  rcases ht with rfl | rfl<;>decide
 have hn:∀ k,FootT tr T k→k∉K:=fun k hk hm=>by
  obtain ⟨_,cs,ty,fr,h1,h2⟩:=hK k hm;rcases P.tree.in_blocks hk with rfl | hk
  · obtain ⟨cs',fr',hc⟩:=P.trt
    rw [h1] at hc
    cases hc
    exact (nt _ h2).2.2 rfl
  · exact (nt _ h2).1 (P.tree.ty hk _ _ _ h1)
 have hP:Prg W.heap.size w' tr T:=⟨P.tree.kept ho hn,P.low,P.trt.only ho (hn tr (Or.inl rfl)),Nat.le_trans P.lo ho.size⟩
 have hD:DM w' base m D:=⟨lv,tv,ns,hd.kept ho fun k hk hm=>by
  obtain ⟨_,cs,ty,fr,h1,h2⟩:=hK k hm;obtain ⟨_,cs',ty',h3,h4⟩:=hd.foot hk;rw [h1] at h3
  cases h3
  exact (nt _ h2).2.1 h4⟩
 exact ⟨⟨T,hP,R⟩,hD,h.I,h.I',h.bd,⟨v',hv⟩,h.below.trans (ho.to_below h.below.size fun k hk=>(hK k hk).1),h.lo,Nat.le_trans h.hi ho.size,h.hlo⟩
theorem Pair6.grew {W w w':World}{base tr m hb B n cap g c:Nat}{D:Dt}{hl:List (Nat×Nat)}{ad:Option Addr}{x:Nat×Nat}(h:Both W w base tr m hb D hl B)(hh:HandsAt w base hb (.slice ad n cap) hl)(hn:hl.length=n)(hg:Grew w w' base ad n cap g c hl x):Both W (w'.setCell (zA hb 0) (.slice (some ⟨g,0,none⟩) (n+1) c)) base tr m hb D (hl++[x]) B:=by
 have h1:BoxAt w' hb _ _:=(hg.only.block hb hh.lt (hh.ne hh.tab (by decide))).trans hh.tab
 have hgb:g≠hb:=fun e=>by
   obtain ⟨_,_,cur,hc⟩:=own_blk hg.row (b:=g) rfl;unfold BoxAt at h1;rw [e,h1] at hc
   cases hc
 refine Pair6.handed (K:=hb::(Value.slice ad n cap).ownBlock.toList) h ((hg.only.mono (fun k hk=>Or.inl (List.mem_cons_of_mem _ hk))).setCell (p:=⟨hb,0,none⟩) (Or.inl (List.mem_cons_self ..)) _) (fun k hk=>?_) (v' := .slice (some ⟨g,0,none⟩) (n+1) c) ⟨?_,?_⟩
 · rcases List.mem_cons.1 hk with rfl | hk
   · exact ⟨h.hlo,_,_,_,hh.tab,Or.inl rfl⟩
   · obtain ⟨q1,_,cur,q2⟩:=own_blk hh.row (b:=k) (by simpa using hk)
     exact ⟨Nat.le_trans h.lo q1,_,_,_,q2,Or.inr rfl⟩
 · exact heap_setCell_same w' hb 0 _ _ _ h1
 · have:=(Only.refl [hb] w').setCell (p:=⟨hb,0,none⟩) (Or.inl (by simp)) (.slice (some ⟨g,0,none⟩) (n+1) c) |>.owns hg.row (fun k hk=>by have e:g=k:=Option.some.inj hk;rw [← e];simpa using hgb)
   rw [List.length_append,List.length_singleton,hn,rowOf_append]
   have e:rowOf hC [x]=hC x:=by simp [rowOf]
   rw [e];exact this
theorem new_box (w:World)(cs:Array Value)(ty:TypeId):BoxAt (w.alloc (.cells cs ty)) w.heap.size cs ty:=zh w _
theorem do_link (W w:World)(base tr m hb:Nat)(D:Dt)(hl:List (Nat×Nat))(B:Nat)(A:Nat→Addr)(a:TActM)(hK:a.K=⟨#[108,105,110,107]⟩)(h:Both W w base tr m hb D hl B)(hE:Errs W A)(hB:B≤800):
  zK 9 #[zP tr,zP m,zP hb,.agg #[.string a.K,zI a.A,zI a.B,.string a.S,.string a.X,zI a.N]] w fun r w'=>DoP W w' base tr m hb hl B A D True r:=by
 rw [hK];have HB0:Hid (Both W (w.alloc (.cells #[.string ⟨#[108,105,110,107]⟩,zI a.A,zI a.B,.string a.S,.string a.X,zI a.N] 42)) base tr m hb D hl B):=Pair6.only h ((Only.refl [] w).alloc _);have HA0:Hid (BoxAt (w.alloc (.cells #[.string ⟨#[108,105,110,107]⟩,zI a.A,zI a.B,.string a.S,.string a.X,zI a.N] 42)) w.heap.size #[.string ⟨#[108,105,110,107]⟩,zI a.A,zI a.B,.string a.S,.string a.X,zI a.N] 42):=new_box w _ _;generalize hX1:(handOf hl a.A).1=X1;generalize hX2:(handOf hl a.A).2=X2;generalize hY1:(handOf hl a.B).1=Y1;generalize hY2:(handOf hl a.B).2=Y2
 have HAT:Hid (∀ W1,Both W W1 base tr m hb D hl B→∀ n,zO 10 #[zP hb,zI n] W1 (zG ((handOf hl n).1) ((handOf hl n).2))):=fun W1 h1 n=>by
  obtain ⟨v,hv⟩:=h1.hands;exact hands_at W1 base hb v hl n hv
 have HS:Hid (∀ W1,Both W W1 base tr m hb D hl B→Sides W W1 base tr m hb D hl B A 29 30 (linkArgs tr X1 X2 Y1 Y2 a.S) (linkArgs m X1 X2 Y1 Y2 a.S) True):=fun W1 h1=>link_both X1 X2 Y1 Y2 a.S h1 hE hB;have hA1:=HAT.out _ HB0.out a.A;rw [hX1,hX2] at hA1
 have HA2:Hid (∀ W1,Both W W1 base tr m hb D hl B→zO 10 #[zP hb,zI a.B] W1 (zG Y1 Y2)):=fun W1 h1=>by
  have:=HAT.out W1 h1 a.B;rw [hY1,hY2] at this;exact this
 clear HAT h hX1 hX2 hY1 hY2 hE
 go_enter Tryz.func9,Tryz.ntmps9
 go_upto_region 1 with fail
 have ca:(w.alloc (.cells #[.string ⟨#[108,105,110,107]⟩,zI a.A,zI a.B,.string a.S,.string a.X,zI a.N] 42)).cell? (zA w.heap.size 1)=some (zI a.A):=HA0.out.cell 1 _ rfl;generalize w.alloc (.cells #[.string ⟨#[108,105,110,107]⟩,zI a.A,zI a.B,.string a.S,.string a.X,zI a.N] 42)=wA at HB0 HA0 hA1 ca ⊢;generalize w.heap.size=ba at HA0 ca ⊢
 go_upto_region 2 with (first
  | (go_at_call 10;refine hA1.mono ?_;rintro e w1 ⟨rfl,ho1⟩;have HB1:Hid (Both W (w1.alloc (zH X1 X2)) base tr m hb D hl B):=Pair6.only HB0.out (ho1.alloc _);have HBA1:Hid (BoxAt (w1.alloc (zH X1 X2)) ba #[.string ⟨#[108,105,110,107]⟩,zI a.A,zI a.B,.string a.S,.string a.X,zI a.N] 42):=HA0.out.only (ho1.alloc _);clear ho1)
  | go_in)
 have HX1:Hid (BoxAt (w1.alloc (zH X1 X2)) w1.heap.size #[zI X1,zI X2] 35):=new_box w1 _ _;clear hA1 ca HB0 HA0;generalize w1.alloc (zH X1 X2)=w2 at HB1 HBA1 HX1 ⊢;generalize w1.heap.size=bx at HX1 ⊢;have ca:w2.cell? (zA ba 2)=some (zI a.B):=HBA1.out.cell 2 _ rfl;have hA2:=HA2.out _ HB1.out
 go_upto_region 3 with (first
  | (go_at_call 10;refine hA2.mono ?_;rintro e w3 ⟨rfl,ho3⟩;have HB3:Hid (Both W (w3.alloc (zH Y1 Y2)) base tr m hb D hl B):=Pair6.only HB1.out (ho3.alloc _);have HBX:Hid (Bx3 (w3.alloc (zH Y1 Y2)) ba bx w3.heap.size #[.string ⟨#[108,105,110,107]⟩,zI a.A,zI a.B,.string a.S,.string a.X,zI a.N] X1 X2 Y1 Y2):=⟨HBA1.out.only (ho3.alloc _),HX1.out.only (ho3.alloc _),new_box w3 _ _⟩;clear ho3)
  | go_in)
 clear hA2 HA2 ca HB1 HBA1 HX1;generalize w3.alloc (zH Y1 Y2)=w4 at HB3 HBX ⊢;generalize w3.heap.size=bY at HBX ⊢;have ca:w4.cell? (zA ba 0)=some (.string ⟨#[108,105,110,107]⟩):=HBX.out.a.cell 0 _ rfl;obtain ⟨c,D',hc,hp,hd,hnp⟩:=HS.out _ HB3.out;have HNP:Hid (True→NoPin D→NoPin D'):=hnp;clear hnp;have HP:Hid (∀ W1,zQ w4 W1→_):=hp;have HD:Hid (∀ W1,Pair6 W W1 base tr m hb D D' hl B→_):=hd;clear hp hd HS
 go_upto_region 14 with fail
 clear ca;have HV1:Hid (zQ w4 w4.drew):=(Only.refl [] _).drew;have S1:Hid (_):=(HBX.out.only HV1.out).cells
 go_region_held3 (fun W=>W.cell? (zA bx 0)=some (zI X1)∧W.cell? (zA bx 1)=some (zI X2)∧W.cell? (zA bY 0)=some (zI Y1)∧W.cell? (zA bY 1)=some (zI Y2)∧W.cell? (zA ba 3)=some (.string a.S)∧W.cell? (zA ba 4)=some (.string a.X)∧W.cell? (zA ba 5)=some (zI a.N))
  (with_reducible first
   | exact S1.out
   | exact S2.out
   | exact S3.out)
  (first
   | (go_at_call 29;refine (HP.out _ HV1.out).mono ?_;rintro e w5 ⟨rfl,hm5,hw5⟩;have HM5:Hid (Pair6 W w5 base tr m hb D D' hl B):=hm5;have HBX5:Hid (Bx3 w5 ba bx bY #[.string ⟨#[108,105,110,107]⟩,zI a.A,zI a.B,.string a.S,.string a.X,zI a.N] X1 X2 Y1 Y2):=(HBX.out.only HV1.out).tree hw5;have S2:Hid (_):=HBX5.out.cells;clear hm5 hw5)
   | (go_at_call 30;refine (HD.out _ HM5.out).mono ?_;rintro e w6 ⟨rfl,hb6,hw6⟩;have HB6:Hid (Both W w6 base tr m hb D' hl (B+4)):=hb6;have S3:Hid (_):=(HBX5.out.doc hw6).cells;clear hb6 hw6))
 all_goals go_wp2
 all_goals go_ret2
 all_goals exact ⟨c,D',hl,rfl,hc,HB6.out,Nat.le_succ _,HNP.out⟩
theorem do_remove (W w:World)(base tr m hb:Nat)(D:Dt)(hl:List (Nat×Nat))(B:Nat)(A:Nat→Addr)(a:TActM)(hK:a.K=⟨#[114,101,109,111,118,101]⟩)(h:Both W w base tr m hb D hl B)(hE:Errs W A)(hB:B≤800):
  zK 9 #[zP tr,zP m,zP hb,.agg #[.string a.K,zI a.A,zI a.B,.string a.S,.string a.X,zI a.N]] w fun r w'=>DoP W w' base tr m hb hl B A D True r:=by
 rw [hK];have HB0:Hid (Both W (w.alloc (.cells #[.string ⟨#[114,101,109,111,118,101]⟩,zI a.A,zI a.B,.string a.S,.string a.X,zI a.N] 42)) base tr m hb D hl B):=Pair6.only h ((Only.refl [] w).alloc _);have HA0:Hid (BoxAt (w.alloc (.cells #[.string ⟨#[114,101,109,111,118,101]⟩,zI a.A,zI a.B,.string a.S,.string a.X,zI a.N] 42)) w.heap.size #[.string ⟨#[114,101,109,111,118,101]⟩,zI a.A,zI a.B,.string a.S,.string a.X,zI a.N] 42):=new_box w _ _;generalize hX1:(handOf hl a.A).1=X1;generalize hX2:(handOf hl a.A).2=X2;generalize hY1:(handOf hl a.B).1=Y1;generalize hY2:(handOf hl a.B).2=Y2
 have HAT:Hid (∀ W1,Both W W1 base tr m hb D hl B→∀ n,zO 10 #[zP hb,zI n] W1 (zG ((handOf hl n).1) ((handOf hl n).2))):=fun W1 h1 n=>by
  obtain ⟨v,hv⟩:=h1.hands;exact hands_at W1 base hb v hl n hv
 have HS:Hid (∀ W1,Both W W1 base tr m hb D hl B→Sides W W1 base tr m hb D hl B A 31 32 (remArgs tr X1 X2 a.S) (remArgs m X1 X2 a.S) True):=fun W1 h1=>remove_both X1 X2 a.S h1 hE hB;have hA1:=HAT.out _ HB0.out a.A;rw [hX1,hX2] at hA1
 have HA2:Hid (∀ W1,Both W W1 base tr m hb D hl B→zO 10 #[zP hb,zI a.B] W1 (zG Y1 Y2)):=fun W1 h1=>by
  have:=HAT.out W1 h1 a.B;rw [hY1,hY2] at this;exact this
 clear HAT h hX1 hX2 hY1 hY2 hE
 go_enter Tryz.func9,Tryz.ntmps9
 go_upto_region 1 with fail
 have ca:(w.alloc (.cells #[.string ⟨#[114,101,109,111,118,101]⟩,zI a.A,zI a.B,.string a.S,.string a.X,zI a.N] 42)).cell? (zA w.heap.size 1)=some (zI a.A):=HA0.out.cell 1 _ rfl;generalize w.alloc (.cells #[.string ⟨#[114,101,109,111,118,101]⟩,zI a.A,zI a.B,.string a.S,.string a.X,zI a.N] 42)=wA at HB0 HA0 hA1 ca ⊢;generalize w.heap.size=ba at HA0 ca ⊢
 go_upto_region 2 with (first
  | (go_at_call 10;refine hA1.mono ?_;rintro e w1 ⟨rfl,ho1⟩;have HB1:Hid (Both W (w1.alloc (zH X1 X2)) base tr m hb D hl B):=Pair6.only HB0.out (ho1.alloc _);have HBA1:Hid (BoxAt (w1.alloc (zH X1 X2)) ba #[.string ⟨#[114,101,109,111,118,101]⟩,zI a.A,zI a.B,.string a.S,.string a.X,zI a.N] 42):=HA0.out.only (ho1.alloc _);clear ho1)
  | go_in)
 have HX1:Hid (BoxAt (w1.alloc (zH X1 X2)) w1.heap.size #[zI X1,zI X2] 35):=new_box w1 _ _;clear hA1 ca HB0 HA0;generalize w1.alloc (zH X1 X2)=w2 at HB1 HBA1 HX1 ⊢;generalize w1.heap.size=bx at HX1 ⊢;have ca:w2.cell? (zA ba 2)=some (zI a.B):=HBA1.out.cell 2 _ rfl;have hA2:=HA2.out _ HB1.out
 go_upto_region 3 with (first
  | (go_at_call 10;refine hA2.mono ?_;rintro e w3 ⟨rfl,ho3⟩;have HB3:Hid (Both W (w3.alloc (zH Y1 Y2)) base tr m hb D hl B):=Pair6.only HB1.out (ho3.alloc _);have HBX:Hid (Bx3 (w3.alloc (zH Y1 Y2)) ba bx w3.heap.size #[.string ⟨#[114,101,109,111,118,101]⟩,zI a.A,zI a.B,.string a.S,.string a.X,zI a.N] X1 X2 Y1 Y2):=⟨HBA1.out.only (ho3.alloc _),HX1.out.only (ho3.alloc _),new_box w3 _ _⟩;clear ho3)
  | go_in)
 clear hA2 HA2 ca HB1 HBA1 HX1;generalize w3.alloc (zH Y1 Y2)=w4 at HB3 HBX ⊢;generalize w3.heap.size=bY at HBX ⊢;have ca:w4.cell? (zA ba 0)=some (.string ⟨#[114,101,109,111,118,101]⟩):=HBX.out.a.cell 0 _ rfl;obtain ⟨c,D',hc,hp,hd,hnp⟩:=HS.out _ HB3.out;have HNP:Hid (True→NoPin D→NoPin D'):=hnp;clear hnp;have HP:Hid (∀ W1,zQ w4 W1→_):=hp;have HD:Hid (∀ W1,Pair6 W W1 base tr m hb D D' hl B→_):=hd;clear hp hd HS
 go_upto_region 16 with fail
 clear ca;have HV1:Hid (zQ w4 w4.drew):=(Only.refl [] _).drew;have S1:Hid (_):=(HBX.out.only HV1.out).cells
 go_region_held3 (fun W=>W.cell? (zA bx 0)=some (zI X1)∧W.cell? (zA bx 1)=some (zI X2)∧W.cell? (zA bY 0)=some (zI Y1)∧W.cell? (zA bY 1)=some (zI Y2)∧W.cell? (zA ba 3)=some (.string a.S)∧W.cell? (zA ba 4)=some (.string a.X)∧W.cell? (zA ba 5)=some (zI a.N))
  (with_reducible first
   | exact S1.out
   | exact S2.out
   | exact S3.out)
  (first
   | (go_at_call 31;refine (HP.out _ HV1.out).mono ?_;rintro e w5 ⟨rfl,hm5,hw5⟩;have HM5:Hid (Pair6 W w5 base tr m hb D D' hl B):=hm5;have HBX5:Hid (Bx3 w5 ba bx bY #[.string ⟨#[114,101,109,111,118,101]⟩,zI a.A,zI a.B,.string a.S,.string a.X,zI a.N] X1 X2 Y1 Y2):=(HBX.out.only HV1.out).tree hw5;have S2:Hid (_):=HBX5.out.cells;clear hm5 hw5)
   | (go_at_call 32;refine (HD.out _ HM5.out).mono ?_;rintro e w6 ⟨rfl,hb6,hw6⟩;have HB6:Hid (Both W w6 base tr m hb D' hl (B+4)):=hb6;have S3:Hid (_):=(HBX5.out.doc hw6).cells;clear hb6 hw6))
 all_goals go_wp2
 all_goals go_ret2
 all_goals exact ⟨c,D',hl,rfl,hc,HB6.out,Nat.le_succ _,HNP.out⟩
theorem do_rename (W w:World)(base tr m hb:Nat)(D:Dt)(hl:List (Nat×Nat))(B:Nat)(A:Nat→Addr)(a:TActM)(hK:a.K=⟨#[114,101,110,97,109,101]⟩)(h:Both W w base tr m hb D hl B)(hE:Errs W A)(hB:B≤800):
  zK 9 #[zP tr,zP m,zP hb,.agg #[.string a.K,zI a.A,zI a.B,.string a.S,.string a.X,zI a.N]] w fun r w'=>DoP W w' base tr m hb hl B A D True r:=by
 rw [hK];have HB0:Hid (Both W (w.alloc (.cells #[.string ⟨#[114,101,110,97,109,101]⟩,zI a.A,zI a.B,.string a.S,.string a.X,zI a.N] 42)) base tr m hb D hl B):=Pair6.only h ((Only.refl [] w).alloc _);have HA0:Hid (BoxAt (w.alloc (.cells #[.string ⟨#[114,101,110,97,109,101]⟩,zI a.A,zI a.B,.string a.S,.string a.X,zI a.N] 42)) w.heap.size #[.string ⟨#[114,101,110,97,109,101]⟩,zI a.A,zI a.B,.string a.S,.string a.X,zI a.N] 42):=new_box w _ _;generalize hX1:(handOf hl a.A).1=X1;generalize hX2:(handOf hl a.A).2=X2;generalize hY1:(handOf hl a.B).1=Y1;generalize hY2:(handOf hl a.B).2=Y2
 have HAT:Hid (∀ W1,Both W W1 base tr m hb D hl B→∀ n,zO 10 #[zP hb,zI n] W1 (zG ((handOf hl n).1) ((handOf hl n).2))):=fun W1 h1 n=>by
  obtain ⟨v,hv⟩:=h1.hands;exact hands_at W1 base hb v hl n hv
 have HS:Hid (∀ W1,Both W W1 base tr m hb D hl B→Sides W W1 base tr m hb D hl B A 33 34 (renArgs tr X1 X2 a.S Y1 Y2 a.X) (renArgs m X1 X2 a.S Y1 Y2 a.X) True):=fun W1 h1=>rename_both X1 X2 Y1 Y2 a.S a.X h1 hE hB;have hA1:=HAT.out _ HB0.out a.A;rw [hX1,hX2] at hA1
 have HA2:Hid (∀ W1,Both W W1 base tr m hb D hl B→zO 10 #[zP hb,zI a.B] W1 (zG Y1 Y2)):=fun W1 h1=>by
  have:=HAT.out W1 h1 a.B;rw [hY1,hY2] at this;exact this
 clear HAT h hX1 hX2 hY1 hY2 hE
 go_enter Tryz.func9,Tryz.ntmps9
 go_upto_region 1 with fail
 have ca:(w.alloc (.cells #[.string ⟨#[114,101,110,97,109,101]⟩,zI a.A,zI a.B,.string a.S,.string a.X,zI a.N] 42)).cell? (zA w.heap.size 1)=some (zI a.A):=HA0.out.cell 1 _ rfl;generalize w.alloc (.cells #[.string ⟨#[114,101,110,97,109,101]⟩,zI a.A,zI a.B,.string a.S,.string a.X,zI a.N] 42)=wA at HB0 HA0 hA1 ca ⊢;generalize w.heap.size=ba at HA0 ca ⊢
 go_upto_region 2 with (first
  | (go_at_call 10;refine hA1.mono ?_;rintro e w1 ⟨rfl,ho1⟩;have HB1:Hid (Both W (w1.alloc (zH X1 X2)) base tr m hb D hl B):=Pair6.only HB0.out (ho1.alloc _);have HBA1:Hid (BoxAt (w1.alloc (zH X1 X2)) ba #[.string ⟨#[114,101,110,97,109,101]⟩,zI a.A,zI a.B,.string a.S,.string a.X,zI a.N] 42):=HA0.out.only (ho1.alloc _);clear ho1)
  | go_in)
 have HX1:Hid (BoxAt (w1.alloc (zH X1 X2)) w1.heap.size #[zI X1,zI X2] 35):=new_box w1 _ _;clear hA1 ca HB0 HA0;generalize w1.alloc (zH X1 X2)=w2 at HB1 HBA1 HX1 ⊢;generalize w1.heap.size=bx at HX1 ⊢;have ca:w2.cell? (zA ba 2)=some (zI a.B):=HBA1.out.cell 2 _ rfl;have hA2:=HA2.out _ HB1.out
 go_upto_region 3 with (first
  | (go_at_call 10;refine hA2.mono ?_;rintro e w3 ⟨rfl,ho3⟩;have HB3:Hid (Both W (w3.alloc (zH Y1 Y2)) base tr m hb D hl B):=Pair6.only HB1.out (ho3.alloc _);have HBX:Hid (Bx3 (w3.alloc (zH Y1 Y2)) ba bx w3.heap.size #[.string ⟨#[114,101,110,97,109,101]⟩,zI a.A,zI a.B,.string a.S,.string a.X,zI a.N] X1 X2 Y1 Y2):=⟨HBA1.out.only (ho3.alloc _),HX1.out.only (ho3.alloc _),new_box w3 _ _⟩;clear ho3)
  | go_in)
 clear hA2 HA2 ca HB1 HBA1 HX1;generalize w3.alloc (zH Y1 Y2)=w4 at HB3 HBX ⊢;generalize w3.heap.size=bY at HBX ⊢;have ca:w4.cell? (zA ba 0)=some (.string ⟨#[114,101,110,97,109,101]⟩):=HBX.out.a.cell 0 _ rfl;obtain ⟨c,D',hc,hp,hd,hnp⟩:=HS.out _ HB3.out;have HNP:Hid (True→NoPin D→NoPin D'):=hnp;clear hnp;have HP:Hid (∀ W1,zQ w4 W1→_):=hp;have HD:Hid (∀ W1,Pair6 W W1 base tr m hb D D' hl B→_):=hd;clear hp hd HS
 go_upto_region 18 with fail
 clear ca;have HV1:Hid (zQ w4 w4.drew):=(Only.refl [] _).drew;have S1:Hid (_):=(HBX.out.only HV1.out).cells
 go_region_held3 (fun W=>W.cell? (zA bx 0)=some (zI X1)∧W.cell? (zA bx 1)=some (zI X2)∧W.cell? (zA bY 0)=some (zI Y1)∧W.cell? (zA bY 1)=some (zI Y2)∧W.cell? (zA ba 3)=some (.string a.S)∧W.cell? (zA ba 4)=some (.string a.X)∧W.cell? (zA ba 5)=some (zI a.N))
  (with_reducible first
   | exact S1.out
   | exact S2.out
   | exact S3.out)
  (first
   | (go_at_call 33;refine (HP.out _ HV1.out).mono ?_;rintro e w5 ⟨rfl,hm5,hw5⟩;have HM5:Hid (Pair6 W w5 base tr m hb D D' hl B):=hm5;have HBX5:Hid (Bx3 w5 ba bx bY #[.string ⟨#[114,101,110,97,109,101]⟩,zI a.A,zI a.B,.string a.S,.string a.X,zI a.N] X1 X2 Y1 Y2):=(HBX.out.only HV1.out).tree hw5;have S2:Hid (_):=HBX5.out.cells;clear hm5 hw5)
   | (go_at_call 34;refine (HD.out _ HM5.out).mono ?_;rintro e w6 ⟨rfl,hb6,hw6⟩;have HB6:Hid (Both W w6 base tr m hb D' hl (B+4)):=hb6;have S3:Hid (_):=(HBX5.out.doc hw6).cells;clear hb6 hw6))
 all_goals go_wp2
 all_goals go_ret2
 all_goals exact ⟨c,D',hl,rfl,hc,HB6.out,Nat.le_succ _,HNP.out⟩
theorem do_write (W w:World)(base tr m hb:Nat)(D:Dt)(hl:List (Nat×Nat))(B:Nat)(A:Nat→Addr)(a:TActM)(hK:a.K=⟨#[119,114,105,116,101]⟩)(hz:a.X.size≤5000)(hN1:a.N < 9223372036854775808)(hN2 : -9223372036854775808≤a.N)(h:Both W w base tr m hb D hl B)(hE:Errs W A)(hB:B≤800):
  zK 9 #[zP tr,zP m,zP hb,.agg #[.string a.K,zI a.A,zI a.B,.string a.S,.string a.X,zI a.N]] w fun r w'=>DoP W w' base tr m hb hl B A D True r:=by
 rw [hK];have HB0:Hid (Both W (w.alloc (.cells #[.string ⟨#[119,114,105,116,101]⟩,zI a.A,zI a.B,.string a.S,.string a.X,zI a.N] 42)) base tr m hb D hl B):=Pair6.only h ((Only.refl [] w).alloc _);have HA0:Hid (BoxAt (w.alloc (.cells #[.string ⟨#[119,114,105,116,101]⟩,zI a.A,zI a.B,.string a.S,.string a.X,zI a.N] 42)) w.heap.size #[.string ⟨#[119,114,105,116,101]⟩,zI a.A,zI a.B,.string a.S,.string a.X,zI a.N] 42):=new_box w _ _;generalize hX1:(handOf hl a.A).1=X1;generalize hX2:(handOf hl a.A).2=X2;generalize hY1:(handOf hl a.B).1=Y1;generalize hY2:(handOf hl a.B).2=Y2
 have HAT:Hid (∀ W1,Both W W1 base tr m hb D hl B→∀ n,zO 10 #[zP hb,zI n] W1 (zG ((handOf hl n).1) ((handOf hl n).2))):=fun W1 h1 n=>by
  obtain ⟨v,hv⟩:=h1.hands;exact hands_at W1 base hb v hl n hv
 have HS:Hid (∀ W1,Both W W1 base tr m hb D hl B→Sides W W1 base tr m hb D hl B A 35 36 (writeArgs tr X1 X2 a.N a.X) (writeArgs m X1 X2 a.N a.X) True):=fun W1 h1=>write_both X1 X2 a.N a.X hz hN1 hN2 h1 hE hB;have hA1:=HAT.out _ HB0.out a.A;rw [hX1,hX2] at hA1
 have HA2:Hid (∀ W1,Both W W1 base tr m hb D hl B→zO 10 #[zP hb,zI a.B] W1 (zG Y1 Y2)):=fun W1 h1=>by
  have:=HAT.out W1 h1 a.B;rw [hY1,hY2] at this;exact this
 clear HAT h hX1 hX2 hY1 hY2 hz hN1 hN2 hE
 go_enter Tryz.func9,Tryz.ntmps9
 go_upto_region 1 with fail
 have ca:(w.alloc (.cells #[.string ⟨#[119,114,105,116,101]⟩,zI a.A,zI a.B,.string a.S,.string a.X,zI a.N] 42)).cell? (zA w.heap.size 1)=some (zI a.A):=HA0.out.cell 1 _ rfl;generalize w.alloc (.cells #[.string ⟨#[119,114,105,116,101]⟩,zI a.A,zI a.B,.string a.S,.string a.X,zI a.N] 42)=wA at HB0 HA0 hA1 ca ⊢;generalize w.heap.size=ba at HA0 ca ⊢
 go_upto_region 2 with (first
  | (go_at_call 10;refine hA1.mono ?_;rintro e w1 ⟨rfl,ho1⟩;have HB1:Hid (Both W (w1.alloc (zH X1 X2)) base tr m hb D hl B):=Pair6.only HB0.out (ho1.alloc _);have HBA1:Hid (BoxAt (w1.alloc (zH X1 X2)) ba #[.string ⟨#[119,114,105,116,101]⟩,zI a.A,zI a.B,.string a.S,.string a.X,zI a.N] 42):=HA0.out.only (ho1.alloc _);clear ho1)
  | go_in)
 have HX1:Hid (BoxAt (w1.alloc (zH X1 X2)) w1.heap.size #[zI X1,zI X2] 35):=new_box w1 _ _;clear hA1 ca HB0 HA0;generalize w1.alloc (zH X1 X2)=w2 at HB1 HBA1 HX1 ⊢;generalize w1.heap.size=bx at HX1 ⊢;have ca:w2.cell? (zA ba 2)=some (zI a.B):=HBA1.out.cell 2 _ rfl;have hA2:=HA2.out _ HB1.out
 go_upto_region 3 with (first
  | (go_at_call 10;refine hA2.mono ?_;rintro e w3 ⟨rfl,ho3⟩;have HB3:Hid (Both W (w3.alloc (zH Y1 Y2)) base tr m hb D hl B):=Pair6.only HB1.out (ho3.alloc _);have HBX:Hid (Bx3 (w3.alloc (zH Y1 Y2)) ba bx w3.heap.size #[.string ⟨#[119,114,105,116,101]⟩,zI a.A,zI a.B,.string a.S,.string a.X,zI a.N] X1 X2 Y1 Y2):=⟨HBA1.out.only (ho3.alloc _),HX1.out.only (ho3.alloc _),new_box w3 _ _⟩;clear ho3)
  | go_in)
 clear hA2 HA2 ca HB1 HBA1 HX1;generalize w3.alloc (zH Y1 Y2)=w4 at HB3 HBX ⊢;generalize w3.heap.size=bY at HBX ⊢;have ca:w4.cell? (zA ba 0)=some (.string ⟨#[119,114,105,116,101]⟩):=HBX.out.a.cell 0 _ rfl;obtain ⟨c,D',hc,hp,hd,hnp⟩:=HS.out _ HB3.out;have HNP:Hid (True→NoPin D→NoPin D'):=hnp;clear hnp;have HP:Hid (∀ W1,zQ w4 W1→_):=hp;have HD:Hid (∀ W1,Pair6 W W1 base tr m hb D D' hl B→_):=hd;clear hp hd HS
 go_upto_region 20 with fail
 clear ca;have HV1:Hid (zQ w4 w4.drew):=(Only.refl [] _).drew;have S1:Hid (_):=(HBX.out.only HV1.out).cells
 go_region_held3 (fun W=>W.cell? (zA bx 0)=some (zI X1)∧W.cell? (zA bx 1)=some (zI X2)∧W.cell? (zA bY 0)=some (zI Y1)∧W.cell? (zA bY 1)=some (zI Y2)∧W.cell? (zA ba 3)=some (.string a.S)∧W.cell? (zA ba 4)=some (.string a.X)∧W.cell? (zA ba 5)=some (zI a.N))
  (with_reducible first
   | exact S1.out
   | exact S2.out
   | exact S3.out)
  (first
   | (go_at_call 35;refine (HP.out _ HV1.out).mono ?_;rintro e w5 ⟨rfl,hm5,hw5⟩;have HM5:Hid (Pair6 W w5 base tr m hb D D' hl B):=hm5;have HBX5:Hid (Bx3 w5 ba bx bY #[.string ⟨#[119,114,105,116,101]⟩,zI a.A,zI a.B,.string a.S,.string a.X,zI a.N] X1 X2 Y1 Y2):=(HBX.out.only HV1.out).tree hw5;have S2:Hid (_):=HBX5.out.cells;clear hm5 hw5)
   | (go_at_call 36;refine (HD.out _ HM5.out).mono ?_;rintro e w6 ⟨rfl,hb6,hw6⟩;have HB6:Hid (Both W w6 base tr m hb D' hl (B+4)):=hb6;have S3:Hid (_):=(HBX5.out.doc hw6).cells;clear hb6 hw6))
 all_goals go_wp2
 all_goals go_ret2
 all_goals exact ⟨c,D',hl,rfl,hc,HB6.out,Nat.le_succ _,HNP.out⟩
theorem do_resize (W w:World)(base tr m hb:Nat)(D:Dt)(hl:List (Nat×Nat))(B:Nat)(A:Nat→Addr)(a:TActM)(hK:a.K=⟨#[114,101,115,105,122,101]⟩)(h:Both W w base tr m hb D hl B)(hE:Errs W A)(hB:B≤800):
  zK 9 #[zP tr,zP m,zP hb,.agg #[.string a.K,zI a.A,zI a.B,.string a.S,.string a.X,zI a.N]] w fun r w'=>DoP W w' base tr m hb hl B A D True r:=by
 rw [hK];have HB0:Hid (Both W (w.alloc (.cells #[.string ⟨#[114,101,115,105,122,101]⟩,zI a.A,zI a.B,.string a.S,.string a.X,zI a.N] 42)) base tr m hb D hl B):=Pair6.only h ((Only.refl [] w).alloc _);have HA0:Hid (BoxAt (w.alloc (.cells #[.string ⟨#[114,101,115,105,122,101]⟩,zI a.A,zI a.B,.string a.S,.string a.X,zI a.N] 42)) w.heap.size #[.string ⟨#[114,101,115,105,122,101]⟩,zI a.A,zI a.B,.string a.S,.string a.X,zI a.N] 42):=new_box w _ _;generalize hX1:(handOf hl a.A).1=X1;generalize hX2:(handOf hl a.A).2=X2;generalize hY1:(handOf hl a.B).1=Y1;generalize hY2:(handOf hl a.B).2=Y2
 have HAT:Hid (∀ W1,Both W W1 base tr m hb D hl B→∀ n,zO 10 #[zP hb,zI n] W1 (zG ((handOf hl n).1) ((handOf hl n).2))):=fun W1 h1 n=>by
  obtain ⟨v,hv⟩:=h1.hands;exact hands_at W1 base hb v hl n hv
 have HS:Hid (∀ W1,Both W W1 base tr m hb D hl B→Sides W W1 base tr m hb D hl B A 37 38 (sizeArgs tr X1 X2 a.N) (sizeArgs m X1 X2 a.N) True):=fun W1 h1=>resize_both X1 X2 a.N h1 hE hB;have hA1:=HAT.out _ HB0.out a.A;rw [hX1,hX2] at hA1
 have HA2:Hid (∀ W1,Both W W1 base tr m hb D hl B→zO 10 #[zP hb,zI a.B] W1 (zG Y1 Y2)):=fun W1 h1=>by
  have:=HAT.out W1 h1 a.B;rw [hY1,hY2] at this;exact this
 clear HAT h hX1 hX2 hY1 hY2 hE
 go_enter Tryz.func9,Tryz.ntmps9
 go_upto_region 1 with fail
 have ca:(w.alloc (.cells #[.string ⟨#[114,101,115,105,122,101]⟩,zI a.A,zI a.B,.string a.S,.string a.X,zI a.N] 42)).cell? (zA w.heap.size 1)=some (zI a.A):=HA0.out.cell 1 _ rfl;generalize w.alloc (.cells #[.string ⟨#[114,101,115,105,122,101]⟩,zI a.A,zI a.B,.string a.S,.string a.X,zI a.N] 42)=wA at HB0 HA0 hA1 ca ⊢;generalize w.heap.size=ba at HA0 ca ⊢
 go_upto_region 2 with (first
  | (go_at_call 10;refine hA1.mono ?_;rintro e w1 ⟨rfl,ho1⟩;have HB1:Hid (Both W (w1.alloc (zH X1 X2)) base tr m hb D hl B):=Pair6.only HB0.out (ho1.alloc _);have HBA1:Hid (BoxAt (w1.alloc (zH X1 X2)) ba #[.string ⟨#[114,101,115,105,122,101]⟩,zI a.A,zI a.B,.string a.S,.string a.X,zI a.N] 42):=HA0.out.only (ho1.alloc _);clear ho1)
  | go_in)
 have HX1:Hid (BoxAt (w1.alloc (zH X1 X2)) w1.heap.size #[zI X1,zI X2] 35):=new_box w1 _ _;clear hA1 ca HB0 HA0;generalize w1.alloc (zH X1 X2)=w2 at HB1 HBA1 HX1 ⊢;generalize w1.heap.size=bx at HX1 ⊢;have ca:w2.cell? (zA ba 2)=some (zI a.B):=HBA1.out.cell 2 _ rfl;have hA2:=HA2.out _ HB1.out
 go_upto_region 3 with (first
  | (go_at_call 10;refine hA2.mono ?_;rintro e w3 ⟨rfl,ho3⟩;have HB3:Hid (Both W (w3.alloc (zH Y1 Y2)) base tr m hb D hl B):=Pair6.only HB1.out (ho3.alloc _);have HBX:Hid (Bx3 (w3.alloc (zH Y1 Y2)) ba bx w3.heap.size #[.string ⟨#[114,101,115,105,122,101]⟩,zI a.A,zI a.B,.string a.S,.string a.X,zI a.N] X1 X2 Y1 Y2):=⟨HBA1.out.only (ho3.alloc _),HX1.out.only (ho3.alloc _),new_box w3 _ _⟩;clear ho3)
  | go_in)
 clear hA2 HA2 ca HB1 HBA1 HX1;generalize w3.alloc (zH Y1 Y2)=w4 at HB3 HBX ⊢;generalize w3.heap.size=bY at HBX ⊢;have ca:w4.cell? (zA ba 0)=some (.string ⟨#[114,101,115,105,122,101]⟩):=HBX.out.a.cell 0 _ rfl;obtain ⟨c,D',hc,hp,hd,hnp⟩:=HS.out _ HB3.out;have HNP:Hid (True→NoPin D→NoPin D'):=hnp;clear hnp;have HP:Hid (∀ W1,zQ w4 W1→_):=hp;have HD:Hid (∀ W1,Pair6 W W1 base tr m hb D D' hl B→_):=hd;clear hp hd HS
 go_upto_region 22 with fail
 clear ca;have HV1:Hid (zQ w4 w4.drew):=(Only.refl [] _).drew;have S1:Hid (_):=(HBX.out.only HV1.out).cells
 go_region_held3 (fun W=>W.cell? (zA bx 0)=some (zI X1)∧W.cell? (zA bx 1)=some (zI X2)∧W.cell? (zA bY 0)=some (zI Y1)∧W.cell? (zA bY 1)=some (zI Y2)∧W.cell? (zA ba 3)=some (.string a.S)∧W.cell? (zA ba 4)=some (.string a.X)∧W.cell? (zA ba 5)=some (zI a.N))
  (with_reducible first
   | exact S1.out
   | exact S2.out
   | exact S3.out)
  (first
   | (go_at_call 37;refine (HP.out _ HV1.out).mono ?_;rintro e w5 ⟨rfl,hm5,hw5⟩;have HM5:Hid (Pair6 W w5 base tr m hb D D' hl B):=hm5;have HBX5:Hid (Bx3 w5 ba bx bY #[.string ⟨#[114,101,115,105,122,101]⟩,zI a.A,zI a.B,.string a.S,.string a.X,zI a.N] X1 X2 Y1 Y2):=(HBX.out.only HV1.out).tree hw5;have S2:Hid (_):=HBX5.out.cells;clear hm5 hw5)
   | (go_at_call 38;refine (HD.out _ HM5.out).mono ?_;rintro e w6 ⟨rfl,hb6,hw6⟩;have HB6:Hid (Both W w6 base tr m hb D' hl (B+4)):=hb6;have S3:Hid (_):=(HBX5.out.doc hw6).cells;clear hb6 hw6))
 all_goals go_wp2
 all_goals go_ret2
 all_goals exact ⟨c,D',hl,rfl,hc,HB6.out,Nat.le_succ _,HNP.out⟩
theorem do_pin (W w:World)(base tr m hb:Nat)(D:Dt)(hl:List (Nat×Nat))(B:Nat)(A:Nat→Addr)(a:TActM)(hK:a.K=⟨#[112,105,110]⟩)(h:Both W w base tr m hb D hl B)(hE:Errs W A)(hB:B≤800):
  zK 9 #[zP tr,zP m,zP hb,.agg #[.string a.K,zI a.A,zI a.B,.string a.S,.string a.X,zI a.N]] w fun r w'=>DoP W w' base tr m hb hl B A D False r:=by
 rw [hK];have HB0:Hid (Both W (w.alloc (.cells #[.string ⟨#[112,105,110]⟩,zI a.A,zI a.B,.string a.S,.string a.X,zI a.N] 42)) base tr m hb D hl B):=Pair6.only h ((Only.refl [] w).alloc _);have HA0:Hid (BoxAt (w.alloc (.cells #[.string ⟨#[112,105,110]⟩,zI a.A,zI a.B,.string a.S,.string a.X,zI a.N] 42)) w.heap.size #[.string ⟨#[112,105,110]⟩,zI a.A,zI a.B,.string a.S,.string a.X,zI a.N] 42):=new_box w _ _;generalize hX1:(handOf hl a.A).1=X1;generalize hX2:(handOf hl a.A).2=X2;generalize hY1:(handOf hl a.B).1=Y1;generalize hY2:(handOf hl a.B).2=Y2
 have HAT:Hid (∀ W1,Both W W1 base tr m hb D hl B→∀ n,zO 10 #[zP hb,zI n] W1 (zG ((handOf hl n).1) ((handOf hl n).2))):=fun W1 h1 n=>by
  obtain ⟨v,hv⟩:=h1.hands;exact hands_at W1 base hb v hl n hv
 have HS:Hid (∀ W1,Both W W1 base tr m hb D hl B→Sides W W1 base tr m hb D hl B A 39 40 (pinArgs tr X1 X2) (pinArgs m X1 X2) False):=fun W1 h1=>pin_both X1 X2 h1 hE hB;have hA1:=HAT.out _ HB0.out a.A;rw [hX1,hX2] at hA1
 have HA2:Hid (∀ W1,Both W W1 base tr m hb D hl B→zO 10 #[zP hb,zI a.B] W1 (zG Y1 Y2)):=fun W1 h1=>by
  have:=HAT.out W1 h1 a.B;rw [hY1,hY2] at this;exact this
 clear HAT h hX1 hX2 hY1 hY2 hE
 go_enter Tryz.func9,Tryz.ntmps9
 go_upto_region 1 with fail
 have ca:(w.alloc (.cells #[.string ⟨#[112,105,110]⟩,zI a.A,zI a.B,.string a.S,.string a.X,zI a.N] 42)).cell? (zA w.heap.size 1)=some (zI a.A):=HA0.out.cell 1 _ rfl;generalize w.alloc (.cells #[.string ⟨#[112,105,110]⟩,zI a.A,zI a.B,.string a.S,.string a.X,zI a.N] 42)=wA at HB0 HA0 hA1 ca ⊢;generalize w.heap.size=ba at HA0 ca ⊢
 go_upto_region 2 with (first
  | (go_at_call 10;refine hA1.mono ?_;rintro e w1 ⟨rfl,ho1⟩;have HB1:Hid (Both W (w1.alloc (zH X1 X2)) base tr m hb D hl B):=Pair6.only HB0.out (ho1.alloc _);have HBA1:Hid (BoxAt (w1.alloc (zH X1 X2)) ba #[.string ⟨#[112,105,110]⟩,zI a.A,zI a.B,.string a.S,.string a.X,zI a.N] 42):=HA0.out.only (ho1.alloc _);clear ho1)
  | go_in)
 have HX1:Hid (BoxAt (w1.alloc (zH X1 X2)) w1.heap.size #[zI X1,zI X2] 35):=new_box w1 _ _;clear hA1 ca HB0 HA0;generalize w1.alloc (zH X1 X2)=w2 at HB1 HBA1 HX1 ⊢;generalize w1.heap.size=bx at HX1 ⊢;have ca:w2.cell? (zA ba 2)=some (zI a.B):=HBA1.out.cell 2 _ rfl;have hA2:=HA2.out _ HB1.out
 go_upto_region 3 with (first
  | (go_at_call 10;refine hA2.mono ?_;rintro e w3 ⟨rfl,ho3⟩;have HB3:Hid (Both W (w3.alloc (zH Y1 Y2)) base tr m hb D hl B):=Pair6.only HB1.out (ho3.alloc _);have HBX:Hid (Bx3 (w3.alloc (zH Y1 Y2)) ba bx w3.heap.size #[.string ⟨#[112,105,110]⟩,zI a.A,zI a.B,.string a.S,.string a.X,zI a.N] X1 X2 Y1 Y2):=⟨HBA1.out.only (ho3.alloc _),HX1.out.only (ho3.alloc _),new_box w3 _ _⟩;clear ho3)
  | go_in)
 clear hA2 HA2 ca HB1 HBA1 HX1;generalize w3.alloc (zH Y1 Y2)=w4 at HB3 HBX ⊢;generalize w3.heap.size=bY at HBX ⊢;have ca:w4.cell? (zA ba 0)=some (.string ⟨#[112,105,110]⟩):=HBX.out.a.cell 0 _ rfl;obtain ⟨c,D',hc,hp,hd,hnp⟩:=HS.out _ HB3.out;have HNP:Hid (False→NoPin D→NoPin D'):=hnp;clear hnp;have HP:Hid (∀ W1,zQ w4 W1→_):=hp;have HD:Hid (∀ W1,Pair6 W W1 base tr m hb D D' hl B→_):=hd;clear hp hd HS
 go_upto_region 24 with fail
 clear ca;have HV1:Hid (zQ w4 w4.drew):=(Only.refl [] _).drew;have S1:Hid (_):=(HBX.out.only HV1.out).cells
 go_region_held3 (fun W=>W.cell? (zA bx 0)=some (zI X1)∧W.cell? (zA bx 1)=some (zI X2)∧W.cell? (zA bY 0)=some (zI Y1)∧W.cell? (zA bY 1)=some (zI Y2)∧W.cell? (zA ba 3)=some (.string a.S)∧W.cell? (zA ba 4)=some (.string a.X)∧W.cell? (zA ba 5)=some (zI a.N))
  (with_reducible first
   | exact S1.out
   | exact S2.out
   | exact S3.out)
  (first
   | (go_at_call 39;refine (HP.out _ HV1.out).mono ?_;rintro e w5 ⟨rfl,hm5,hw5⟩;have HM5:Hid (Pair6 W w5 base tr m hb D D' hl B):=hm5;have HBX5:Hid (Bx3 w5 ba bx bY #[.string ⟨#[112,105,110]⟩,zI a.A,zI a.B,.string a.S,.string a.X,zI a.N] X1 X2 Y1 Y2):=(HBX.out.only HV1.out).tree hw5;have S2:Hid (_):=HBX5.out.cells;clear hm5 hw5)
   | (go_at_call 40;refine (HD.out _ HM5.out).mono ?_;rintro e w6 ⟨rfl,hb6,hw6⟩;have HB6:Hid (Both W w6 base tr m hb D' hl (B+4)):=hb6;have S3:Hid (_):=(HBX5.out.doc hw6).cells;clear hb6 hw6))
 all_goals go_wp2
 all_goals go_ret2
 all_goals exact ⟨c,D',hl,rfl,hc,HB6.out,Nat.le_succ _,HNP.out⟩
theorem do_unpin (W w:World)(base tr m hb:Nat)(D:Dt)(hl:List (Nat×Nat))(B:Nat)(A:Nat→Addr)(a:TActM)(hK:a.K=⟨#[117,110,112,105,110]⟩)(h:Both W w base tr m hb D hl B)(hE:Errs W A)(hB:B≤800):
  zK 9 #[zP tr,zP m,zP hb,.agg #[.string a.K,zI a.A,zI a.B,.string a.S,.string a.X,zI a.N]] w fun r w'=>DoP W w' base tr m hb hl B A D True r:=by
 rw [hK];have HB0:Hid (Both W (w.alloc (.cells #[.string ⟨#[117,110,112,105,110]⟩,zI a.A,zI a.B,.string a.S,.string a.X,zI a.N] 42)) base tr m hb D hl B):=Pair6.only h ((Only.refl [] w).alloc _);have HA0:Hid (BoxAt (w.alloc (.cells #[.string ⟨#[117,110,112,105,110]⟩,zI a.A,zI a.B,.string a.S,.string a.X,zI a.N] 42)) w.heap.size #[.string ⟨#[117,110,112,105,110]⟩,zI a.A,zI a.B,.string a.S,.string a.X,zI a.N] 42):=new_box w _ _;generalize hX1:(handOf hl a.A).1=X1;generalize hX2:(handOf hl a.A).2=X2;generalize hY1:(handOf hl a.B).1=Y1;generalize hY2:(handOf hl a.B).2=Y2
 have HAT:Hid (∀ W1,Both W W1 base tr m hb D hl B→∀ n,zO 10 #[zP hb,zI n] W1 (zG ((handOf hl n).1) ((handOf hl n).2))):=fun W1 h1 n=>by
  obtain ⟨v,hv⟩:=h1.hands;exact hands_at W1 base hb v hl n hv
 have HS:Hid (∀ W1,Both W W1 base tr m hb D hl B→Sides W W1 base tr m hb D hl B A 41 42 (pinArgs tr X1 X2) (pinArgs m X1 X2) True):=fun W1 h1=>unpin_both X1 X2 h1 hE hB;have hA1:=HAT.out _ HB0.out a.A;rw [hX1,hX2] at hA1
 have HA2:Hid (∀ W1,Both W W1 base tr m hb D hl B→zO 10 #[zP hb,zI a.B] W1 (zG Y1 Y2)):=fun W1 h1=>by
  have:=HAT.out W1 h1 a.B;rw [hY1,hY2] at this;exact this
 clear HAT h hX1 hX2 hY1 hY2 hE
 go_enter Tryz.func9,Tryz.ntmps9
 go_upto_region 1 with fail
 have ca:(w.alloc (.cells #[.string ⟨#[117,110,112,105,110]⟩,zI a.A,zI a.B,.string a.S,.string a.X,zI a.N] 42)).cell? (zA w.heap.size 1)=some (zI a.A):=HA0.out.cell 1 _ rfl;generalize w.alloc (.cells #[.string ⟨#[117,110,112,105,110]⟩,zI a.A,zI a.B,.string a.S,.string a.X,zI a.N] 42)=wA at HB0 HA0 hA1 ca ⊢;generalize w.heap.size=ba at HA0 ca ⊢
 go_upto_region 2 with (first
  | (go_at_call 10;refine hA1.mono ?_;rintro e w1 ⟨rfl,ho1⟩;have HB1:Hid (Both W (w1.alloc (zH X1 X2)) base tr m hb D hl B):=Pair6.only HB0.out (ho1.alloc _);have HBA1:Hid (BoxAt (w1.alloc (zH X1 X2)) ba #[.string ⟨#[117,110,112,105,110]⟩,zI a.A,zI a.B,.string a.S,.string a.X,zI a.N] 42):=HA0.out.only (ho1.alloc _);clear ho1)
  | go_in)
 have HX1:Hid (BoxAt (w1.alloc (zH X1 X2)) w1.heap.size #[zI X1,zI X2] 35):=new_box w1 _ _;clear hA1 ca HB0 HA0;generalize w1.alloc (zH X1 X2)=w2 at HB1 HBA1 HX1 ⊢;generalize w1.heap.size=bx at HX1 ⊢;have ca:w2.cell? (zA ba 2)=some (zI a.B):=HBA1.out.cell 2 _ rfl;have hA2:=HA2.out _ HB1.out
 go_upto_region 3 with (first
  | (go_at_call 10;refine hA2.mono ?_;rintro e w3 ⟨rfl,ho3⟩;have HB3:Hid (Both W (w3.alloc (zH Y1 Y2)) base tr m hb D hl B):=Pair6.only HB1.out (ho3.alloc _);have HBX:Hid (Bx3 (w3.alloc (zH Y1 Y2)) ba bx w3.heap.size #[.string ⟨#[117,110,112,105,110]⟩,zI a.A,zI a.B,.string a.S,.string a.X,zI a.N] X1 X2 Y1 Y2):=⟨HBA1.out.only (ho3.alloc _),HX1.out.only (ho3.alloc _),new_box w3 _ _⟩;clear ho3)
  | go_in)
 clear hA2 HA2 ca HB1 HBA1 HX1;generalize w3.alloc (zH Y1 Y2)=w4 at HB3 HBX ⊢;generalize w3.heap.size=bY at HBX ⊢;have ca:w4.cell? (zA ba 0)=some (.string ⟨#[117,110,112,105,110]⟩):=HBX.out.a.cell 0 _ rfl;obtain ⟨c,D',hc,hp,hd,hnp⟩:=HS.out _ HB3.out;have HNP:Hid (True→NoPin D→NoPin D'):=hnp;clear hnp;have HP:Hid (∀ W1,zQ w4 W1→_):=hp;have HD:Hid (∀ W1,Pair6 W W1 base tr m hb D D' hl B→_):=hd;clear hp hd HS
 go_upto_region 26 with fail
 clear ca;have HV1:Hid (zQ w4 w4.drew):=(Only.refl [] _).drew;have S1:Hid (_):=(HBX.out.only HV1.out).cells
 go_region_held3 (fun W=>W.cell? (zA bx 0)=some (zI X1)∧W.cell? (zA bx 1)=some (zI X2)∧W.cell? (zA bY 0)=some (zI Y1)∧W.cell? (zA bY 1)=some (zI Y2)∧W.cell? (zA ba 3)=some (.string a.S)∧W.cell? (zA ba 4)=some (.string a.X)∧W.cell? (zA ba 5)=some (zI a.N))
  (with_reducible first
   | exact S1.out
   | exact S2.out
   | exact S3.out)
  (first
   | (go_at_call 41;refine (HP.out _ HV1.out).mono ?_;rintro e w5 ⟨rfl,hm5,hw5⟩;have HM5:Hid (Pair6 W w5 base tr m hb D D' hl B):=hm5;have HBX5:Hid (Bx3 w5 ba bx bY #[.string ⟨#[117,110,112,105,110]⟩,zI a.A,zI a.B,.string a.S,.string a.X,zI a.N] X1 X2 Y1 Y2):=(HBX.out.only HV1.out).tree hw5;have S2:Hid (_):=HBX5.out.cells;clear hm5 hw5)
   | (go_at_call 42;refine (HD.out _ HM5.out).mono ?_;rintro e w6 ⟨rfl,hb6,hw6⟩;have HB6:Hid (Both W w6 base tr m hb D' hl (B+4)):=hb6;have S3:Hid (_):=(HBX5.out.doc hw6).cells;clear hb6 hw6))
 all_goals go_wp2
 all_goals go_ret2
 all_goals exact ⟨c,D',hl,rfl,hc,HB6.out,Nat.le_succ _,HNP.out⟩
theorem do_create (W w:World)(base tr m hb:Nat)(D:Dt)(hl:List (Nat×Nat))(B:Nat)(A:Nat→Addr)(a:TActM)(hK:a.K=⟨#[99,114,101,97,116,101]⟩)(hn:hl.length≤1000)(h:Both W w base tr m hb D hl B)(hE:Errs W A)(hB:B≤800):
   zK 9 #[zP tr,zP m,zP hb,.agg #[.string a.K,zI a.A,zI a.B,.string a.S,.string a.X,zI a.N]] w fun r w'=>DoP W w' base tr m hb hl B A D True r:=by
 rw [hK];have HB0:Hid (Both W (w.alloc (.cells #[.string ⟨#[99,114,101,97,116,101]⟩,zI a.A,zI a.B,.string a.S,.string a.X,zI a.N] 42)) base tr m hb D hl B):=Pair6.only h ((Only.refl [] w).alloc _);have HA0:Hid (BoxAt (w.alloc (.cells #[.string ⟨#[99,114,101,97,116,101]⟩,zI a.A,zI a.B,.string a.S,.string a.X,zI a.N] 42)) w.heap.size #[.string ⟨#[99,114,101,97,116,101]⟩,zI a.A,zI a.B,.string a.S,.string a.X,zI a.N] 42):=new_box w _ _;generalize hX1:(handOf hl a.A).1=X1;generalize hX2:(handOf hl a.A).2=X2;generalize hY1:(handOf hl a.B).1=Y1;generalize hY2:(handOf hl a.B).2=Y2
 have HAT:Hid (∀ W1,Both W W1 base tr m hb D hl B→∀ n,zO 10 #[zP hb,zI n] W1 (zG ((handOf hl n).1) ((handOf hl n).2))):=fun W1 h1 n=>by
   obtain ⟨v,hv⟩:=h1.hands;exact hands_at W1 base hb v hl n hv
 have HS:Hid (∀ W1,Both W W1 base tr m hb D hl B→_):=fun W1 (h1:Both W W1 base tr m hb D hl B)=>make_both X1 X2 a.S a.N h1 hE hB;have hA1:=HAT.out _ HB0.out a.A;rw [hX1,hX2] at hA1
 have HA2:Hid (∀ W1,Both W W1 base tr m hb D hl B→zO 10 #[zP hb,zI a.B] W1 (zG Y1 Y2)):=fun W1 h1=>by
   have:=HAT.out W1 h1 a.B;rw [hY1,hY2] at this;exact this
 clear HAT h hX1 hX2 hY1 hY2 hE
 go_enter Tryz.func9,Tryz.ntmps9
 go_upto_region 1 with fail
 have ca:(w.alloc (.cells #[.string ⟨#[99,114,101,97,116,101]⟩,zI a.A,zI a.B,.string a.S,.string a.X,zI a.N] 42)).cell? (zA w.heap.size 1)=some (zI a.A):=HA0.out.cell 1 _ rfl;generalize w.alloc (.cells #[.string ⟨#[99,114,101,97,116,101]⟩,zI a.A,zI a.B,.string a.S,.string a.X,zI a.N] 42)=wA at HB0 HA0 hA1 ca ⊢;generalize w.heap.size=ba at HA0 ca ⊢
 go_upto_region 2 with (first
   | (go_at_call 10;refine hA1.mono ?_;rintro e w1 ⟨rfl,ho1⟩;have HB1:Hid (Both W (w1.alloc (zH X1 X2)) base tr m hb D hl B):=Pair6.only HB0.out (ho1.alloc _);have HBA1:Hid (BoxAt (w1.alloc (zH X1 X2)) ba #[.string ⟨#[99,114,101,97,116,101]⟩,zI a.A,zI a.B,.string a.S,.string a.X,zI a.N] 42):=HA0.out.only (ho1.alloc _);clear ho1)
   | go_in)
 have HX1:Hid (BoxAt (w1.alloc (zH X1 X2)) w1.heap.size #[zI X1,zI X2] 35):=new_box w1 _ _;clear hA1 ca HB0 HA0;generalize w1.alloc (zH X1 X2)=w2 at HB1 HBA1 HX1 ⊢;generalize w1.heap.size=bx at HX1 ⊢;have ca:w2.cell? (zA ba 2)=some (zI a.B):=HBA1.out.cell 2 _ rfl;have hA2:=HA2.out _ HB1.out
 go_upto_region 3 with (first
   | (go_at_call 10;refine hA2.mono ?_;rintro e w3 ⟨rfl,ho3⟩;have HB3:Hid (Both W (w3.alloc (zH Y1 Y2)) base tr m hb D hl B):=Pair6.only HB1.out (ho3.alloc _);have HBX:Hid (Bx3 (w3.alloc (zH Y1 Y2)) ba bx w3.heap.size #[.string ⟨#[99,114,101,97,116,101]⟩,zI a.A,zI a.B,.string a.S,.string a.X,zI a.N] X1 X2 Y1 Y2):=⟨HBA1.out.only (ho3.alloc _),HX1.out.only (ho3.alloc _),new_box w3 _ _⟩;clear ho3)
   | go_in)
 clear hA2 HA2 ca HB1 HBA1 HX1;generalize w3.alloc (zH Y1 Y2)=w4 at HB3 HBX ⊢;generalize w3.heap.size=bY at HBX ⊢;have ca:w4.cell? (zA ba 0)=some (.string ⟨#[99,114,101,97,116,101]⟩):=HBX.out.a.cell 0 _ rfl;obtain ⟨c,i,g,D',hc,hi3,hg9,hp,hd,hnp⟩:=HS.out _ HB3.out;have HNP:Hid (NoPin D→NoPin D'):=hnp;clear hnp;have HP:Hid (∀ W1,zQ w4 W1→_):=hp;have HD:Hid (∀ W1,Pair6 W W1 base tr m hb D D' hl B→_):=hd;clear hp hd HS
 go_upto_region 5 with fail
 clear ca;obtain ⟨x0,x1,_,_,x3,x4,x5⟩:=HBX.out.cells
 go_upto_region 6 with (first
   | (go_at_call 24;refine (HP.out _ (Only.refl [] w4)).mono ?_;rintro e w5 ⟨rfl,hm5,hw5⟩;have HM5:Hid (Pair6 W (w5.alloc (zH i g)) base tr m hb D D' hl B):=hm5.only ((Only.refl [] w5).alloc _);have HBX5:Hid (Bx3 (w5.alloc (zH i g)) ba bx bY #[.string ⟨#[99,114,101,97,116,101]⟩,zI a.A,zI a.B,.string a.S,.string a.X,zI a.N] X1 X2 Y1 Y2):=(HBX.out.tree hw5).only ((Only.refl [] w5).alloc _);clear hm5 hw5)
   | go_in)
 have HG5:Hid (BoxAt (w5.alloc (zH i g)) w5.heap.size #[zI i,zI g] 35):=new_box w5 _ _;clear x0 x1 x3 x4 x5 HBX HP HB3;generalize w5.alloc (zH i g)=w6 at HM5 HBX5 HG5 ⊢;generalize w5.heap.size=bg at HG5 ⊢;obtain ⟨x0,x1,_,_,x3,x4,x5⟩:=HBX5.out.cells
 go_upto_region 7 with (first
   | (go_at_call 28;refine (HD.out _ HM5.out).mono ?_;rintro e w7 ⟨rfl,hb7,hw7⟩;have HB7:Hid (Both W (w7.alloc (zH i g)) base tr m hb D' hl (B+4)):=hb7.only ((Only.refl [] w7).alloc _);have HG7:Hid (BoxAt (w7.alloc (zH i g)) bg #[zI i,zI g] 35):=(HG5.out.doc hw7 hand_tys.2.2.2.2.1).only ((Only.refl [] w7).alloc _);obtain ⟨v,hv7⟩:=hb7.hands;have HV7:Hid (HandsAt (w7.alloc (zH i g)) base hb v hl):=hv7.kept ((Only.refl [] w7).alloc _) (by simp) (by simp);have HNB:Hid (w7.heap.size∉v.ownBlock.toList):=hv7.past;clear hb7 hw7 hv7)
   | go_in)
 have HW7:Hid (BoxAt (w7.alloc (zH i g)) w7.heap.size #[zI i,zI g] 35):=new_box w7 _ _;clear x0 x1 x3 x4 x5 HBX5 HG5 HD HM5;generalize w7.alloc (zH i g)=w8 at HB7 HG7 HW7 HV7 ⊢;generalize w7.heap.size=bw at HW7 HNB ⊢;have g0:=HG7.out.cell 0 _ rfl;have g1:=HG7.out.cell 1 _ rfl;have v0:=HW7.out.cell 0 _ rfl;have v1:=HW7.out.cell 1 _ rfl
 by_cases hc0:c=0
 · subst hc0
   have hv:=HV7.out;obtain ⟨n,hln⟩:∃ n,hl.length=n:=⟨_,rfl⟩;obtain ⟨ad,cap,hvs,_⟩:=hv.form;rw [hln] at hvs hn;subst hvs;have HV:Hid (HandsAt w8 base hb (.slice ad n cap) hl):=hv;have HLN:Hid (hl.length=n):=hln
   have HROW:Hid (∀ W1,zQ w8 W1→W1.ownsRow base 35 2 (.slice ad n cap) n (rowOf hC hl)):=fun W1 ho=>by
    have:=(HV.out.kept ho (by simp) (by simp)).row;rw [HLN.out] at this;exact this
   obtain ⟨i0,hi0,hz⟩:=Option.map_eq_some_iff.1 handleInfo6;have hz0:i0.zero=some (zG 0 0):=congrArg (fun q=>q.1) hz;have hz1:i0.size=2:=congrArg (fun q=>q.2.1) hz;have hz2:i0.bytes=16:=congrArg (fun q=>q.2.2) hz;have HNE:Hid (bw∉(Value.slice ad n cap).ownBlock.toList):=HNB.out;clear hv hln hz
   go_upto_region 10 with fail
   clear g0 g1 v0 v1;have HSX:Hid (∀ W1,zQ w8 W1→W1.cell? (zA hb 0)=some (.slice ad n cap)∧W1.cell? (zA bw 0)=some (zI i)∧W1.cell? (zA bw 1)=some (zI g)):=fun W1 ho=>⟨BoxAt.cell (HV.out.kept ho (by simp) (by simp)).tab 0 _ rfl,(HW7.out.only ho).cell 0 _ rfl,(HW7.out.only ho).cell 1 _ rfl⟩;have HD1:Hid (zQ w8 w8.drew):=(Only.refl [] _).drew;have HD2:Hid (zQ w8 (w8.alloc (zH i g)).drew):=((Only.refl [] _).alloc _).drew;have S1:Hid (_):=HSX.out _ HD1.out;have S2:Hid (_):=HSX.out _ HD2.out;have HNW:Hid (∀ (j:Nat) (u:Value),(hC (i,g))[j]?=some u→((w8.alloc (zH i g)).drew).cell? ((⟨w8.heap.size,0,none⟩:Addr).add j)=some u):=World.news_of_block (w:=(w8.alloc (zH i g)).drew) (zh w8 _);have HBB:Hid (base≤w8.heap.size):=HB7.out.hi
   go_cut [13,15,16] from 10 to 11 (fun p q r wx=>p=codeE A 0∧q=zI 0∧∃ g7 c7,r = .slice (some ⟨g7,0,none⟩) (n+1) c7∧Grew w8 wx base ad n cap g7 c7 hl (i,g))
   case first =>
    go_region_held3 (fun W=>W.cell? (zA hb 0)=some (.slice ad n cap)∧W.cell? (zA bw 0)=some (zI i)∧W.cell? (zA bw 1)=some (zI g))
       (with_reducible first | exact S1.out | exact S2.out | exact S3.out)
       ((refine step_append_lies _ (by rfl) (.tmp 58) (.tmp 60) 36 (by rfl) base 35 i0 _ 2 16 handlesUnd6 hi0 hz0 hz1 hz2 rfl (by decide) (.slice ad n cap) n (rowOf hC hl) (by rfl) (HROW.out _ HD2.out) ⟨w8.heap.size,0,none⟩ 1 1 (hC (i,g)) (by rfl) rfl HNW.out (hC_one _) (by decide) (by unfold maxLen;omega) (by omega) (by show base≤(w8.alloc _).heap.size;rw [World.size_alloc];have:=HBB.out;omega) (w8.heap.size+1) (by show (w8.alloc _).heap.size=_;simp) ?_;intro g7 c7 w9 hown7 hgr7 hat7 hlt7;have HGR:Hid (Grew w8 w9 base ad n cap g7 c7 hl (i,g)):=⟨hown7,HD2.out.grown_at hgr7⟩;have S3:Hid (_):=HGR.out.cells HV.out HW7.out HNE.out;clear hown7 hgr7 hat7 hlt7))
    all_goals go_wp2
    all_goals go_meet
    all_goals exact ⟨rfl,rfl,_,_,rfl,HGR.out⟩
   case rest =>
    obtain ⟨rfl,rfl,g7,c7,rfl,hgr⟩:=hcut;have HF:Hid (_):=Pair6.grew HB7.out HV.out HLN.out hgr;obtain ⟨k0,kf,kl⟩:=hgr.box HV.out;generalize wc=wy at HF k0 kf kl ⊢;clear HSX HD1 HD2 S1 S2 HNW HROW hgr
    go_wp2
    go_ret2
    exact ⟨0,D',hl++[(i,g)],rfl,by omega,HF.out,by simp,fun _=>HNP.out⟩
 · have hq0:((c:Int)==0)=false:=zb (by omega)
   go_wp2
   go_ret2
   exact ⟨c,D',hl,rfl,hc,HB7.out,Nat.le_succ _,fun _=>HNP.out⟩
theorem do_other (W w:World)(base tr m hb:Nat)(D:Dt)(hl:List (Nat×Nat))(B:Nat)(A:Nat→Addr)(a:TActM)(n1:(a.K.toList==[99,114,101,97,116,101])=false)(n2:(a.K.toList==[108,105,110,107])=false)(n3:(a.K.toList==[114,101,109,111,118,101])=false)(n4:(a.K.toList==[114,101,110,97,109,101])=false)(n5:(a.K.toList==[119,114,105,116,101])=false)(n6:(a.K.toList==[114,101,115,105,122,101])=false)(n7:(a.K.toList==[112,105,110])=false)(n8:(a.K.toList==[117,110,112,105,110])=false)(h:Both W w base tr m hb D hl B):
  zK 9 #[zP tr,zP m,zP hb,.agg #[.string a.K,zI a.A,zI a.B,.string a.S,.string a.X,zI a.N]] w fun r w'=>DoP W w' base tr m hb hl B A D True r:=by
 have HB0:Hid (Both W (w.alloc (.cells #[.string a.K,zI a.A,zI a.B,.string a.S,.string a.X,zI a.N] 42)) base tr m hb D hl B):=Pair6.only h ((Only.refl [] w).alloc _);have HA0:Hid (BoxAt (w.alloc (.cells #[.string a.K,zI a.A,zI a.B,.string a.S,.string a.X,zI a.N] 42)) w.heap.size #[.string a.K,zI a.A,zI a.B,.string a.S,.string a.X,zI a.N] 42):=new_box w _ _;generalize hX1:(handOf hl a.A).1=X1;generalize hX2:(handOf hl a.A).2=X2;generalize hY1:(handOf hl a.B).1=Y1;generalize hY2:(handOf hl a.B).2=Y2
 have HAT:Hid (∀ W1,Both W W1 base tr m hb D hl B→∀ n,zO 10 #[zP hb,zI n] W1 (zG ((handOf hl n).1) ((handOf hl n).2))):=fun W1 h1 n=>by
  obtain ⟨v,hv⟩:=h1.hands;exact hands_at W1 base hb v hl n hv
 have hA1:=HAT.out _ HB0.out a.A;rw [hX1,hX2] at hA1
 have HA2:Hid (∀ W1,Both W W1 base tr m hb D hl B→zO 10 #[zP hb,zI a.B] W1 (zG Y1 Y2)):=fun W1 h1=>by
  have:=HAT.out W1 h1 a.B;rw [hY1,hY2] at this;exact this
 clear HAT h hX1 hX2 hY1 hY2
 go_enter Tryz.func9,Tryz.ntmps9
 go_upto_region 1 with fail
 have ca:(w.alloc (.cells #[.string a.K,zI a.A,zI a.B,.string a.S,.string a.X,zI a.N] 42)).cell? (zA w.heap.size 1)=some (zI a.A):=HA0.out.cell 1 _ rfl;generalize w.alloc (.cells #[.string a.K,zI a.A,zI a.B,.string a.S,.string a.X,zI a.N] 42)=wA at HB0 HA0 hA1 ca ⊢;generalize w.heap.size=ba at HA0 ca ⊢
 go_upto_region 2 with (first
  | (go_at_call 10;refine hA1.mono ?_;rintro e w1 ⟨rfl,ho1⟩;have HB1:Hid (Both W (w1.alloc (zH X1 X2)) base tr m hb D hl B):=Pair6.only HB0.out (ho1.alloc _);have HBA1:Hid (BoxAt (w1.alloc (zH X1 X2)) ba #[.string a.K,zI a.A,zI a.B,.string a.S,.string a.X,zI a.N] 42):=HA0.out.only (ho1.alloc _);clear ho1)
  | go_in)
 have HX1:Hid (BoxAt (w1.alloc (zH X1 X2)) w1.heap.size #[zI X1,zI X2] 35):=new_box w1 _ _;clear hA1 ca HB0 HA0;generalize w1.alloc (zH X1 X2)=w2 at HB1 HBA1 HX1 ⊢;generalize w1.heap.size=bx at HX1 ⊢;have ca:w2.cell? (zA ba 2)=some (zI a.B):=HBA1.out.cell 2 _ rfl;have hA2:=HA2.out _ HB1.out
 go_upto_region 3 with (first
  | (go_at_call 10;refine hA2.mono ?_;rintro e w3 ⟨rfl,ho3⟩;have HB3:Hid (Both W (w3.alloc (zH Y1 Y2)) base tr m hb D hl B):=Pair6.only HB1.out (ho3.alloc _);have HBX:Hid (Bx3 (w3.alloc (zH Y1 Y2)) ba bx w3.heap.size #[.string a.K,zI a.A,zI a.B,.string a.S,.string a.X,zI a.N] X1 X2 Y1 Y2):=⟨HBA1.out.only (ho3.alloc _),HX1.out.only (ho3.alloc _),new_box w3 _ _⟩;clear ho3)
  | go_in)
 clear hA2 HA2 ca HB1 HBA1 HX1;generalize w3.alloc (zH Y1 Y2)=w4 at HB3 HBX ⊢;generalize w3.heap.size=bY at HBX ⊢;have ca:w4.cell? (zA ba 0)=some (.string a.K):=HBX.out.a.cell 0 _ rfl
 go_wp2
 go_ret2
 exact ⟨0,D,hl,rfl,by omega,HB3.out.more (by omega),Nat.le_succ _,fun _ h=>h⟩
theorem eq_of_list {K:ByteArray}{l:List UInt8}(h:(K.toList==l)=true):K=⟨l.toArray⟩:=by
 rw [Lib.toList_data] at h
 have h2:K.data.toList=l:=by simpa using h
 obtain ⟨d⟩:=K;subst h2;rfl
theorem do_any (W w:World)(base tr m hb:Nat)(D:Dt)(hl:List (Nat×Nat))(B:Nat)(A:Nat→Addr)(a:TActM)(hz:a.X.size≤5000)(hN1:a.N < 9223372036854775808)(hN2 : -9223372036854775808≤a.N)(hn:hl.length≤1000)(h:Both W w base tr m hb D hl B)(hE:Errs W A)(hB:B≤800):
  zK 9 #[zP tr,zP m,zP hb,.agg #[.string a.K,zI a.A,zI a.B,.string a.S,.string a.X,zI a.N]] w fun r w'=>DoP W w' base tr m hb hl B A D ((a.K.toList==[112,105,110])=false) r:=by
 cases n1:(a.K.toList==[99,114,101,97,116,101]) with
 | true=>exact (do_create W w base tr m hb D hl B A a (eq_of_list n1) hn h hE hB).mono fun _ _ hh=>hh.weak (fun _=>trivial)
 | false =>
  cases n2:(a.K.toList==[108,105,110,107]) with
  | true=>exact (do_link W w base tr m hb D hl B A a (eq_of_list n2) h hE hB).mono fun _ _ hh=>hh.weak (fun _=>trivial)
  | false =>
   cases n3:(a.K.toList==[114,101,109,111,118,101]) with
   | true=>exact (do_remove W w base tr m hb D hl B A a (eq_of_list n3) h hE hB).mono fun _ _ hh=>hh.weak (fun _=>trivial)
   | false =>
    cases n4:(a.K.toList==[114,101,110,97,109,101]) with
    | true=>exact (do_rename W w base tr m hb D hl B A a (eq_of_list n4) h hE hB).mono fun _ _ hh=>hh.weak (fun _=>trivial)
    | false =>
     cases n5:(a.K.toList==[119,114,105,116,101]) with
     | true=>exact (do_write W w base tr m hb D hl B A a (eq_of_list n5) hz hN1 hN2 h hE hB).mono fun _ _ hh=>hh.weak (fun _=>trivial)
     | false =>
      cases n6:(a.K.toList==[114,101,115,105,122,101]) with
      | true=>exact (do_resize W w base tr m hb D hl B A a (eq_of_list n6) h hE hB).mono fun _ _ hh=>hh.weak (fun _=>trivial)
      | false =>
       cases n7:(a.K.toList==[112,105,110]) with
       | true=>exact (do_pin W w base tr m hb D hl B A a (eq_of_list n7) h hE hB).mono fun _ _ hh=>hh.weak (fun h=>by cases h)
       | false =>
        cases n8:(a.K.toList==[117,110,112,105,110]) with
        | true=>exact (do_unpin W w base tr m hb D hl B A a (eq_of_list n8) h hE hB).mono fun _ _ hh=>hh.weak (fun _=>trivial)
        | false =>
         exact (do_other W w base tr m hb D hl B A a n1 n2 n3 n4 n5 n6 n7 n8 h).mono fun _ _ hh=>hh.weak (fun _=>trivial)
end
end Go.Proofs.YtkcabopgajlmdaaGreatDoor
