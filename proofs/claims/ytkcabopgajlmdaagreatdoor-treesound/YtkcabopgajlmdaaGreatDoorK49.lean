import Derived.Test.YtkcabopgajlmdaaGreatDoorK48
import Derived.Test.YtkcabopgajlmdaaGreatDoorK47
import Derived.Laws.EntriesVeiled
set_option maxRecDepth 100000
set_option maxHeartbeats 8000000
namespace Go.Proofs.YtkcabopgajlmdaaGreatDoor
section
open Go Go.RowKit Go.Deep Go.Maps
theorem add_none6 (g o j:Nat):(⟨g,o,none⟩:Addr).add j=⟨g,o+j,none⟩:=by unfold Addr.add;split<;>simp_all
theorem wpList_append_rows {P:Program}{w:World}{ops:Array Oper}{rest:List Oper}{o:Oper}{a:Act}{Q:Exit→Act→World→Prop}(hgd:o.guard=none)(s x:Operand)(t:TypeId)
   (ho:o.op = .call { callee := .builtin .append,args:=#[s,x],argTypes:=#[t,t] })
   (base:Nat) (e:TypeId) (i:TypeInfo) (z:Value) (size bytes:Nat) (ht:P.underlying t=some (.slice e)) (hi:P.info? e=some i) (hz:i.zero=some z)
   (hsize:i.size=size) (hby:i.bytes=bytes) (hzs:z.cells.size=size) (hsz:0 < size)
   (v:Value) (n:Nat) (xs:List Value) (hs:a.eval s=v) (hown:w.ownsRow base e size v n xs)
   (vx:Value) (m base2:Nat) (news:List Value) (hx:a.eval x=vx) (hvx:w.ownsRow base2 e size vx m news) (h1:∀ u∈news,u.oneCell'=true)
   (h63:n+m≤maxLen) (hbytes:(n+m)*bytes≤140737488355328) (hbase:base≤w.heap.size)
   (h:∀ v' w',w'.ownsRow base e size v' (n+m) (xs++news)→w.grownBy w' v.ownBlock→(v'.ownBlock=v.ownBlock∨v'.ownBlock=some w.heap.size)→wpList P ops Q rest (a.put o.dst v') w') :
   wpList P ops Q (o::rest) a w:=by
 have hl:=hvx.1;rcases hvx.2 with ⟨hv,hm⟩ | ⟨g,cap,cur,hv,_⟩
 · subst hm
   have hn:news=[]:=List.length_eq_zero_iff.1 (by rw [hl];omega);subst hn;rw [hv] at hx;refine wpList_append_own_none hgd s x t ho base e i size ht hi v n xs hs hown hx (h v w ?_ (World.grownBy.refl _ _) (Or.inl rfl));rw [List.append_nil];exact hown
 · subst hv
   refine wpList_append_own_at _ hgd s x t ho base e i z size bytes ht hi hz hsize hby hzs hsz v n xs hs hown ⟨g,0,none⟩ m cap news hx hl (fun j u hu=>?_) h1 h63 hbytes hbase (fun v' w' a1 a2 _ a4=>h v' w' a1 a2 a4)
   have hj:j < m*size:=by rw [← hl];exact (List.getElem?_eq_some_iff.1 hu).1
   rw [add_none6,Nat.zero_add,World.ownsRow.cellAt hvx j hj];exact hu
theorem sm_one {α:Type}(l:List α):sm (fun _=>1) l=l.length:=by
 induction l with
 | nil=>rfl
 | cons a l ih=>rw [sm,ih,List.length_cons];omega
theorem sm_le {α:Type}{f g:α→Nat}{l:List α}(h:∀ a∈l,f a≤g a):sm f l≤sm g l:=by
 induction l with
 | nil=>exact Nat.le_refl _
 | cons a l ih=>rw [sm,sm];exact Nat.add_le_add (h a List.mem_cons_self) (ih (fun b hb=>h b (List.mem_cons_of_mem _ hb)))
section
variable {D:Dt}
theorem bel_len:∀ (n:Nat) (x:Dn),sm (fun _=>1) (bel D n x)=sm (fun d=>d.es.length) (vis D n x)
 | 0,_=>rfl
 | n+1,x=>by
  rw [bel,vis,sm,sm_flat,sm_flat,← sm_one x.es,← sm_add];refine sm_congr fun e _=>?_;rw [sm];congr 1;unfold sub6
  split
  · split
    · exact bel_len n _
    · rfl
  · rfl
theorem vis_rank (I:DInv D){r:Nat→Nat}(hr:∀ x∈D.L,∀ e∈x.es,(∃ y∈D.L,y.i=e.i∧y.K=2)→r x.i < r e.i):∀ (n:Nat) (x:Dn),x∈D.L→∀ d∈vis D n x,r x.i≤r d.i
 | 0,_,_,d,hd=>by cases hd
 | n+1,x,hx,d,hd=>by
  rw [vis] at hd;rcases List.mem_cons.1 hd with rfl | hd
  · exact Nat.le_refl _
  · obtain ⟨e,he,hd⟩:=List.mem_flatMap.1 hd
    unfold sub6 at hd
    split at hd
    · rename_i y hat
      split at hd
      · rename_i hyK
        have h1:=at_is hat;have:=vis_rank I hr n y h1.1 d hd;have:=hr x hx e he ⟨y,h1.1,h1.2.1,hyK⟩;rw [h1.2.1] at *;omega
      · cases hd
    · cases hd
theorem vis_le (I:DInv D){x0:Dn}(h0:x0∈D.L)(h0K:x0.K=2){r:Nat→Nat}(hr:∀ x∈D.L,∀ e∈x.es,(∃ y∈D.L,y.i=e.i∧y.K=2)→r x.i < r e.i){k:Nat}(hk:Enough D r k x0):∀ (n:Nat) (y:Dn),y∈D.L→y.K=2→r y.i < n→sm (fun d=>ind (d.i==y.i)) (vis D k x0)≤1
 | 0,_,_,_,h=>absurd h (Nat.not_lt_zero _)
 | n+1,y,hy,hK,hlt=>by
  have hmem:=vis_mem I k x0 h0 h0K;rw [vis_cnt I hr hy hK _ x0 h0 hk]
  by_cases hy0:x0.i=y.i
  · have:sm (fun d=>(d.es.filter (·.to y.i y.c)).length) (vis D k x0)=0:=sm_zero fun d hd=>Classical.byContradiction fun hne=>by
     obtain ⟨e,he,hei,_⟩:=len_pos hne;have h1:=hr d (hmem d hd).1 e he ⟨y,hy,hei.symm,hK⟩;have h2:=vis_rank I hr k x0 h0 d hd;rw [hei,← hy0] at h1;omega
    rw [this,hy0];simp [ind]
  · rw [beq_eq_false_iff_ne.2 hy0,sm_over I.nos _ _ (fun d hd=>(hmem d hd).1)]
    have e2:sm (fun x=>sm (fun d=>ind (d.i==x.i)) (vis D k x0)*(x.es.filter (·.to y.i y.c)).length) D.L≤sm (fun x=>(x.es.filter (·.to y.i y.c)).length) D.L:=sm_le fun x hx=>by
     by_cases hz:(x.es.filter (·.to y.i y.c)).length=0
     · rw [hz,Nat.mul_zero];exact Nat.le_refl _
     · obtain ⟨e,he,hei,_⟩:=len_pos hz
       have hlt2:=hr x hx e he ⟨y,hy,hei.symm,hK⟩;rw [hei] at hlt2;have:=Nat.mul_le_mul_right ((x.es.filter (·.to y.i y.c)).length) (vis_le I h0 h0K hr hk n x hx (I.has_es hx he) (by omega))
       rwa [Nat.one_mul] at this
    rw [← cntL_sm] at e2
    have e3:cntL (·.to y.i y.c) D.L≤1:=by
     by_cases hz:y.i=0
     · have:cntL (·.to y.i y.c) D.L=0:=by rw [cntL_sm,hz];exact sm_zero fun d hd=>to_root I hd _
       omega
     · exact Nat.le_of_eq (I.dirs y hy hK hz)
    have h9:ind false=0:=rfl;rw [h9];omega
theorem bel_most (I:DInv D){x0:Dn}(h0:x0∈D.L)(h0K:x0.K=2){r:Nat→Nat}(hr:∀ x∈D.L,∀ e∈x.es,(∃ y∈D.L,y.i=e.i∧y.K=2)→r x.i < r e.i){k:Nat}(hk:Enough D r k x0):(bel D k x0).length≤18000:=by
 rw [← sm_one,bel_len,sm_over I.nos _ _ (fun d hd=>(vis_mem I k x0 h0 h0K d hd).1)]
 have h1:sm (fun x=>sm (fun d=>ind (d.i==x.i)) (vis D k x0)*x.es.length) D.L≤sm (fun _=>60) D.L:=sm_le fun x hx=>by
  rcases I.kind x hx with ⟨_,he⟩ | ⟨hK,_⟩
  · rw [he,List.length_nil,Nat.mul_zero];omega
  · have h1:=vis_le I h0 h0K hr hk (r x.i+1) x hx hK (Nat.lt_succ_self _)
    have:=Nat.mul_le_mul h1 (I.rise x hx).2;omega
 have h2:∀ l:List Dn,sm (fun _=>60) l=60*l.length:=fun l=>by
  induction l with
  | nil=>rfl
  | cons a l ih=>rw [sm,ih,List.length_cons];omega
 have:=nos_len I.nos (fun x hx=>(I.lt x hx).1);have:=I.most;rw [h2] at h1;omega
end
def HandO (w:World)(base:Nat)(v:Value)(l:List (Nat×Nat)):Prop:=w.ownsRow base 35 2 v l.length (rowOf hC l)
theorem HandO.form {w:World}{base:Nat}{v:Value}{l:List (Nat×Nat)}(h:HandO w base v l):∃ ad cap,v = .slice ad l.length cap:=by
 rcases h.2 with ⟨rfl,hz⟩ | ⟨g,cap,_,rfl,_⟩
 · exact ⟨none,0,by rw [hz]⟩
 · exact ⟨_,_,rfl⟩
theorem HandO.at_ {w:World}{base b:Nat}{v:Value}{l:List (Nat×Nat)}(h:HandO w base v l)(hb:v.ownBlock=some b):base≤b:=by
 rcases h.2 with ⟨rfl,_⟩ | ⟨g,cap,cur,rfl,h1,_⟩
 · cases hb
 · cases hb
   exact h1
theorem HandO.low {w:World}{base b:Nat}{v:Value}{l:List (Nat×Nat)}(h:HandO w base v l)(hb:b≤base):HandO w b v l:=by
 refine ⟨h.1,?_⟩;rcases h.2 with h2 | ⟨g,cap,cur,h1,h2,h3⟩
 · exact Or.inl h2
 · exact Or.inr ⟨g,cap,cur,h1,Nat.le_trans hb h2,h3⟩
theorem HandO.only {w w':World}{base:Nat}{v:Value}{l:List (Nat×Nat)}(h:HandO w base v l)(ho:Only [] w w'):HandO w' base v l:=Only.owns ho h (fun _ _=>by simp)
theorem HandO.nil (w:World)(base:Nat):HandO w base (.slice none 0 0) []:=World.ownsRow_nil _ _ _ _
def part6 (D:Dt)(n:Nat)(x:Dn)(j:Nat):List (Nat×Nat):=(x.es.take j).flatMap fun e=>(e.i,e.c)::sub6 D (bel D n) e
theorem part6_all (D:Dt)(n:Nat)(x:Dn):part6 D n x x.es.length=bel D (n+1) x:=by
 unfold part6;rw [List.take_length];rfl
theorem part6_next {D:Dt}{n:Nat}{x:Dn}{j:Nat}{e:Ent}(h:x.es[j]?=some e):part6 D n x (j+1)=part6 D n x j++[(e.i,e.c)]++sub6 D (bel D n) e:=by
 unfold part6;rw [take_next h,List.flatMap_append];simp
theorem part6_le (D:Dt)(n:Nat)(x:Dn)(j:Nat):(part6 D n x j).length≤(bel D (n+1) x).length:=by
 rw [← part6_all];unfold part6;rw [List.take_length];have:x.es=x.es.take j++x.es.drop j:=(List.take_append_drop _ _).symm
 have h2:(x.es.flatMap fun e=>(e.i,e.c)::sub6 D (bel D n) e).length=((x.es.take j).flatMap fun e=>(e.i,e.c)::sub6 D (bel D n) e).length+((x.es.drop j).flatMap fun e=>(e.i,e.c)::sub6 D (bel D n) e).length:=by
  rw [← List.length_append,← List.flatMap_append,← this]
 omega
section
variable {W w:World}{tr B:Nat}{D:Dt}{A:Nat→Addr}
theorem One6.attr (h:One6 W w tr D B)(hE:Errs W A){y:Dn}(hy:y∈D.L):∃ aZ aC aN aG:Int,(y.K=2→aN=((D.up y.i y.c).1:Nat)∧aG=((D.up y.i y.c).2:Nat))∧∀ W1,Only [] w W1→Calls Tryz.prog 22 #[.pointer (some ⟨tr,0,none⟩),.agg #[.int .i64 (y.i:Nat),.int .i64 (y.c:Nat)]] W1 fun e w'=>e = .returned (.tuple #[.agg #[.int .i64 y.K,.int .i64 aZ,.int .i64 (D.links y:Nat),.int .i64 aC,.int .i64 aN,.int .i64 aG],.nilIface])∧Only [] W1 w':=by
 obtain ⟨T,P,R⟩:=h.prg;obtain ⟨K,Z,L,C,UN,UG,c,hA,hc⟩:=attr_rep P R h.I (h.errs hE) (y.i:Nat) (y.c:Nat);have hat:D.atZ (y.i:Nat) (y.c:Nat)=some y:=atZ_of h.I.nos hy (isB_iff.2 ⟨rfl,rfl⟩);rcases hA with ⟨h1,_⟩ | ⟨z,h1,rfl,rfl,rfl,rfl,h2⟩
 · rw [hat] at h1;cases h1
 · rw [hat] at h1
   cases h1
   refine ⟨Z,_,UN,UG,fun hK=>?_,hc⟩;rcases h2 with ⟨h3,_⟩ | ⟨_,_,h3,h4⟩
   · rw [hK] at h3;cases h3
   · exact ⟨h3,h4⟩
end
theorem pair_news6 (w:World)(a b:Nat):∀ (j:Nat) (u:Value),(hC (a,b))[j]?=some u→(w.alloc (.cells #[.int .i64 (a:Nat),.int .i64 (b:Nat)] 35)).cell? ((⟨w.heap.size,0,none⟩:Addr).add j)=some u:=World.news_of_block (w:=w.alloc (.cells #[.int .i64 (a:Nat),.int .i64 (b:Nat)] 35)) (heap_alloc_last w _)
theorem below_any {W0 w0:World}{tr B:Nat}{D:Dt}{A:Nat→Addr}(h:One6 W0 w0 tr D B)(hE:Errs W0 A){r:Nat→Nat}(hr:∀ x∈D.L,∀ e∈x.es,(∃ y∈D.L,y.i=e.i∧y.K=2)→r x.i < r e.i):∀ (n:Nat) (x:Dn),x∈D.L→x.K=2→Enough D r n x→∀ deep:Nat,deep+n≤300→∀ W1,Only [] w0 W1 →
  Calls Tryz.prog 20 #[.pointer (some ⟨tr,0,none⟩),.agg #[.int .i64 (x.i:Nat),.int .i64 (x.c:Nat)],.int .i64 (deep:Nat)] W1 fun e w'=>∃ v,e = .returned (.tuple #[v,.bool true])∧HandO w' W1.heap.size v (bel D n x)∧Only [] W1 w'
 | 0,x,hx,_,he,_,_,_,_=>absurd (he.pos h.I hx) (by decide)
 | n+1,x,hx,hK,he,deep,hdp,W1,hW1=>by
  have HREC:Hid (∀ y:Dn,y∈D.L→y.K=2→r x.i < r y.i→∀ W2,Only [] w0 W2→Calls Tryz.prog 20 #[.pointer (some ⟨tr,0,none⟩),.agg #[.int .i64 (y.i:Nat),.int .i64 (y.c:Nat)],.int .i64 ((deep:Int)+1)] W2 fun e w'=>∃ v,e = .returned (.tuple #[v,.bool true])∧HandO w' W2.heap.size v (bel D n y)∧Only [] W2 w'):=fun y hy hyK hlt W2 hW2=>by
   have hh:=below_any h hE hr n y hy hyK (he.next h.I hx hlt) (deep+1) (by omega) W2 hW2
   rw [show ((deep+1:Nat):Int)=(deep:Int)+1 from rfl] at hh
   exact hh
  have HMOST:Hid ((bel D (n+1) x).length≤18000):=bel_most h.I hx hK hr he;obtain ⟨i0,hi0,hz⟩:=Option.map_eq_some_iff.1 handleInfo6;simp only [Prod.mk.injEq] at hz;obtain ⟨hz0,hz1,hz2⟩:=hz;have hat:D.atZ (x.i:Nat) (x.c:Nat)=some x:=atZ_of h.I.nos hx (isB_iff.2 ⟨rfl,rfl⟩);have hls:=h.list hE hat hK (W1.alloc (.cells #[.int .i64 (x.i:Nat),.int .i64 (x.c:Nat)] 35)) (zo hW1 ((Only.refl [] _).alloc _));have HB:Hid (HBox (W1.alloc (.cells #[.int .i64 (x.i:Nat),.int .i64 (x.c:Nat)] 35)) W1.heap.size x.i x.c):=heap_alloc_last W1 _;have HD:Hid (One6 W0 w0 tr D B∧Errs W0 A):=⟨h,hE⟩;have HX:Hid (x∈D.L∧x.K=2):=⟨hx,hK⟩;have HR:Hid (∀ x∈D.L,∀ e∈x.es,(∃ y∈D.L,y.i=e.i∧y.K=2)→r x.i < r e.i):=hr;have HW1:Hid (Only [] w0 W1):=hW1
  have hdeep:¬ (300:Int) < (deep:Nat):=by omega
  have hes:x.es.length≤60:=(h.I.rise x hx).2;obtain ⟨b0,b1⟩:=HB.out.cells;clear h hE hr hx hK he hW1 hat
  go_enter Tryz.func20,Tryz.ntmps20
  go_upto_region 4 with (first
   | (go_at_call 14;refine hls.mono ?_;rintro e w2 ⟨v2,n2,rfl,⟨ad,cap,rfl,hent⟩,ho2⟩;have HENT:Hid (∀ j x',x.es[j]?=some x'→∃ g o,ad=some ⟨g,o,none⟩∧w2.cell? ⟨g,o+j*3,none⟩=some (.string (bs x'.s))∧w2.cell? ⟨g,o+j*3+1,none⟩=some (.int .i64 (x'.i:Nat))∧w2.cell? ⟨g,o+j*3+2,none⟩=some (.int .i64 (x'.c:Nat))∧Ty w2 g 110):=hent;have HB2:Hid (HBox w2 W1.heap.size x.i x.c):=HB.out.kept ho2 (by simp);have HO2:Hid (Only [] W1 w2):=zo ((Only.refl [] _).alloc _) ho2;clear hent ho2 hls)
   | go_in)
  clear b0 b1 HB;generalize hbd:W1.heap.size=bd at HB2
  go_wp2
  go_loopw [11,12] (fun u i wr=>∃ j:Nat,j≤x.es.length∧i = .int .i64 (j:Nat)∧HandO wr w2.heap.size u (part6 D n x j)∧Only [] w2 wr) (fun _ i _=>x.es.length - (intOf i).toNat)
  case atStart=>exact ⟨0,Nat.zero_le _,rfl,HandO.nil _ _,Only.refl _ _⟩
  case round =>
   obtain ⟨j,hj,rfl,hu,hor⟩:=hrel;have HU:Hid (HandO wr w2.heap.size u11 (part6 D n x j)):=hu;have HOR:Hid (Only [] w2 wr):=hor;obtain ⟨adu,capu,rfl⟩:=hu.form;have hpl:=part6_le D n x j;have hmo:=HMOST.out;clear hu hor
   by_cases hlt:j < x.es.length
   · have hj2:(j:Int) < x.es.length:=by omega
     obtain ⟨e,hex⟩:∃ e,x.es[j]?=some e:=⟨_,List.getElem?_eq_getElem hlt⟩;obtain ⟨g,o,rfl,_,d1,d2,_⟩:=HENT.out j e hex;have hem:e∈x.es:=List.mem_of_getElem? hex;obtain ⟨_,⟨y,hy,hyi,hyc⟩,_⟩:=HD.out.1.I.live x HX.out.1 e hem;have HPN:Hid (part6 D n x (j+1)=part6 D n x j++[(y.i,y.c)]++sub6 D (bel D n) e):=(by rw [hyi,hyc];exact part6_next hex);have hsub:D.at e.i e.c=some y:=(by rw [← hyi,← hyc];exact Dt.at_mem HD.out.1.I.nos hy);have HY:Hid (y∈D.L):=hy;have HYR:Hid (y.K=2→r x.i < r y.i∧(D.up y.i y.c)=(x.i,x.c)):=fun hK=>⟨by rw [hyi];exact HR.out x HX.out.1 e hem ⟨y,hy,hyi,hK⟩,DInv.up_is HD.out.1.I hy hK (by rw [hyi];exact (HD.out.1.I.live x HX.out.1 e hem).1) HX.out.1 (any_to.2 ⟨e,hem,hyi.symm,hyc.symm⟩)⟩;have HSB:Hid (sub6 D (bel D n) e=if y.K=2 then bel D n y else []):=(by show sub6 D (bel D n) e=_;unfold sub6;rw [hsub]);have HC:Hid (∀ W2,Only [] w2 W2→W2.cell? ⟨g,o+j*3+1,none⟩=some (.int .i64 (y.i:Nat))∧W2.cell? ⟨g,o+j*3+1+1,none⟩=some (.int .i64 (y.c:Nat))):=fun W2 ho=>⟨(by rw [hyi];exact (ho.cell (p:=⟨g,o+j*3+1,none⟩) (zv d1) (by simp)).trans d1),(by rw [hyc];exact (ho.cell (p:=⟨g,o+j*3+2,none⟩) (zv d2) (by simp)).trans d2)⟩;obtain ⟨c1,c2⟩:=HC.out wr HOR.out;clear d1 d2;obtain ⟨l0,hl0⟩:∃ l0,part6 D n x j=l0:=⟨_,rfl⟩;rw [hl0] at HU HPN hpl ⊢;have HJ1:Hid ((l0++[(y.i,y.c)]++sub6 D (bel D n) e).length≤18000):=(by rw [← HPN.out];exact Nat.le_trans (part6_le D n x (j+1)) HMOST.out);clear hex hem hsub hyi hyc hl0 hy
     go_upto_region 9 with (first
       | (at_builtin;refine wpList_append_lies _ rfl (.tmp 36) (.tmp 42) 36 rfl w2.heap.size 35 i0 _ 2 16 handlesUnd6 hi0 hz0 hz1 hz2 rfl (by decide) (.slice adu l0.length capu) l0.length (rowOf hC l0) rfl (World.ownsRow.alloc HU.out _) ⟨wr.heap.size,0,none⟩ 1 1 (hC (y.i,y.c)) rfl rfl (pair_news6 wr y.i y.c) (hC_one _) (by decide) (by unfold maxLen;omega) (by omega) (by rw [World.size_alloc];have:=HOR.out.size;omega) (wr.heap.size+1) (by simp) ?_;intro g5 cp5 w3 hown5 hgr5 hat5 hlt5;have HU3:Hid (w3.ownsRow w2.heap.size 35 2 (.slice (some ⟨g5,0,none⟩) (l0.length+1) cp5) (l0.length+1) (rowOf hC (l0++[(y.i,y.c)]))):=(by show w3.ownsRow _ _ _ _ _ _;rw [rowOf_append,show rowOf hC [(y.i,y.c)]=hC (y.i,y.c) by simp [rowOf]];exact hown5);have HO3:Hid (Only [] w2 w3):=(HOR.out.alloc _).grown hgr5 (fun b hb=>Or.inr (HU.out.at_ hb));clear hown5 hgr5 hat5 hlt5)
       | go_in)
     have hll:(l0++[(y.i,y.c)]).length=l0.length+1:=by simp
     generalize l0++[(y.i,y.c)]=l1 at HU3 HPN HJ1 hll;clear c1 c2 HU hpl;obtain ⟨c1,c2⟩:=HC.out w3 HO3.out;obtain ⟨aZ,aC,aN,aG,haU,hat⟩:=HD.out.1.attr HD.out.2 HY.out;have HAU:Hid (y.K=2→aN=((D.up y.i y.c).1:Nat)∧aG=((D.up y.i y.c).2:Nat)):=haU;have hat:=hat w3 (zo HW1.out (zo HO2.out HO3.out));generalize hK':y.K=aK at hat;have HK':Hid (y.K=aK):=hK';generalize D.links y=aL at hat;clear haU hK'
     go_upto_region 12 with (first
       | (go_at_call 22;refine hat.mono ?_;rintro e4 w4 ⟨rfl,ho4⟩;have HO4:Hid (Only [] w3 (w4.alloc (.cells #[.int .i64 aK,.int .i64 aZ,.int .i64 (aL:Nat),.int .i64 aC,.int .i64 aN,.int .i64 aG] 65))):=ho4.alloc _;clear ho4 hat)
       | go_in)
     have HA4:Hid (BoxAt (w4.alloc (.cells #[.int .i64 aK,.int .i64 aZ,.int .i64 (aL:Nat),.int .i64 aC,.int .i64 aN,.int .i64 aG] 65)) w4.heap.size #[.int .i64 aK,.int .i64 aZ,.int .i64 (aL:Nat),.int .i64 aC,.int .i64 aN,.int .i64 aG] 65):=new_box w4 _ _;clear c1 c2;generalize w4.alloc (.cells #[.int .i64 aK,.int .i64 aZ,.int .i64 (aL:Nat),.int .i64 aC,.int .i64 aN,.int .i64 aG] 65)=w5 at HO4 HA4 ⊢;generalize w4.heap.size=b13 at HA4 ⊢;have HO5:Hid (Only [] w2 w5):=zo HO3.out HO4.out;have HU5:Hid (w5.ownsRow w2.heap.size 35 2 (.slice (some ⟨g5,0,none⟩) (l0.length+1) cp5) (l0.length+1) (rowOf hC l1)):=Only.owns HO4.out HU3.out (fun _ _=>by simp);clear HU3 HO3 HO4;have q0:=HA4.out.cell 0 _ rfl;rcases HD.out.1.I.kind y HY.out with ⟨hK1,_⟩ | ⟨hK2,_⟩
     · have e1:aK=1:=HK'.out.symm.trans hK1
       subst e1
       go_wp2
       go_roundw
       case rel =>
        refine ⟨j+1,by omega,by go_num,?_,HO5.out⟩;rw [HPN.out,HSB.out,if_neg (by omega),List.append_nil];unfold HandO;rw [hll];exact HU5.out
       case measure=>simp [intOf];omega
     · have e1:aK=2:=HK'.out.symm.trans hK2
       subst e1;obtain ⟨hru,hup⟩:=HYR.out hK2;obtain ⟨e2,e3⟩:=HAU.out hK2;rw [hup] at e2 e3;subst e2 e3;have q4:=HA4.out.cell 4 _ rfl;have q5:=HA4.out.cell 5 _ rfl;obtain ⟨b0,b1⟩:=(HB2.out.kept HO5.out (by simp)).cells
       go_upto_region 15 with fail
       clear q0 q4 q5 b0 b1;obtain ⟨c1,c2⟩:=HC.out w5 HO5.out;have hrec:=HREC.out y HY.out hK2 hru w5 (zo HW1.out (zo HO2.out HO5.out))
       have hbl:(bel D n y).length+(l0.length+1)≤18000:=by
        have:=HJ1.out;rw [HSB.out,if_pos hK2,List.length_append,hll] at this;omega
       go_upto_region 18 with (first
        | (go_at_call 20;refine hrec.mono ?_;rintro e6 w6 ⟨v6,rfl,hv6,ho6⟩;have HV6:Hid (HandO w6 w5.heap.size v6 (bel D n y)):=hv6;have HO6:Hid (Only [] w2 w6):=zo HO5.out ho6;have HU6:Hid (w6.ownsRow w2.heap.size 35 2 (.slice (some ⟨g5,0,none⟩) (l0.length+1) cp5) (l0.length+1) (rowOf hC l1)):=Only.owns ho6 HU5.out (fun _ _=>by simp);clear ho6 hv6 hrec)
        | go_in)
       clear c1 c2 HU5
       go_wp2_with (first
        | (at_builtin;refine wpList_append_rows rfl (.tmp 77) (.tmp 78) 36 rfl w2.heap.size 35 i0 _ 2 16 handlesUnd6 hi0 hz0 hz1 hz2 rfl (by decide) (.slice (some ⟨g5,0,none⟩) (l0.length+1) cp5) (l0.length+1) (rowOf hC l1) rfl HU6.out v6 (bel D n y).length w5.heap.size (rowOf hC (bel D n y)) rfl HV6.out (rowOf_one hC_one _) (by unfold maxLen;omega) (by omega) HO6.out.size ?_;intro v7 w7 hown7 hgr7 hat7;have HU7:Hid (HandO w7 w2.heap.size v7 (l1++bel D n y)):=(by show w7.ownsRow _ _ _ _ _ _;rw [rowOf_append,List.length_append,hll];exact hown7);have HO7:Hid (Only [] w2 w7):=HO6.out.grown hgr7 (fun b hb=>Or.inr (by cases hb;rcases HU6.out.2 with ⟨h1,_⟩ | ⟨g',c',cu,h1,h2,_⟩;cases h1;cases h1;exact h2));clear hown7 hgr7 hat7)
        | go_in)
       go_roundw
       case rel =>
        refine ⟨j+1,by omega,by go_num,?_,HO7.out⟩;rw [HPN.out,HSB.out,if_pos hK2];exact HU7.out
       case measure=>simp [intOf];omega
   · obtain rfl:x.es.length=j:=by omega
     go_wp2
     refine bodyPost_ret (v := .tuple #[.slice adu (part6 D n x x.es.length).length capu,.bool true]) (by simp [results,Tryz.results20,go_sem]) rfl ⟨_,rfl,?_,zo HO2.out HOR.out⟩;rw [← part6_all];exact HU.out.low HO2.out.size
end
end Go.Proofs.YtkcabopgajlmdaaGreatDoor
