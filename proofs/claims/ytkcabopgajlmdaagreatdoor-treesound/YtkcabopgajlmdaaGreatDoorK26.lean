import Derived.Test.YtkcabopgajlmdaaGreatDoorK24
import Derived.Test.YtkcabopgajlmdaaGreatDoorK25
set_option maxRecDepth 100000
set_option maxHeartbeats 8000000
namespace Go.Proofs.YtkcabopgajlmdaaGreatDoor
section
open Go Go.RowKit Go.Deep Go.Maps
theorem own_blk {w:World}{base e k n b:Nat}{v:Value}{xs:List Value}(h:w.ownsRow base e k v n xs)(hb:v.ownBlock=some b):base≤b∧b < w.heap.size∧∃ cur,w.heap[b]?=some (.cells cur e (0,0)):=by
 rcases h.2 with ⟨rfl,_⟩ | ⟨g,cap,cur,rfl,h1,h2,h3⟩
 · cases hb
 · cases hb
   exact ⟨h1,(Array.getElem?_eq_some_iff.1 h2).1,cur,h2⟩
structure Nm where
 b:Nat
 hv:Value
 ev:Value
 x:Dn
def Nm.cells (n:Nm):Array Value:=#[zI n.x.i,zI n.x.c,zI n.x.K,zI n.x.C,.string n.x.S,n.hv,n.ev,zI n.x.p]
structure NmAt (w:World)(n:Nm):Prop where
 blk:w.heap[n.b]?=some (.cells n.cells 84 (0,0))
 holes:w.ownsRow (n.b+1) 4 1 n.hv n.x.H.length (n.x.H.map Value.bool)
 ents:Ents w (n.b+1) n.ev n.x.es
section
variable {w w':World}{n:Nm}
theorem NmAt.lt (h:NmAt w n):n.b < w.heap.size:=(Array.getElem?_eq_some_iff.1 h.blk).1
theorem NmAt.c0 (h:NmAt w n):w.cell? (zA n.b 0)=some (zI n.x.i):=cell_of_row _ _ 0 _ _ _ h.blk
theorem NmAt.c1 (h:NmAt w n):w.cell? (zA n.b 1)=some (zI n.x.c):=cell_of_row _ _ 1 _ _ _ h.blk
theorem NmAt.c2 (h:NmAt w n):w.cell? (zA n.b 2)=some (zI n.x.K):=cell_of_row _ _ 2 _ _ _ h.blk
theorem NmAt.c3 (h:NmAt w n):w.cell? (zA n.b 3)=some (zI n.x.C):=cell_of_row _ _ 3 _ _ _ h.blk
theorem NmAt.c4 (h:NmAt w n):w.cell? (zA n.b 4)=some (.string n.x.S):=cell_of_row _ _ 4 _ _ _ h.blk
theorem NmAt.c5 (h:NmAt w n):w.cell? (zA n.b 5)=some n.hv:=cell_of_row _ _ 5 _ _ _ h.blk
theorem NmAt.c6 (h:NmAt w n):w.cell? (zA n.b 6)=some n.ev:=cell_of_row _ _ 6 _ _ _ h.blk
theorem NmAt.c7 (h:NmAt w n):w.cell? (zA n.b 7)=some (zI n.x.p):=cell_of_row _ _ 7 _ _ _ h.blk
theorem NmAt.fz (h:NmAt w n)(j:Nat):w.frozen? ⟨n.b,j,none⟩=false:=frozen_of_row _ _ _ _ _ h.blk
theorem NmAt.kept {K:List Nat}(h:NmAt w n)(ho:Only K w w')(h1:n.b∉K)(h2:∀ k,n.hv.ownBlock=some k→k∉K)(h3:∀ k,n.ev.ownBlock=some k→k∉K):NmAt w' n :=
 ⟨(ho.block n.b h.lt h1).trans h.blk,ho.owns h.holes h2,h.ents.only ho h3⟩
theorem NmAt.form (h:NmAt w n):∃ ad cap,n.ev = .slice ad n.x.es.length cap∧∀ j e,n.x.es[j]?=some e→∃ g,ad=some ⟨g,0,none⟩∧g < w.heap.size∧w.cell? ⟨g,j*3,none⟩=some (.string (bs e.s))∧w.cell? ⟨g,j*3+1,none⟩=some (zI e.i)∧w.cell? ⟨g,j*3+2,none⟩=some (zI e.c):=by
 rcases h.ents.2 with ⟨hv,hz⟩ | ⟨g,cap,cur,hv,h1,h2,h3⟩
 · refine ⟨none,0,by rw [hz];exact hv,fun j s hs=>?_⟩
   rw [List.eq_nil_of_length_eq_zero hz] at hs;simp at hs
 · refine ⟨_,_,hv,fun j x hx=>⟨g,rfl,(Array.getElem?_eq_some_iff.1 h2).1,?_⟩⟩
   have hlt:j < n.x.es.length:=(List.getElem?_eq_some_iff.1 hx).1;have he:=h.ents;rw [hv] at he
   have key:∀ i,i < 3→w.cell? ⟨g,j*3+i,none⟩=(entC x)[i]?:=fun i hi=>by
    rw [World.ownsRow.cellAt he _ (by omega)];exact rowOf_get entC_len n.x.es j i x hi hx
   exact ⟨key 0 (by decide),key 1 (by decide),key 2 (by decide)⟩
theorem NmAt.bytes (h:NmAt w n):BytesN (fun j=>n.cells[j]?) w (n.b+1) n.b n.x.S n.x.H n.hv:=⟨h.c4,h.c5,h.fz,h.holes,Nat.lt_succ_self _,fun j _ _=>cell_of_row _ _ j _ _ _ h.blk,_,h.blk⟩
theorem NmAt.of_bytes {S':ByteArray}{H':List Bool}{v':Value}(hb:BytesN (fun j=>n.cells[j]?) w (n.b+1) n.b S' H' v')(he:Ents w (n.b+1) n.ev n.x.es):NmAt w { n with hv:=v',x:={ n.x with S:=S',H:=H' } }:=by
 refine ⟨?_,hb.owns,he⟩;obtain ⟨hr,cs,hc⟩:=hb.rest;have key:∀ j,w.cell? ⟨n.b,j,none⟩=cs[j]?:=fun j=>cell_of_row _ _ j _ _ _ hc
 have e:cs=Nm.cells { n with hv:=v',x:={ n.x with S:=S',H:=H' } }:=by
  apply Array.ext_getElem?;intro j;rw [← key j]
  match j with
  | 0=>exact hr 0 (by decide) (by decide)
  | 1=>exact hr 1 (by decide) (by decide)
  | 2=>exact hr 2 (by decide) (by decide)
  | 3=>exact hr 3 (by decide) (by decide)
  | 4=>exact hb.text
  | 5=>exact hb.row
  | 6=>exact hr 6 (by decide) (by decide)
  | 7=>exact hr 7 (by decide) (by decide)
  | j+8=>exact hr (j+8) (by omega) (by omega)
 rw [e] at hc;exact hc
end
structure DtM (w:World)(base m:Nat)(lv tv:Value)(ns:List Nm)(D:Dt):Prop where
 tab:w.heap[m]?=some (.cells #[zI D.most,lv,tv] 78 (0,0))
 row:w.ownsRow base 79 1 lv ns.length (ns.map fun n=>Value.pointer (some ⟨n.b,0,none⟩))
 times:w.ownsRow base 3 1 tv (List.range D.most).length ((List.range D.most).map fun k=>Value.int .i64 (D.t k:Nat))
 nodes:D.L=ns.map (·.x)
 each:∀ n∈ns,base≤n.b∧NmAt w n
 nod:(ns.map (·.b)).Nodup
 hol:∀ a∈ns,∀ b∈ns,a.b≠b.b→∀ k,a.hv.ownBlock=some k→b.hv.ownBlock≠some k
 bm:base≤m
def docTys:List TypeId:=[78,79,3,84,4,110]
def FootM (m:Nat)(lv tv:Value)(ns:List Nm)(k:Nat):Prop:=k=m∨lv.ownBlock=some k∨tv.ownBlock=some k∨∃ n∈ns,k=n.b∨n.hv.ownBlock=some k∨n.ev.ownBlock=some k
section
variable {w w':World}{base m:Nat}{lv tv:Value}{ns:List Nm}{D:Dt}
theorem DtM.foot (h:DtM w base m lv tv ns D){k:Nat}(hk:FootM m lv tv ns k):base≤k∧∃ cs ty,w.heap[k]?=some (.cells cs ty (0,0))∧ty∈docTys:=by
 rcases hk with rfl | hk | hk | ⟨n,hn,hk⟩
 · exact ⟨h.bm,_,_,h.tab,by simp [docTys]⟩
 · obtain ⟨h1,_,cur,hc⟩:=own_blk h.row hk
   exact ⟨h1,_,_,hc,by simp [docTys]⟩
 · obtain ⟨h1,_,cur,hc⟩:=own_blk h.times hk
   exact ⟨h1,_,_,hc,by simp [docTys]⟩
 · obtain ⟨hb,hn⟩:=h.each n hn
   rcases hk with rfl | hk | hk
   · exact ⟨hb,_,_,hn.blk,by simp [docTys]⟩
   · obtain ⟨h1,_,cur,hc⟩:=own_blk hn.holes hk
     exact ⟨by omega,_,_,hc,by simp [docTys]⟩
   · obtain ⟨h1,_,cur,hc⟩:=own_blk hn.ents hk
     exact ⟨by omega,_,_,hc,by simp [docTys]⟩
theorem DtM.lt (h:DtM w base m lv tv ns D){k:Nat}(hk:FootM m lv tv ns k):k < w.heap.size:=by
 obtain ⟨_,cs,ty,hc,_⟩:=h.foot hk;exact (Array.getElem?_eq_some_iff.1 hc).1
theorem DtM.kept {K:List Nat}(h:DtM w base m lv tv ns D)(ho:Only K w w')(hK:∀ k,FootM m lv tv ns k→k∉K):DtM w' base m lv tv ns D :=
 ⟨(ho.block m (h.lt (Or.inl rfl)) (hK m (Or.inl rfl))).trans h.tab,ho.owns h.row (fun k hk=>hK k (Or.inr (Or.inl hk))),ho.owns h.times (fun k hk=>hK k (Or.inr (Or.inr (Or.inl hk)))),h.nodes,
  fun n hn=>⟨(h.each n hn).1,(h.each n hn).2.kept ho (hK _ (Or.inr (Or.inr (Or.inr ⟨n,hn,Or.inl rfl⟩)))) (fun k hk=>hK k (Or.inr (Or.inr (Or.inr ⟨n,hn,Or.inr (Or.inl hk)⟩)))) (fun k hk=>hK k (Or.inr (Or.inr (Or.inr ⟨n,hn,Or.inr (Or.inr hk)⟩))))⟩,h.nod,h.hol,h.bm⟩
theorem DtM.only (h:DtM w base m lv tv ns D)(ho:zQ w w'):DtM w' base m lv tv ns D:=h.kept ho (fun _ _=>by simp)
theorem DtM.c0 (h:DtM w base m lv tv ns D):w.cell? (zA m 0)=some (zI D.most):=cell_of_row _ _ 0 _ _ _ h.tab
theorem DtM.c1 (h:DtM w base m lv tv ns D):w.cell? (zA m 1)=some lv:=cell_of_row _ _ 1 _ _ _ h.tab
theorem DtM.c2 (h:DtM w base m lv tv ns D):w.cell? (zA m 2)=some tv:=cell_of_row _ _ 2 _ _ _ h.tab
theorem DtM.fz (h:DtM w base m lv tv ns D)(j:Nat):w.frozen? ⟨m,j,none⟩=false:=frozen_of_row _ _ _ _ _ h.tab
theorem DtM.form (h:DtM w base m lv tv ns D):∃ ad cap,lv = .slice ad ns.length cap∧∀ j n,ns[j]?=some n→∃ g,ad=some ⟨g,0,none⟩∧w.cell? ⟨g,j,none⟩=some (zP n.b):=by
 obtain ⟨ad,cap,e,hf⟩:=row_cells1 h.row;refine ⟨ad,cap,e,fun j n hn=>?_⟩;obtain ⟨g,h1,_,_,h2⟩:=hf j n hn;exact ⟨g,h1,h2⟩
theorem DtM.mem (h:DtM w base m lv tv ns D){x:Dn}(hx:x∈D.L):∃ n∈ns,n.x=x:=by
 rw [h.nodes] at hx;obtain ⟨n,hn,e⟩:=List.mem_map.1 hx;exact ⟨n,hn,e⟩
theorem DtM.inL (h:DtM w base m lv tv ns D){n:Nm}(hn:n∈ns):n.x∈D.L:=by
 rw [h.nodes];exact List.mem_map_of_mem hn
theorem DtM.same (h:DtM w base m lv tv ns D)(hn:(D.L.map (·.i)).Nodup){a b:Nm}(ha:a∈ns)(hb:b∈ns)(e:a.x.i=b.x.i):a=b:=by
 rw [h.nodes,List.map_map] at hn;clear h
 induction ns with
 | nil=>cases ha
 | cons z ns ih =>
  rw [List.map_cons,List.nodup_cons] at hn;rcases List.mem_cons.1 ha with rfl | h1
  · rcases List.mem_cons.1 hb with rfl | h2
    · rfl
    · exact absurd (List.mem_map.2 ⟨b,h2,e.symm⟩) hn.1
  · rcases List.mem_cons.1 hb with rfl | h2
    · exact absurd (List.mem_map.2 ⟨a,h1,e⟩) hn.1
    · exact ih hn.2 h1 h2
theorem DtM.byB (h:DtM w base m lv tv ns D){a b:Nm}(ha:a∈ns)(hb:b∈ns)(e:a.b=b.b):a=b:=by
 have hn:=h.nod;clear h
 induction ns with
 | nil=>cases ha
 | cons z ns ih =>
  rw [List.map_cons,List.nodup_cons] at hn;rcases List.mem_cons.1 ha with rfl | h1
  · rcases List.mem_cons.1 hb with rfl | h2
    · rfl
    · exact absurd (List.mem_map.2 ⟨b,h2,e.symm⟩) hn.1
  · rcases List.mem_cons.1 hb with rfl | h2
    · exact absurd (List.mem_map.2 ⟨a,h1,e⟩) hn.1
    · exact ih h1 h2 hn.2
def putNm (n':Nm)(ns:List Nm):List Nm:=ns.map fun q=>if q.b=n'.b then n' else q
theorem putNm_b (n':Nm)(ns:List Nm):(putNm n' ns).map (·.b)=ns.map (·.b):=by
 unfold putNm;rw [List.map_map];apply List.map_congr_left;intro q _;show (if q.b=n'.b then n' else q).b=q.b
 split
 · rename_i e;exact e.symm
 · rfl
theorem putNm_mem {n' q:Nm}{ns:List Nm}(h:q∈putNm n' ns):q=n'∨q∈ns∧q.b≠n'.b:=by
 obtain ⟨z,hz,e⟩:=List.mem_map.1 h
 split at e
 · exact Or.inl e.symm
 · rename_i hne
   subst e;exact Or.inr ⟨hz,hne⟩
theorem DtM.turned (h:DtM w base m lv tv ns D)(hn:(D.L.map (·.i)).Nodup){n n':Nm}(hm:n∈ns)(hb:n'.b=n.b)(hi:n'.x.i=n.x.i){K:List Nat}(ho:Only K w w')
   (hK:∀ k∈K,k=n.b∨n.hv.ownBlock=some k) (hn':NmAt w' n') (hh:∀ k,n'.hv.ownBlock=some k→n.hv.ownBlock=some k∨w.heap.size≤k) {f:Dn→Dn} (hf:f n.x=n'.x):DtM w' base m lv tv (putNm n' ns) (D.turn n.x.i n.x.c f):=by
 have hN:=(h.each n hm).2
 have away:∀ k cs ty,w.heap[k]?=some (.cells cs ty (0,0))→ty≠84→ty≠4→k∉K:=fun k cs ty hc h1 h2 hk=>by
   rcases hK k hk with rfl | e
   · rw [hN.blk] at hc
     simp at hc;exact h1 hc.2.symm
   · obtain ⟨_,_,cur,hc2⟩:=own_blk hN.holes e
     rw [hc2] at hc;simp at hc;exact h2 hc.2.symm
 have mK:m∉K:=away m _ _ h.tab (by decide) (by decide);refine ⟨(ho.block m (h.lt (Or.inl rfl)) mK).trans h.tab,?_,ho.owns h.times (fun k hk=>?_),?_,fun q hq=>?_,by rw [putNm_b];exact h.nod,fun a ha b hbb hab k hka hkb=>?_,h.bm⟩
 · have e1:(putNm n' ns).map (fun n=>Value.pointer (some ⟨n.b,0,none⟩))=ns.map (fun n=>Value.pointer (some ⟨n.b,0,none⟩)):=by
     have:=congrArg (List.map fun b:Nat=>Value.pointer (some ⟨b,0,none⟩)) (putNm_b n' ns);rw [List.map_map,List.map_map] at this;exact this
   have e2:(putNm n' ns).length=ns.length:=by unfold putNm;rw [List.length_map]
   rw [e1,e2]
   exact ho.owns h.row (fun k hk=>by
     obtain ⟨_,_,cur,hc⟩:=own_blk h.row hk
     exact away k _ _ hc (by decide) (by decide))
 · obtain ⟨_,_,cur,hc⟩:=own_blk h.times hk
   exact away k _ _ hc (by decide) (by decide)
 · show turnL n.x.i n.x.c f D.L=_
   rw [h.nodes];unfold turnL putNm;rw [List.map_map,List.map_map];apply List.map_congr_left;intro q hq;show (if q.x.is n.x.i n.x.c=true then f q.x else q.x)=(if q.b=n'.b then n' else q).x
   by_cases e:q.b=n.b
   · have e2:=h.byB hq hm e
     subst e2;rw [if_pos (is_iff.2 ⟨rfl,rfl⟩),if_pos hb.symm];exact hf
   · rw [if_neg (fun e2=>e (by rw [h.same hn hq hm (is_iff.1 e2).1])),if_neg (by rw [hb];exact e)]
 · rcases putNm_mem hq with rfl | ⟨hq,hne⟩
   · exact ⟨by rw [hb];exact (h.each n hm).1,hn'⟩
   · obtain ⟨h1,h2⟩:=h.each q hq
     refine ⟨h1,h2.kept ho (fun hk=>?_) (fun k hk hkK=>?_) (fun k hk hkK=>?_)⟩
     · rcases hK _ hk with e | e
       · exact hne (by rw [hb];exact e)
       · obtain ⟨_,_,cur,hc⟩:=own_blk hN.holes e
         rw [h2.blk] at hc;simp at hc
     · rcases hK _ hkK with e | e
       · obtain ⟨_,_,cur,hc⟩:=own_blk h2.holes hk
         rw [e,hN.blk] at hc;simp at hc
       · exact h.hol q hq n hm (by rw [← hb];exact hne) k hk e
     · obtain ⟨_,_,cur,hc⟩:=own_blk h2.ents hk
       exact away k _ _ hc (by decide) (by decide) hkK
 · have old:∀ q∈ns,∀ k,q.hv.ownBlock=some k→k < w.heap.size:=fun q hq k hk=>(own_blk (h.each q hq).2.holes hk).2.1
   rcases putNm_mem ha with rfl | ⟨ha2,hane⟩
   · rcases putNm_mem hbb with rfl | ⟨hbm,hbne⟩
     · exact hab rfl
     · rcases hh k hka with e | e
       · exact h.hol n hm b hbm (by rw [← hb];exact hab) k e hkb
       · have:=old b hbm k hkb
         omega
   · rcases putNm_mem hbb with rfl | ⟨hbm,hbne⟩
     · rcases hh k hkb with e | e
       · exact h.hol a ha2 n hm (by rw [← hb];exact hane) k hka e
       · have:=old a ha2 k hka
         omega
     · exact h.hol a ha2 b hbm hab k hka hkb
end
theorem Only.drewsT {L:List Nat}{a w:World}(h:Only L a w)(n:Nat):Only L a (w.drewN n):=⟨h.os,h.tape,h.output,h.size,h.block⟩
def isB (N G:Int)(x:Dn):Bool:=(x.i:Int)==N&&(x.c:Int)==G
theorem isB_iff {N G:Int}{x:Dn}:isB N G x=true↔(x.i:Int)=N∧(x.c:Int)=G:=by simp [isB]
theorem atZ_some {D:Dt}{N G:Int}{x:Dn}(h:D.atZ N G=some x):x∈D.L∧(x.i:Int)=N∧(x.c:Int)=G:=by
 have h1:=List.find?_some h;exact ⟨List.mem_of_find?_eq_some h,isB_iff.1 h1⟩
theorem atZ_none {D:Dt}{N G:Int}(h:D.atZ N G=none):∀ x∈D.L,isB N G x=false:=fun x hx=>by
 have:=List.find?_eq_none.1 h x hx
 simpa [isB] using this
theorem atZ_of {D:Dt}(hn:(D.L.map (·.i)).Nodup){N G:Int}{x:Dn}(hx:x∈D.L)(h:isB N G x=true):D.atZ N G=some x:=by
 cases e:D.atZ N G with
 | none=>rw [atZ_none e x hx] at h;cases h
 | some y =>
  obtain ⟨h1,h2,_⟩:=atZ_some e;have h3:=(isB_iff.1 h).1;rw [same_no hn h1 hx (by omega)]
theorem atZ_no {D:Dt}{N G:Int}(h:∀ x∈D.L,isB N G x=false):D.atZ N G=none:=by
 cases e:D.atZ N G with
 | none=>rfl
 | some y =>
  obtain ⟨h1,h2⟩:=atZ_some e;have:=h y h1;rw [isB_iff.2 h2] at this
  cases this
def AtR (ns:List Nm)(D:Dt)(N G:Int)(e:Ending):Prop :=
 (∃ n∈ns,D.atZ N G=some n.x∧(n.x.i:Int)=N∧(n.x.c:Int)=G∧e = .returned (zP n.b))∨(D.atZ N G=none∧e = .returned (.pointer none))
theorem dat_any (w:World)(base m:Nat)(lv tv:Value)(ns:List Nm)(D:Dt)(N G:Int)(h:DtM w base m lv tv ns D)(hn:(D.L.map (·.i)).Nodup)(hl:ns.length≤1000):
  zK 48 #[zP m,zG N G] w fun e w'=>AtR ns D N G e∧zQ w w':=by
 have HD:Hid (∀ n∈ns,n.x∈D.L):=fun n hn=>h.inL hn
 have HDN:Hid ((∀ n∈ns,isB N G n.x=false)→D.atZ N G=none):=fun hh=>atZ_no (fun x hx=>by
  obtain ⟨n,h1,rfl⟩:=h.mem hx
  exact hh n h1)
 have HND:Hid ((D.L.map (·.i)).Nodup):=hn;have HO1:Hid (zQ w (w.alloc (zH N G))):=(Only.refl [] w).alloc _;have HB:Hid ((w.alloc (zH N G)).cell? (zA w.heap.size 0)=some (zI N)∧(w.alloc (zH N G)).cell? (zA w.heap.size 1)=some (zI G)):=⟨cell_of_row _ _ 0 _ _ _ (zh w _),cell_of_row _ _ 1 _ _ _ (zh w _)⟩;obtain ⟨ad,cap,rfl,hf⟩:=h.form
 have HF:Hid (∀ W,zQ w W→W.cell? (zA m 1)=some (.slice ad ns.length cap)∧∀ j n,ns[j]?=some n→∃ g,ad=some ⟨g,0,none⟩∧W.cell? ⟨g,j,none⟩=some (zP n.b)∧W.cell? (zA n.b 0)=some (zI n.x.i)∧W.cell? (zA n.b 1)=some (zI n.x.c)):=fun W ho=>by
  have hW:=h.only ho;refine ⟨hW.c1,fun j n hn=>?_⟩;obtain ⟨g,h1,h2⟩:=hf j n hn;have hN:=(hW.each n (List.mem_of_getElem? hn)).2;exact ⟨g,h1,(ho.cell (p:=⟨g,j,none⟩) (zv h2) (by simp)).trans h2,hN.c0,hN.c1⟩
 obtain ⟨k,hk⟩:∃ k,ns.length=k:=⟨_,rfl⟩;have HN:Hid (ns.length=k):=hk;rw [hk] at hl HF;clear h hf hn hk
 go_enter Tryz.func48,Tryz.ntmps48
 go_wp2
 generalize w.alloc (zH N G)=w1 at HO1 HB ⊢;generalize w.heap.size=b at HB ⊢
 go_loopw [5] (fun i wr=>∃ j:Nat,i=zI j∧j≤k∧(∀ n∈ns.take j,isB N G n.x=false)∧zQ w1 wr) (fun i _=>k - (intOf i).toNat)
 case atStart=>exact ⟨0,rfl,Nat.zero_le _,fun n hn=>by simp at hn,Only.refl _ _⟩
 case round =>
  obtain ⟨j,rfl,hj,hall,ho⟩:=hrel;have HJ:Hid (∀ n∈ns.take j,isB N G n.x=false):=hall;have HO:Hid (zQ w1 wr):=ho;have HW:Hid (zQ w wr):=zo HO1.out ho;obtain ⟨c1,hce⟩:=HF.out wr HW.out;have b0:=(ho.cell (p:=⟨b,0,none⟩) (zv HB.out.1) (by simp)).trans HB.out.1;have b1:=(ho.cell (p:=⟨b,1,none⟩) (zv HB.out.2) (by simp)).trans HB.out.2;clear hall ho
  by_cases hlt:j < k
  · obtain ⟨n,hx⟩:∃ n,ns[j]?=some n:=⟨_,List.getElem?_eq_getElem (by rw [HN.out];exact hlt)⟩
    obtain ⟨g,rfl,d0,d1,d2⟩:=hce j n hx;have HX:Hid (ns[j]?=some n):=hx
    have hji:(j:Int) < k:=by omega
    have HNX:Hid (isB N G n.x=false→∀ q∈ns.take (j+1),isB N G q.x=false):=fun hp q hq=>by
      rw [List.take_add_one,HX.out] at hq;rcases List.mem_append.1 hq with h1 | h1
      · exact HJ.out q h1
      · simp at h1
        rw [h1];exact hp
    clear hce hx
    by_cases hN:(n.x.i:Int)=N
    · by_cases hG:(n.x.c:Int)=G
      · have HP:Hid (isB N G n.x=true):=isB_iff.2 ⟨hN,hG⟩
        have HQ:Hid ((n.x.i:Int)=N∧(n.x.c:Int)=G):=⟨hN,hG⟩;rw [hN] at d1;rw [hG] at d2;clear hN hG
        go_wp2
        go_big_quiet (fail)
        go_wp2
        go_ret
        exact ⟨Or.inl ⟨n,List.mem_of_getElem? HX.out,atZ_of HND.out (HD.out n (List.mem_of_getElem? HX.out)) HP.out,HQ.out.1,HQ.out.2,rfl⟩,HW.out.drewsT _⟩
      · have HP:Hid (isB N G n.x=false):=by
         show _=_;rw [Bool.eq_false_iff];exact fun e=>hG (isB_iff.1 e).2
        have dG:((n.x.c:Int)==G)=false:=zb hG;rw [hN] at d1;clear hN hG
        go_wp2
        go_big_quiet (fail)
        go_wp2
        go_roundw
        case rel=>exact ⟨j+1,by go_num,by omega,HNX.out HP.out,HO.out.drewsT _⟩
        case measure=>simp [intOf];omega
    · have HP:Hid (isB N G n.x=false):=by
        show _=_;rw [Bool.eq_false_iff];exact fun e=>hN (isB_iff.1 e).1
      have dN:((n.x.i:Int)==N)=false:=zb hN;clear hN
      go_wp2
      go_big_quiet (fail)
      go_wp2
      go_roundw
      case rel=>exact ⟨j+1,by go_num,by omega,HNX.out HP.out,HO.out.drewsT _⟩
      case measure=>simp [intOf];omega
  · obtain rfl:k=j:=by omega
    have HE:Hid (D.atZ N G=none):=HDN.out (by
      have:=HJ.out;rw [← HN.out,List.take_length] at this
      exact this)
    clear hce
    go_wp2
    go_ret
    exact ⟨Or.inr ⟨HE.out,rfl⟩,HW.out⟩
def dirN (D:Dt)(N G:Int):Nat:=match D.atZ N G with
 | none=>10
 | some x=>if x.K=2 then 0 else 7
def fileN (D:Dt)(N G:Int):Nat:=match D.atZ N G with
 | none=>10
 | some x=>if x.K=1 then 0 else 8
theorem ddirE_any (w:World)(base m:Nat)(lv tv:Value)(ns:List Nm)(D:Dt)(N G:Int)(h:DtM w base m lv tv ns D)(hn:(D.L.map (·.i)).Nodup)(hl:ns.length≤1000):
   zO 46 #[zP m,zG N G] w (zI (dirN D N G:Nat)):=by
 have o1:zQ w (w.alloc (zH N G)):=(Only.refl [] w).alloc _;have hat:=dat_any _ base m lv tv ns D N G (h.only o1) hn hl;have HO1:Hid (zQ w (w.alloc (zH N G))):=o1;have HK:Hid (∀ W n,zQ w W→n∈ns→W.cell? (zA n.b 2)=some (zI n.x.K)):=fun W n ho hn=>((h.only ho).each n hn).2.c2;clear h hn o1
 go_enter Tryz.func46,Tryz.ntmps46
 go_wp2_with fail
 refine hat.mono ?_;rintro e w2 ⟨⟨n,hn,hz,h1,h2,rfl⟩ | ⟨hz,rfl⟩,ho2⟩
 · have HO:Hid (zQ w w2):=zo HO1.out ho2
   have c2:=HK.out w2 n HO.out hn
   have HE:Hid (dirN D N G=if n.x.K=2 then 0 else 7):=by show _=_;unfold dirN;rw [hz]
   clear hat ho2 hz h1 h2
   by_cases hK:n.x.K=2
   · rw [hK] at c2
     rw [if_pos hK] at HE;clear hK
     go_wp2
     go_ret
     exact ⟨by rw [HE.out];rfl,HO.out⟩
   · have dK:(n.x.K != 2)=true:=by simpa using hK
     rw [if_neg hK] at HE;clear hK
     go_wp2
     go_ret
     exact ⟨by rw [HE.out];rfl,HO.out⟩
 · have HO:Hid (zQ w w2):=zo HO1.out ho2
   have HE:Hid (dirN D N G=10):=by show _=_;unfold dirN;rw [hz]
   clear hat ho2 hz
   go_wp2
   go_ret
   exact ⟨by rw [HE.out];rfl,HO.out⟩
theorem dfileE_any (w:World)(base m:Nat)(lv tv:Value)(ns:List Nm)(D:Dt)(N G:Int)(h:DtM w base m lv tv ns D)(hn:(D.L.map (·.i)).Nodup)(hl:ns.length≤1000):
   zO 70 #[zP m,zG N G] w (zI (fileN D N G:Nat)):=by
 have o1:zQ w (w.alloc (zH N G)):=(Only.refl [] w).alloc _;have hat:=dat_any _ base m lv tv ns D N G (h.only o1) hn hl;have HO1:Hid (zQ w (w.alloc (zH N G))):=o1;have HK:Hid (∀ W n,zQ w W→n∈ns→W.cell? (zA n.b 2)=some (zI n.x.K)):=fun W n ho hn=>((h.only ho).each n hn).2.c2;clear h hn o1
 go_enter Tryz.func70,Tryz.ntmps70
 go_wp2_with fail
 refine hat.mono ?_;rintro e w2 ⟨⟨n,hn,hz,h1,h2,rfl⟩ | ⟨hz,rfl⟩,ho2⟩
 · have HO:Hid (zQ w w2):=zo HO1.out ho2
   have c2:=HK.out w2 n HO.out hn
   have HE:Hid (fileN D N G=if n.x.K=1 then 0 else 8):=by show _=_;unfold fileN;rw [hz]
   clear hat ho2 hz h1 h2
   by_cases hK:n.x.K=1
   · rw [hK] at c2
     rw [if_pos hK] at HE;clear hK
     go_wp2
     go_ret
     exact ⟨by rw [HE.out];rfl,HO.out⟩
   · have dK:(n.x.K != 1)=true:=by simpa using hK
     rw [if_neg hK] at HE;clear hK
     go_wp2
     go_ret
     exact ⟨by rw [HE.out];rfl,HO.out⟩
 · have HO:Hid (zQ w w2):=zo HO1.out ho2
   have HE:Hid (fileN D N G=10):=by show _=_;unfold fileN;rw [hz]
   clear hat ho2 hz
   go_wp2
   go_ret
   exact ⟨by rw [HE.out];rfl,HO.out⟩
def FndR (l:List Ent)(s:ByteArray)(e:Ending):Prop :=
 (∃ (k:Nat) (x:Ent),l[k]?=some x∧findE l s.data.toList=some x∧e = .returned (zI k))∨(findE l s.data.toList=none∧e = .returned (zI (-1)))
theorem findE_take {l:List Ent}{s:List UInt8}{j:Nat}{x:Ent}(h:∀ e∈l.take j,e.s≠s)(hx:l[j]?=some x)(he:x.s=s):findE l s=some x:=by
 have hd:l=l.take j++x::l.drop (j+1):=by
  have hlt:=(List.getElem?_eq_some_iff.1 hx).1;have hg:=(List.getElem?_eq_some_iff.1 hx).2;rw [← hg,List.getElem_cons_drop,List.take_append_drop]
 unfold findE;rw [hd,List.find?_append,List.find?_eq_none.2 (fun e he=>by simpa using h e he)];simp [he]
theorem findE_no {l:List Ent}{s:List UInt8}(h:∀ e∈l,e.s≠s):findE l s=none:=List.find?_eq_none.2 (fun e he=>by simpa using h e he)
theorem dfind_any (w:World)(n:Nm)(s:ByteArray)(h:NmAt w n)(hl:n.x.es.length≤1000):
  zK 49 #[zP n.b,.string s] w fun e w'=>FndR n.x.es s e∧w=w':=by
 have c6:=h.c6;obtain ⟨ad,cap,hev,hf⟩:=h.form;rw [hev] at c6;have HF:Hid (∀ j e,n.x.es[j]?=some e→∃ g,ad=some ⟨g,0,none⟩∧g < w.heap.size∧w.cell? ⟨g,j*3,none⟩=some (.string (bs e.s))∧w.cell? ⟨g,j*3+1,none⟩=some (zI e.i)∧w.cell? ⟨g,j*3+2,none⟩=some (zI e.c)):=hf;obtain ⟨k,hk⟩:∃ k,n.x.es.length=k:=⟨_,rfl⟩;have HN:Hid (n.x.es.length=k):=hk;rw [hk] at c6 hl;generalize n.x.es=l at HF HN ⊢;generalize n.b=b at c6 ⊢;clear hf hk h hev
 go_enter Tryz.func49,Tryz.ntmps49
 go_wp2
 go_loop [5] (fun i=>∃ j:Nat,i=zI j∧j≤k∧∀ x∈l.take j,x.s≠s.data.toList) (fun i=>k - (intOf i).toNat)
 case atStart=>exact ⟨0,rfl,Nat.zero_le _,fun x hx=>by simp at hx⟩
 case round =>
  obtain ⟨j,rfl,hj,hno⟩:=hrel;have HNO:Hid (∀ x∈l.take j,x.s≠s.data.toList):=hno;clear hno
  by_cases hlt:j < k
  · obtain ⟨x,hx⟩:∃ x,l[j]?=some x:=⟨l[j]'(by have:=HN.out;omega),List.getElem?_eq_getElem _⟩
    obtain ⟨g,rfl,_,q0,_,_⟩:=HF.out j x hx;have HX:Hid (l[j]?=some x):=hx;clear hx
    by_cases he:x.s=s.data.toList
    · have hq:((bs x.s).toList==s.toList)=true:=by rw [Lib.toList_data,Lib.toList_data,he];simp [bs]
      have HM:Hid (findE l s.data.toList=some x):=findE_take HNO.out HX.out he;clear he
      go_wp2
      go_ret
      exact ⟨Or.inl ⟨j,x,HX.out,HM.out,rfl⟩,rfl⟩
    · have hq:((bs x.s).toList==s.toList)=false:=by rw [Lib.toList_data,Lib.toList_data,beq_eq_false_iff_ne];simpa [bs] using he
      have HM:Hid (∀ y∈l.take (j+1),y.s≠s.data.toList):=fun y hy=>by
       rw [List.take_add_one,HX.out] at hy;rcases List.mem_append.1 hy with e | e
       · exact HNO.out y e
       · simp at e
         rw [e];exact he
      clear he
      go_wp2
      go_round
      case rel=>exact ⟨j+1,by go_num,by omega,HM.out⟩
      case measure=>simp [intOf];omega
  · obtain rfl:j=k:=by omega
    have HD:Hid (findE l s.data.toList=none):=findE_no (by
      have:=HNO.out;rw [← HN.out,List.take_length] at this
      exact this)
    go_wp2
    go_ret
    exact ⟨Or.inr ⟨HD.out,rfl⟩,rfl⟩
theorem atZ_nat (D:Dt)(i c:Nat):D.atZ (i:Int) (c:Int)=D.at i c:=by
 unfold Dt.atZ Dt.at;congr 1;funext x;unfold Dn.is;rw [Bool.eq_iff_iff];simp only [Bool.and_eq_true,beq_iff_eq];omega
structure Lies (w:World)(m:Nat)(ad:Option Addr)(cap:Nat)(ns:List Nm):Prop where
 c1:w.cell? (zA m 1)=some (.slice ad ns.length cap)
 row:∀ j n,ns[j]?=some n→∃ g,ad=some ⟨g,0,none⟩∧w.cell? ⟨g,j,none⟩=some (zP n.b)
 has:∀ n∈ns,NmAt w n
theorem DtM.lies {w:World}{base m:Nat}{lv tv:Value}{ns:List Nm}{D:Dt}(h:DtM w base m lv tv ns D):∃ ad cap,lv = .slice ad ns.length cap∧∀ W,zQ w W→Lies W m ad cap ns:=by
 obtain ⟨ad,cap,e,hf⟩:=h.form;refine ⟨ad,cap,e,fun W ho=>?_⟩;have hW:=h.only ho;refine ⟨by rw [hW.c1,e],fun j n hn=>?_,fun n hn=>(hW.each n hn).2⟩;obtain ⟨g,h1,h2⟩:=hf j n hn;exact ⟨g,h1,(ho.cell (p:=⟨g,j,none⟩) (zv h2) (by simp)).trans h2⟩
theorem filt_take {α:Type}{l:List α}{p:α→Bool}{j:Nat}{x:α}(h:l[j]?=some x):(l.take (j+1)).filter p=if p x then (l.take j).filter p++[x] else (l.take j).filter p:=by
 rw [List.take_add_one,h,List.filter_append];show _++List.filter p [x]=_
 by_cases e:p x=true
 · rw [if_pos e];simp [e]
 · rw [if_neg e];simp [e]
theorem cntL_take {L:List Dn}{q:Ent→Bool}{j:Nat}{x:Dn}(h:L[j]?=some x):cntL q (L.take (j+1))=cntL q (L.take j)+(x.es.filter q).length:=by
 rw [List.take_add_one,h,cntL_append];simp [cntL]
theorem dlinks_dir (w:World)(base m:Nat)(lv tv:Value)(ns:List Nm)(D:Dt)(n:Nm)(h:DtM w base m lv tv ns D)(hn:(D.L.map (·.i)).Nodup)(hl:ns.length≤1000)(hm:n∈ns)(hK:n.x.K=2)(he:n.x.es.length≤1000)(hv:∀ e∈n.x.es,∃ y∈D.L,y.i=e.i∧y.c=e.c):
  zO 60 #[zP m,zP n.b] w (zI ((2+(n.x.es.filter D.dirE).length:Nat):Int)):=by
 have HAT:Hid (∀ W N G,zQ w W→zK 48 #[zP m,zG N G] W fun e w'=>AtR ns D N G e∧zQ W w'):=fun W N G ho=>dat_any W base m lv tv ns D N G (h.only ho) hn hl;have HK:Hid (∀ W a,zQ w W→a∈ns→NmAt W a):=fun W a ho ha=>((h.only ho).each a ha).2;have HV:Hid (∀ e∈n.x.es,∃ y∈D.L,y.i=e.i∧y.c=e.c):=hv;have HND:Hid ((D.L.map (·.i)).Nodup):=hn;have HM:Hid (n∈ns):=hm;have c2:=((h.each n hm).2).c2;rw [hK] at c2;obtain ⟨k,hk⟩:∃ k,n.x.es.length=k:=⟨_,rfl⟩;have HN:Hid (n.x.es.length=k):=hk;rw [hk] at he;clear h hn hm hK hv hk hl
 go_enter Tryz.func60,Tryz.ntmps60
 go_wp2
 clear c2
 go_loopw [5,6] (fun mv i wr=>∃ j:Nat,i=zI j∧j≤k∧mv=zI ((2+((n.x.es.take j).filter D.dirE).length:Nat):Int)∧zQ w wr) (fun _ i _=>k - (intOf i).toNat)
 case atStart=>exact ⟨0,rfl,Nat.zero_le _,rfl,Only.refl _ _⟩
 case round =>
  obtain ⟨j,rfl,hj,rfl,ho⟩:=hrel;have HO:Hid (zQ w wr):=ho;have hA:=HK.out wr n ho HM.out;have c6:=hA.c6;obtain ⟨ad,cap,hev,hf⟩:=hA.form;rw [hev,HN.out] at c6
  by_cases hlt:j < k
  · obtain ⟨e,hx⟩:∃ e,n.x.es[j]?=some e:=⟨_,List.getElem?_eq_getElem (by rw [HN.out];exact hlt)⟩
    obtain ⟨g,rfl,_,q0,q1,q2⟩:=hf j e hx;have hat:=HAT.out wr (e.i:Int) (e.c:Int) ho;have HT:=filt_take (p:=D.dirE) hx;have HTK:Hid ((n.x.es.take (j+1)).filter D.dirE=if D.dirE e then (n.x.es.take j).filter D.dirE++[e] else (n.x.es.take j).filter D.dirE):=HT
    have hcl:((n.x.es.take j).filter D.dirE).length≤j:=by
      have h1:=List.length_filter_le D.dirE (n.x.es.take j);have h2:=List.length_take_le j n.x.es;omega
    obtain ⟨y,hy,hyi,hyc⟩:=HV.out e (List.mem_of_getElem? hx);have HY:Hid (D.atZ (e.i:Int) (e.c:Int)=some y):=atZ_of HND.out hy (isB_iff.2 ⟨by omega,by omega⟩);generalize hfl:((n.x.es.take j).filter D.dirE).length=fl at hcl ⊢;have HFL:Hid (((n.x.es.take j).filter D.dirE).length=fl):=hfl;clear ho hA hf HT hx hy hyi hyc hfl
    go_wp2_with fail
    refine hat.mono ?_;rintro e2 w2 ⟨⟨a,ha,hz,h1,h2,rfl⟩ | ⟨hz,rfl⟩,ho2⟩
    · have HO2:Hid (zQ w w2):=zo HO.out ho2
      have d2:=(HK.out w2 a HO2.out ha).c2
      have hax:a.x=y:=by
        have:=HY.out;rw [hz] at this;exact Option.some.inj this
      have HDE:Hid (D.dirE e=(a.x.K==2)):=by
        show _=_;unfold Dt.dirE;rw [← atZ_nat,hz]
      clear hat ho2 hz h1 h2 hax
      by_cases hK:a.x.K=2
      · have HR:Hid (((n.x.es.take (j+1)).filter D.dirE).length=fl+1):=by
         show _=_;rw [HTK.out,HDE.out,hK];simp [HFL.out]
        rw [hK] at d2;clear hK
        go_wp2
        go_roundw
        case rel=>exact ⟨j+1,by go_num,by omega,by rw [HR.out];go_num,HO2.out⟩
        case measure=>simp [intOf];omega
      · have HR:Hid (((n.x.es.take (j+1)).filter D.dirE).length=fl):=by
         show _=_;have:(a.x.K==2)=false:=zb hK;rw [HTK.out,HDE.out,this];simp [HFL.out]
        have dK:(a.x.K==2)=false:=zb hK;clear hK
        go_wp2
        go_roundw
        case rel=>exact ⟨j+1,by go_num,by omega,by rw [HR.out];go_num,HO2.out⟩
        case measure=>simp [intOf];omega
    · exfalso
      rw [HY.out] at hz
      cases hz
  · obtain rfl:k=j:=by omega
    have HR:Hid ((n.x.es.take k).filter D.dirE=n.x.es.filter D.dirE):=by
      show _=_;rw [← HN.out,List.take_length]
    clear hf ho hA
    go_wp2
    go_ret
    exact ⟨by rw [HR.out];rfl,HO.out⟩
theorem dlinks_file (w:World)(base m:Nat)(lv tv:Value)(ns:List Nm)(D:Dt)(n:Nm)(h:DtM w base m lv tv ns D)(hl:ns.length≤1000)(hm:n∈ns)(hK:n.x.K≠2)(he:∀ a∈ns,a.x.es.length≤1000):
  zO 60 #[zP m,zP n.b] w (zI (D.cnt n.x.i n.x.c:Nat)):=by
 obtain ⟨ad,cap,rfl,hlies⟩:=h.lies;have HL:Hid (∀ W,zQ w W→Lies W m ad cap ns):=hlies;have HM:Hid (n∈ns):=hm;have HE:Hid (∀ a∈ns,a.x.es.length≤1000):=he;have HD:Hid (D.L=ns.map (·.x)):=h.nodes;have c2:=((h.each n hm).2).c2;have dK:(n.x.K==2)=false:=zb hK;obtain ⟨k,hk⟩:∃ k,ns.length=k:=⟨_,rfl⟩;have HN:Hid (ns.length=k):=hk;rw [hk] at hl;clear h hm hK he hk hlies;have HTK:Hid (∀ j a,ns[j]?=some a→cntL (·.to n.x.i n.x.c) ((ns.map (·.x)).take (j+1))=cntL (·.to n.x.i n.x.c) ((ns.map (·.x)).take j)+(a.x.es.filter (·.to n.x.i n.x.c)).length):=fun j a ha=>cntL_take (by rw [List.getElem?_map,ha];rfl)
 go_enter Tryz.func60,Tryz.ntmps60
 go_wp2
 clear c2 dK
 go_loopw [7,8] (fun mv i wr=>∃ j c:Nat,i=zI j∧j≤k∧mv=zI c∧c=cntL (·.to n.x.i n.x.c) ((ns.map (·.x)).take j)∧c≤j*1000∧zQ w wr) (fun _ i _=>k - (intOf i).toNat)
 case atStart=>exact ⟨0,0,rfl,Nat.zero_le _,rfl,by simp [cntL],by omega,Only.refl _ _⟩
 case round =>
  obtain ⟨j,c,rfl,hj,rfl,hc,hcb,ho⟩:=hrel;have HC:Hid (c=cntL (·.to n.x.i n.x.c) ((ns.map (·.x)).take j)):=hc;have HO:Hid (zQ w wr):=ho;have hW:=HL.out wr ho;have c1:=hW.c1;rw [HN.out] at c1;clear hc
  by_cases hlt:j < k
  · obtain ⟨a,hx⟩:∃ a,ns[j]?=some a:=⟨_,List.getElem?_eq_getElem (by rw [HN.out];exact hlt)⟩
    have HX:Hid (ns[j]?=some a):=hx;obtain ⟨r,hr⟩:∃ r,a.x.es.length=r:=⟨_,rfl⟩;have HRN:Hid (a.x.es.length=r):=hr
    have hrb:r≤1000:=by rw [← hr];exact HE.out a (List.mem_of_getElem? hx)
    clear ho hW hx hr
    go_wp2
    go_loopw [7,9] (fun mv q wq=>∃ p c2:Nat,q=zI p∧p≤r∧mv=zI c2∧c2=c+((a.x.es.take p).filter (·.to n.x.i n.x.c)).length∧c2≤c+p∧zQ w wq) (fun _ q _=>r - (intOf q).toNat)
    case atStart=>exact ⟨0,c,rfl,Nat.zero_le _,rfl,by simp,by omega,HO.out⟩
    case round =>
     clear c1;obtain ⟨p,c2,rfl,hp,rfl,hc2,hc2b,ho⟩:=hrel;have HC2:Hid (c2=c+((a.x.es.take p).filter (·.to n.x.i n.x.c)).length):=hc2;have HO2:Hid (zQ w wr):=ho;have hW:=HL.out wr ho;have c1:=hW.c1;rw [HN.out] at c1;obtain ⟨g,rfl,r0⟩:=hW.row j a HX.out;have hA:=hW.has a (List.mem_of_getElem? HX.out);have c6:=hA.c6;obtain ⟨ad2,cap2,hev,hf⟩:=hA.form;rw [hev,HRN.out] at c6;have n0:=(hW.has n HM.out).c0;have n1:=(hW.has n HM.out).c1;clear hc2 ho hW hA hev
     by_cases hlt2:p < r
     · obtain ⟨e,hxe⟩:∃ e,a.x.es[p]?=some e:=⟨_,List.getElem?_eq_getElem (by rw [HRN.out];exact hlt2)⟩
       obtain ⟨g2,rfl,_,q0,q1,q2⟩:=hf p e hxe;have HTE:Hid ((a.x.es.take (p+1)).filter (·.to n.x.i n.x.c)=if e.to n.x.i n.x.c then (a.x.es.take p).filter (·.to n.x.i n.x.c)++[e] else (a.x.es.take p).filter (·.to n.x.i n.x.c)):=filt_take (p:=fun y:Ent=>y.to n.x.i n.x.c) hxe;clear hf hxe
       by_cases hi:e.i=n.x.i
       · by_cases hcc:e.c=n.x.c
         · have HR:Hid (c2+1=c+((a.x.es.take (p+1)).filter (·.to n.x.i n.x.c)).length):=by
            show _=_;rw [HTE.out,if_pos (to_iff.2 ⟨hi,hcc⟩),List.length_append,HC2.out];rfl
           rw [hi] at q1;rw [hcc] at q2;clear hi hcc
           go_wp2
           go_big_quiet (fail)
           go_wp2
           go_roundw
           case rel=>exact ⟨p+1,c2+1,by go_num,by omega,by go_num,HR.out,by omega,HO2.out.drewsT _⟩
           case measure=>simp [intOf];omega
         · have HR:Hid (c2=c+((a.x.es.take (p+1)).filter (·.to n.x.i n.x.c)).length):=by
            show _=_;rw [HTE.out,if_neg (fun e2=>hcc (to_iff.1 e2).2)];exact HC2.out
           have db:((e.c:Int)==(n.x.c:Int))=false:=zb (by omega);rw [hi] at q1;clear hi hcc
           go_wp2
           go_big_quiet (fail)
           go_wp2
           go_roundw
           case rel=>exact ⟨p+1,c2,by go_num,by omega,rfl,HR.out,by omega,HO2.out.drewsT _⟩
           case measure=>simp [intOf];omega
       · have HR:Hid (c2=c+((a.x.es.take (p+1)).filter (·.to n.x.i n.x.c)).length):=by
           show _=_;rw [HTE.out,if_neg (fun e2=>hi (to_iff.1 e2).1)];exact HC2.out
         have db:((e.i:Int)==(n.x.i:Int))=false:=zb (by omega);clear hi
         go_wp2
         go_big_quiet (fail)
         go_wp2
         go_roundw
         case rel=>exact ⟨p+1,c2,by go_num,by omega,rfl,HR.out,by omega,HO2.out.drewsT _⟩
         case measure=>simp [intOf];omega
     · obtain rfl:r=p:=by omega
       have HR:Hid (c2=cntL (·.to n.x.i n.x.c) ((ns.map (·.x)).take (j+1))):=by
         show _=_;rw [HTK.out j a HX.out,← HC.out,HC2.out,← HRN.out,List.take_length]
       clear hf
       go_wp2
       go_roundw
       case rel=>exact ⟨j+1,c2,by go_num,by omega,rfl,HR.out,by omega,HO2.out⟩
       case measure=>simp [intOf];omega
  · obtain rfl:k=j:=by omega
    have HR:Hid (c=D.cnt n.x.i n.x.c):=by
     show _=_;rw [HC.out,← HN.out];unfold Dt.cnt;rw [HD.out,show ns.length=(ns.map (·.x)).length by rw [List.length_map],List.take_length]
    clear ho hW
    go_wp2
    go_ret
    exact ⟨by rw [← HR.out];rfl,HO.out⟩
theorem dlinks_any (w:World)(base m:Nat)(lv tv:Value)(ns:List Nm)(D:Dt)(n:Nm)(h:DtM w base m lv tv ns D)(hI:(D.L.map (·.i)).Nodup)(hl:ns.length≤1000)(hm:n∈ns)(he:∀ x∈D.L,x.es.length≤1000)(hv:n.x.K=2→∀ e∈n.x.es,∃ y∈D.L,y.i=e.i∧y.c=e.c):
   zO 60 #[zP m,zP n.b] w (zI (D.links n.x:Nat)):=by
 unfold Dt.links
 by_cases hK:n.x.K=2
 · rw [if_pos hK]
   exact dlinks_dir w base m lv tv ns D n h hI hl hm hK (he _ (h.inL hm)) (hv hK)
 · rw [if_neg hK]
   exact dlinks_file w base m lv tv ns D n h hl hm hK (fun a ha=>he _ (h.inL ha))
end
end Go.Proofs.YtkcabopgajlmdaaGreatDoor
