import Derived.Test.YtooblpbmcnmicaaGreatDoorK3
import Derived.Carry
set_option maxRecDepth 100000
set_option maxHeartbeats 8000000
namespace Go.Proofs.YtooblpbmcnmicaaGreatDoor
section
open Go Go.RowKit Go.Deep Go.Maps
structure DirM where
 b:Nat
 l:List Ent
structure Tr where
 t:Nat
 p:Row
 most:Nat
 g:Nat→Nat
 nd:Nat→Option Nod
 db:Nat
 ds:Nat→Option DirM
 pb:Nat
 pn:Nat→Nat
def Tr.dirsF (T:Tr)(k:Nat×Nat):Option Nat:=if k.2=T.g k.1 then (T.ds k.1).map (·.b) else none
def Tr.pinsF (T:Tr)(k:Nat×Nat):Option Nat:=if k.2=T.g k.1∧0 < T.pn k.1 then some (T.pn k.1) else none
def numD (n:Nat):DataW Unit := .lit (.int .i64 n)
def DirsAt (w:World)(T:Tr):Prop:=∃ D n,w.ownsMap Tryz.prog 32 mapElem T.db n D∧n≤1000000∧Reads hkey numD D T.dirsF
def PinsAt (w:World)(T:Tr):Prop:=∃ D n,w.ownsMap Tryz.prog 32 (plainElem Tryz.prog 3) T.pb n D∧n≤1000000∧Reads hkey numD D T.pinsF
def DirAt (w:World)(d:DirM):Prop:=w.ownsMap Tryz.prog 9 handElem d.b d.l.length (entD d.l)
structure Small (T:Tr):Prop where
 N:T.p.N≤1000
 g:∀ i,T.g i≤5000000000000000000
structure TreeAt (w:World)(tr:Nat)(T:Tr):Prop where
 c0:w.cell? (zA tr 0)=some (zP T.t)
 c1:w.cell? (zA tr 1)=some (.map (some T.db))
 c2:w.cell? (zA tr 2)=some (.map (some T.pb))
 tab:TabAt w T.t T.p T.most T.g T.nd
 dirs:DirsAt w T
 dir:∀ i d,T.ds i=some d→DirAt w d
 pins:PinsAt w T
 one:∀ i j d d',T.ds i=some d→T.ds j=some d'→d.b=d'.b→i=j
 small:Small T
 ftr:¬ InFoot T.t T.p T.most T.nd tr
 fdb:¬ InFoot T.t T.p T.most T.nd T.db
 fpb:¬ InFoot T.t T.p T.most T.nd T.pb
 fdir:∀ i d,T.ds i=some d→¬ InFoot T.t T.p T.most T.nd d.b∧d.b≠T.db∧d.b≠T.pb
 dp:T.db≠T.pb
 dlt:∀ i d,T.ds i=some d→i < T.p.N
 plt:∀ i,0 < T.pn i→i < T.p.N
def FootT (tr:Nat)(T:Tr)(k:Nat):Prop:=k=tr∨k=T.db∨k=T.pb∨(∃ i d,T.ds i=some d∧k=d.b)∨InFoot T.t T.p T.most T.nd k
section
variable {w w':World}{tr:Nat}{T:Tr}
theorem own_only {K:TypeId}{R:Value→Option (DataW Unit×List MemPlace)}{b n:Nat}{D:DataW Unit}{L:List Nat}(h:w.ownsMap Tryz.prog K R b n D)(ho:Only L w w')(hb:b∉L):w'.ownsMap Tryz.prog K R b n D:=by
 have hlt:=h.lt;obtain ⟨es,clock,h1,r⟩:=h;exact ⟨es,clock,(ho.block b hlt hb).trans h1,r⟩
theorem own_sized {K:TypeId}{R:Value→Option (DataW Unit×List MemPlace)}{b n:Nat}{D:DataW Unit}(h:w.ownsMap Tryz.prog K R b n D):w.ownsMap Tryz.prog K R b (Maps.size D) D:=by
 obtain ⟨es,clock,hb,F,_,rfl⟩:=h;exact ⟨es,clock,hb,F,by simp [Maps.size,length_sorted],rfl⟩
theorem own_ne_cell {K:TypeId}{R:Value→Option (DataW Unit×List MemPlace)}{b n g o:Nat}{D:DataW Unit}{v:Value}(h:w.ownsMap Tryz.prog K R b n D)(hc:w.cell? ⟨g,o,none⟩=some v):b≠g:=by
 obtain ⟨es,clock,hb,_⟩:=h;intro e;subst e;simp [World.cell?,hb] at hc
theorem TreeAt.foot_lt (h:TreeAt w tr T):∀ k,FootT tr T k→k < w.heap.size:=by
 rintro k (rfl | rfl | rfl | ⟨i,d,hd,rfl⟩ | hk)
 · exact zv h.c0
 · obtain ⟨D,n,h1,_⟩:=h.dirs;exact h1.lt
 · obtain ⟨D,n,h1,_⟩:=h.pins;exact h1.lt
 · exact World.ownsMap.lt (h.dir i d hd)
 · exact h.tab.foot_lt k hk
theorem TreeAt.kept {L:List Nat}(h:TreeAt w tr T)(ho:Only L w w')(hd:∀ k,FootT tr T k→k∉L):TreeAt w' tr T:=by
 have htr:tr < w.heap.size:=zv h.c0;have hl:=hd tr (Or.inl rfl);obtain ⟨D,n,d1,d2,d3⟩:=h.dirs;obtain ⟨P,m,p1,p2,p3⟩:=h.pins
 exact ⟨(ho.cell (p:=⟨tr,0,none⟩) htr hl).trans h.c0,(ho.cell (p:=⟨tr,1,none⟩) htr hl).trans h.c1,(ho.cell (p:=⟨tr,2,none⟩) htr hl).trans h.c2,
  h.tab.kept ho (fun k hk=>hd k (Or.inr (Or.inr (Or.inr (Or.inr hk))))),⟨D,n,own_only d1 ho (hd _ (Or.inr (Or.inl rfl))),d2,d3⟩,fun i d e=>own_only (h.dir i d e) ho (hd _ (Or.inr (Or.inr (Or.inr (Or.inl ⟨i,d,e,rfl⟩))))),
  ⟨P,m,own_only p1 ho (hd _ (Or.inr (Or.inr (Or.inl rfl)))),p2,p3⟩,h.one,h.small,h.ftr,h.fdb,h.fpb,h.fdir,h.dp,h.dlt,h.plt⟩
theorem TreeAt.only (h:TreeAt w tr T)(ho:zQ w w'):TreeAt w' tr T:=h.kept ho (fun _ _=>by simp)
theorem TreeAt.table {p':Row}{g':Nat→Nat}{nd':Nat→Option Nod}{L:List Nat}(h:TreeAt w tr T)(ht:TabAt w' T.t p' T.most g' nd')(ho:Only L w w')(hL:∀ k∈L,InFoot T.t T.p T.most T.nd k)
  (hf:∀ k,InFoot T.t p' T.most nd' k→InFoot T.t T.p T.most T.nd k∨w.heap.size≤k) (hs:Small { T with p:=p',g:=g',nd:=nd' }) (hN:T.p.N≤p'.N) (hd:∀ k,Tr.dirsF { T with p:=p',g:=g',nd:=nd' } k=T.dirsF k) (hp:∀ k,Tr.pinsF { T with p:=p',g:=g',nd:=nd' } k=T.pinsF k) :
  TreeAt w' tr { T with p:=p',g:=g',nd:=nd' }:=by
 have htr:tr < w.heap.size:=zv h.c0;have hl:tr∉L:=fun hm=>h.ftr (hL tr hm);obtain ⟨D,n,d1,d2,d3⟩:=h.dirs;obtain ⟨P,m,p1,p2,p3⟩:=h.pins
 have away:∀ k,k < w.heap.size→¬ InFoot T.t T.p T.most T.nd k→¬ InFoot T.t p' T.most nd' k:=fun k hk hn hm=>by
  rcases hf k hm with h1 | h1
  · exact hn h1
  · omega
 refine ⟨(ho.cell (p:=⟨tr,0,none⟩) htr hl).trans h.c0,(ho.cell (p:=⟨tr,1,none⟩) htr hl).trans h.c1,(ho.cell (p:=⟨tr,2,none⟩) htr hl).trans h.c2,ht,
  ⟨D,n,own_only d1 ho (fun hm=>h.fdb (hL _ hm)),d2,d3.congr hd⟩,fun i d e=>own_only (h.dir i d e) ho (fun hm=>(h.fdir i d e).1 (hL _ hm)),⟨P,m,own_only p1 ho (fun hm=>h.fpb (hL _ hm)),p2,p3.congr hp⟩,h.one,hs,
  away _ htr h.ftr,away _ d1.lt h.fdb,away _ p1.lt h.fpb,fun i d e=>⟨away _ (World.ownsMap.lt (h.dir i d e)) (h.fdir i d e).1,(h.fdir i d e).2⟩,h.dp,fun i d e=>Nat.lt_of_lt_of_le (h.dlt i d e) hN,fun i e=>Nat.lt_of_lt_of_le (h.plt i e) hN⟩
theorem TreeAt.node {i:Nat}{n n':Nod}(h:TreeAt w tr T)(hn:T.nd i=some n)(hb:n'.b=n.b)(hm:n'.m=n.m)(ht:TabAt w' T.t T.p T.most T.g (setN T.nd i (some n')))(ho:Only [n.b] w w'):TreeAt w' tr { T with nd:=setN T.nd i (some n') } :=
 h.table (p':=T.p) (g':=T.g) ht ho (fun k hk=>by simp at hk;subst hk;exact .node hn n.b_foot) (fun k hk=>Or.inl (by
  rcases hk with h1 | h1 | ⟨j,m,hj,hk⟩
  · exact Or.inl h1
  · exact Or.inr (Or.inl h1)
  · by_cases e:j=i
    · subst e
      rw [setN_same] at hj
      cases hj
      refine .node hn ?_;unfold Nod.foot at hk ⊢;rw [hb,hm] at hk;exact hk
    · rw [setN_other _ _ e] at hj
      exact .node hj hk)) ⟨h.small.N,h.small.g⟩ (Nat.le_refl _) (fun _=>rfl) (fun _=>rfl)
theorem hkey_inj {i c j e:Nat}(hi:i < 9223372036854775808)(hc:c < 9223372036854775808)(hj:j < 9223372036854775808)(he:e < 9223372036854775808)(h:hkey (i,c)=hkey (j,e)):i=j∧c=e:=by
 have h1:=keyOf_handle hi hc;rw [h] at h1;exact handV_inj (lawH.inj h1 (keyOf_handle hj he))
theorem hkey_only {i c:Nat}(hi:i < 9223372036854775808)(hc:c < 9223372036854775808)(j:Nat×Nat)(h:hkey j=hkey (i,c)):j=(i,c):=by
 obtain ⟨j1,j2⟩:=j
 by_cases hj:j1 < 9223372036854775808∧j2 < 9223372036854775808
 · obtain ⟨rfl,rfl⟩:=hkey_inj hj.1 hj.2 hi hc h
   rfl
 · unfold hkey at h
   rw [if_neg hj,if_pos ⟨hi,hc⟩] at h
   cases h
theorem reads_size {val:Nat→DataW Unit}{D:DataW Unit}{f:Nat×Nat→Option Nat}{g:Nat→Nat}{N:Nat}(ht:Tidy D)(hK:∀ es,D = .map es→∀ p∈es,WideAt.IsKeyLit p.1)(hr:Reads hkey val D f)(hk:∀ i c,f (i,c)≠none→c=g i∧i < N)(hN:N≤1000)(hg:∀ i,g i≤5000000000000000000):Maps.size D≤N:=by
 obtain ⟨es,rfl,hp⟩:=ht
 have n1:(es.map Prod.fst).Nodup:=by
  unfold List.Nodup;rw [List.pairwise_map];exact hp
 have n2:(((List.range N).filter (fun i=>(f (i,g i)).isSome)).map (fun i=>hkey (i,g i))).Nodup:=by
  unfold List.Nodup;rw [List.pairwise_map];refine (List.Pairwise.filter _ (List.nodup_range (n:=N))).imp_of_mem fun {i j} hi hj hne e=>?_;have h1:=List.mem_range.1 (List.mem_filter.1 hi).1;have h2:=List.mem_range.1 (List.mem_filter.1 hj).1;have h3:=hg i;have h4:=hg j;exact hne (hkey_inj (by omega) (by omega) (by omega) (by omega) e).1
 have hm:(es.map Prod.fst).Perm (((List.range N).filter (fun i=>(f (i,g i)).isSome)).map (fun i=>hkey (i,g i))):=by
  rw [List.perm_ext_iff_of_nodup n1 n2];intro kl
  constructor
  · intro hkl
    obtain ⟨p,hp1,rfl⟩:=List.mem_map.1 hkl;have hh:has (.map es) p.1=true:=List.any_eq_true.2 ⟨p,hp1,WideAt.sameKey_self (hK es rfl p hp1)⟩;obtain ⟨⟨i,c⟩,v,e,hf⟩:=hr.keys _ hh;obtain ⟨rfl,h2⟩:=hk i c (by rw [hf];simp);exact List.mem_map.2 ⟨i,List.mem_filter.2 ⟨List.mem_range.2 h2,by rw [hf];rfl⟩,e.symm⟩
  · intro hkl
    obtain ⟨i,hi,rfl⟩:=List.mem_map.1 hkl;have hs:=(List.mem_filter.1 hi).2;rw [← hr.isSome] at hs;obtain ⟨p,hp1,hp2⟩:=List.any_eq_true.1 hs;exact List.mem_map.2 ⟨p,hp1,WideAt.sameKey_eq hp2⟩
 have h1:=hm.length_eq;have h2:=List.length_filter_le (fun i=>(f (i,g i)).isSome) (List.range N);simp only [List.length_map,List.length_range] at h1 h2;show es.length≤N;omega
theorem own_keys {R:Value→Option (DataW Unit×List MemPlace)}{b n:Nat}{D:DataW Unit}(h:w.ownsMap Tryz.prog 32 R b n D):∀ es,D = .map es→∀ p∈es,WideAt.IsKeyLit p.1:=fun es e p hp=>by
 obtain ⟨es',e',_,hk⟩:=h.entries lawH;rw [e] at e'
 cases e'
 exact hk p hp
theorem dirsF_key (T:Tr)(hd:∀ i d,T.ds i=some d→i < T.p.N)(i c:Nat)(h:T.dirsF (i,c)≠none):c=T.g i∧i < T.p.N:=by
 unfold Tr.dirsF at h
 by_cases e:c=T.g i
 · refine ⟨e,?_⟩
   cases hx:T.ds i with
   | none=>simp [hx] at h
   | some d=>exact hd i d hx
 · simp [e] at h
theorem dirs_put {n:Nat}{D:DataW Unit}{T':Tr}(h1:w'.ownsMap Tryz.prog 32 mapElem T'.db n D)(h2:Reads hkey numD D T'.dirsF)(h3:∀ i d,T'.ds i=some d→i < T'.p.N)(hs:Small T'):DirsAt w' T' :=
 ⟨D,_,own_sized h1,by have:=reads_size (h1.tidy lawH) (own_keys h1) h2 (dirsF_key T' h3) hs.N hs.g;have:=hs.N;omega,h2⟩
theorem TreeAt.key (h:TreeAt w tr T){i:Nat}(hi:i < T.p.N):keyOf Tryz.prog 32 (handV i (T.g i))=some (hkey (i,T.g i)) :=
 keyOf_handle (by have:=h.small.N;omega) (by have:=h.small.g i;omega)
end
theorem own_six_drew {w w2:World}{B:Nat}{a b c d e f:Value}{ty:TypeId}(h:zQ (w.alloc (.cells #[a,b,c,d,e,f] ty)).drew w2)(hB:w.heap.size=B):
 w2.cell? (zA B 0)=some a∧w2.cell? (zA B 1)=some b∧w2.cell? (zA B 2)=some c∧w2.cell? (zA B 3)=some d∧w2.cell? (zA B 4)=some e∧w2.cell? (zA B 5)=some f∧(∀ o,w2.frozen? ⟨B,o,none⟩=false)∧B < w2.heap.size:=own_six h.of_drew hB
def Held (tr t B:Nat)(i gi:Nat)(W:World):Prop:=W.cell? (zA tr 0)=some (zP t)∧W.cell? (zA B 0)=some (zI i)∧W.cell? (zA B 1)=some (zI gi)
theorem Held.only {w W:World}{tr t B i gi:Nat}{L:List Nat}(h:Held tr t B i gi w)(ho:Only L w W)(h1:tr∉L)(h2:B∉L):Held tr t B i gi W :=
 ⟨(ho.cell (p:=⟨tr,0,none⟩) (zv h.1) h1).trans h.1,(ho.cell (p:=⟨B,0,none⟩) (zv h.2.1) h2).trans h.2.1,(ho.cell (p:=⟨B,1,none⟩) (zv h.2.2) h2).trans h.2.2⟩
theorem Held.first {w:World}{tr t i gi:Nat}{ty:TypeId}(ct:w.cell? (zA tr 0)=some (zP t)):Held tr t w.heap.size i gi (w.alloc (.cells #[zI i,zI gi] ty)):=by
 have hh:=zh w (.cells #[zI i,zI gi] ty);exact ⟨(((Only.refl [] w).alloc _).cell (p:=⟨tr,0,none⟩) (zv ct) (by simp)).trans ct,cell_of_row _ _ 0 _ _ _ hh,cell_of_row _ _ 1 _ _ _ hh⟩
theorem isDir_any (w:World)(tr:Nat)(T:Tr)(i:Nat)(h:TreeAt w tr T)(hi:i < T.p.N):
  zO 94 #[zP tr,zG i (T.g i:Nat)] w (.bool (T.ds i).isSome):=by
 have ct:=h.c1;have htl:tr < w.heap.size:=zv ct;obtain ⟨D,n,d1,_,d3⟩:=h.dirs;have d1':=own_only d1 (((Only.refl [] w).alloc (zH i (T.g i:Nat))).drew) (by simp)
 have hhas:has D (hkey (i,T.g i))=(T.ds i).isSome:=by
  rw [d3.isSome];unfold Tr.dirsF;rw [if_pos rfl]
  cases T.ds i<;>rfl
 obtain ⟨v,ps,hrun,_⟩:=d1'.look_ok lawH undDirs (zeroDir _) (zd := .lit (.int .i64 (-1))) (zp:=[]) rfl (h.key hi);rw [hhas] at hrun;unfold handV at hrun;clear h d1 d1' d3 hhas;generalize T.db=db at ct hrun;generalize T.g i=gi at hrun ⊢;generalize (T.ds i).isSome=x at hrun ⊢
 go_enter Tryz.func94,Tryz.ntmps94
 go_wp2
 go_region
 go_wp2
 go_ret
 exact ⟨rfl,((Only.refl _ _).alloc _).drew⟩
theorem touch_ok (w:World)(tr:Nat)(T:Tr)(i:Nat)(n:Nod)(h:TreeAt w tr T)(hn:T.nd i=some n)(hC:0≤n.C∧n.C≤9000000000000000000):
  zK 65 #[zP tr,zG i (T.g i:Nat)] w fun e w'=>e = .returned (.tuple #[])∧TreeAt w' tr { T with nd:=setN T.nd i (some { n with C:=n.C+1 }) }∧Only [n.b] w w':=by
 have HC:Hid (∀ w1,zQ w w1→_):=fun w1 (ho:zQ w w1)=>ttouch_ok w1 T.t T.p T.most i T.g T.nd n (h.tab.kept ho (fun _ _=>by simp)) hn hC;have H:Hid (TreeAt w tr T):=h;have HN:Hid (T.nd i=some n):=hn;have ct:=h.c0;have htl:tr < w.heap.size:=zv ct;clear h hn hC;have HS0:Hid (Held tr T.t w.heap.size i (T.g i) (w.alloc (zH i (T.g i:Nat))).drew):=(Held.first ct).only ((Only.refl [] _).drew) (by simp) (by simp);have hnb:n.b < w.heap.size:=zv (H.out.tab.node i n HN.out).c0
 have HNB:Hid (w.heap.size∉[n.b]):=show w.heap.size∉[n.b] from (fun hm=>by have e:w.heap.size=n.b:=(by simpa using hm);omega)
 have HNT:Hid (tr∉[n.b]):=show tr∉[n.b] from (fun hm=>by have e:tr=n.b:=(by simpa using hm);exact H.out.ftr (by rw [e];exact .node HN.out n.b_foot))
 clear ct;have HW1:Hid (zQ w (w.alloc (zH i (T.g i:Nat))).drew):=((Only.refl [] _).alloc _).drew
 go_enter Tryz.func65,Tryz.ntmps65
 go_wp2
 go_region_held3 (fun W=>W.cell? (zA tr 0)=some (zP T.t)∧W.cell? (zA w.heap.size 0)=some (zI i)∧W.cell? (zA w.heap.size 1)=some (zI (T.g i:Nat))) (first | exact HS0.out | exact hS2)
  (first | (go_at_call 98;refine (HC.out _ HW1.out).mono ?_;rintro e w2 ⟨rfl,hT2,ho2⟩;have HT2:Hid (TabAt w2 T.t T.p T.most T.g (setN T.nd i (some { n with C:=n.C+1 }))):=hT2;have HO2:Hid (Only [n.b] (w.alloc (zH i (T.g i:Nat))).drew w2):=ho2;have hS2:Held tr T.t w.heap.size i (T.g i) w2:=HS0.out.only ho2 HNT.out HNB.out;clear hT2 ho2))
 all_goals go_wp2
 all_goals go_end0
 all_goals
  have ho:Only [n.b] w w2:=((Only.refl [n.b] w).alloc _).drew.trans HO2.out (fun _ hk=>Or.inl hk);exact ⟨rfl,H.out.node HN.out rfl rfl HT2.out ho,ho⟩
theorem keep_set {W:World}{tr t B blk o:Nat}{i gi:Nat}{u:Value}(h:W.cell? (zA tr 0)=some (zP t)∧W.cell? (zA B 0)=some (zI i)∧W.cell? (zA B 1)=some (zI gi))(h1:tr≠blk)(h2:B≠blk):(W.setCell ⟨blk,o,none⟩ u).cell? (zA tr 0)=some (zP t)∧(W.setCell ⟨blk,o,none⟩ u).cell? (zA B 0)=some (zI i)∧(W.setCell ⟨blk,o,none⟩ u).cell? (zA B 1)=some (zI gi) :=
 Held.only (t:=t) (i:=i) (gi:=gi) h ((Only.refl [blk] W).setCell (Or.inl (by simp)) _) (by simpa using h1) (by simpa using h2)
theorem Only.six {a w:World}(h:zQ a w){b:Nat}(hb:a.heap.size≤b){v0 v1 v2 v3 v4 v5:Value}:zQ a ((((((w.setCell (zA b 0) v0).setCell (zA b 1) v1).setCell (zA b 2) v2).setCell (zA b 3) v3).setCell (zA b 4) v4).setCell (zA b 5) v5) :=
 (((((h.setCell (Or.inr hb) _).setCell (Or.inr hb) _).setCell (Or.inr hb) _).setCell (Or.inr hb) _).setCell (Or.inr hb) _).setCell (Or.inr hb) _
theorem keep_alloc {W:World}{tr t B:Nat}{i gi:Nat}{o:Obj}(h:W.cell? (zA tr 0)=some (zP t)∧W.cell? (zA B 0)=some (zI i)∧W.cell? (zA B 1)=some (zI gi)):(W.alloc o).cell? (zA tr 0)=some (zP t)∧(W.alloc o).cell? (zA B 0)=some (zI i)∧(W.alloc o).cell? (zA B 1)=some (zI gi) :=
 Held.only (t:=t) (i:=i) (gi:=gi) h ((Only.refl [] W).alloc _) (by simp) (by simp)
theorem told_ok (w:World)(tr:Nat)(T:Tr)(i:Nat)(n:Nod)(z:Int)(h:TreeAt w tr T)(hn:T.nd i=some n)(hz:n.K=1∧z=(n.S.size:Int)∨n.K=2∧z=n.Z):
   zO 93 #[zP tr,zG i (T.g i:Nat)] w (attrV n.K z n.L n.C n.UN n.UG):=by
 have HC:Hid (∀ w1,zQ w w1→_):=fun w1 (ho:zQ w w1)=>tattr_ok w1 T.t T.p T.most i T.g T.nd n z (h.tab.kept ho (fun _ _=>by simp)) hn hz;have ct:=h.c0;have htl:tr < w.heap.size:=zv ct;clear h hn hz;generalize T.t=t at HC ct;generalize T.g i=gi at HC ⊢;unfold attrV at HC ⊢;generalize n.K=K at HC ⊢;generalize n.L=L at HC ⊢;generalize n.C=C at HC ⊢;generalize n.UN=UN at HC ⊢;generalize n.UG=UG at HC ⊢;have H1:Hid (Held tr t w.heap.size i gi (w.alloc (zH i gi))):=Held.first ct;have HW1:Hid (zQ (w.alloc (zH i gi)) ((w.alloc (zH i gi)).alloc (.cells #[zI 0,zI 0,zI 0,zI 0,zI 0,zI 0] 67)).drew):=((Only.refl [] _).alloc _).drew;have HW2:Hid (zQ (w.alloc (zH i gi)) (((w.alloc (zH i gi)).alloc (.cells #[zI 0,zI 0,zI 0,zI 0,zI 0,zI 0] 67)).alloc (.cells #[zI 0,zI 0,zI 0,zI 0,zI 0,zI 0] 67)).drew):=(((Only.refl [] _).alloc _).alloc _).drew;have HW3:Hid (zQ ((w.alloc (zH i gi)).alloc (.cells #[zI 0,zI 0,zI 0,zI 0,zI 0,zI 0] 67)) (((w.alloc (zH i gi)).alloc (.cells #[zI 0,zI 0,zI 0,zI 0,zI 0,zI 0] 67)).alloc (.cells #[zI 0,zI 0,zI 0,zI 0,zI 0,zI 0] 67)).drew):=((Only.refl [] _).alloc _).drew;have HV1:Hid (zQ w ((w.alloc (zH i gi)).alloc (.cells #[zI 0,zI 0,zI 0,zI 0,zI 0,zI 0] 67)).drew):=(((Only.refl [] _).alloc _).alloc _).drew;have HV2:Hid (zQ w (((w.alloc (zH i gi)).alloc (.cells #[zI 0,zI 0,zI 0,zI 0,zI 0,zI 0] 67)).alloc (.cells #[zI 0,zI 0,zI 0,zI 0,zI 0,zI 0] 67)).drew):=((((Only.refl [] _).alloc _).alloc _).alloc _).drew;have K1:Hid (((w.alloc (zH i gi)).alloc (.cells #[zI 0,zI 0,zI 0,zI 0,zI 0,zI 0] 67)).drew.cell? (zA tr 0)=some (zP t)∧((w.alloc (zH i gi)).alloc (.cells #[zI 0,zI 0,zI 0,zI 0,zI 0,zI 0] 67)).drew.cell? (zA w.heap.size 0)=some (zI i)∧((w.alloc (zH i gi)).alloc (.cells #[zI 0,zI 0,zI 0,zI 0,zI 0,zI 0] 67)).drew.cell? (zA w.heap.size 1)=some (zI gi)):=H1.out.only HW1.out (by simp) (by simp);have K2:Hid ((((w.alloc (zH i gi)).alloc (.cells #[zI 0,zI 0,zI 0,zI 0,zI 0,zI 0] 67)).alloc (.cells #[zI 0,zI 0,zI 0,zI 0,zI 0,zI 0] 67)).drew.cell? (zA tr 0)=some (zP t)∧(((w.alloc (zH i gi)).alloc (.cells #[zI 0,zI 0,zI 0,zI 0,zI 0,zI 0] 67)).alloc (.cells #[zI 0,zI 0,zI 0,zI 0,zI 0,zI 0] 67)).drew.cell? (zA w.heap.size 0)=some (zI i)∧(((w.alloc (zH i gi)).alloc (.cells #[zI 0,zI 0,zI 0,zI 0,zI 0,zI 0] 67)).alloc (.cells #[zI 0,zI 0,zI 0,zI 0,zI 0,zI 0] 67)).drew.cell? (zA w.heap.size 1)=some (zI gi)):=H1.out.only HW2.out (by simp) (by simp)
 have HN2:Hid (tr≠w.heap.size+2):=show tr≠w.heap.size+2 from by omega
 have HB2:Hid (w.heap.size≠w.heap.size+2):=show w.heap.size≠w.heap.size+2 from by omega
 go_enter Tryz.func93,Tryz.ntmps93
 go_wp2
 go_region_held3 (fun W=>W.cell? (zA tr 0)=some (zP t)∧W.cell? (zA w.heap.size 0)=some (zI i)∧W.cell? (zA w.heap.size 1)=some (zI gi))
   (with_reducible first
    | exact K1.out
    | exact K2.out
    | exact HS2.out
    | exact keep_alloc HS2.out
    | exact keep_set (keep_set (keep_set (keep_set (keep_set (keep_set (HS2.out) HN2.out HB2.out) HN2.out HB2.out) HN2.out HB2.out) HN2.out HB2.out) HN2.out HB2.out) HN2.out HB2.out)
   (first
    | (go_at_call 58;refine (HC.out _ HV1.out).mono ?_;rintro e w2 ⟨rfl,ho2⟩;have HO2:Hid (zQ (w.alloc (zH i gi)) w2):=HW1.out.trans ho2 (fun _ hk=>by cases hk);have HS2:Hid (w2.cell? (zA tr 0)=some (zP t)∧w2.cell? (zA w.heap.size 0)=some (zI i)∧w2.cell? (zA w.heap.size 1)=some (zI gi)):=H1.out.only HO2.out (by simp) (by simp);have HR:Hid (zQ ((w.alloc (zH i gi)).alloc (.cells #[zI 0,zI 0,zI 0,zI 0,zI 0,zI 0] 67)) w2):=ho2.of_drew;clear ho2)
    | (go_at_call 58;refine (HC.out _ HV2.out).mono ?_;rintro e w2 ⟨rfl,ho2⟩;have HO2:Hid (zQ (w.alloc (zH i gi)) w2):=HW2.out.trans ho2 (fun _ hk=>by cases hk);have HS2:Hid (w2.cell? (zA tr 0)=some (zP t)∧w2.cell? (zA w.heap.size 0)=some (zI i)∧w2.cell? (zA w.heap.size 1)=some (zI gi)):=H1.out.only HO2.out (by simp) (by simp);obtain ⟨q0,q1,q2,q3,q4,q5,f1,hl1⟩:=own_six_drew (B:=w.heap.size+2) ho2 (by simp);have HR:Hid (zQ ((w.alloc (zH i gi)).alloc (.cells #[zI 0,zI 0,zI 0,zI 0,zI 0,zI 0] 67)) w2):=HW3.out.trans ho2 (fun _ hk=>by cases hk);clear ho2))
 all_goals obtain ⟨r0,r1,r2,r3,r4,r5,f0,hl0⟩:=own_six (B:=w.heap.size+1) HR.out (by simp)
 all_goals have hO:zQ w w2:=((Only.refl [] w).alloc _).trans HO2.out (fun _ hk=>by cases hk)
 all_goals have HO:Hid (zQ w w2):=hO
 all_goals clear hO
 all_goals go_wp2
 all_goals have hle1:w.heap.size≤w.heap.size+1:=Nat.le_succ _
 all_goals have hle2:w.heap.size≤w.heap.size+1+1:=by omega
 all_goals refine bodyPost_ret (v := .agg #[zI K,zI z,zI L,zI C,zI UN,zI UG]) (by simp [results,Tryz.results93,go_sem,r0,r1,r2,r3,r4,r5,hl0]) rfl ⟨rfl,?_⟩
 · exact (HO.out.six hle1).alloc _
 · exact (HO.out.six hle2).six hle1
theorem sizeHandle:(Tryz.prog.info? 32).map (·.size)=some 2:=(zero_of_info infoHand).2
theorem fieldUp (W:World)(a b c d e f:Value):(Instr.field 67 (.agg #[a,b,c,d,e,f]) 4).run Tryz.prog W = .ok (.agg #[e,f]) W:=by
 obtain ⟨i,hi,hs⟩:=Option.map_eq_some_iff.1 sizeHandle;unfold Instr.field;simp [run_underlying Tryz.underlying67,part,asAgg,isAgg,run_underlying Tryz.underlying32,sizeOf,typeInfo,hi,hs,go_sem]
def dirsIn (l:List Ent)(ds:Nat→Option DirM):Nat:=(l.filter (fun e=>(ds e.i).isSome)).length
def doneIn (l:List Ent)(ds:Nat→Option DirM)(left:Lit→Bool):Nat:=(l.filter (fun e=>!left (.string e.s)&&(ds e.i).isSome)).length
theorem dirsIn_le (l:List Ent)(ds:Nat→Option DirM):dirsIn l ds≤l.length:=List.length_filter_le _ _
theorem doneIn_le (l:List Ent)(ds:Nat→Option DirM)(left:Lit→Bool):doneIn l ds left≤l.length:=List.length_filter_le _ _
theorem done_start (l:List Ent)(ds:Nat→Option DirM):doneIn l ds (has (entD l))=0:=by
 unfold doneIn;rw [List.length_eq_zero_iff,List.filter_eq_nil_iff];intro e he
 have:has (entD l) (.string e.s)=true:=by
  rw [has_entD];unfold findE;rw [List.find?_isSome];exact ⟨e,he,by simp⟩
 rw [this];simp
theorem done_end (l:List Ent)(ds:Nat→Option DirM){left:Lit→Bool}(h:∀ kl,left kl=false):doneIn l ds left=dirsIn l ds:=by
 unfold doneIn dirsIn;congr 1;refine List.filter_congr fun e _=>?_;rw [h];rfl
theorem done_other (l:List Ent)(ds:Nat→Option DirM)(left:Lit→Bool)(s:List UInt8)(h:∀ e∈l,e.s≠s):doneIn l ds (fun z=>left z&&!z.sameKey (.string s))=doneIn l ds left:=by
 unfold doneIn;congr 1;refine List.filter_congr fun e he=>?_
 have:(Lit.string e.s).sameKey (.string s)=false:=by
  show (e.s==s)=false
  simpa using h e he
 simp only [this,Bool.not_false,Bool.and_true]
theorem done_step (l:List Ent)(ds:Nat→Option DirM)(left:Lit→Bool)(e:Ent)(hn:(l.map (·.s)).Nodup)(he:e∈l)(hl:left (.string e.s)=true):doneIn l ds (fun z=>left z&&!z.sameKey (.string e.s))=doneIn l ds left+if (ds e.i).isSome then 1 else 0:=by
 induction l with
 | nil=>cases he
 | cons x l ih =>
  rw [List.map_cons,List.nodup_cons] at hn;rcases List.mem_cons.1 he with rfl | he'
  · have ho:=done_other l ds left e.s (fun y hy hs=>hn.1 (hs ▸ List.mem_map_of_mem hy))
    have hk:(Lit.string e.s).sameKey (.string e.s)=true:=by
      show (e.s==e.s)=true;simp
    unfold doneIn at ho ⊢;simp only [List.filter_cons,hl,hk,Bool.not_true,Bool.and_false,Bool.not_false,Bool.true_and,Bool.false_and,Bool.false_eq_true,if_false]
    cases hd:(ds e.i).isSome
    · simp only [Bool.false_eq_true,if_false]
      rw [ho];rfl
    · simp only [if_true,List.length_cons]
      rw [ho]
  · have hne:x.s≠e.s:=fun hs=>hn.1 (hs ▸ List.mem_map_of_mem he')
    have hk:(Lit.string x.s).sameKey (.string e.s)=false:=by
      show (x.s==e.s)=false
      simpa using hne
    have:=ih hn.2 he';unfold doneIn at this ⊢;dsimp only at this;simp only [List.filter_cons,hk,Bool.not_false,Bool.and_true]
    split
    · simp only [List.length_cons]
      omega
    · exact this
theorem DirAt.nodup {w:World}{d:DirM}(h:DirAt w d):(d.l.map (·.s)).Nodup:=by
 obtain ⟨es,e,hp⟩:=World.ownsMap.tidy h lawS
 have:es=d.l.map entP:=by
  unfold entD at e;exact (DataW.map.inj e).symm
 subst this;rw [List.pairwise_map] at hp;unfold List.Nodup;rw [List.pairwise_map]
 exact hp.imp fun h e=>h (by rw [show ∀ x:Ent,(entP x).1 = .string x.s from fun _=>rfl,show ∀ x:Ent,(entP x).1 = .string x.s from fun _=>rfl,e])
theorem Only.toG {w w':World}(h:zQ w w'):w.grownBy w' none:=⟨h.os,h.tape,h.output,h.size,fun k hk _=>h.block k hk (by simp)⟩
theorem look_dir {w:World}{tr:Nat}{T:Tr}(h:TreeAt w tr T){a:Nat}{d:DirM}(ha:a < T.p.N)(hd:T.ds a=some d):(Instr.lookup 113 (.map (some T.db)) (zG a (T.g a:Nat)) false).run Tryz.prog w = .ok (.map (some d.b)) w:=by
 obtain ⟨D,n,d1,_,d3⟩:=h.dirs;obtain ⟨v,ps,hrun,hR⟩:=d1.lookup lawH undDirs (zeroDir _) (zd := .lit (.int .i64 (-1))) (zp:=[]) rfl (h.key ha)
 have e:T.dirsF (a,T.g a)=some d.b:=by
  unfold Tr.dirsF;rw [if_pos rfl,hd];rfl
 rw [d3.look,e] at hR;rw [mapElem_inv hR] at hrun;exact hrun
theorem len_dir {w:World}{d:DirM}(h:DirAt w d)(ty:TypeId):(Builtin.len_ #[112] ty #[.map (some d.b)]).run Tryz.prog w = .ok (zI d.l.length) w:=by
 have:=World.ownsMap.len h undNames ty;rw [size_entD] at this;exact this
theorem rec_held {w W:World}{tr:Nat}{T:Tr}{a:Nat}{d:DirM}(h:TreeAt W tr T)(ha:a < T.p.N)(hd:T.ds a=some d)(h0:W.cell? (zA w.heap.size 0)=some (zI a))(h1:W.cell? (zA w.heap.size 1)=some (zI (T.g a:Nat))):
 W.cell? (zA tr 0)=some (zP T.t)∧W.cell? (zA tr 1)=some (.map (some T.db))∧W.cell? (zA w.heap.size 0)=some (zI a)∧W.cell? (zA w.heap.size 1)=some (zI (T.g a:Nat))∧(Instr.lookup 113 (.map (some T.db)) (zG a (T.g a:Nat)) false).run Tryz.prog W = .ok (.map (some d.b)) W∧(Builtin.len_ #[112] 3 #[.map (some d.b)]).run Tryz.prog W = .ok (zI d.l.length) W:=⟨h.c0,h.c1,h0,h1,look_dir h ha hd,len_dir (h.dir a d hd) _⟩
theorem recount_ok (w:World)(tr:Nat)(T:Tr)(a:Nat)(n:Nod)(d:DirM)(h:TreeAt w tr T)(hd:T.ds a=some d)(hn:T.nd a=some n)(hK:n.K=2)(hl:d.l.length≤1000)(hlive:∀ e∈d.l,e.i < T.p.N∧e.c=T.g e.i):
  zK 97 #[zP tr,zG a (T.g a:Nat)] w fun e w'=>e = .returned (.tuple #[])∧TreeAt w' tr { T with nd:=setN T.nd a (some { n with Z:=(d.l.length:Nat),UN:=n.UN,UG:=n.UG,L:=2+(dirsIn d.l T.ds:Int) }) }∧Only [n.b] w w':=by
 have ha:=h.tab.lt hn;have ct:=h.c1;have htl:tr < w.heap.size:=zv ct;have hO1:zQ w (w.alloc (zH a (T.g a:Nat))).drew:=((Only.refl [] w).alloc _).drew;have hT1:=h.only hO1;have hlook:=look_dir hT1 ha hd
 have e1:((w.alloc (zH a (T.g a:Nat))).drew).heap.size=w.heap.size+1:=by simp
 obtain ⟨w0,hrange,hrg0,hg0,_⟩:=(hT1.dir a d hd).range lawS undNames;rw [e1] at hrange hrg0;have HN:Hid ((d.l.map (·.s)).Nodup):=(h.dir a d hd).nodup;have HO0:Hid (zQ w w0):=hO1.grown hg0 (fun k hk=>by cases hk);have hh:=zh w (zH a (T.g a:Nat));have HB1:Hid (zQ (w.alloc (zH a (T.g a:Nat))) w0):=((Only.refl [] (w.alloc (zH a (T.g a:Nat)))).drew).grown hg0 (fun k hk=>by cases hk);have HH:Hid ((w.alloc (zH a (T.g a:Nat))).cell? (zA w.heap.size 0)=some (zI a)∧(w.alloc (zH a (T.g a:Nat))).cell? (zA w.heap.size 1)=some (zI (T.g a:Nat))):=⟨cell_of_row _ _ 0 _ _ _ hh,cell_of_row _ _ 1 _ _ _ hh⟩;have H:Hid (TreeAt w tr T):=h;have HF:Hid (T.ds a=some d∧T.nd a=some n∧n.K=2):=⟨hd,hn,hK⟩;have HL:Hid (∀ e∈d.l,e.i < T.p.N∧e.c=T.g e.i):=hlive;have HRG:Hid (w0.ranges Tryz.prog 9 handElem d.b (w.heap.size+1) d.l.length (entD d.l) (has (entD d.l)) (Maps.size (entD d.l))):=hrg0;clear h hd hn hK hlive hO1 hT1 e1 hg0 hh hrg0
 go_enter Tryz.func97,Tryz.ntmps97
 go_wp2
 go_region
 go_wp2
 clear hlook hrange
 go_loopw [4] (fun lk wr=>∃ (left:Lit→Bool) (cnt:Nat),lk=zI ((2+doneIn d.l T.ds left:Nat):Int)∧wr.ranges Tryz.prog 9 handElem d.b (w.heap.size+1) d.l.length (entD d.l) left cnt∧zQ (w.alloc (zH a (T.g a:Nat))) wr∧∀ kl,left kl=true→has (entD d.l) kl=true)
  (fun _ wr=>wr.rangeLeft d.b (w.heap.size+1))
 case atStart=>exact ⟨_,_,by rw [done_start];rfl,HRG.out,HB1.out,fun _ h=>h⟩
 case round =>
  obtain ⟨left,cnt,rfl,hrg,hO,hleft⟩:=hrel;have hdl:=doneIn_le d.l T.ds left
  go_wp2_with (first
    | (at_next;refine wpList_next_ranges _ rfl _ rfl 9 lawS handElem id id (fun key _ _=>⟨key,rfl⟩) (fun v _ _=>⟨v,rfl⟩) d.b (w.heap.size+1) d.l.length _ _ _ rfl hrg ?_ ?_)
    | go_in)
  · intro _ hl0
    rw [done_end d.l T.ds hl0];have hdd:=dirsIn_le d.l T.ds;have hOw:zQ w wr.drew:=(((Only.refl [] w).alloc _).trans hO (fun _ hk=>by cases hk)).drew;have hTr:=H.out.only hOw;have h0:=(hO.drew.cell (p:=⟨w.heap.size,0,none⟩) (zv HH.out.1) (by simp)).trans HH.out.1;have h1:=(hO.drew.cell (p:=⟨w.heap.size,1,none⟩) (zv HH.out.2) (by simp)).trans HH.out.2;have K0:Hid (wr.drew.cell? (zA tr 0)=some (zP T.t)∧wr.drew.cell? (zA tr 1)=some (.map (some T.db))∧wr.drew.cell? (zA w.heap.size 0)=some (zI a)∧wr.drew.cell? (zA w.heap.size 1)=some (zI (T.g a:Nat))∧(Instr.lookup 113 (.map (some T.db)) (zG a (T.g a:Nat)) false).run Tryz.prog wr.drew = .ok (.map (some d.b)) wr.drew∧(Builtin.len_ #[112] 3 #[.map (some d.b)]).run Tryz.prog wr.drew = .ok (zI d.l.length) wr.drew):=rec_held hTr ha HF.out.1 h0 h1;have htold:=told_ok wr.drew tr T a n n.Z hTr HF.out.2.1 (Or.inr ⟨HF.out.2.2,rfl⟩);unfold attrV at htold;have HOW:Hid (zQ w wr.drew):=hOw;have HOB:Hid (zQ (w.alloc (zH a (T.g a:Nat))) wr.drew):=hO.drew;have hnb:n.b < w.heap.size:=zv (H.out.tab.node a n HF.out.2.1).c0
    have HNB:Hid (w.heap.size∉[n.b]):=show w.heap.size∉[n.b] from (fun hm=>by have e:w.heap.size=n.b:=(by simpa using hm);omega)
    have HND:Hid (∀ w4,TabAt w4 T.t T.p T.most T.g (setN T.nd a (some { n with Z:=(d.l.length:Nat),UN:=n.UN,UG:=n.UG,L:=2+(dirsIn d.l T.ds:Int) }))→Only [n.b] w w4→TreeAt w4 tr { T with nd:=setN T.nd a (some { n with Z:=(d.l.length:Nat),UN:=n.UN,UG:=n.UG,L:=2+(dirsIn d.l T.ds:Int) }) }):=fun w4 h4 o4=>TreeAt.node (n:=n) (n':={ n with Z:=(d.l.length:Nat),UN:=n.UN,UG:=n.UG,L:=2+(dirsIn d.l T.ds:Int) }) H.out HF.out.2.1 rfl rfl h4 o4
    have HK4:Hid (∀ w3 w4:World,(w3.cell? (zA tr 0)=some (zP T.t)∧w3.cell? (zA tr 1)=some (.map (some T.db))∧w3.cell? (zA w.heap.size 0)=some (zI a)∧w3.cell? (zA w.heap.size 1)=some (zI (T.g a:Nat))∧(Instr.lookup 113 (.map (some T.db)) (zG a (T.g a:Nat)) false).run Tryz.prog w3 = .ok (.map (some d.b)) w3∧(Builtin.len_ #[112] 3 #[.map (some d.b)]).run Tryz.prog w3 = .ok (zI d.l.length) w3)→Only [n.b] w3 w4→TreeAt w4 tr { T with nd:=setN T.nd a (some { n with Z:=(d.l.length:Nat),UN:=n.UN,UG:=n.UG,L:=2+(dirsIn d.l T.ds:Int) }) }→(w4.cell? (zA tr 0)=some (zP T.t)∧w4.cell? (zA tr 1)=some (.map (some T.db))∧w4.cell? (zA w.heap.size 0)=some (zI a)∧w4.cell? (zA w.heap.size 1)=some (zI (T.g a:Nat))∧(Instr.lookup 113 (.map (some T.db)) (zG a (T.g a:Nat)) false).run Tryz.prog w4 = .ok (.map (some d.b)) w4∧(Builtin.len_ #[112] 3 #[.map (some d.b)]).run Tryz.prog w4 = .ok (zI d.l.length) w4)):=fun w3 w4 k3 o4 t4=>by
     have k:=rec_held (w:=w) (T:={ T with nd:=setN T.nd a (some { n with Z:=(d.l.length:Nat),UN:=n.UN,UG:=n.UG,L:=2+(dirsIn d.l T.ds:Int) }) }) (d:=d) t4 ha HF.out.1 ((o4.cell (p:=⟨w.heap.size,0,none⟩) (zv k3.2.2.1) HNB.out).trans k3.2.2.1) ((o4.cell (p:=⟨w.heap.size,1,none⟩) (zv k3.2.2.2.1) HNB.out).trans k3.2.2.2.1);exact k
    clear hrg hO hleft hl0 hTr h0 h1 hOw;have hfu:∀ W:World,(Instr.field 67 (.agg #[zI n.K,zI n.Z,zI n.L,zI n.C,zI n.UN,zI n.UG]) 4).run Tryz.prog W = .ok (zG n.UN n.UG) W:=fun W=>fieldUp W _ _ _ _ _ _
    go_wp2
    go_region_held3 (fun W=>W.cell? (zA tr 0)=some (zP T.t)∧W.cell? (zA tr 1)=some (.map (some T.db))∧W.cell? (zA w.heap.size 0)=some (zI a)∧W.cell? (zA w.heap.size 1)=some (zI (T.g a:Nat))∧(Instr.lookup 113 (.map (some T.db)) (zG a (T.g a:Nat)) false).run Tryz.prog W = .ok (.map (some d.b)) W∧(Builtin.len_ #[112] 3 #[.map (some d.b)]).run Tryz.prog W = .ok (zI d.l.length) W)
     ( with_reducible first
        | exact K0.out
        | exact K3.out
        | exact K4.out)
     ( first
        | (go_at_call 93;refine htold.mono ?_;rintro e w3 ⟨rfl,ho3⟩;have HT3:Hid (TreeAt w3 tr T):=H.out.only (HOW.out.trans ho3 (fun _ hk=>by cases hk));have HO3:Hid (zQ (w.alloc (zH a (T.g a:Nat))) w3):=HOB.out.trans ho3 (fun _ hk=>by cases hk);have HW3:Hid (zQ w w3):=HOW.out.trans ho3 (fun _ hk=>by cases hk);have K3:Hid (w3.cell? (zA tr 0)=some (zP T.t)∧w3.cell? (zA tr 1)=some (.map (some T.db))∧w3.cell? (zA w.heap.size 0)=some (zI a)∧w3.cell? (zA w.heap.size 1)=some (zI (T.g a:Nat))∧(Instr.lookup 113 (.map (some T.db)) (zG a (T.g a:Nat)) false).run Tryz.prog w3 = .ok (.map (some d.b)) w3∧(Builtin.len_ #[112] 3 #[.map (some d.b)]).run Tryz.prog w3 = .ok (zI d.l.length) w3):=rec_held HT3.out ha HF.out.1 ((HO3.out.cell (p:=⟨w.heap.size,0,none⟩) (zv HH.out.1) (by simp)).trans HH.out.1) ((HO3.out.cell (p:=⟨w.heap.size,1,none⟩) (zv HH.out.2) (by simp)).trans HH.out.2);have hadj:=tadj_dir w3 T.t T.p T.most a T.g T.nd n (d.l.length:Nat) (2+(dirsIn d.l T.ds:Int)) n.UN n.UG HT3.out.tab HF.out.2.1 (And.intro (by omega) (by omega)) HF.out.2.2;clear ho3 htold)
        | (go_at_call 96;refine hadj.mono ?_;rintro e w4 ⟨rfl,hT4,ho4⟩;have HW4:Hid (Only [n.b] w w4):=(HW3.out.mono (L':=[n.b]) (fun _ hk=>by cases hk)).trans ho4 (fun _ hk=>Or.inl hk);have HT4:Hid (TreeAt w4 tr { T with nd:=setN T.nd a (some { n with Z:=(d.l.length:Nat),UN:=n.UN,UG:=n.UG,L:=2+(dirsIn d.l T.ds:Int) }) }):=HND.out w4 hT4 HW4.out;have K4:Hid (w4.cell? (zA tr 0)=some (zP T.t)∧w4.cell? (zA tr 1)=some (.map (some T.db))∧w4.cell? (zA w.heap.size 0)=some (zI a)∧w4.cell? (zA w.heap.size 1)=some (zI (T.g a:Nat))∧(Instr.lookup 113 (.map (some T.db)) (zG a (T.g a:Nat)) false).run Tryz.prog w4 = .ok (.map (some d.b)) w4∧(Builtin.len_ #[112] 3 #[.map (some d.b)]).run Tryz.prog w4 = .ok (zI d.l.length) w4):=HK4.out w3 w4 K3.out ho4 HT4.out;clear hT4 ho4 hadj))
    all_goals go_wp2
    all_goals go_end0
    all_goals exact ⟨rfl,HT4.out,HW4.out⟩
  · intro x c kl yd yp w1 cnt1 hkey hlx hv hat hrg1 hlt hg1 hs1 hen
    obtain ⟨sx,rfl,rfl,_⟩:=WideMaps.string_of_keyOf Tryz.underlying9 hkey;have hhas:=hleft _ hlx;rw [has_entD] at hhas;obtain ⟨e,he⟩:=Option.isSome_iff_exists.1 hhas
    have hes:e.s=sx.data.toList:=by
     have:=List.find?_some he
     simpa using this
    have hem:e∈d.l:=List.mem_of_find?_eq_some he;have hy:=hat .nil;rw [at_entD,he] at hy;simp only at hy;subst hy;obtain rfl:=handElem_inv hv;obtain ⟨hei,hec⟩:=HL.out e hem;unfold handV at hen ⊢;rw [hec] at hen ⊢;have hO1:zQ (w.alloc (zH a (T.g a:Nat))) w1:=hO.grown hg1 (fun k hk=>by cases hk;exact Or.inr (by simp));have hOw:zQ w w1:=((Only.refl [] w).alloc _).trans hO1 (fun _ hk=>by cases hk);have hdir:=isDir_any (w1.alloc (zH e.i (T.g e.i:Nat))) tr T e.i (H.out.only (hOw.alloc _)) hei;have hst:=done_step d.l T.ds left e HN.out hem (by rw [hes];exact hlx);rw [hes] at hst;have HST:Hid (doneIn d.l T.ds (fun z=>left z&&!z.sameKey (.string sx.data.toList))=doneIn d.l T.ds left+if (T.ds e.i).isSome then 1 else 0):=hst;have HR1:Hid (w1.ranges Tryz.prog 9 handElem d.b (w.heap.size+1) d.l.length (entD d.l) (fun z=>left z&&!z.sameKey (.string sx.data.toList)) cnt1):=hrg1;have HRO:Hid (wr.ranges Tryz.prog 9 handElem d.b (w.heap.size+1) d.l.length (entD d.l) left cnt):=hrg;have HO1:Hid (zQ (w.alloc (zH a (T.g a:Nat))) w1):=hO1;have HLF:Hid (∀ kl,left kl=true→has (entD d.l) kl=true):=hleft;clear hst hrg1 hrg hO1 hOw hO hg1 hs1 hv hat hkey he hhas hes hem hec hleft hlx;generalize (T.ds e.i).isSome=bd at hdir HST
    cases bd with
    | true =>
     go_wp2_with (go_at_call 94;go_must (refine hdir.mono ?_);rintro e' w2 ⟨rfl,ho2⟩)
     have ho12:zQ w1 w2:=((Only.refl [] w1).alloc _).trans ho2 (fun _ hk=>by cases hk);have hrg2:=HR1.out.kept ho12.toG (by simp) (by simp)
     go_roundw
     case rel=>exact ⟨_,cnt1,by rw [HST.out];go_num,hrg2,HO1.out.trans ho12 (fun _ hk=>by cases hk),fun kl h=>HLF.out kl (by simp at h;exact h.1)⟩
     case measure=>rw [hrg2.left_eq,HRO.out.left_eq];exact hlt
    | false =>
     go_wp2_with (go_at_call 94;go_must (refine hdir.mono ?_);rintro e' w2 ⟨rfl,ho2⟩)
     have ho12:zQ w1 w2:=((Only.refl [] w1).alloc _).trans ho2 (fun _ hk=>by cases hk);have hrg2:=HR1.out.kept ho12.toG (by simp) (by simp)
     go_roundw
     case rel=>exact ⟨_,cnt1,by rw [HST.out];rfl,hrg2,HO1.out.trans ho12 (fun _ hk=>by cases hk),fun kl h=>HLF.out kl (by simp at h;exact h.1)⟩
     case measure=>rw [hrg2.left_eq,HRO.out.left_eq];exact hlt
theorem only_turned {w w':World}{b:Nat}(h:w.mapTurned w' b):Only [b] w w':=by
 have hg:=h.grown;exact ⟨hg.os,hg.tape,hg.output,hg.size,fun k hk hn=>hg.block k hk (fun e=>hn (by simp at e;simp [e]))⟩
def Tr.opened (T:Tr)(a B:Nat):Tr:={ T with ds:=setN T.ds a (some ⟨B,[]⟩) }
theorem TreeAt.opened {w w1 w2:World}{tr a B n:Nat}{T:Tr}{D:DataW Unit}(h:TreeAt w tr T)(ha:a < T.p.N)(h0:T.ds a=none)(ho1:zQ w w1)(hB:w.heap.size≤B)(hBo:w1.ownsMap Tryz.prog 9 handElem B 0 (.map []))
   (hr:Reads hkey numD D T.dirsF) (hD:IsMap D) (hown:w2.ownsMap Tryz.prog 32 mapElem T.db n (D.put (hkey (a,T.g a)) (numD B))) (ho2:Only [T.db] w1 w2):TreeAt w2 tr (T.opened a B)∧Only [T.db] w w2:=by
 have ho:Only [T.db] w w2:=(ho1.mono (L':=[T.db]) (fun _ hk=>by cases hk)).trans ho2 (fun _ hk=>Or.inl hk);obtain ⟨D0,n0,d1,_,_⟩:=h.dirs;obtain ⟨P,m,p1,p2,p3⟩:=h.pins;have hdl:=d1.lt;have htr:tr < w.heap.size:=zv h.c0
 have hne:tr∉[T.db]:=by simpa using (own_ne_cell d1 h.c0).symm
 have hBdb:B≠T.db:=by omega
 have hds:∀ i d,setN T.ds a (some ⟨B,[]⟩) i=some d→(i=a∧d=⟨B,[]⟩)∨(i≠a∧T.ds i=some d):=fun i d e=>by
   by_cases hi:i=a
   · subst hi
     rw [setN_same] at e
     cases e
     exact Or.inl ⟨rfl,rfl⟩
   · rw [setN_other _ _ hi] at e
     exact Or.inr ⟨hi,e⟩
 have hold:∀ i d,T.ds i=some d→d.b < w.heap.size:=fun i d e=>World.ownsMap.lt (h.dir i d e)
 have hdlt:∀ i d,(T.opened a B).ds i=some d→i < (T.opened a B).p.N:=fun i d e=>by
   rcases hds i d e with ⟨rfl,_⟩ | ⟨_,e'⟩
   · exact ha
   · exact h.dlt i d e'
 have hg:=h.small.g;have hNN:=h.small.N
 refine ⟨⟨(ho.cell (p:=⟨tr,0,none⟩) htr hne).trans h.c0,(ho.cell (p:=⟨tr,1,none⟩) htr hne).trans h.c1,(ho.cell (p:=⟨tr,2,none⟩) htr hne).trans h.c2,h.tab.kept ho (fun k hk hm=>by simp at hm;subst hm;exact h.fdb hk),
   dirs_put (T':=T.opened a B) hown (hr.put hD hkey_key (fun j e=>?_) ?_ (fun j hj=>?_)) hdlt ⟨h.small.N,h.small.g⟩,fun i d e=>?_,⟨P,m,own_only p1 ho (show T.pb∉[T.db] from by simpa using h.dp.symm),p2,p3⟩,fun i j d d' e e' hb=>?_,⟨h.small.N,h.small.g⟩,h.ftr,h.fdb,h.fpb,fun i d e=>?_,h.dp,hdlt,h.plt⟩,ho⟩
 · exact hkey_only (by omega) (by have:=hg a;omega) j e
 · show (if T.g a=T.g a then (setN T.ds a (some ⟨B,[]⟩) a).map (·.b) else none)=some B
   rw [if_pos rfl,setN_same];rfl
 · obtain ⟨j1,j2⟩:=j
   show (if j2=T.g j1 then (setN T.ds a (some ⟨B,[]⟩) j1).map (·.b) else none)=(if j2=T.g j1 then (T.ds j1).map (·.b) else none)
   by_cases hj1:j1=a
   · subst hj1
     have:j2≠T.g j1:=fun e=>hj (by rw [e]);rw [if_neg this,if_neg this]
   · rw [setN_other _ _ hj1]
 · rcases hds i d e with ⟨rfl,rfl⟩ | ⟨_,e'⟩
   · exact own_only hBo ho2 (by simpa using hBdb)
   · exact own_only (h.dir i d e') ho (by simpa using (h.fdir i d e').2.1)
 · rcases hds i d e with ⟨rfl,rfl⟩ | ⟨_,e1⟩
   · rcases hds j d' e' with ⟨rfl,_⟩ | ⟨_,e2⟩
     · rfl
     · have:=hold j d' e2
       simp only at hb;omega
   · rcases hds j d' e' with ⟨rfl,rfl⟩ | ⟨_,e2⟩
     · have:=hold i d e1
       simp only at hb;omega
     · exact h.one i j d d' e1 e2 hb
 · rcases hds i d e with ⟨rfl,rfl⟩ | ⟨_,e'⟩
   · refine ⟨fun hk=>?_,hBdb,?_⟩
     · have:=h.tab.foot_lt _ hk
       simp only at this;omega
     · have:=p1.lt
       show B≠T.pb;omega
   · exact h.fdir i d e'
theorem open_ok (w:World)(tr:Nat)(T:Tr)(a:Nat)(n:Nod)(h:TreeAt w tr T)(hn:T.nd a=some n)(hK:n.K=2)(h0:T.ds a=none):
  zK 68 #[zP tr,zG a (T.g a:Nat)] w fun e w'=>e = .returned (.tuple #[])∧∃ B,TreeAt w' tr { T.opened a B with nd:=setN T.nd a (some { n with Z:=0,L:=2 }) }∧Only [n.b,T.db] w w'∧w.heap.size≤B:=by
 have ha:=h.tab.lt hn;have ct:=h.c1;have htl:tr < w.heap.size:=zv ct;have hO2:zQ w ((w.alloc (zH a (T.g a:Nat))).alloc (.map #[] 0)).drew:=(((Only.refl [] w).alloc _).alloc _).drew
 have hBo:(((w.alloc (zH a (T.g a:Nat))).alloc (.map #[] 0)).drew).ownsMap Tryz.prog 9 handElem (w.heap.size+1) 0 (.map []):=by
  have:=World.ownsMap_made (H:=Unit) (w.alloc (zH a (T.g a:Nat))) Tryz.prog 9 handElem;rw [World.size_alloc] at this;exact this.drew
 obtain ⟨D,nn,d1,d2,d3⟩:=h.dirs;have d1':=own_only d1 hO2 (by simp)
 obtain ⟨w3,hst,hown3,hturn⟩:=d1'.store lawH undDirs (by unfold maxLen;omega) (h.key ha) (show mapElem (.map (some (w.heap.size+1)))=some (numD (w.heap.size+1),[]) from rfl)
 obtain ⟨hT3,hO3⟩:=h.opened ha h0 hO2 (Nat.le_succ _) hBo d3 d1.isMap hown3 (only_turned hturn);have hrec0:=recount_ok w3 tr (T.opened a (w.heap.size+1)) a n ⟨w.heap.size+1,[]⟩ hT3 (setN_same _ _ _) hn hK (by simp) (fun e he=>by cases he);have hrec:zK 97 #[zP tr,zG a (T.g a:Nat)] w3 fun e w'=>e = .returned (.tuple #[])∧TreeAt w' tr { T.opened a (w.heap.size+1) with nd:=setN T.nd a (some { n with Z:=0,L:=2 }) }∧Only [n.b] w3 w':=hrec0;unfold handV at hst;have HO3:Hid (Only [T.db] w w3):=hO3;have hh:=zh w (zH a (T.g a:Nat))
 have hnd:w.heap.size∉[T.db]:=fun hm=>by
  have e:w.heap.size=T.db:=by simpa using hm
  have:=d1.lt;omega
 have ho23:=only_turned hturn;have hO1:zQ (w.alloc (zH a (T.g a:Nat))) (((w.alloc (zH a (T.g a:Nat))).alloc (.map #[] 0)).drew):=((Only.refl [] _).alloc _).drew;have c0:w3.cell? (zA w.heap.size 0)=some (zI a):=(ho23.cell (p:=⟨w.heap.size,0,none⟩) (by simp;omega) hnd).trans ((hO1.cell (p:=⟨w.heap.size,0,none⟩) (by simp) (by simp)).trans (cell_of_row _ _ 0 _ _ _ hh));have c1:w3.cell? (zA w.heap.size 1)=some (zI (T.g a:Nat)):=(ho23.cell (p:=⟨w.heap.size,1,none⟩) (by simp;omega) hnd).trans ((hO1.cell (p:=⟨w.heap.size,1,none⟩) (by simp) (by simp)).trans (cell_of_row _ _ 1 _ _ _ hh));have hmk:=run_makeMap (P:=Tryz.prog) 112 (w.alloc (zH a (T.g a:Nat))).drew;clear hrec0 hT3 hO3 hown3 hturn d1 d1' d3 hBo hO2 hO1 ho23 hh hnd h hn hK h0
 go_enter Tryz.func68,Tryz.ntmps68
 go_wp2
 go_region
 go_wp2_with (go_at_call 97;go_must (refine hrec.mono ?_);rintro e w4 ⟨rfl,hT4,ho4⟩)
 go_end0
 exact ⟨rfl,_,hT4,(HO3.out.mono (L':=[n.b,T.db]) (fun i hi=>Or.inl (by simp at hi;simp [hi]))).trans ho4 (fun i hi=>Or.inl (by simp at hi;simp [hi])),Nat.le_succ _⟩
end
end Go.Proofs.YtooblpbmcnmicaaGreatDoor
