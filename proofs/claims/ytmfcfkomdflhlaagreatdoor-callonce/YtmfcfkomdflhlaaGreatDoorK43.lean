import Derived.Test.YtmfcfkomdflhlaaGreatDoorK42
set_option maxHeartbeats 8000000
namespace Go.Proofs.YtmfcfkomdflhlaaGreatDoor
section
open Go Go.RowKit Go.Deep Go.Maps
structure SrvAt (w:World)(s tr t:Nat)(p:Row)(b db B pb lo hi:Nat):Prop where
 cell:w.cell? ⟨s,0,none⟩=some (.pointer (some ⟨tr,0,none⟩))
 tree:TreeAt w tr (Tr.fresh t p 20 b db B pb)
 one:p.N=1
 foot:∀ k,FootT tr (Tr.fresh t p 20 b db B pb) k→k < s
 lt:s < hi
 le:hi≤w.heap.size
 low:∀ k∈B::b::t::p.a.toList,lo≤k
theorem SrvAt.only {w w':World}{s tr t b db B pb lo hi:Nat}{p:Row}(h:SrvAt w s tr t p b db B pb lo hi)(ho:Only [] w w'):SrvAt w' s tr t p b db B pb lo hi :=
 ⟨(ho.cell (p:=⟨s,0,none⟩) (lt_of_cell h.cell) (by simp)).trans h.cell,h.tree.only ho,h.one,h.foot,h.lt,Nat.le_trans h.le ho.size,h.low⟩
theorem cell_new (w:World)(a:Array Value)(ty:TypeId)(k:Nat)(v:Value)(h:k=w.heap.size∧a[0]?=some v):(w.alloc (.cells a ty)).cell? ⟨k,0,none⟩=some v:=by
 obtain ⟨rfl,h⟩:=h;rw [World.cell?_alloc_new];exact h
theorem push2 (h:Array Obj)(x y:Obj):((h.push x).push y)[h.size+1]?=some y:=by
 rw [← Array.size_push x];exact Array.getElem?_push_size
theorem serveNew1 (w:World):
  Calls Tryz.prog 19 #[.int .i64 20] w fun e w'=>∃ s tr t p b db B pb hi,e = .returned (.tuple #[.pointer (some ⟨s,0,none⟩),.nilIface])∧SrvAt w' s tr t p b db B pb w.heap.size hi∧Only [] w w':=by
 have HT:Hid (Calls Tryz.prog 38 #[.int .i64 20] w fun e w'=>∃ tr,e = .returned (.tuple #[.pointer (some ⟨tr,0,none⟩),.nilIface])∧(∃ t p b db B pb,TreeAt w' tr (Tr.fresh t p 20 b db B pb)∧p.N=1∧∀ k∈B::b::t::p.a.toList,w.heap.size≤k)∧Only [] w w'):=(tree_new w 20 (by decide) (by decide)).mono fun e w' q=>by
  obtain ⟨tr,t,p,b,db,B,pb,he,h1,ho,h2,_,h4,h5,_,h7,_,h9⟩:=q;refine ⟨tr,he,⟨t,p,b,db,B,pb,h1,h2,fun k hk=>?_⟩,ho⟩;rcases List.mem_cons.1 hk with rfl | hk
  · exact h7
  · rcases List.mem_cons.1 hk with rfl | hk
    · exact h5
    · rcases List.mem_cons.1 hk with rfl | hk
      · exact h4
      · exact h9 k (by simpa using hk)
 go_enter Tryz.func19,Tryz.ntmps19
 go_wp2_with (first
  | (go_at_call 38;go_must (refine HT.out.mono ?_);rintro e w1 ⟨tr,rfl,ht,ho⟩;have H1:Hid (∃ t p b db B pb,TreeAt w1 tr (Tr.fresh t p 20 b db B pb)∧p.N=1∧∀ k∈B::b::t::p.a.toList,w.heap.size≤k):=ht;have HO1:Hid (Only [] w w1):=ho;clear ht ho)
  | (go_at_call 39;go_must (refine (serve_over _ _).mono ?_);rintro e w2 ⟨s,rfl,hc2,hb2⟩;have HB2:Hid (Below w1.heap.size w1 w2):=hb2;have HC2:Hid (w2.cell? ⟨s,0,none⟩=some (.pointer (some ⟨tr,0,none⟩))∧w1.heap.size≤s∧s+1≤w2.heap.size):=hc2;clear hb2 hc2))
 go_ret2
 obtain ⟨t,p,b,db,B,pb,hT,hN,hlo⟩:=H1.out;have o2:Only [] w1 w2:=Only.of_below HB2.out _;obtain ⟨c1,c2,c3⟩:=HC2.out;exact ⟨s,tr,t,p,b,db,B,pb,s+1,rfl,⟨c1,hT.only o2,hN,fun k hk=>by have:=hT.foot_lt k hk;omega,by omega,c3,hlo⟩,HO1.out.trans o2 (fun _ hk=>by cases hk)⟩
abbrev srvN:ByteArray:=⟨#[115,101,114,118,101,114]⟩
theorem okN_srv:OkN srvN:=⟨by decide,by decide,by rw [Lib.toList_data];rfl,by rw [Lib.toList_data];rfl,by decide⟩
theorem okN_bb:OkN ⟨#[98]⟩:=⟨by decide,by decide,by rw [Lib.toList_data];rfl,by rw [Lib.toList_data];rfl,by decide⟩
structure WdAt (w:World)(n g s l c b c0:Nat)(tr t:Nat)(p:Row)(bb db B pb lo hi:Nat):Prop where
 net:∀ base,QNet (.slice (some ⟨g,0,none⟩) 2 2) (.pointer (some ⟨s,0,none⟩)) (.pointer (some ⟨l,0,none⟩)) w base n (.slice none 0 0) []
 who:w.cell? ⟨g,0,none⟩=some (.pointer (some ⟨c0,0,none⟩))
 srv:SrvAt w s tr t p bb db B pb lo hi
 lsn:LsnAt w l c srvN s
 mem:∀ base,CaAt w base c b (.slice none 0 0) 5 []
 clr:ClrAt w c0 ⟨#[97]⟩ srvN 0 ⟨#[]⟩
 ord:lo≤c0∧hi≤c0∧c0 < l∧c0 < c∧c0 < b∧l < g∧c < g∧b < g∧g < n∧n < w.heap.size
theorem newWorld_ok (A:Nat→Addr)(w:World)(hE:Errs w A):
   Calls Tryz.prog 5 #[.int .i64 5] w fun e w'=>∃ n g s l c b c0 tr t p bb db B pb hi,e = .returned (.tuple #[.pointer (some ⟨n,0,none⟩),.bool true])∧WdAt w' n g s l c b c0 tr t p bb db B pb w.heap.size hi∧Only [] w w':=by
 have HN:Hid (Calls Tryz.prog 19 #[.int .i64 20] w fun e w'=>∃ s,e = .returned (.tuple #[.pointer (some ⟨s,0,none⟩),.nilIface])∧(∃ tr t p b db B pb hi,SrvAt w' s tr t p b db B pb w.heap.size hi)∧Only [] w w'):=(serveNew1 w).mono fun e w' q=>by
   obtain ⟨s,tr,t,p,b,db,B,pb,hi,he,h,ho⟩:=q;exact ⟨s,he,⟨tr,t,p,b,db,B,pb,hi,h⟩,ho⟩
 have HA:Hid (∀ W,Only [] w W→Calls Tryz.prog 20 #[.string ⟨#[97]⟩,.string srvN] W fun e w'=>∃ c,e = .returned (.tuple #[.pointer (some ⟨c,0,none⟩),.nilIface])∧(ClrAt w' c ⟨#[97]⟩ srvN 0 ⟨#[]⟩∧W.heap.size≤c)∧Only [] W w'):=fun W ho=>(newCaller_ok A _ _ W (hE.below (ho.to_below (Nat.le_refl _) (fun _ h=>by cases h)) (Nat.le_refl _)) okN_a okN_srv).mono fun e w' q=>by
   obtain ⟨c,he,h1,h2,hb⟩:=q;exact ⟨c,he,⟨h1,h2⟩,Only.of_below hb _⟩
 have HB:Hid (∀ W,Only [] w W→Calls Tryz.prog 20 #[.string ⟨#[98]⟩,.string srvN] W fun e w'=>∃ c,e = .returned (.tuple #[.pointer (some ⟨c,0,none⟩),.nilIface])∧Only [] W w'):=fun W ho=>(newCaller_ok A _ _ W (hE.below (ho.to_below (Nat.le_refl _) (fun _ h=>by cases h)) (Nat.le_refl _)) okN_bb okN_srv).mono fun e w' q=>by
   obtain ⟨c,he,h1,h2,hb⟩:=q;exact ⟨c,he,Only.of_below hb _⟩
 have HL:Hid (∀ s W,Only [] w W→Calls Tryz.prog 21 #[.string srvN,.pointer (some ⟨s,0,none⟩),.int .i64 5] W fun e w'=>∃ l,e = .returned (.tuple #[.pointer (some ⟨l,0,none⟩),.nilIface])∧(∃ c b,LsnAt w' l c srvN s∧(∀ base,CaAt w' base c b (.slice none 0 0) 5 [])∧W.heap.size≤l∧W.heap.size≤c∧W.heap.size≤b)∧Only [] W w'):=fun s W ho=>(newListener_ok A srvN s 5 W (hE.below (ho.to_below (Nat.le_refl _) (fun _ h=>by cases h)) (Nat.le_refl _)) okN_srv (by decide) (by decide)).mono fun e w' q=>by
   obtain ⟨l,c,b,he,h1,h2,h3,h4,h5,hb⟩:=q;exact ⟨l,he,⟨c,b,h1,h2,h3,h4,h5⟩,Only.of_below hb _⟩
 clear hE
 go_enter Tryz.func5,Tryz.ntmps5
 go_wp2_with (first
   | (go_at_call 19;(with_reducible refine HN.out.mono ?_);rintro e w1 ⟨s,rfl,hs,ho⟩;have H1:Hid (∃ tr t p b db B pb hi,SrvAt w1 s tr t p b db B pb w.heap.size hi):=hs;have O1:Hid (Only [] w w1):=ho;clear hs ho)
   | (go_at_call 20;(with_reducible refine (HB.out _ O2.out).mono ?_);rintro e w3 ⟨c1,rfl,ho⟩;have O23:Hid (Only [] w2 w3):=ho;have O3:Hid (Only [] w w3):=O2.out.trans ho (fun _ hk=>by cases hk);clear ho)
   | (go_at_call 20;(with_reducible refine (HA.out _ O1.out).mono ?_);rintro e w2 ⟨c0,rfl,hc,ho⟩;have H2:Hid (ClrAt w2 c0 ⟨#[97]⟩ srvN 0 ⟨#[]⟩∧w1.heap.size≤c0):=hc;have O12:Hid (Only [] w1 w2):=ho;have O2:Hid (Only [] w w2):=O1.out.trans ho (fun _ hk=>by cases hk);clear hc ho)
   | (go_at_call 21;(with_reducible refine (HL.out _ _ O3.out).mono ?_);rintro e w4 ⟨l,rfl,hl,ho⟩;have H4:Hid (∃ c b,LsnAt w4 l c srvN s∧(∀ base,CaAt w4 base c b (.slice none 0 0) 5 [])∧w3.heap.size≤l∧w3.heap.size≤c∧w3.heap.size≤b):=hl;have O34:Hid (Only [] w3 w4):=ho;have O4:Hid (Only [] w w4):=O3.out.trans ho (fun _ hk=>by cases hk);clear hl ho))
 go_ret2
 obtain ⟨tr,t,p,bb,db,B,pb,hi,hS⟩:=H1.out;obtain ⟨c,b,hL,hM,k1,k2,k3⟩:=H4.out;obtain ⟨hC,k0⟩:=H2.out;have s12:=O12.out.size;have s23:=O23.out.size;have s34:=O34.out.size;have hc2:=hC.cells.2.2.2.2.2;have hl4:=hL.cells.2.2.2;have oN:∀ x y,Only [] w4 ((w4.alloc x).alloc y):=fun x y=>((Only.refl [] w4).alloc _).alloc _;have o14:Only [] w1 w4:=(O12.out.trans O23.out (fun _ hk=>by cases hk)).trans O34.out (fun _ hk=>by cases hk);have o24:Only [] w2 w4:=O23.out.trans O34.out (fun _ hk=>by cases hk);have hcb:=hM 0;refine ⟨w4.heap.size+1,w4.heap.size,s,l,c,b,c0,tr,t,p,bb,db,B,pb,hi,rfl,⟨fun base=>⟨?_,?_,?_⟩,?_,hS.only (o14.trans (oN _ _) (fun _ hk=>by cases hk)),hL.kept (oN _ _) (by simp),fun base=>(hM base).only (oN _ _),hC.only (o24.trans (oN _ _) (fun _ hk=>by cases hk)) (by simp),?_⟩,O4.out.trans (oN _ _) (fun _ hk=>by cases hk)⟩
 · show (((w4.heap.push _).push _))[w4.heap.size+1]?=_
   exact push2 _ _ _
 · exact RowM.nil _ _ _
 · intro k hk
   simp [Value.ownBlock] at hk
 · exact (((Only.refl [] _).alloc _).cell (p:=⟨w4.heap.size,0,none⟩) (by simp) (by simp)).trans (cell_new _ _ _ _ _ ⟨rfl,rfl⟩)
 · have:=hS.le
   have:=hcb.lt;have:=hcb.blt;have:=O1.out.size;simp;omega
theorem map_no {w:World}{K:TypeId}{R:Value→Option (DataW Unit×List MemPlace)}{b n:Nat}{D:DataW Unit}(h:w.ownsMap Tryz.prog K R b n D){cs:Array Value}{ty:TypeId}{fr:Nat×Nat}(hc:w.heap[b]?=some (.cells cs ty fr)):False:=by
 obtain ⟨es,clock,hb,_⟩:=h;rw [hb] at hc
 cases hc
theorem ty_is {w:World}{k:Nat}{ty ty':TypeId}(h:Ty w k ty){cs:Array Value}{fr:Nat×Nat}(hc:w.heap[k]?=some (.cells cs ty' fr)):ty'=ty:=by
 obtain ⟨cs',fr',h⟩:=h;rw [h] at hc
 cases hc
 rfl
theorem foot_row {w:World}{tr k:Nat}{T:Tr}(h:TreeAt w tr T)(hk:FootT tr T k)(ht:k≠tr){cs:Array Value}{fr:Nat×Nat}(hc:w.heap[k]?=some (.cells cs 52 fr)):False:=by
 rcases hk with e | e | e | ⟨i,d,h1,h2⟩ | (e | e | ⟨i,n,h1,h2⟩)
 · exact ht e
 · obtain ⟨D,n,h1,_⟩:=h.dirs
   exact map_no h1 (e ▸ hc)
 · obtain ⟨D,n,h1,_⟩:=h.pins
   exact map_no h1 (e ▸ hc)
 · exact map_no (h.dir i d h1) (h2 ▸ hc)
 · exact absurd (ty_is h.tab.ty (e ▸ hc)) (by decide)
 · obtain ⟨_,_,cur,hr⟩:=own_at h.tab.row (by rw [T.p.own];exact e)
   rw [hr] at hc;simp at hc
 · have hN:=h.tab.node i n h1
   rcases List.mem_cons.1 h2 with rfl | h2
   · exact absurd (ty_is hN.d.ty hc) (by decide)
   · obtain ⟨f,_,hm⟩:=hN.d.holds
     have e:n.m=some k:=by simpa using h2
     rw [e] at hm;obtain ⟨D,hm,_⟩:=hm;exact map_no hm hc
structure OnK where
 (n g s l c b c0 tr t:Nat)
 p:Row
 (bb db B pb lo hi base:Nat)
 (nm tx u:ByteArray)
 kc:Int
 cn:Nat
 w0:World
abbrev cN:ByteArray:=⟨#[97]⟩
def OnK.R (k:OnK):Msg:=⟨cN,srvN,reqS 1 k.tx⟩
def OnK.P (k:OnK):Msg:=⟨srvN,cN,reqS 1 k.u⟩
abbrev OnK.fr (k:OnK):Tr:=Tr.fresh k.t k.p 20 k.bb k.db k.B k.pb
structure OnK.Ok (k:OnK):Prop where
 ord:k.lo≤k.c0∧k.hi≤k.c0∧k.c0 < k.l∧k.c0 < k.c∧k.c0 < k.b∧k.l < k.g∧k.c < k.g∧k.b < k.g∧k.g < k.n∧k.n < k.base∧k.s < k.hi
 foot:∀ j,FootT k.tr k.fr j→j < k.s
 low:∀ j∈k.B::k.bb::k.t::k.p.a.toList,k.lo≤j
 one:k.p.N=1
 tx:k.tx.size≤400∧pAll pOp k.tx=some [opR,opM k.nm]
 rep:RepT k.kc k.u
 kc:(OkN k.nm∧k.kc=0∧k.cn=1)∨(¬ OkN k.nm∧k.kc=4∧k.cn=0)
def OnK.Srv (k:OnK)(w:World):Bool→Prop
 | false=>CaAt w k.base k.c k.b (.slice none 0 0) 5 []∧TreeAt w k.tr k.fr
 | true=>(∃ v,CaAt w k.base k.c k.b v 5 [⟨cN,1,k.tx,reqS 1 k.u⟩])∧∃ T,RootAt w k.tr T k.cn∧∀ j,FootT k.tr T j→j < k.hi∨k.base≤j
def OnK.clr (k:OnK):Bool→ByteArray
 | false=>reqS 1 k.tx
 | true=>⟨#[]⟩
abbrev OnK.Net (k:OnK)(w:World)(v:Value)(ms:List Msg):Prop:=QNet (.slice (some ⟨k.g,0,none⟩) 2 2) (.pointer (some ⟨k.s,0,none⟩)) (.pointer (some ⟨k.l,0,none⟩)) w k.base k.n v ms
structure OnS (A:Nat→Addr)(k:OnK)(w:World)(v:Value)(ms:List Msg)(did heard:Bool):Prop where
 net:k.Net w v ms
 all:∀ x∈ms,x=k.R∨(did=true∧x=k.P)
 who:w.cell? ⟨k.g,0,none⟩=some (.pointer (some ⟨k.c0,0,none⟩))
 lsn:LsnAt w k.l k.c srvN k.s
 clr:ClrAt w k.c0 cN srvN 1 (k.clr heard)
 cell:w.cell? ⟨k.s,0,none⟩=some (.pointer (some ⟨k.tr,0,none⟩))
 srv:k.Srv w did
 errs:∃ w0,(Errs w0 A∧w0=k.w0)∧Below w0.heap.size w0 w∧w0.heap.size≤k.lo
 big:k.base≤w.heap.size
theorem OnS.E {A:Nat→Addr}{k:OnK}{w:World}{v:Value}{ms:List Msg}{did heard:Bool}(h:OnS A k w v ms did heard):Errs w A:=by
 obtain ⟨w0,h1,h2,_⟩:=h.errs;exact h1.1.below h2 (Nat.le_refl _)
theorem OnS.below {A:Nat→Addr}{k:OnK}{w:World}{v:Value}{ms:List Msg}{did heard:Bool}(h:OnS A k w v ms did heard):Below k.w0.heap.size k.w0 w:=by
 obtain ⟨w0,⟨_,rfl⟩,h2,_⟩:=h.errs;exact h2
theorem low_only {A:Nat→Addr}{k:OnK}{w w':World}{L:List Nat}(h:∃ w0,(Errs w0 A∧w0=k.w0)∧Below w0.heap.size w0 w∧w0.heap.size≤k.lo)(ho:Only L w w')(hL:∀ j∈L,k.lo≤j):∃ w0,(Errs w0 A∧w0=k.w0)∧Below w0.heap.size w0 w'∧w0.heap.size≤k.lo:=by
 obtain ⟨w0,h1,h2,h3⟩:=h;exact ⟨w0,h1,h2.trans (ho.to_below h2.size (fun j hj=>Nat.le_trans h3 (hL j hj))),h3⟩
theorem srv_kept {k:OnK}{w w':World}{L:List Nat}{did:Bool}(hk:k.Ok)(h:k.Srv w did)(ho:Only L w w')(hL:∀ j∈L,k.hi≤j∧j≠k.c∧j≠k.b∧(k.base≤j→∃ cs fr,w.heap[j]?=some (.cells cs 52 fr))):k.Srv w' did:=by
 have o:=hk.ord
 cases did
 · refine ⟨h.1.kept ho (fun e=>(hL _ e).2.1 rfl) (fun e=>(hL _ e).2.2.1 rfl) (fun _ e=>by simp [Value.ownBlock] at e),h.2.kept ho (fun j hj e=>?_)⟩
   have:=hk.foot j hj;have:=(hL j e).1;omega
 · obtain ⟨⟨v,hv⟩,T,hT,hF⟩:=h
   refine ⟨⟨v,hv.kept ho (fun e=>(hL _ e).2.1 rfl) (fun e=>(hL _ e).2.2.1 rfl) (fun j e1 e=>?_)⟩,T,hT.kept ho (fun j hj e=>?_),hF⟩
   · obtain ⟨b1,_,cur,hc⟩:=own_block hv.row e1
     obtain ⟨cs,fr,h2⟩:=(hL j e).2.2.2 b1;rw [hc] at h2;simp at h2
   · rcases hF j hj with h1 | h1
     · have:=(hL j e).1
       omega
     · obtain ⟨cs,fr,h2⟩:=(hL j e).2.2.2 h1
       refine foot_row hT.tree hj (fun e2=>?_) h2;have:=hk.foot k.tr (Or.inl rfl);omega
section
variable {A:Nat→Addr}{k:OnK}{w w':World}{v v':Value}{ms ms':List Msg}{did heard:Bool}
theorem OnS.own (h:OnS A k w v ms did heard){j:Nat}(hj:v.ownBlock=some j):k.base≤j∧∃ cs fr,w.heap[j]?=some (.cells cs 52 fr):=by
 obtain ⟨b1,_,cur,hc⟩:=own_at h.net.own hj;exact ⟨b1,cur,_,hc⟩
theorem OnS.step (hk:k.Ok)(h:OnS A k w v ms did heard)(ho:Only (k.n::v.ownBlock.toList) w w')(hn:k.Net w' v' ms')(ha:∀ x∈ms',x=k.R∨(did=true∧x=k.P)):OnS A k w' v' ms' did heard:=by
 have o:=hk.ord
 have hL:∀ j∈k.n::v.ownBlock.toList,j=k.n∨k.base≤j∧∃ cs fr,w.heap[j]?=some (.cells cs 52 fr):=fun j hj=>by
  rcases List.mem_cons.1 hj with e | e
  · exact Or.inl e
  · exact Or.inr (h.own (by simpa using e))
 have no:∀ j,j < k.n→j∉k.n::v.ownBlock.toList:=fun j hj e=>by
  rcases hL j e with e1 | ⟨e1,_⟩<;>omega
 exact ⟨hn,ha,(ho.cell (p:=⟨k.g,0,none⟩) (lt_of_cell h.who) (no _ (by show k.g < k.n;omega))).trans h.who,h.lsn.kept ho (no _ (by omega)),h.clr.only ho (no _ (by omega)),(ho.cell (p:=⟨k.s,0,none⟩) (lt_of_cell h.cell) (no _ (by show k.s < k.n;omega))).trans h.cell,
  srv_kept hk h.srv ho (fun j hj=>by
    rcases hL j hj with e1 | ⟨e1,e2⟩
    · subst e1
      exact ⟨by omega,by omega,by omega,fun e=>by omega⟩
    · exact ⟨by omega,by omega,by omega,fun _=>e2⟩),
  low_only h.errs ho (fun j hj=>by rcases hL j hj with e1 | ⟨e1,e2⟩<;>omega),Nat.le_trans h.big ho.size⟩
theorem OnS.quiet (hk:k.Ok)(h:OnS A k w v ms did heard)(ho:Only [] w w'):OnS A k w' v ms did heard :=
 h.step hk (ho.mono (fun _ hk=>by cases hk)) (h.net.only ho (by simp) (fun _ _=>by simp)) h.all
theorem OnS.hush (hk:k.Ok)(h:OnS A k w v ms did heard)(ho:Only [k.c0] w w')(hc:ClrAt w' k.c0 cN srvN 1 ⟨#[]⟩):OnS A k w' v ms did true:=by
 have o:=hk.ord;have no:∀ j,j≠k.c0→j∉[k.c0]:=fun j hj e=>hj (List.mem_singleton.1 e)
 exact ⟨h.net.only ho (no _ (by omega)) (fun j hj=>no _ (by have:=(h.own hj).1;omega)),h.all,(ho.cell (p:=⟨k.g,0,none⟩) (lt_of_cell h.who) (no _ (by show k.g≠k.c0;omega))).trans h.who,h.lsn.kept ho (no _ (by omega)),hc,(ho.cell (p:=⟨k.s,0,none⟩) (lt_of_cell h.cell) (no _ (by show k.s≠k.c0;omega))).trans h.cell,
  srv_kept hk h.srv ho (fun j hj=>by
   rw [List.mem_singleton.1 hj]
   exact ⟨by omega,by omega,by omega,fun e=>by omega⟩),
  low_only h.errs ho (fun j hj=>by rw [List.mem_singleton.1 hj];omega),Nat.le_trans h.big ho.size⟩
theorem OnS.done {L:List Nat}(hk:k.Ok)(h:OnS A k w v ms did heard)(ho:Only (k.c::k.b::L) w w')(hL:∀ j∈L,k.lo≤j∧j < k.s)(hs:k.Srv w' true):OnS A k w' v ms true heard:=by
 have o:=hk.ord
 obtain ⟨cv,cL,hcb⟩:∃ cv cL,CaAt w k.base k.c k.b cv 5 cL:=by
   cases did
   · exact ⟨_,_,h.srv.1⟩
   · obtain ⟨⟨cv,e⟩,_⟩:=h.srv
     exact ⟨cv,_,e⟩
 have no:∀ j,j≠k.c→j≠k.b→k.hi≤j∨j=k.s→j∉k.c::k.b::L:=fun j h1 h2 h3 e=>by
   rcases List.mem_cons.1 e with e | e
   · exact h1 e
   · rcases List.mem_cons.1 e with e | e
     · exact h2 e
     · have:=hL j e
       omega
 refine ⟨h.net.only ho (no _ (by omega) (by omega) (by omega)) (fun j hj=>by have:=(h.own hj).1;exact no _ (by omega) (by omega) (by omega)),fun x hx=>(h.all x hx).imp id (fun e=>⟨rfl,e.2⟩),(ho.cell (p:=⟨k.g,0,none⟩) (lt_of_cell h.who) (no _ (by show k.g≠k.c;omega) (by show k.g≠k.b;omega) (Or.inl (by show k.hi≤k.g;omega)))).trans h.who,h.lsn.kept ho (no _ (fun e=>?_) (fun e=>?_) (by omega)),h.clr.only ho (no _ (by omega) (by omega) (by omega)),(ho.cell (p:=⟨k.s,0,none⟩) (lt_of_cell h.cell) (no _ (by show k.s≠k.c;omega) (by show k.s≠k.b;omega) (Or.inr rfl))).trans h.cell,hs,
   low_only h.errs ho (fun j hj=>by
     rcases List.mem_cons.1 hj with e | e
     · omega
     · rcases List.mem_cons.1 e with e | e
       · omega
       · exact (hL j e).1),Nat.le_trans h.big ho.size⟩
 · have hl:w.heap[k.l]?=_:=h.lsn
   rw [e,hcb.tab] at hl;simp at hl
 · have hl:w.heap[k.l]?=_:=h.lsn
   rw [e] at hl;obtain ⟨D,h1,_⟩:=hcb.own;exact map_no h1 hl
end
section
variable {A:Nat→Addr}{k:OnK}{w w':World}{v v':Value}{ms ms':List Msg}{did heard:Bool}
theorem okQ_c:OkQ (cN,1):=⟨by show (1:Nat)≤maxLen;decide,by rfl⟩
theorem rep_size (hk:k.Ok):(reqS 1 k.u).size≤4000:=by
 have:=hk.rep.2;rw [reqS_size];have:=fillN_lt k.u.size;omega
theorem OnS.reply (hk:k.Ok)(h:OnS A k w v ms true heard)(hl:ms.length < 100):
  Calls Tryz.prog 33 #[.pointer (some ⟨k.n,0,none⟩),.agg #[.string srvN,.string cN,.string (reqS 1 k.u)]] w fun e w'=>e = .returned .nilIface∧∃ v',OnS A k w' v' (ms++[k.P]) true heard :=
 (sent_ok A w k.base k.n v ms k.P h.E h.net hl h.big okN_srv okN_a (rep_size hk)).mono fun e w' q=>by
  obtain ⟨he,v',h1,h2⟩:=q;refine ⟨he,v',h.step hk h2 h1 (fun x hx=>?_)⟩;rcases List.mem_append.1 hx with e | e
  · exact h.all x e
  · exact Or.inr ⟨rfl,List.mem_singleton.1 e⟩
theorem OnS.hears_known (hk:k.Ok)(h:OnS A k w v ms true heard)(hl:ms.length < 100):
  Calls Tryz.prog 13 #[.pointer (some ⟨k.l,0,none⟩),.pointer (some ⟨k.n,0,none⟩),.agg #[.string cN,.string srvN,.string (reqS 1 k.tx)]] w fun e w'=>e = .returned (.tuple #[.bool false,.nilIface])∧∃ v',OnS A k w' v' (ms++[k.P]) true heard:=by
 obtain ⟨⟨cv,hc⟩,_⟩:=h.srv;refine lhear_ok A w k.l k.c k.s k.n 1 cN srvN k.tx (reqS 1 k.u) false [] (fun w'=>Only [] w w') _ h.E h.lsn (by simp) (fun _ hk=>by cases hk) (by decide) hk.tx.1 (fun W ho=>?_) (fun W W' h1 h2=>(h.quiet hk (h1.trans h2 (fun _ hk=>by cases hk))).reply hk hl);refine (once_known A W k.base k.c k.b cv _ 5 _ cN k.tx (reqS 1 k.u) 1 (h.quiet hk ho).E (hc.only ho) okQ_c ?_).mono fun e w' q=>⟨q.1,ho.trans q.2 (fun _ hk=>by cases hk),q.2⟩
 have hf:findK [(⟨cN,1,k.tx,reqS 1 k.u⟩:Kp)] (cN,1)=some ⟨cN,1,k.tx,reqS 1 k.u⟩:=by
  simp [findK,Kp.k]
 unfold lookK;rw [hf];simp
theorem OnS.answers (hk:k.Ok)(h:OnS A k w v ms false heard):∃ (L:List Nat) (R:World→World→Prop),(∀ j∈L,k.lo≤j∧j < k.s)∧(∀ W W' X,Only [] w W→AftR k.hi W.heap.size R W'→Only (k.c::k.b::L) W W'→(∃ cv,CaAt W' k.base k.c k.b cv 5 [⟨cN,1,k.tx,reqS 1 k.u⟩])→X=()→k.Srv W' true) ∧
   ∀ W,Only [] w W→Calls Tryz.prog 32 #[.pointer (some ⟨k.l,0,none⟩),.agg #[.int .i64 1,.string k.tx]] W fun e w'=>e = .returned (.string (reqS 1 k.u))∧AftR W.heap.size W.heap.size R w'∧Only L W w':=by
 have o:=hk.ord;have hT:=h.srv.2
 have hlow:∀ j∈k.B::k.bb::k.t::k.p.a.toList,k.lo≤j∧j < k.s:=fun j hj=>⟨hk.low j hj,hk.foot j (by
   rcases List.mem_cons.1 hj with e | hj
   · exact foot_dir (a:=0) (d:=⟨k.B,[]⟩) rfl e
   · rcases List.mem_cons.1 hj with e | hj
     · rw [e];exact foot_node (i:=0) (n:={ newNod k.bb 2 with Z:=0,L:=2 }) rfl (Nod.b_foot _)
     · rcases List.mem_cons.1 hj with e | hj
       · rw [e];exact foot_t
       · exact foot_p (show k.p.a=some j by simpa using hj))⟩
 have hsl:=lt_of_cell h.cell;rcases hk.kc with ⟨hn,hkc,hcn⟩ | ⟨hn,hkc,hcn⟩
 · refine ⟨k.B::k.bb::k.t::k.p.a.toList,MadeT k.tr k.hi,hlow,fun W W' _ ho ha hoo hc _=>⟨hc,?_⟩,fun W ho=>?_⟩
   · obtain ⟨W0,w1,M,a1,⟨T,a2,a3⟩,a4,a5⟩:=ha
     rw [hcn];refine ⟨T,a2.kept a4 (fun j hj e=>?_),fun j hj=>?_⟩
     · have:=a5 j e
       have:=a3 j hj;omega
     · have:=a3 j hj
       have:=ho.size;have:=h.big;omega
   · have hq:=h.quiet hk ho
     refine answer_two A W k.l k.c k.s 1 srvN k.tx k.nm k.u k.kc _ _ hq.E hq.lsn hk.tx.1 hk.tx.2 (by decide) (Or.inl hkc) hk.rep (fun j hj=>?_) (fun W2 ho2=>?_) (fun W2 g cap ho2 hr hg=>?_)
     · have:=hlow j hj
       have:=ho.size;have:k.s < w.heap.size:=hsl;omega
     · obtain ⟨w0,e1,e2,e3⟩:=low_only hq.errs ho2 (fun j hj=>(hlow j hj).1)
       exact e1.1.below e2 (Nat.le_refl _)
     · have hq2:=hq.quiet hk ho2
       rw [hkc];exact compound_made A W2 k.s k.tr k.t k.p k.bb k.db k.B k.pb g cap k.nm hq2.E hq2.cell hq2.srv.2 hk.one hn k.hi (fun j hj=>by have:=hk.foot j hj;omega) hr hg
 · refine ⟨[],fun _ _=>True,fun _ hj=>(by cases hj),fun W W' _ ho ha hoo hc _=>⟨hc,k.fr,?_,fun j hj=>Or.inl (by have:=hk.foot j hj;omega)⟩,fun W ho=>?_⟩
   · rw [hcn]
     refine root_fresh ((hT.only ho).kept hoo (fun j hj e=>?_));have:=hk.foot j hj;simp at e;omega
   · have hq:=h.quiet hk ho
     refine answer_two A W k.l k.c k.s 1 srvN k.tx k.nm k.u k.kc _ _ hq.E hq.lsn hk.tx.1 hk.tx.2 (by decide) (Or.inr hkc) hk.rep (fun j hj=>by cases hj) (fun W2 ho2=>(hq.quiet hk ho2).E) (fun W2 g cap ho2 hr hg=>?_);have hq2:=hq.quiet hk ho2;rw [hkc];exact compound_refused A W2 k.s k.tr k.t k.p k.bb k.db k.B k.pb g cap k.nm hq2.E hq2.cell hq2.srv.2 hn hr hg
theorem OnS.hears_new (hk:k.Ok)(h:OnS A k w v ms false heard)(hl:ms.length < 100):
   Calls Tryz.prog 13 #[.pointer (some ⟨k.l,0,none⟩),.pointer (some ⟨k.n,0,none⟩),.agg #[.string cN,.string srvN,.string (reqS 1 k.tx)]] w fun e w'=>e = .returned (.tuple #[.bool true,.nilIface])∧∃ v',OnS A k w' v' (ms++[k.P]) true heard:=by
 have o:=hk.ord;obtain ⟨L,R,hL,hSrv,hA⟩:=h.answers hk;have hc:=h.srv.1;have hsl:k.s < w.heap.size:=lt_of_cell h.cell;have hll:=h.lsn.cells.2.2.2
 have hlc:k.l∉k.c::k.b::L:=fun e=>by
   rcases List.mem_cons.1 e with e | e
   · have hl:w.heap[k.l]?=_:=h.lsn
     rw [e,hc.tab] at hl;simp at hl
   · rcases List.mem_cons.1 e with e | e
     · have hl:w.heap[k.l]?=_:=h.lsn
       rw [e] at hl;obtain ⟨D,h1,_⟩:=hc.own;exact map_no h1 hl
     · have:=hL _ e
       omega
 have hcl:=hc.lt;have hbl:=hc.blt
 have hLw:∀ j∈k.c::k.b::L,j < w.heap.size:=fun j e=>by
   rcases List.mem_cons.1 e with e | e
   · omega
   · rcases List.mem_cons.1 e with e | e
     · omega
     · have:=hL _ e
       omega
 refine lhear_ok A w k.l k.c k.s k.n 1 cN srvN k.tx (reqS 1 k.u) true (k.c::k.b::L) (fun w'=>OnS A k w' v ms true heard) _ h.E h.lsn hlc hLw (by decide) hk.tx.1 (fun W ho=>?_) (fun W W' h1 h2=>(h1.quiet hk h2).reply hk hl);have hq:=h.quiet hk ho;have hsz:=ho.size;have hca:CaAt W k.base k.c k.b (.slice none 0 0) 5 []:=hq.srv.1;refine (once_new A W k.base k.c k.b k.l k.hi 5 cN k.tx (reqS 1 k.u) 1 L R hq.E hca hq.big okQ_c (by omega) (by omega) (by omega) (fun j hj=>by have:=hL j hj;omega) (by omega) (fun W2 ho2=>?_) (fun W2 ho2=>hA W2 (ho.trans ho2 (fun _ hk=>by cases hk)))).mono fun e w' q=>?_
 · obtain ⟨w0,e1,e2,e3⟩:=low_only hq.errs ho2 (fun j hj=>(hL j hj).1)
   exact e1.1.below e2 (Nat.le_refl _)
 · obtain ⟨he,hcv,haf,hoo⟩:=q
   exact ⟨he,hq.done hk hoo hL (hSrv W w' () ho haf hoo hcv rfl),hoo⟩
theorem OnS.passes (hk:k.Ok)(h:OnS A k w v ms did heard):
  Calls Tryz.prog 13 #[.pointer (some ⟨k.l,0,none⟩),.pointer (some ⟨k.n,0,none⟩),.agg #[.string srvN,.string cN,.string (reqS 1 k.u)]] w fun e w'=>e = .returned (.tuple #[.bool false,.nilIface])∧OnS A k w' v ms did heard :=
 (lhear_pass w k.l k.c k.s k.n k.P srvN h.lsn (by rw [Lib.toList_data,Lib.toList_data];rfl)).mono fun e w' q=>⟨q.1,h.quiet hk q.2⟩
theorem OnS.cpasses (hk:k.Ok)(h:OnS A k w v ms did heard)(x:Msg)(hx:x=k.R∨heard=true):
   Calls Tryz.prog 12 #[.pointer (some ⟨k.c0,0,none⟩),.agg #[.string x.F,.string x.T,.string x.X]] w fun e w'=>e = .returned (.tuple #[.string ⟨#[]⟩,.bool false])∧OnS A k w' v ms did heard∧Only [k.c0] w w':=by
 refine (hear_pass w k.c0 x cN srvN (k.clr heard) 1 h.clr ?_).mono fun e w' q=>⟨q.1,h.quiet hk q.2,q.2.mono (fun _ h=>by cases h)⟩
 cases heard
 · rcases hx with rfl | e
   · exact Or.inr ⟨reqS_full _ _,by rw [Lib.toList_data,Lib.toList_data];rfl⟩
   · cases e
 · exact Or.inl (by show (ByteArray.toList ⟨#[]⟩==[])=true;rw [Lib.toList_data];rfl)
theorem OnS.chears (hk:k.Ok)(h:OnS A k w v ms did false):
  Calls Tryz.prog 12 #[.pointer (some ⟨k.c0,0,none⟩),.agg #[.string srvN,.string cN,.string (reqS 1 k.u)]] w fun e w'=>e = .returned (.tuple #[.string k.u,.bool true])∧OnS A k w' v ms did true∧Only [k.c0] w w' :=
 (hear_reply A w k.c0 1 cN srvN (reqS 1 k.tx) k.u h.E h.clr (reqS_full _ _) (by decide) hk.rep.2).mono fun e w' q=>⟨q.1,h.hush hk q.2.2 q.2.1,q.2.2⟩
end
section
variable {A:Nat→Addr}{k:OnK}{w w':World}{v v':Value}{ms ms':List Msg}{did heard:Bool}
abbrev twoOps (nm:ByteArray):Obj := .cells #[.string kR,.string ⟨#[]⟩,.string ⟨#[]⟩,.int .i64 0,.int .i64 0,.int .i64 0,.int .i64 0,.int .i64 0,.int .i64 0,.string kM,.string nm,.string ⟨#[]⟩,.int .i64 1,.int .i64 0,.int .i64 0,.int .i64 0,.int .i64 0,.int .i64 0] 34
theorem ops_called (nm t:ByteArray)(hE:Errs w A)(ht:runW (S0,0) (listsW opW [opR,opM nm])=(t,0)):
   Calls Tryz.prog 6 #[.slice (some ⟨w.heap.size,0,none⟩) 2 2] (w.alloc (twoOps nm)) fun e w'=>e = .returned (.tuple #[.string t,.nilIface])∧Only [] w w':=by
 have oA:Only [] w (w.alloc (twoOps nm)):=(Only.refl [] w).alloc _;refine (wireOps A (some ⟨w.heap.size,0,none⟩) 2 [opR,opM nm] _ (hE.below (oA.to_below (Nat.le_refl _) (fun _ h=>by cases h)) (Nat.le_refl _)).er3 (show 2≤4294967295 by decide) ?_ (op_oks nm)).mono fun e w' q=>?_
 · have hh:=heap_alloc_last w (twoOps nm)
   refine ⟨fun i x hx=>⟨w.heap.size,rfl,by simp,fun j u hu=>?_⟩⟩;rw [cell_of_row _ _ _ _ _ _ hh];rcases i with _ | _ | i
   · obtain rfl:opR=x:=by simpa using hx
     rcases j with _ | _ | _ | _ | _ | _ | _ | _ | _ | j<;>first | exact hu | (simp [opC] at hu)
   · obtain rfl:opM nm=x:=by simpa using hx
     rcases j with _ | _ | _ | _ | _ | _ | _ | _ | _ | j<;>first | exact hu | (simp [opC] at hu)
   · simp at hx
 · obtain ⟨⟨r,he,hq⟩,ho⟩:=q
   refine ⟨?_,oA.trans ho (fun _ hk=>by cases hk)⟩;rw [he];rcases hq with ⟨h1,_⟩ | ⟨_,t',h2,rfl⟩ | ⟨_,j,t',h2,_⟩
   · exact absurd h1 (show ¬ 16 < 2 by decide)
   · rw [ht] at h2
     cases h2
     rfl
   · rw [ht] at h2
     simp at h2
theorem OnS.calls (hk:k.Ok)(hW:WdAt w k.n k.g k.s k.l k.c k.b k.c0 k.tr k.t k.p k.bb k.db k.B k.pb k.lo k.hi)(hE:∃ w0,(Errs w0 A∧w0=k.w0)∧Below w0.heap.size w0 w∧w0.heap.size≤k.lo)(hb:k.base=w.heap.size)(ho:Only [] w w'):
   Calls Tryz.prog 7 #[.pointer (some ⟨k.c0,0,none⟩),.pointer (some ⟨k.n,0,none⟩),.string k.tx] w' fun e w'=>e = .returned (.tuple #[.int .i64 1,.nilIface])∧∃ v',OnS A k w' v' [k.R] false false:=by
 have o:=hk.ord;have hE':=low_only hE ho (fun _ hk=>by cases hk)
 have hE2:Errs w' A:=by
   obtain ⟨w0,h1,h2,_⟩:=hE';exact h1.1.below h2 (Nat.le_refl _)
 have hsz:=ho.size;refine (call_ok A w' k.c0 k.base k.n _ [] cN srvN k.tx hE2 ((hW.net k.base).only ho (by simp) (fun _ _=>by simp)) (by decide) (by omega) (hW.clr.only ho (by simp)) (by simp [Value.ownBlock];omega) okN_a okN_srv hk.tx.1).mono fun e w2 q=>?_;obtain ⟨he,hc,⟨v',hn⟩,ho2⟩:=q;have ho3:Only [k.c0,k.n] w w2:=(ho.mono (L':=[k.c0,k.n]) (fun _ hk=>by cases hk)).trans ho2 (fun j hj=>Or.inl (by simpa [Value.ownBlock] using hj))
 have no:∀ j,j≠k.c0→j≠k.n→j∉[k.c0,k.n]:=fun j h1 h2 e=>by
   simp at e;omega
 refine ⟨he,v',hn,fun x hx=>Or.inl (by simpa using hx),?_,?_,hc,?_,⟨?_,?_⟩,low_only hE' ho2 (fun j hj=>?_),?_⟩
 · exact (ho3.cell (p:=⟨k.g,0,none⟩) (lt_of_cell hW.who) (no _ (by show k.g≠k.c0;omega) (by show k.g≠k.n;omega))).trans hW.who
 · exact hW.lsn.kept ho3 (no _ (by omega) (by omega))
 · exact (ho3.cell (p:=⟨k.s,0,none⟩) (lt_of_cell hW.srv.cell) (no _ (by show k.s≠k.c0;omega) (by show k.s≠k.n;omega))).trans hW.srv.cell
 · exact (hW.mem k.base).kept ho3 (no _ (by omega) (by omega)) (no _ (by omega) (by omega)) (fun _ e=>by simp [Value.ownBlock] at e)
 · exact hW.srv.tree.kept ho3 (fun j hj=>by have:=hk.foot j hj;exact no _ (by omega) (by omega))
 · simp [Value.ownBlock] at hj
   omega
 · have:=ho2.size
   omega
theorem OnS.agains (hk:k.Ok)(h:OnS A k w v ms false false)(hl:ms.length < 100):
  Calls Tryz.prog 8 #[.pointer (some ⟨k.c0,0,none⟩),.pointer (some ⟨k.n,0,none⟩)] w fun e w'=>e = .returned .nilIface∧∃ v',OnS A k w' v' (ms++[k.R]) false false :=
 (again_ok A w k.c0 k.base k.n v ms cN srvN (reqS 1 k.tx) 1 h.E h.net hl h.big h.clr (reqS_full _ _) okN_a okN_srv (by rw [reqS_size];have:=fillN_lt k.tx.size;have:=hk.tx.1;omega)).mono fun e w' q=>by
  obtain ⟨he,v',h1,h2⟩:=q;refine ⟨he,v',h.step hk h2 h1 (fun x hx=>?_)⟩;rcases List.mem_append.1 hx with e | e
  · exact h.all x e
  · exact Or.inl (List.mem_singleton.1 e)
theorem OnS.twices (hk:k.Ok)(h:OnS A k w v ms did heard)(i:Nat)(hi:i < ms.length)(hl:ms.length < 100):
  Calls Tryz.prog 9 #[.pointer (some ⟨k.n,0,none⟩),.int .i64 i] w fun e w'=>e = .returned .nilIface∧∃ v' ms',OnS A k w' v' ms' did heard∧ms'.length=ms.length+1 :=
 (twice_any A w k.base k.n v ms i h.E h.net (by omega) h.big).mono fun e w' q=>by
  rcases q with ⟨h1,_⟩ | ⟨_,h1,_⟩ | ⟨_,x,_,hx,he,v',h1,h2⟩
  · exact absurd ⟨by omega,by omega⟩ h1
  · omega
  · simp only [Int.toNat_natCast] at hx h1
    refine ⟨he,v',_,h.step hk h2 h1 (fun y hy=>?_),by simp;omega⟩;have hxm:=List.mem_of_getElem? hx;simp only [List.mem_append,List.mem_cons,List.not_mem_nil,or_false] at hy;rcases hy with (hy | (rfl | rfl)) | hy
    · exact h.all y (List.mem_of_mem_take hy)
    · exact h.all _ hxm
    · exact h.all _ hxm
    · exact h.all y (List.mem_of_mem_drop hy)
theorem OnS.takes (hk:k.Ok)(h:OnS A k w v ms did heard)(i:Nat)(hi:i < ms.length)(hl:ms.length < 100):
   ∃ x,(x=k.R∨(did=true∧x=k.P))∧Calls Tryz.prog 11 #[.pointer (some ⟨k.n,0,none⟩),.int .i64 i] w fun e w'=>e = .returned (.tuple #[.agg #[.string x.F,.string x.T,.string x.X],.nilIface])∧∃ v' ms',OnS A k w' v' ms' did heard∧ms'.length+1=ms.length:=by
 have hx:ms[i]?=some ms[i]:=List.getElem?_eq_getElem hi;refine ⟨ms[i],h.all _ (List.getElem_mem hi),(take_ok w k.base k.n v ms i _ h.net hx (by omega)).mono fun e w' q=>?_⟩;obtain ⟨he,v',h1,h2⟩:=q;refine ⟨he,v',_,h.step hk h2 h1 (fun y hy=>?_),by simp;omega⟩;rcases List.mem_append.1 hy with hy | hy
 · exact h.all y (List.mem_of_mem_take hy)
 · exact h.all y (List.mem_of_mem_drop hy)
theorem OnS.lists (hk:k.Ok)(h:OnS A k w v ms did heard)(hl:ms.length < 100):
  Calls Tryz.prog 10 #[.pointer (some ⟨k.n,0,none⟩)] w fun e w'=>∃ ad cap,e = .returned (.slice ad ms.length cap)∧OnS A k w' v ms did heard :=
 (list_any w k.base k.n v ms h.net (by omega)).mono fun e w' q=>by
  obtain ⟨v',he,hm,ho⟩:=q;rcases RowM.open hm with ⟨h1,h2⟩ | ⟨g,cap,cur,h1,_⟩
  · refine ⟨none,0,?_,h.quiet hk ho⟩
    rw [he,h1,h2];rfl
  · exact ⟨_,cap,by rw [he,h1],h.quiet hk ho⟩
theorem OnS.sees (h:OnS A k w v ms did heard)(p:OnlyBy w):p.w.cell? ⟨k.n,1,none⟩=some (.slice (some ⟨k.g,0,none⟩) 2 2)∧p.w.cell? ⟨k.n,2,none⟩=some (.pointer (some ⟨k.s,0,none⟩))∧p.w.cell? ⟨k.n,3,none⟩=some (.pointer (some ⟨k.l,0,none⟩))∧p.w.cell? ⟨k.g,0,none⟩=some (.pointer (some ⟨k.c0,0,none⟩)):=by
 have hb:=(h.net.only p.ho (by simp) (fun _ _=>by simp)).blk;exact ⟨cell_of_row _ _ 1 _ _ _ hb,cell_of_row _ _ 2 _ _ _ hb,cell_of_row _ _ 3 _ _ _ hb,(p.ho.cell (p:=⟨k.g,0,none⟩) (lt_of_cell h.who) (by simp)).trans h.who⟩
end
end
end Go.Proofs.YtmfcfkomdflhlaaGreatDoor
