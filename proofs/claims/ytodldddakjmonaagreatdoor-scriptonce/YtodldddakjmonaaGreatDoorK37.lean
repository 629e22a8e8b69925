import Derived.Test.YtodldddakjmonaaGreatDoorK33
import Derived.Test.YtodldddakjmonaaGreatDoorK36
namespace Go.Proofs.YtodldddakjmonaaGreatDoor
section
open Go Go.RowKit Go.Deep Go.Maps
theorem map_no {w:World}{K:TypeId}{R:Value→Option (DataW Unit×List MemPlace)}{b n:Nat}{D:DataW Unit}(h:w.ownsMap Tryz.prog K R b n D){cs:Array Value}{ty:TypeId}{fr:Nat×Nat}(hc:w.heap[b]?=some (.cells cs ty fr)):False:=by
 obtain ⟨es,clock,hb,_⟩:=h;rw [hb] at hc
 cases hc
theorem ty_is {w:World}{k:Nat}{ty ty':TypeId}(h:Ty w k ty){cs:Array Value}{fr:Nat×Nat}(hc:w.heap[k]?=some (.cells cs ty' fr)):ty'=ty:=by
 obtain ⟨cs',fr',h⟩:=h;rw [h] at hc
 cases hc
 rfl
theorem foot_row {w:World}{tr k:Nat}{T:Tr}(h:TreeAt w tr T)(hk:FootT tr T k)(ht:k≠tr){cs:Array Value}{fr:Nat×Nat}(hc:w.heap[k]?=some (.cells cs 184 fr)):False:=by
 rcases hk with e | e | e | ⟨i,d,h1,h2⟩ | (e | e | ⟨i,n,h1,h2⟩)
 · exact ht e
 · obtain ⟨D,n,h1,_⟩:=h.dirs
   exact map_no h1 (e ▸ hc)
 · obtain ⟨D,n,h1,_⟩:=h.pins
   exact map_no h1 (e ▸ hc)
 · exact map_no (h.dir i d h1) (h2 ▸ hc)
 · exact absurd (ty_is h.tab.ty (e ▸ hc)) (by decide)
 · obtain ⟨_,_,cur,hr⟩:=own_at h.tab.row (by rw [T.p.own];exact e)
   rw [hr] at hc;simp at hc
 · have hN:=h.tab.node i n h1
   rcases List.mem_cons.1 h2 with rfl | h2
   · exact absurd (ty_is hN.d.ty hc) (by decide)
   · obtain ⟨f,_,hm⟩:=hN.d.holds
     have e:n.m=some k:=by simpa using h2
     rw [e] at hm;obtain ⟨D,hm,_⟩:=hm;exact map_no hm hc
abbrev srvN:ByteArray:=⟨#[115,101,114,118,101,114]⟩
theorem okN_srv:OkN srvN:=⟨by decide,by decide,by rw [Lib.toList_data];rfl,by rw [Lib.toList_data];rfl,by decide⟩
abbrev cN:ByteArray:=⟨#[97]⟩
abbrev xN:ByteArray:=⟨#[120]⟩
theorem okN_x:OkN xN:=⟨by decide,by decide,by rw [Lib.toList_data];rfl,by rw [Lib.toList_data];rfl,by decide⟩
def ptrL:List Nat→Value
 | [b]=>ptrV b
 | _ => .pointer none
def clrsF (a b c:Nat):List UInt8→Option (List Nat):=updV (updV (updV (fun _=>none) ⟨#[97]⟩ [a]) ⟨#[98]⟩ [b]) ⟨#[99]⟩ [c]
structure ScK where
 (n s l c b c0 d0 mp e1 e2 tr t:Nat)
 p:Row
 (bb db B pb lo hi base r:Nat)
 (rc:Array Value)
 (tx u:ByteArray)
 (m:Int)
 w0:World
def ScK.R (k:ScK):Msg:=⟨cN,srvN,reqS 1 k.tx⟩
def ScK.P (k:ScK):Msg:=⟨srvN,cN,reqS 1 k.u⟩
def ScK.msg (k:ScK)(b:Bool):Msg:=if b then k.P else k.R
abbrev ScK.fr (k:ScK):Tr:=Tr.fresh k.t k.p 300 k.bb k.db k.B k.pb
structure ScK.Ok (k:ScK):Prop where
 ord:k.lo≤k.s∧k.s < k.hi∧k.hi≤k.l∧k.hi≤k.c∧k.hi≤k.b∧k.l < k.n∧k.c < k.n∧k.b < k.n∧k.l < k.mp∧k.c < k.mp∧k.b < k.mp∧k.n≠k.mp∧k.n < k.c0∧k.mp < k.c0∧k.c0 < k.d0∧k.d0 < k.base∧k.hi≤k.r∧k.r < k.base∧k.r≠k.l∧k.r≠k.c∧k.r≠k.b∧k.r≠k.n∧k.r≠k.mp∧k.r≠k.c0∧k.r≠k.d0
 foot:∀ j,FootT k.tr k.fr j→j < k.s
 low:∀ j∈k.B::k.bb::k.t::k.p.a.toList,k.lo≤j
 one:k.p.N=1
 tx:k.tx.size≤400∧pAll pOp k.tx=some [opR,opM xN]
 txo:runW (S0,0) (listsW opW [opR,opM xN])=(k.tx,0)
 rep:RepT 0 k.u
def ScK.Srv (k:ScK)(w:World):Bool→Prop
 | false=>CaAt w k.base k.c k.b (.slice none 0 0) 20 []∧TreeAt w k.tr k.fr
 | true=>(∃ v,CaAt w k.base k.c k.b v 20 [⟨cN,1,k.tx,reqS 1 k.u⟩])∧∃ T,RootF w k.tr T xN∧∀ j,FootT k.tr T j→j < k.hi∨k.base≤j
def ScK.clrT (k:ScK):Nat→ByteArray
 | 1=>reqS 1 k.tx
 | _=>⟨#[]⟩
def ScK.clrI:Nat→Int
 | 0=>0
 | _=>1
def ScK.sayV:Nat→Value
 | 0 => .nilFunc
 | _ => .func (.func 34) #[] #[]
abbrev ScK.Net (k:ScK)(w:World)(v:Value)(ms:List Msg):Prop:=QNet (.pointer (some ⟨k.s,0,none⟩)) (.pointer (some ⟨k.l,0,none⟩)) (.map (some k.mp)) w k.base k.n v ms
structure ScS (A:Nat→Addr)(k:ScK)(w:World)(v:Value)(ms:List Bool)(did:Bool)(ph:Nat):Prop where
 net:k.Net w v (ms.map k.msg)
 all:true∈ms→did=true
 map:MapV ptrL w k.mp (clrsF k.d0 k.e1 k.e2) 3
 lsn:LsnAt w k.l k.c srvN k.s
 clr:ClrAt w k.c0 cN srvN (ScK.clrI ph) (k.clrT ph)
 blk:BlkC w k.d0 #[ptrV k.c0,ScK.sayV ph] 57
 cell:w.cell? ⟨k.s,0,none⟩=some (.pointer (some ⟨k.tr,0,none⟩))
 srv:k.Srv w did
 lodger:BlkC w k.r k.rc 9
 errs:∃ w0,(Errs w0 A∧w0.cell? ⟨8,0,none⟩=some (.int .i64 k.m)∧w0=k.w0)∧Below w0.heap.size w0 w∧w0.heap.size≤k.lo
 big:k.base≤w.heap.size
section
variable {A:Nat→Addr}{k:ScK}{w w':World}{v v':Value}{ms ms':List Bool}{did:Bool}{ph:Nat}
theorem ScS.E (h:ScS A k w v ms did ph):Errs w A:=by
 obtain ⟨w0,h1,h2,_⟩:=h.errs;exact h1.1.below h2 (Nat.le_refl _)
theorem ScS.M (h:ScS A k w v ms did ph):w.cell? ⟨8,0,none⟩=some (.int .i64 k.m):=by
 obtain ⟨w0,h1,h2,_⟩:=h.errs;exact (h2.cell (p:=⟨8,0,none⟩) (lt_of_cell h1.2.1)).trans h1.2.1
theorem ScS.below (h:ScS A k w v ms did ph):Below k.w0.heap.size k.w0 w:=by
 obtain ⟨w0,⟨_,_,rfl⟩,h2,_⟩:=h.errs;exact h2
theorem lowS_only {w w':World}{L:List Nat}(h:∃ w0,(Errs w0 A∧w0.cell? ⟨8,0,none⟩=some (.int .i64 k.m)∧w0=k.w0)∧Below w0.heap.size w0 w∧w0.heap.size≤k.lo)(ho:Only L w w')(hL:∀ j∈L,k.lo≤j):∃ w0,(Errs w0 A∧w0.cell? ⟨8,0,none⟩=some (.int .i64 k.m)∧w0=k.w0)∧Below w0.heap.size w0 w'∧w0.heap.size≤k.lo:=by
 obtain ⟨w0,h1,h2,h3⟩:=h;exact ⟨w0,h1,h2.trans (ho.to_below h2.size (fun j hj=>Nat.le_trans h3 (hL j hj))),h3⟩
theorem srvS_kept {L:List Nat}(hk:k.Ok)(h:k.Srv w did)(ho:Only L w w')(hL:∀ j∈L,k.hi≤j∧j≠k.c∧j≠k.b∧(k.base≤j→∃ cs fr,w.heap[j]?=some (.cells cs 184 fr))):k.Srv w' did:=by
 have o:=hk.ord
 cases did
 · refine ⟨h.1.kept ho (fun e=>(hL _ e).2.1 rfl) (fun e=>(hL _ e).2.2.1 rfl) (fun _ e=>by simp [Value.ownBlock] at e),h.2.kept ho (fun j hj e=>?_)⟩
   have:=hk.foot j hj;have:=(hL j e).1;omega
 · obtain ⟨⟨v,hv⟩,T,hT,hF⟩:=h
   refine ⟨⟨v,hv.kept ho (fun e=>(hL _ e).2.1 rfl) (fun e=>(hL _ e).2.2.1 rfl) (fun j e1 e=>?_)⟩,T,hT.kept ho (fun j hj e=>?_),hF⟩
   · obtain ⟨b1,_,cur,hc⟩:=own_block hv.row e1
     obtain ⟨cs,fr,h2⟩:=(hL j e).2.2.2 b1;rw [hc] at h2;simp at h2
   · rcases hF j hj with h1 | h1
     · have:=(hL j e).1
       omega
     · obtain ⟨cs,fr,h2⟩:=(hL j e).2.2.2 h1
       refine foot_row hT.at1.tree hj (fun e2=>?_) h2;have:=hk.foot k.tr (Or.inl rfl);omega
theorem ScS.own (h:ScS A k w v ms did ph){j:Nat}(hj:v.ownBlock=some j):k.base≤j∧∃ cs fr,w.heap[j]?=some (.cells cs 184 fr):=by
 obtain ⟨b1,_,cur,hc⟩:=own_at h.net.own hj;exact ⟨b1,cur,_,hc⟩
theorem ScS.free {L:List Nat}(hk:k.Ok)(h:ScS A k w v ms did ph)(ho:Only L w w')(hL:∀ j∈L,k.hi≤j∧j≠k.l∧j≠k.c∧j≠k.b∧j≠k.mp∧j≠k.c0∧j≠k.d0∧j≠k.r∧(k.base≤j→∃ cs fr,w.heap[j]?=some (.cells cs 184 fr)))(hn:k.Net w' v' (ms'.map k.msg))(ha:true∈ms'→did=true):ScS A k w' v' ms' did ph:=by
 have o:=hk.ord
 have no:∀ j,(j < k.hi∨j=k.l∨j=k.c∨j=k.b∨j=k.mp∨j=k.c0∨j=k.d0∨j=k.r)→j∉L:=fun j hj e=>by
  have:=hL j e;omega
 exact ⟨hn,ha,h.map.only ho (no _ (by omega)),h.lsn.kept ho (no _ (by omega)),h.clr.only ho (no _ (by omega)),h.blk.only ho (no _ (by omega)),(ho.cell (p:=⟨k.s,0,none⟩) (lt_of_cell h.cell) (no _ (by show k.s < k.hi∨_;omega))).trans h.cell,
  srvS_kept hk h.srv ho (fun j hj=>⟨(hL j hj).1,(hL j hj).2.2.1,(hL j hj).2.2.2.1,(hL j hj).2.2.2.2.2.2.2.2⟩),h.lodger.only ho (no _ (by omega)),lowS_only h.errs ho (fun j hj=>by have:=(hL j hj).1;omega),Nat.le_trans h.big ho.size⟩
theorem ScS.step (hk:k.Ok)(h:ScS A k w v ms did ph)(ho:Only (k.n::v.ownBlock.toList) w w')(hn:k.Net w' v' (ms'.map k.msg))(ha:true∈ms'→did=true):ScS A k w' v' ms' did ph:=by
 have o:=hk.ord;refine h.free hk ho (fun j hj=>?_) hn ha;rcases List.mem_cons.1 hj with e | e
 · subst e
   exact ⟨by omega,by omega,by omega,by omega,by omega,by omega,by omega,by omega,fun e=>by omega⟩
 · obtain ⟨e1,e2⟩:=h.own (show v.ownBlock=some j by simpa using e)
   exact ⟨by omega,by omega,by omega,by omega,by omega,by omega,by omega,by omega,fun _=>e2⟩
theorem ScS.quiet (hk:k.Ok)(h:ScS A k w v ms did ph)(ho:Only [] w w'):ScS A k w' v ms did ph :=
 h.free hk ho (fun j hj=>by cases hj) (h.net.only ho (by simp) (fun _ _=>by simp)) h.all
theorem ScS.hush (hk:k.Ok)(h:ScS A k w v ms did 1)(ho:Only [k.c0] w w')(hc:ClrAt w' k.c0 cN srvN 1 ⟨#[]⟩):ScS A k w' v ms did 2:=by
 have o:=hk.ord;have no:∀ j,j≠k.c0→j∉[k.c0]:=fun j hj e=>hj (List.mem_singleton.1 e)
 exact ⟨h.net.only ho (no _ (by omega)) (fun j hj=>no _ (by have:=(h.own hj).1;omega)),h.all,h.map.only ho (no _ (by omega)),h.lsn.kept ho (no _ (by omega)),hc,h.blk.only ho (no _ (by omega)),(ho.cell (p:=⟨k.s,0,none⟩) (lt_of_cell h.cell) (no _ (by show k.s≠k.c0;omega))).trans h.cell,
  srvS_kept hk h.srv ho (fun j hj=>by
   rw [List.mem_singleton.1 hj]
   exact ⟨by omega,by omega,by omega,fun e=>by omega⟩),
  h.lodger.only ho (no _ (by omega)),lowS_only h.errs ho (fun j hj=>by rw [List.mem_singleton.1 hj];omega),Nat.le_trans h.big ho.size⟩
theorem ScS.done {L:List Nat}(hk:k.Ok)(h:ScS A k w v ms did ph)(ho:Only (k.c::k.b::L) w w')(hL:∀ j∈L,k.lo≤j∧j < k.s)(hs:k.Srv w' true):ScS A k w' v ms true ph:=by
 have o:=hk.ord
 obtain ⟨cv,cL,hcb⟩:∃ cv cL,CaAt w k.base k.c k.b cv 20 cL:=by
   cases did
   · exact ⟨_,_,h.srv.1⟩
   · obtain ⟨⟨cv,e⟩,_⟩:=h.srv
     exact ⟨cv,_,e⟩
 have no:∀ j,j≠k.c→j≠k.b→k.hi≤j∨j=k.s→j∉k.c::k.b::L:=fun j h1 h2 h3 e=>by
   rcases List.mem_cons.1 e with e | e
   · exact h1 e
   · rcases List.mem_cons.1 e with e | e
     · exact h2 e
     · have:=hL j e
       omega
 refine ⟨h.net.only ho (no _ (by omega) (by omega) (by omega)) (fun j hj=>by have:=(h.own hj).1;exact no _ (by omega) (by omega) (by omega)),fun _=>rfl,h.map.only ho (no _ (by omega) (by omega) (by omega)),h.lsn.kept ho (no _ (fun e=>?_) (fun e=>?_) (by omega)),h.clr.only ho (no _ (by omega) (by omega) (by omega)),h.blk.only ho (no _ (by omega) (by omega) (by omega)),(ho.cell (p:=⟨k.s,0,none⟩) (lt_of_cell h.cell) (no _ (by show k.s≠k.c;omega) (by show k.s≠k.b;omega) (Or.inr rfl))).trans h.cell,hs,h.lodger.only ho (no _ (by omega) (by omega) (by omega)),
   lowS_only h.errs ho (fun j hj=>by
     rcases List.mem_cons.1 hj with e | e
     · omega
     · rcases List.mem_cons.1 e with e | e
       · omega
       · exact (hL j e).1),Nat.le_trans h.big ho.size⟩
 · have hl:w.heap[k.l]?=_:=h.lsn
   rw [e,hcb.tab] at hl;simp at hl
 · have hl:w.heap[k.l]?=_:=h.lsn
   rw [e] at hl;obtain ⟨D,h1,_⟩:=hcb.own;exact map_no h1 hl
theorem ScS.lodge {r:Nat}{rc:Array Value}(hk:k.Ok)(h:ScS A k w (.slice none 0 0) [] false 0)(ho:Only [] w w')(hr:k.base≤r)(hb:BlkC w' r rc 9):(ScK.Ok { k with r:=r,rc:=rc,base:=w'.heap.size })∧ScS A { k with r:=r,rc:=rc,base:=w'.heap.size } w' (.slice none 0 0) [] false 0:=by
 have h2:=h.quiet hk ho;have o:=hk.ord;have hrl:=hb.lt;refine ⟨⟨?_,hk.foot,hk.low,hk.one,hk.tx,hk.txo,hk.rep⟩,⟨⟨h2.net.blk,RowM.nil _ _ _,fun j hj=>by simp [Value.ownBlock] at hj⟩,h2.all,h2.map,h2.lsn,h2.clr,h2.blk,h2.cell,⟨?_,h2.srv.2⟩,hb,h2.errs,Nat.le_refl _⟩⟩
 · simp only
   omega
 · have hc:=h2.srv.1
   exact ⟨hc.tab,hc.own,World.ownsRow_nil _ _ _ _,hc.inv⟩
theorem ScS.guest {rc:Array Value}(hk:k.Ok)(h:ScS A k w v ms did ph)(ho:Only [k.r] w w')(hb:BlkC w' k.r rc 9):(ScK.Ok { k with rc:=rc })∧ScS A { k with rc:=rc } w' v ms did ph:=by
 have o:=hk.ord;have no:∀ j,j≠k.r→j∉[k.r]:=fun j hj e=>hj (List.mem_singleton.1 e);have nn:k.n∉[k.r]:=no _ (by omega);have nm:k.mp∉[k.r]:=no _ (by omega);have nl:k.l∉[k.r]:=no _ (by omega);have nc:k.c0∉[k.r]:=no _ (by omega);have nd:k.d0∉[k.r]:=no _ (by omega);have ns:k.s∉[k.r]:=no _ (by omega)
 have nl0:k.lo≤k.r:=by omega
 have nw:∀ j,v.ownBlock=some j→j∉[k.r]:=fun j hj=>no _ (by have:=(h.own hj).1;omega)
 have hsv:k.Srv w' did:=srvS_kept hk h.srv ho (fun j hj=>by
  rw [List.mem_singleton.1 hj]
  exact ⟨by omega,by omega,by omega,fun e=>by omega⟩)
 refine ⟨⟨hk.ord,hk.foot,hk.low,hk.one,hk.tx,hk.txo,hk.rep⟩,⟨h.net.only ho nn nw,h.all,h.map.only ho nm,h.lsn.kept ho nl,h.clr.only ho nc,h.blk.only ho nd,(ho.cell (p:=⟨k.s,0,none⟩) (lt_of_cell h.cell) ns).trans h.cell,hsv,hb,lowS_only h.errs ho (fun j hj=>by rw [List.mem_singleton.1 hj];exact nl0),Nat.le_trans h.big ho.size⟩⟩
end
section
variable {A:Nat→Addr}{k:ScK}{w w':World}{v v':Value}{ms ms':List Bool}{did:Bool}{ph:Nat}
theorem okQ_c:OkQ (cN,1):=⟨by show (1:Nat)≤maxLen;decide,by rfl⟩
theorem repS_size (hk:k.Ok):(reqS 1 k.u).size≤4000:=by
 have:=hk.rep.2;rw [reqS_size];have:=fillN_lt k.u.size;omega
theorem map_reply (ms:List Bool):(ms++[true]).map k.msg=ms.map k.msg++[k.P]:=by rw [List.map_append];rfl
theorem ScS.reply (hk:k.Ok)(h:ScS A k w v ms true ph)(hl:ms.length < 100):
  Calls Tryz.prog 124 #[.pointer (some ⟨k.n,0,none⟩),.agg #[.string srvN,.string cN,.string (reqS 1 k.u)]] w fun e w'=>e = .returned .nilIface∧∃ v',ScS A k w' v' (ms++[true]) true ph :=
 (sent_ok A w k.base k.n v (ms.map k.msg) k.P h.E h.net (by rw [List.length_map];exact hl) h.big okN_srv okN_a (repS_size hk)).mono fun e w' q=>by
  obtain ⟨he,v',h1,h2⟩:=q;exact ⟨he,v',h.step hk h2 (by rw [map_reply];exact h1) (fun _=>rfl)⟩
theorem ScS.hears_known (hk:k.Ok)(h:ScS A k w v ms true ph)(hl:ms.length < 100):
  Calls Tryz.prog 79 #[.pointer (some ⟨k.l,0,none⟩),.pointer (some ⟨k.n,0,none⟩),.agg #[.string cN,.string srvN,.string (reqS 1 k.tx)]] w fun e w'=>e = .returned (.tuple #[.bool false,.nilIface])∧∃ v',ScS A k w' v' (ms++[true]) true ph:=by
 obtain ⟨⟨cv,hc⟩,_⟩:=h.srv;refine lhear_ok A w k.l k.c k.s k.n 1 cN srvN k.tx (reqS 1 k.u) false [] (fun w'=>Only [] w w') _ h.E h.lsn (by simp) (fun _ hk=>by cases hk) (by decide) hk.tx.1 (fun W ho=>?_) (fun W W' h1 h2=>(h.quiet hk (h1.trans h2 (fun _ hk=>by cases hk))).reply hk hl);refine (once_known A W k.base k.c k.b cv _ 20 _ cN k.tx (reqS 1 k.u) 1 (h.quiet hk ho).E (hc.only ho) okQ_c ?_).mono fun e w' q=>⟨q.1,ho.trans q.2 (fun _ hk=>by cases hk),q.2⟩
 have hf:findK [(⟨cN,1,k.tx,reqS 1 k.u⟩:Kp)] (cN,1)=some ⟨cN,1,k.tx,reqS 1 k.u⟩:=by
  simp [findK,Kp.k]
 unfold lookK;rw [hf];simp
theorem ScS.answers (hk:k.Ok)(h:ScS A k w v ms false ph):∃ (L:List Nat) (R:World→World→Prop),(∀ j∈L,k.lo≤j∧j < k.s)∧(∀ W W' X,Only [] w W→AftR k.hi W.heap.size R W'→Only (k.c::k.b::L) W W'→(∃ cv,CaAt W' k.base k.c k.b cv 20 [⟨cN,1,k.tx,reqS 1 k.u⟩])→X=()→k.Srv W' true) ∧
   ∀ W,Only [] w W→Calls Tryz.prog 123 #[.pointer (some ⟨k.l,0,none⟩),.agg #[.int .i64 1,.string k.tx]] W fun e w'=>e = .returned (.string (reqS 1 k.u))∧AftR W.heap.size W.heap.size R w'∧Only L W w':=by
 have o:=hk.ord;have hT:=h.srv.2
 have hlow:∀ j∈k.B::k.bb::k.t::k.p.a.toList,k.lo≤j∧j < k.s:=fun j hj=>⟨hk.low j hj,hk.foot j (by
   rcases List.mem_cons.1 hj with e | hj
   · exact foot_dir (a:=0) (d:=⟨k.B,[]⟩) rfl e
   · rcases List.mem_cons.1 hj with e | hj
     · rw [e];exact foot_node (i:=0) (n:={ newNod k.bb 2 with Z:=0,L:=2 }) rfl (Nod.b_foot _)
     · rcases List.mem_cons.1 hj with e | hj
       · rw [e];exact foot_t
       · exact foot_p (show k.p.a=some j by simpa using hj))⟩
 have hsl:=lt_of_cell h.cell;refine ⟨k.B::k.bb::k.t::k.p.a.toList,MadeF k.tr k.hi xN,hlow,fun W W' _ ho ha hoo hc _=>⟨hc,?_⟩,fun W ho=>?_⟩
 · obtain ⟨W0,w1,M,a1,⟨T,a2,a3⟩,a4,a5⟩:=ha
   refine ⟨T,a2.kept a4 (fun j hj e=>?_),fun j hj=>?_⟩
   · have:=a5 j e
     have:=a3 j hj;omega
   · have:=a3 j hj
     have:=ho.size;have:=h.big;omega
 · have hq:=h.quiet hk ho
   refine answer_two A W k.l k.c k.s 1 srvN k.tx xN k.u 0 _ _ hq.E hq.lsn hk.tx.1 hk.tx.2 (by decide) (Or.inl rfl) hk.rep (fun j hj=>?_) (fun W2 ho2=>?_) (fun W2 g cap ho2 hr hg=>?_)
   · have:=hlow j hj
     have:=ho.size;have:k.s < w.heap.size:=hsl;omega
   · obtain ⟨w0,e1,e2,e3⟩:=lowS_only hq.errs ho2 (fun j hj=>(hlow j hj).1)
     exact e1.1.below e2 (Nat.le_refl _)
   · have hq2:=hq.quiet hk ho2
     exact compound_made3 A W2 k.s k.tr k.t k.p k.bb k.db k.B k.pb g cap xN hq2.E hq2.cell hq2.srv.2 hk.one okN_x k.hi (fun j hj=>by have:=hk.foot j hj;omega) hr hg
theorem ScS.hears_new (hk:k.Ok)(h:ScS A k w v ms false ph)(hl:ms.length < 100):
   Calls Tryz.prog 79 #[.pointer (some ⟨k.l,0,none⟩),.pointer (some ⟨k.n,0,none⟩),.agg #[.string cN,.string srvN,.string (reqS 1 k.tx)]] w fun e w'=>e = .returned (.tuple #[.bool true,.nilIface])∧∃ v',ScS A k w' v' (ms++[true]) true ph:=by
 have o:=hk.ord;obtain ⟨L,R,hL,hSrv,hA⟩:=h.answers hk;have hc:=h.srv.1;have hsl:k.s < w.heap.size:=lt_of_cell h.cell;have hll:=h.lsn.cells.2.2.2
 have hlc:k.l∉k.c::k.b::L:=fun e=>by
   rcases List.mem_cons.1 e with e | e
   · have hl:w.heap[k.l]?=_:=h.lsn
     rw [e,hc.tab] at hl;simp at hl
   · rcases List.mem_cons.1 e with e | e
     · have hl:w.heap[k.l]?=_:=h.lsn
       rw [e] at hl;obtain ⟨D,h1,_⟩:=hc.own;exact map_no h1 hl
     · have:=hL _ e
       omega
 have hcl:=hc.lt;have hbl:=hc.blt
 have hLw:∀ j∈k.c::k.b::L,j < w.heap.size:=fun j e=>by
   rcases List.mem_cons.1 e with e | e
   · omega
   · rcases List.mem_cons.1 e with e | e
     · omega
     · have:=hL _ e
       omega
 refine lhear_ok A w k.l k.c k.s k.n 1 cN srvN k.tx (reqS 1 k.u) true (k.c::k.b::L) (fun w'=>ScS A k w' v ms true ph) _ h.E h.lsn hlc hLw (by decide) hk.tx.1 (fun W ho=>?_) (fun W W' h1 h2=>(h1.quiet hk h2).reply hk hl);have hq:=h.quiet hk ho;have hsz:=ho.size;have hca:CaAt W k.base k.c k.b (.slice none 0 0) 20 []:=hq.srv.1;refine (once_new A W k.base k.c k.b k.l k.hi 20 cN k.tx (reqS 1 k.u) 1 L R hq.E hca hq.big okQ_c (by omega) (by omega) (by omega) (fun j hj=>by have:=hL j hj;omega) (by omega) (fun W2 ho2=>?_) (fun W2 ho2=>hA W2 (ho.trans ho2 (fun _ hk=>by cases hk)))).mono fun e w' q=>?_
 · obtain ⟨w0,e1,e2,e3⟩:=lowS_only hq.errs ho2 (fun j hj=>(hL j hj).1)
   exact e1.1.below e2 (Nat.le_refl _)
 · obtain ⟨he,hcv,haf,hoo⟩:=q
   exact ⟨he,hq.done hk hoo hL (hSrv W w' () ho haf hoo hcv rfl),hoo⟩
theorem ScS.twice (hk:k.Ok)(h:ScS A k w v ms did ph)(i:Nat)(hl:ms.length < 100):
  Calls Tryz.prog 51 #[.pointer (some ⟨k.n,0,none⟩),.int .i64 i] w fun e w'=>(ms.length≤i∧e = .returned (sErr A 4)∧ScS A k w' v ms did ph)∨(∃ x,ms[i]?=some x∧e = .returned .nilIface∧∃ v',ScS A k w' v' (ms.take i++[x,x]++ms.drop (i+1)) did ph) :=
 (twice_any A w k.base k.n v (ms.map k.msg) i h.E h.net (by rw [List.length_map];omega) h.big).mono fun e w' q=>by
  rcases q with ⟨h1,he,ho⟩ | ⟨_,h1,_⟩ | ⟨_,x,_,hx,he,v',h1,h2⟩
  · refine Or.inl ⟨?_,he,h.quiet hk ho⟩
    have:¬ (i:Int) < (ms.map k.msg).length:=fun e=>h1 ⟨by omega,e⟩;rw [List.length_map] at this;omega
  · rw [List.length_map] at h1
    omega
  · rw [Int.toNat_natCast] at hx h1
    rw [List.getElem?_map] at hx;obtain ⟨y,hy,rfl⟩:=Option.map_eq_some_iff.1 hx;refine Or.inr ⟨y,hy,he,v',h.step hk h2 ?_ (fun ht=>?_)⟩
    · have e1:(ms.take i++[y,y]++ms.drop (i+1)).map k.msg=(ms.map k.msg).take i++[k.msg y,k.msg y]++(ms.map k.msg).drop (i+1):=by
        rw [List.map_append,List.map_append,List.map_take,List.map_drop];rfl
      rw [e1];exact h1
    · simp only [List.mem_append,List.mem_cons,List.not_mem_nil,or_false] at ht
      have hyt:y=true→did=true:=fun e=>h.all (e ▸ List.mem_of_getElem? hy);rcases ht with (ht | ht) | ht
      · exact h.all (List.mem_of_mem_take ht)
      · exact hyt (ht.elim Eq.symm Eq.symm)
      · exact h.all (List.mem_of_mem_drop ht)
theorem ScS.takesNot (h:ScS A k w v ms did ph)(i:Nat)(hi:ms.length≤i):
  Calls Tryz.prog 77 #[.pointer (some ⟨k.n,0,none⟩),.int .i64 i] w fun e w'=>e = .returned (.tuple #[.agg #[.string ⟨#[]⟩,.string ⟨#[]⟩,.string ⟨#[]⟩],sErr A 4])∧Only [] w w' :=
 take_none A w k.base k.n v (ms.map k.msg) i h.E h.net (fun e=>by have:=e.2;rw [List.length_map] at this;omega)
theorem ScS.takes (hk:k.Ok)(h:ScS A k w v ms did ph)(i:Nat)(x:Bool)(hx:ms[i]?=some x)(hl:ms.length≤100):
  Calls Tryz.prog 77 #[.pointer (some ⟨k.n,0,none⟩),.int .i64 i] w fun e w'=>e = .returned (.tuple #[.agg #[.string (k.msg x).F,.string (k.msg x).T,.string (k.msg x).X],.nilIface])∧∃ v',ScS A k w' v' (ms.take i++ms.drop (i+1)) did ph∧Only (k.n::v.ownBlock.toList) w w'∧∀ j,v'.ownBlock=some j→v.ownBlock=some j∨w.heap.size≤j :=
 (take_ok w k.base k.n v (ms.map k.msg) i (k.msg x) h.net (by rw [List.getElem?_map,hx];rfl) (by rw [List.length_map];exact hl)).mono fun e w' q=>by
  obtain ⟨he,v',h1,h2,h3⟩:=q;refine ⟨he,v',h.step hk h2 ?_ (fun ht=>?_),h2,h3⟩
  · rw [List.map_append,List.map_take,List.map_drop]
    exact h1
  · rcases List.mem_append.1 ht with ht | ht
    · exact h.all (List.mem_of_mem_take ht)
    · exact h.all (List.mem_of_mem_drop ht)
end
end
section
open Go Go.RowKit Go.Deep
theorem stold_ok (s:ByteArray)(w:World):Calls Tryz.prog 10 #[.string s,.nilIface] w fun e w'=>e = .returned (.string s)∧w'=w:=by
 go_enter Tryz.func10,Tryz.ntmps10
 go_wp2
 go_ret
 exact ⟨rfl,rfl⟩
theorem Tryz.methodErr (v:Value)(w:World):(Go.method 711 416 v "Error").run Tryz.prog w = .ok (536,v) w:=by kernel_rfl
theorem errText_any (a:Addr)(s:ByteArray)(w:World)(h:w.cell? a=some (.string s)):Calls Tryz.prog 536 #[.pointer (some a)] w fun e w'=>e = .returned (.string s)∧w'=w:=by
 go_enter Tryz.func536,Tryz.ntmps536
 go_wp2
 go_ret
 exact ⟨rfl,rfl⟩
theorem stold_err (A:Nat→Addr)(k:Nat)(t s:ByteArray)(w:World)(hE:Errs w A)(hs:w.cell? (A k)=some (.string s)):Calls Tryz.prog 10 #[.string t,sErr A k] w fun e w'=>e = .returned (.string s)∧Only [] w w':=by
 have mE:=Tryz.methodErr;have oA:Only [] w (w.alloc (.cells #[.pointer none] 58)):=(Only.refl [] w).alloc _;have hE1:=hE.below (oA.to_below (Nat.le_refl _) (fun _ h=>by cases h)) (Nat.le_refl _);have hA:Hid (Calls Tryz.prog 16 #[.iface 416 (.pointer (some (A k))),.iface 60 (.pointer (some ⟨w.heap.size,0,none⟩))] (w.alloc (.cells #[.pointer none] 58)) fun ev w'=>ev = .returned (.bool false)∧Below (w.alloc (.cells #[.pointer none] 58)).heap.size (w.alloc (.cells #[.pointer none] 58)) w'):=as_miss (A k) ⟨w.heap.size,0,none⟩ (.pointer none) _ hE1.typ (by simp);have HT:Hid (∀ W,Only [] w W→Calls Tryz.prog 536 #[.pointer (some (A k))] W fun e w'=>e = .returned (.string s)∧w'=W):=fun W ho=>errText_any (A k) s W ((ho.cell (lt_of_cell hs) (by simp)).trans hs);have HO:Hid (Only [] w (w.alloc (.cells #[.pointer none] 58))):=oA;clear hE hE1 hs oA;unfold sErr
 go_enter Tryz.func10,Tryz.ntmps10
 go_wp2_with (first
  | (go_at_call 16;go_must (refine hA.out.mono ?_);rintro e w1 ⟨rfl,hb⟩;have H1:Hid (Only [] w w1):=HO.out.trans (Only.of_below hb []) (fun _ h=>by cases h);clear hb)
  | (go_at_call 536;go_must (refine (HT.out w1 H1.out).mono ?_);rintro e w2 ⟨rfl,rfl⟩))
 go_ret
 exact ⟨rfl,H1.out⟩
end
end Go.Proofs.YtodldddakjmonaaGreatDoor
