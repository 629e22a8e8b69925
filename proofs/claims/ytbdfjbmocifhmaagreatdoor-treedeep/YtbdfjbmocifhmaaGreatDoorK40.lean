import Derived.Test.YtbdfjbmocifhmaaGreatDoorK39
namespace Go.Proofs.YtbdfjbmocifhmaaGreatDoor
section
open Go Go.RowKit Go.Deep Go.Maps
def Tr.blocks (T:Tr):List Nat:=T.t::T.db::T.pb::(T.p.a.toList++(List.range T.p.N).flatMap fun i=>((T.nd i).map Nod.foot).getD []++((T.ds i).map (·.b)).toList)
theorem mem_blocks {T:Tr}{k:Nat}:k∈T.blocks↔k=T.t∨k=T.db∨k=T.pb∨T.p.a=some k∨∃ i,i < T.p.N∧((∃ n,T.nd i=some n∧k∈n.foot)∨∃ d,T.ds i=some d∧k=d.b):=by
 unfold Tr.blocks;simp only [List.mem_cons,List.mem_append,List.mem_flatMap,List.mem_range,Option.mem_toList]
 have e1:∀ i,(k∈((T.nd i).map Nod.foot).getD [])↔∃ n,T.nd i=some n∧k∈n.foot:=fun i=>by
  cases T.nd i with
  | none=>simp
  | some n=>simp
 have e2:∀ i,((T.ds i).map (·.b)=some k)↔∃ d,T.ds i=some d∧k=d.b:=fun i=>by
  cases T.ds i with
  | none=>simp
  | some n=>simp [eq_comm]
 simp only [e1,e2]
section
variable {w w':World}{tr:Nat}{T T':Tr}{B:Nat}
theorem foot_of_blocks {k:Nat}(h:k∈T.blocks):FootT tr T k:=by
 rcases mem_blocks.1 h with e | e | e | e | ⟨i,_,⟨n,h1,h2⟩ | ⟨d,h1,h2⟩⟩
 · exact Or.inr (Or.inr (Or.inr (Or.inr (Or.inl e))))
 · exact Or.inr (Or.inl e)
 · exact Or.inr (Or.inr (Or.inl e))
 · exact Or.inr (Or.inr (Or.inr (Or.inr (Or.inr (Or.inl e)))))
 · exact Or.inr (Or.inr (Or.inr (Or.inr (.node h1 h2))))
 · exact Or.inr (Or.inr (Or.inr (Or.inl ⟨i,d,h1,h2⟩)))
theorem TreeAt.in_blocks (h:TreeAt w tr T){k:Nat}(hk:FootT tr T k):k=tr∨k∈T.blocks:=by
 rcases hk with e | e | e | ⟨i,d,h1,h2⟩ | (e | e | ⟨i,n,h1,h2⟩)
 · exact Or.inl e
 · exact Or.inr (mem_blocks.2 (Or.inr (Or.inl e)))
 · exact Or.inr (mem_blocks.2 (Or.inr (Or.inr (Or.inl e))))
 · exact Or.inr (mem_blocks.2 (Or.inr (Or.inr (Or.inr (Or.inr ⟨i,h.dlt i d h1,Or.inr ⟨d,h1,h2⟩⟩)))))
 · exact Or.inr (mem_blocks.2 (Or.inl e))
 · exact Or.inr (mem_blocks.2 (Or.inr (Or.inr (Or.inr (Or.inl e)))))
 · exact Or.inr (mem_blocks.2 (Or.inr (Or.inr (Or.inr (Or.inr ⟨i,h.tab.lt h1,Or.inl ⟨n,h1,h2⟩⟩)))))
theorem TreeAt.bd (h:TreeAt w tr T){i:Nat}{d:DirM}(hd:T.ds i=some d):d.b∈T.blocks:=mem_blocks.2 (Or.inr (Or.inr (Or.inr (Or.inr ⟨i,h.dlt i d hd,Or.inr ⟨d,hd,rfl⟩⟩))))
theorem TreeAt.bn (h:TreeAt w tr T){i k:Nat}{n:Nod}(hn:T.nd i=some n)(hk:k∈n.foot):k∈T.blocks:=mem_blocks.2 (Or.inr (Or.inr (Or.inr (Or.inr ⟨i,h.tab.lt hn,Or.inl ⟨n,hn,hk⟩⟩))))
theorem bt:T.t∈T.blocks:=mem_blocks.2 (Or.inl rfl)
theorem bdb:T.db∈T.blocks:=mem_blocks.2 (Or.inr (Or.inl rfl))
theorem bp {k:Nat}(h:T.p.a=some k):k∈T.blocks:=mem_blocks.2 (Or.inr (Or.inr (Or.inr (Or.inl h))))
theorem TreeAt.blocks_lt (h:TreeAt w tr T):∀ k,w.heap.size≤k→k∉T.blocks:=fun k hk hm=>by
 have:=h.foot_lt k (foot_of_blocks hm);omega
def treeTys:List TypeId:=[140,196,205]
def TreeTy (w:World)(k:Nat):Prop:=∀ cs ty fr,w.heap[k]?=some (.cells cs ty fr)→ty∈treeTys
theorem ty_map {K:TypeId}{R:Value→Option (DataW Unit×List MemPlace)}{b n:Nat}{D:DataW Unit}(h:w.ownsMap Tryz.prog K R b n D):TreeTy w b:=fun cs ty fr hc=>by
 obtain ⟨es,clock,hb,_⟩:=h;rw [hb] at hc
 cases hc
theorem ty_of {k:Nat}{ty:TypeId}(h:Ty w k ty)(ht:ty∈treeTys):TreeTy w k:=fun cs ty' fr hc=>by
 obtain ⟨cs',fr',h⟩:=h;rw [h] at hc
 cases hc
 exact ht
theorem TreeAt.ty (h:TreeAt w tr T){k:Nat}(hk:k∈T.blocks):TreeTy w k:=by
 rcases mem_blocks.1 hk with rfl | rfl | rfl | e | ⟨i,_,⟨n,h1,h2⟩ | ⟨d,h1,rfl⟩⟩
 · exact ty_of h.tab.ty (by unfold treeTys;simp)
 · obtain ⟨D,n,h1,_⟩:=h.dirs
   exact ty_map h1
 · obtain ⟨D,n,h1,_⟩:=h.pins
   exact ty_map h1
 · obtain ⟨_,_,cur,hc⟩:=own_blk h.tab.row (by rw [T.p.own];exact e)
   exact ty_of ⟨cur,_,hc⟩ (by unfold treeTys;simp)
 · have hN:=h.tab.node i n h1
   rcases List.mem_cons.1 h2 with rfl | h2
   · exact ty_of hN.d.ty (by unfold treeTys;simp)
   · obtain ⟨f,_,hm⟩:=hN.d.holds
     have e:n.m=some k:=by simpa using h2
     rw [e] at hm;obtain ⟨D,hm,_⟩:=hm;exact ty_map hm
 · exact ty_map (h.dir i d h1)
def TreeW (B:Nat)(w w':World):Prop:=∃ K,Only K w w'∧∀ k∈K,B≤k∧TreeTy w k
theorem TreeW.none (h:Only [] w w'):TreeW B w w':=⟨[],h,fun _ hk=>by cases hk⟩
theorem TreeW.stays (h:TreeW B w w'){k:Nat}{cs:Array Value}{ty:TypeId}{fr:Nat×Nat}(hk:w.heap[k]?=some (.cells cs ty fr))(ht:ty∉treeTys):w'.heap[k]?=some (.cells cs ty fr):=by
 obtain ⟨K,ho,hK⟩:=h;exact (ho.block k (Array.getElem?_eq_some_iff.1 hk).1 fun hm=>ht ((hK k hm).2 _ _ _ hk)).trans hk
theorem TreeW.below (h:TreeW B w w')(hB:B≤w.heap.size):Below B w w':=by
 obtain ⟨K,ho,hK⟩:=h;exact ho.to_below hB fun k hk=>(hK k hk).1
structure Prg (B:Nat)(w:World)(tr:Nat)(T:Tr):Prop where
 tree:TreeAt w tr T
 low:∀ k∈T.blocks,B≤k
 trt:Ty w tr 130
 lo:B≤w.heap.size
theorem Prg.ntr (h:Prg B w tr T):tr∉T.blocks:=fun hm=>by
 obtain ⟨cs,fr,hc⟩:=h.trt;exact absurd (h.tree.ty hm _ _ _ hc) (by decide)
theorem Prg.step (h:Prg B w tr T)(ht:TreeAt w' tr T')(ho:Only T.blocks w w')(hs:∀ k∈T'.blocks,k∈T.blocks∨w.heap.size≤k):Prg B w' tr T'∧TreeW B w w' :=
 ⟨⟨ht,fun k hk=>by
  rcases hs k hk with e | e
  · exact h.low k e
  · exact Nat.le_trans h.lo e,h.trt.only ho h.ntr,Nat.le_trans h.lo ho.size⟩,T.blocks,ho,fun k hk=>⟨h.low k hk,h.tree.ty hk⟩⟩
theorem Prg.only (h:Prg B w tr T)(ho:Only [] w w'):Prg B w' tr T:=⟨h.tree.only ho,h.low,h.trt.only ho (by simp),Nat.le_trans h.lo ho.size⟩
def NdS (B:Nat)(T:Tr)(nd:Nat→Option Nod):Prop:=∀ i n',nd i=some n'→(∃ j n,T.nd j=some n∧∀ k∈n'.foot,k∈n.foot∨B≤k)∨∀ k∈n'.foot,B≤k
def DsS (B:Nat)(T:Tr)(ds:Nat→Option DirM):Prop:=∀ i d',ds i=some d'→(∃ j d,T.ds j=some d∧d'.b=d.b)∨B≤d'.b
theorem NdS.refl:NdS B T T.nd:=fun i n' h=>Or.inl ⟨i,n',h,fun _ hk=>Or.inl hk⟩
theorem NdS.put {nd:Nat→Option Nod}{i j:Nat}{n n':Nod}(h:NdS B T nd)(hn:T.nd j=some n)(h1:n'.b=n.b)(h2:n'.m=n.m):NdS B T (setN nd i (some n')):=fun q x hx=>by
 by_cases e:q=i
 · rw [e,setN_same] at hx
   cases hx
   refine Or.inl ⟨j,n,hn,fun k hk=>Or.inl ?_⟩;unfold Nod.foot at hk ⊢;rw [h1,h2] at hk;exact hk
 · rw [setN_other _ _ e] at hx
   exact h q x hx
theorem NdS.new {nd:Nat→Option Nod}{i:Nat}{n':Nod}(h:NdS B T nd)(h1:∀ k∈n'.foot,B≤k):NdS B T (setN nd i (some n')):=fun q x hx=>by
 by_cases e:q=i
 · rw [e,setN_same] at hx
   cases hx
   exact Or.inr h1
 · rw [setN_other _ _ e] at hx
   exact h q x hx
theorem NdS.off {nd:Nat→Option Nod}{i:Nat}(h:NdS B T nd):NdS B T (setN nd i none):=fun q x hx=>by
 by_cases e:q=i
 · rw [e,setN_same] at hx
   cases hx
 · rw [setN_other _ _ e] at hx
   exact h q x hx
theorem DsS.refl:DsS B T T.ds:=fun i d' h=>Or.inl ⟨i,d',h,rfl⟩
theorem DsS.put {ds:Nat→Option DirM}{i j:Nat}{d d':DirM}(h:DsS B T ds)(hn:T.ds j=some d)(h1:d'.b=d.b):DsS B T (setN ds i (some d')):=fun q x hx=>by
 by_cases e:q=i
 · rw [e,setN_same] at hx
   cases hx
   exact Or.inl ⟨j,d,hn,h1⟩
 · rw [setN_other _ _ e] at hx
   exact h q x hx
theorem DsS.new {ds:Nat→Option DirM}{i:Nat}{d':DirM}(h:DsS B T ds)(h1:B≤d'.b):DsS B T (setN ds i (some d')):=fun q x hx=>by
 by_cases e:q=i
 · rw [e,setN_same] at hx
   cases hx
   exact Or.inr h1
 · rw [setN_other _ _ e] at hx
   exact h q x hx
theorem DsS.off {ds:Nat→Option DirM}{i:Nat}(h:DsS B T ds):DsS B T (setN ds i none):=fun q x hx=>by
 by_cases e:q=i
 · rw [e,setN_same] at hx
   cases hx
 · rw [setN_other _ _ e] at hx
   exact h q x hx
structure SubT (B:Nat)(T T':Tr):Prop where
 t:T'.t=T.t
 db:T'.db=T.db
 pb:T'.pb=T.pb
 p:∀ k,T'.p.a=some k→T.p.a=some k∨B≤k
 nd:NdS B T T'.nd
 ds:DsS B T T'.ds
theorem SubT.trans {T1:Tr}(h:SubT B T T1)(h':SubT B T1 T'):SubT B T T':=⟨h'.t.trans h.t,h'.db.trans h.db,h'.pb.trans h.pb,fun k hk=>by
 rcases h'.p k hk with e | e
 · exact h.p k e
 · exact Or.inr e,fun i n' hn=>by
 rcases h'.nd i n' hn with ⟨j,n,h1,h2⟩ | e
 · rcases h.nd j n h1 with ⟨q,x,h3,h4⟩ | e
   · exact Or.inl ⟨q,x,h3,fun k hk=>(h2 k hk).elim (h4 k) Or.inr⟩
   · exact Or.inr fun k hk=>(h2 k hk).elim (e k) id
 · exact Or.inr e,fun i d' hd=>by
 rcases h'.ds i d' hd with ⟨j,d,h1,h2⟩ | e
 · rcases h.ds j d h1 with ⟨q,x,h3,h4⟩ | e
   · exact Or.inl ⟨q,x,h3,h2.trans h4⟩
   · exact Or.inr (by rw [h2];exact e)
 · exact Or.inr e⟩
theorem SubT.blocks (hs:SubT B T T')(h:TreeAt w tr T):∀ k∈T'.blocks,k∈T.blocks∨B≤k:=fun k hk=>by
 rcases mem_blocks.1 hk with e | e | e | e | ⟨i,_,⟨n,h1,h2⟩ | ⟨d,h1,h2⟩⟩
 · exact Or.inl (mem_blocks.2 (Or.inl (e.trans hs.t)))
 · exact Or.inl (mem_blocks.2 (Or.inr (Or.inl (e.trans hs.db))))
 · exact Or.inl (mem_blocks.2 (Or.inr (Or.inr (Or.inl (e.trans hs.pb)))))
 · rcases hs.p k e with e | e
   · exact Or.inl (bp e)
   · exact Or.inr e
 · rcases hs.nd i n h1 with ⟨j,x,h3,h4⟩ | e
   · exact (h4 k h2).imp (fun q=>h.bn h3 q) id
   · exact Or.inr (e k h2)
 · rcases hs.ds i d h1 with ⟨j,x,h3,h4⟩ | e
   · exact Or.inl (by rw [h2,h4];exact h.bd h3)
   · exact Or.inr (by rw [h2];exact e)
theorem Prg.go (h:Prg B w tr T){L:List Nat}(ht:TreeAt w' tr T')(ho:Only L w w')(hL:∀ k∈L,k∈T.blocks)(hs:SubT w.heap.size T T'):Prg B w' tr T'∧TreeW B w w' :=
 h.step ht (ho.mono fun k hk=>Or.inl (hL k hk)) (hs.blocks h.tree)
end
def Does (tr:Nat)(T T1:Tr)(f:Nat)(args:Array Value):Prop:=(∀ B,SubT B T T1)∧∀ W,TreeAt W tr T→Calls Tryz.prog f args W fun r w'=>r = .returned (.tuple #[])∧TreeAt w' tr T1∧Only T.blocks W w'
def hand (x:Dn):Value := .agg #[.int .i64 (x.i:Nat),.int .i64 (x.c:Nat)]
theorem Does.later {tr f:Nat}{T T1 T2:Tr}{args:Array Value}(h:Does tr T1 T2 f args)(hs:∀ B,SubT B T T1){w0:World}(h0:TreeAt w0 tr T)(W:World)(hW:TreeAt W tr T1):Calls Tryz.prog f args W fun r w'=>r = .returned (.tuple #[])∧TreeAt w' tr T2∧Only T.blocks W w' :=
 (h.2 W hW).mono fun _ _ hh=>⟨hh.1,hh.2.1,hh.2.2.mono fun i hi=>(hs _).blocks h0 i hi⟩
section
variable {tr:Nat}{T:Tr}{D:Dt}{w:World}{B:Nat}
theorem DMid.rlive {k:Nat}(hM:DMid D k)(R:RepX T D k)(hT:TreeAt w tr T){x:Dn}(hx:x∈D.L):∀ e∈x.es,e.i < T.p.N∧e.c=T.g e.i:=fun e he=>by
 obtain ⟨_,⟨y,hy,h1,h2⟩,_⟩:=hM.live x hx e he;obtain ⟨n,hn,_⟩:=R.nd y hy;have hl:=hT.tab.lt hn;have hg:=R.g y hy;rw [h1] at hl hg;exact ⟨hl,by rw [hg,h2]⟩
theorem find_is {l:List Ent}(hr:RisingE l){s:List UInt8}{i c:Nat}(he:(⟨s,i,c⟩:Ent)∈l):findE l s=some ⟨s,i,c⟩:=find_mem (x:=⟨s,i,c⟩) (rising_nodup hr) he
theorem Rep.take (R:Rep T D)(I:DInv D){a y:Dn}{s:ByteArray}(ha:a∈D.L)(he:(⟨s.data.toList,y.i,y.c⟩:Ent)∈a.es)(hy:y∈D.L)(hs:s.size≤1000):
   ∃ T1,RepX T1 (D.turn a.i a.c (Dn.drop s.data.toList)) y.i∧Does tr T T1 87 #[.pointer (some ⟨tr,0,none⟩),hand a,.string s]:=by
 have hK:=I.has_es ha he;have hay:=I.not_self (y:=y) ha hK he rfl;have hga:=R.g a ha;have hgy:=R.g y hy;obtain ⟨b0,hd⟩:=(R.ds a ha).1 hK;obtain ⟨na,hna,na1,na2,na3,na4,na5,na6⟩:=R.counted I ha;obtain ⟨ny,hny,ny1,ny2,ny3,ny4,ny5,ny6⟩:=R.counted I hy;have hl:=(I.rise a ha).2
 have hfe:findE a.es s.data.toList=some ⟨s.data.toList,y.i,T.g y.i⟩:=by rw [hgy];exact find_is (I.rise a ha).1 he
 unfold hand;rcases I.kind y hy with ⟨k,_⟩ | ⟨k,_⟩
 · have h8:=(I.files y hy k).1
   have hc1:1≤D.cnt y.i y.c:=by
     have:=cnt_drop D I.nos ha (I.rise a ha).1 he y.i y.c;rw [if_pos (to_iff.2 ⟨rfl,rfl⟩)] at this;omega
   have hc:=fun W hW=>take_file W tr T a.i y.i na ny ⟨b0,a.es⟩ s hW hd hna (na1.trans hK) hny (ny1.trans k) (by rw [(ny5 k).1];omega) hfe (by show a.es.length≤900;omega) hs (R.live I hW ha);rw [hga] at hc;refine ⟨_,?_,?_,fun W hW=>(hc W hW).mono fun r w' hh=>⟨hh.1,hh.2.1,hh.2.2.mono fun i hi=>Or.inl ?_⟩⟩
   · exact R.taken (na':={ na with Z:=((dropE a.es s.data.toList).length:Nat),L:=2+(dirsIn (dropE a.es s.data.toList) (T.named a.i b0 (dropE a.es s.data.toList)).ds:Int) }) (ny':={ ny with L:=ny.L - 1 }) I ha hK he hy rfl rfl hna hny rfl rfl rfl rfl (fun i h1 h2=>(setN_other _ _ h1).trans (setN_other _ _ h2)) (setN_same _ _ _) ((setN_other _ _ (Ne.symm hay)).trans (setN_same _ _ _)) rfl rfl rfl rfl rfl rfl rfl rfl rfl rfl rfl rfl (fun _=>⟨rfl,rfl,rfl⟩) (fun q=>by omega)
   · exact fun B=>⟨rfl,rfl,rfl,fun _ h=>Or.inl h,by refine NdS.put (NdS.put NdS.refl hny ?_ ?_) hna ?_ ?_<;>rfl,by refine DsS.put DsS.refl hd ?_;rfl⟩
   · simp only [List.mem_cons,List.not_mem_nil,or_false] at hi
     rcases hi with rfl | rfl | rfl
     · exact hW.bd hd
     · exact hW.bn hny ny.b_foot
     · exact hW.bn hna na.b_foot
 · have hc:=fun W hW=>take_dir W tr T a.i y.i na ny ⟨b0,a.es⟩ s hW hd hna (na1.trans hK) hny (ny1.trans k) hfe (by show a.es.length≤900;omega) hs (R.live I hW ha)
   rw [hga] at hc;refine ⟨_,?_,?_,fun W hW=>(hc W hW).mono fun r w' hh=>⟨hh.1,hh.2.1,hh.2.2.mono fun i hi=>Or.inl ?_⟩⟩
   · exact R.taken (na':={ na with Z:=((dropE a.es s.data.toList).length:Nat),L:=2+(dirsIn (dropE a.es s.data.toList) (T.named a.i b0 (dropE a.es s.data.toList)).ds:Int) }) (ny':=ny) I ha hK he hy rfl rfl hna hny rfl rfl rfl rfl (fun i h1 h2=>setN_other _ _ h1) (setN_same _ _ _) ((setN_other _ _ (Ne.symm hay)).trans hny) rfl rfl rfl rfl rfl rfl rfl rfl rfl rfl rfl rfl (fun q=>by omega) (fun _=>⟨rfl,rfl⟩)
   · exact fun B=>⟨rfl,rfl,rfl,fun _ h=>Or.inl h,by refine NdS.put NdS.refl hna ?_ ?_<;>rfl,by refine DsS.put DsS.refl hd ?_;rfl⟩
   · simp only [List.mem_cons,List.not_mem_nil,or_false] at hi
     rcases hi with rfl | rfl
     · exact hW.bd hd
     · exact hW.bn hna na.b_foot
theorem RepX.putC {b y:Dn}{s:ByteArray}(R:RepX T D y.i)(M:DMid D y.i)(hb:b∈D.L)(hK:b.K=2)(hy:y∈D.L)(hby:b.i≠y.i)(hf:findE b.es s.data.toList=none)(h8:D.cnt y.i y.c≤900)(hs:s.size≤1000)(I':DInv (D.turn b.i b.c (Dn.ins ⟨s.data.toList,y.i,y.c⟩))):
   ∃ T1,Rep T1 (D.turn b.i b.c (Dn.ins ⟨s.data.toList,y.i,y.c⟩))∧Does tr T T1 69 #[.pointer (some ⟨tr,0,none⟩),hand b,.string s,hand y]:=by
 have hgb:=R.g b hb;have hgy:=R.g y hy;obtain ⟨b0,hd⟩:=(R.ds b hb).1 hK;obtain ⟨nb,hnb,nb1,nb2,nb3,nb4,nb5,nb6⟩:=R.nd b hb;obtain ⟨ny,hny,ny1,ny2,ny3,ny4,ny5,ny6⟩:=R.nd y hy;have hl:=(M.rise b hb).2;have hdrop:dropE b.es s.data.toList=b.es:=dropE_none hf;unfold hand;rcases M.kind y hy with ⟨k,_⟩ | ⟨k,_⟩
 · have hc:=fun W hW=>put_file W tr T b.i y.i nb ny ⟨b0,b.es⟩ s hW hd hnb (nb1.trans hK) hny (ny1.trans k) (by show b.es.length≤900;omega) hs (by rw [(ny5 k).1];omega) (M.rlive R hW hb)
   simp only [hgb,hgy,hdrop] at hc;refine ⟨_,?_,?_,fun W hW=>(hc W hW).mono fun r w' hh=>⟨hh.1,hh.2.1,hh.2.2.mono fun i hi=>Or.inl ?_⟩⟩
   · exact R.put (nb':={ nb with Z:=((insE ⟨s.data.toList,y.i,y.c⟩ b.es).length:Nat),L:=2+(dirsIn (insE ⟨s.data.toList,y.i,y.c⟩ b.es) (T.named b.i b0 (insE ⟨s.data.toList,y.i,y.c⟩ b.es)).ds:Int) }) (ny':={ ny with L:=ny.L+1 }) M hy hb hK hby I' hnb hny rfl rfl rfl rfl (fun i h1 h2=>(setN_other _ _ h1).trans (setN_other _ _ h2)) (setN_same _ _ _) ((setN_other _ _ (Ne.symm hby)).trans (setN_same _ _ _)) rfl rfl rfl rfl rfl rfl rfl rfl rfl rfl rfl rfl (fun _=>⟨rfl,rfl,rfl⟩) (fun q=>by omega)
   · exact fun B=>⟨rfl,rfl,rfl,fun _ h=>Or.inl h,by refine NdS.put (NdS.put NdS.refl hny ?_ ?_) hnb ?_ ?_<;>rfl,by refine DsS.put DsS.refl hd ?_;rfl⟩
   · simp only [List.mem_cons,List.not_mem_nil,or_false] at hi
     rcases hi with rfl | rfl | rfl
     · exact hW.bd hd
     · exact hW.bn hny ny.b_foot
     · exact hW.bn hnb nb.b_foot
 · have hly:=(M.rise y hy).2
   have hdy:=dirsIn_le y.es T.ds;have hc:=fun W hW=>put_dir W tr T b.i y.i nb ny ⟨b0,b.es⟩ s hW hd hnb (nb1.trans hK) hny (ny1.trans k) hby (by rw [(ny6 k).2.1];omega) (by show b.es.length≤900;omega) hs (by rw [(ny6 k).1];omega) (M.rlive R hW hb);simp only [hgb,hgy,hdrop] at hc;refine ⟨_,?_,?_,fun W hW=>(hc W hW).mono fun r w' hh=>⟨hh.1,hh.2.1,hh.2.2.mono fun i hi=>Or.inl ?_⟩⟩
   · exact R.put (nb':={ nb with Z:=((insE ⟨s.data.toList,y.i,y.c⟩ b.es).length:Nat),L:=2+(dirsIn (insE ⟨s.data.toList,y.i,y.c⟩ b.es) (T.named b.i b0 (insE ⟨s.data.toList,y.i,y.c⟩ b.es)).ds:Int) }) (ny':={ ny with Z:=ny.Z,UN:=(b.i:Int),UG:=(b.c:Int),L:=ny.L }) M hy hb hK hby I' hnb hny rfl rfl rfl rfl (fun i h1 h2=>(setN_other _ _ h1).trans (setN_other _ _ h2)) (setN_same _ _ _) ((setN_other _ _ (Ne.symm hby)).trans (setN_same _ _ _)) rfl rfl rfl rfl rfl rfl rfl rfl rfl rfl rfl rfl (fun q=>by omega) (fun _=>⟨rfl,rfl,rfl,rfl⟩)
   · exact fun B=>⟨rfl,rfl,rfl,fun _ h=>Or.inl h,by refine NdS.put (NdS.put NdS.refl hny ?_ ?_) hnb ?_ ?_<;>rfl,by refine DsS.put DsS.refl hd ?_;rfl⟩
   · simp only [List.mem_cons,List.not_mem_nil,or_false] at hi
     rcases hi with rfl | rfl | rfl
     · exact hW.bd hd
     · exact hW.bn hny ny.b_foot
     · exact hW.bn hnb nb.b_foot
theorem Rep.touchC (R:Rep T D)(I:DInv D){x:Dn}(hx:x∈D.L)(hC:0≤x.C∧x.C≤9000000):
   ∃ T1,Rep T1 (D.turn x.i x.c Dn.touched)∧Does tr T T1 70 #[.pointer (some ⟨tr,0,none⟩),hand x]:=by
 have hg:=R.g x hx;obtain ⟨n,hn,n1,n2,n3,n4,n5,n6⟩:=R.counted I hx;have hc:=fun W hW=>touch_ok W tr T x.i n hW hn (by rw [n2];omega);rw [hg] at hc;unfold hand;refine ⟨_,?_,?_,fun W hW=>(hc W hW).mono fun r w' hh=>⟨hh.1,hh.2.1,hh.2.2.mono fun i hi=>Or.inl ?_⟩⟩
 · refine R.quiet (f:=Dn.touched) (n':={ n with C:=n.C+1 }) I hx (fun _=>⟨rfl,rfl⟩) (fun _=>rfl) (fun _=>rfl) hn rfl rfl rfl rfl ?_ rfl (by rw [n2];rfl) n3 n4 rfl rfl rfl rfl
   funext i;show T.pn i=setN T.pn x.i x.p i
   by_cases e:i=x.i
   · rw [e,setN_same];exact R.pn x hx
   · rw [setN_other _ _ e]
 · exact fun B=>⟨rfl,rfl,rfl,fun _ h=>Or.inl h,by refine NdS.put NdS.refl hn ?_ ?_<;>rfl,DsS.refl⟩
 · simp only [List.mem_cons,List.not_mem_nil,or_false] at hi
   rw [hi];exact hW.bn hn n.b_foot
theorem Rep.loseC (R:Rep T D)(I:DInv D){b z:Dn}{s:ByteArray}(hb:b∈D.L)(he:(⟨s.data.toList,z.i,z.c⟩:Ent)∈b.es)(hz:z∈D.L)(hes:z.es=[])(hs:s.size≤1000)(hC:0≤z.C∧z.C≤9000000)(hG:z.c≤9000000):
   ∃ T1,Rep T1 ((D.turn b.i b.c (Dn.drop s.data.toList)).lost z)∧Does tr T T1 72 #[.pointer (some ⟨tr,0,none⟩),hand b,.string s]:=by
 have hK:=I.has_es hb he;have hbz:=I.not_self (y:=z) hb hK he rfl;have hgb:=R.g b hb;have hgz:=R.g z hz;obtain ⟨b0,hd⟩:=(R.ds b hb).1 hK;obtain ⟨nb,hnb,nb1,nb2,nb3,nb4,nb5,nb6⟩:=R.counted I hb;obtain ⟨nz,hnz,nz1,nz2,nz3,nz4,nz5,nz6⟩:=R.counted I hz;have hl:=(I.rise b hb).2
 have hfe:findE b.es s.data.toList=some ⟨s.data.toList,z.i,T.g z.i⟩:=by rw [hgz];exact find_is (I.rise b hb).1 he
 have M:DMid (D.turn b.i b.c (Dn.drop s.data.toList)) z.i:=I.dropped hb he;have hzD:z∈(D.turn b.i b.c (Dn.drop s.data.toList)).L:=mem_turn_other hz (Ne.symm hbz);have hcz:=cnt_drop D I.nos hb (I.rise b hb).1 he z.i z.c;rw [if_pos (to_iff.2 ⟨rfl,rfl⟩)] at hcz;replace hcz:(D.turn b.i b.c (Dn.drop s.data.toList)).cnt z.i z.c+1=D.cnt z.i z.c:=hcz;have hz0:z.i≠0:=(I.live b hb _ he).1;have I':=I.lostD hb he hz rfl rfl hes;unfold hand;rcases I.kind z hz with ⟨k,_⟩ | ⟨k,hp⟩
 · have h8:=(I.files z hz k).1
   have hc:=fun W hW=>lose_file W tr T b.i z.i nb nz ⟨b0,b.es⟩ s hW hd hnb (nb1.trans hK) hnz (nz1.trans k) (by rw [(nz5 k).1];show 1≤((D.cnt z.i z.c:Nat):Int)∧_;constructor<;>omega) (by rw [nz2];omega) ((R.ds z hz).2 k) (by rw [hgz];omega) hfe (by show b.es.length≤900;omega) hs (R.live I hW hb);rw [hgb] at hc
   have hL:nz.L=((D.turn b.i b.c (Dn.drop s.data.toList)).cnt z.i z.c:Int)+1:=by
     rw [(nz5 k).1];show ((D.cnt z.i z.c:Nat):Int)=_;omega
   have hX:=R.taken (T':=T.takenF b.i z.i nb nz ⟨b0,b.es⟩ s.data.toList) (b0:=b0) (na':={ nb with Z:=((dropE b.es s.data.toList).length:Nat),L:=2+(dirsIn (dropE b.es s.data.toList) (T.named b.i b0 (dropE b.es s.data.toList)).ds:Int) }) (ny':={ nz with L:=nz.L - 1 }) I hb hK he hz rfl rfl hnb hnz rfl rfl rfl rfl (fun i h1 h2=>(setN_other _ _ h1).trans (setN_other _ _ h2)) (setN_same _ _ _) ((setN_other _ _ (Ne.symm hbz)).trans (setN_same _ _ _)) rfl rfl rfl rfl rfl rfl rfl rfl rfl rfl rfl rfl (fun _=>⟨rfl,rfl,rfl⟩) (fun q=>by omega);have hform:=lost_form M.nos hzD k M.all_held
   have mems:∀ {W:World},TreeAt W tr T→∀ i∈([(⟨b0,b.es⟩:DirM).b,nz.b,nb.b]++T.p.a.toList),i∈T.blocks:=fun hW i hi=>by
     simp only [List.mem_append,List.mem_cons,List.not_mem_nil,or_false,Option.mem_toList] at hi;rcases hi with (rfl | rfl | rfl) | hi
     · exact hW.bd hd
     · exact hW.bn hnz nz.b_foot
     · exact hW.bn hnb nb.b_foot
     · exact bp hi
   by_cases hgo:(D.turn b.i b.c (Dn.drop s.data.toList)).cnt z.i z.c=0∧z.p=0
   · rw [if_pos hgo] at hform
     rw [hform] at I' ⊢;have hg1:nz.L=1∧T.pn z.i=0:=⟨by rw [hL];omega,by rw [R.pn z hz];exact hgo.2⟩;refine ⟨(T.lostF b.i z.i nb nz ⟨b0,b.es⟩ s.data.toList).freed z.i,?_,?_,fun W hW=>(hc W hW).mono fun r w' hh=>⟨hh.1,?_,hh.2.2.mono fun i hi=>Or.inl (mems hW i hi)⟩⟩
     · refine hX.gone M hzD hes (fun c=>?_) I' (fun i=>?_) rfl (fun i=>?_) (fun i=>?_) (fun i=>?_)
       · by_cases e1:c=z.c
         · rw [e1];exact hgo.1
         · exact cnt_other_times M hzD e1
       · show setN T.g z.i (T.g z.i+1) i=if i=z.i then z.c+1 else T.g i
         rw [hgz];rfl
       · show T.pn i=if i=z.i then 0 else T.pn i
         split
         · rename_i e;rw [e];exact hg1.2
         · rfl
       · show setN T.ds b.i _ i=if i=z.i then none else setN T.ds b.i _ i
         split
         · rename_i e;rw [e,setN_other _ _ (Ne.symm hbz)];exact (R.ds z hz).2 k
         · rfl
       · show setN (setN (T.takenF b.i z.i nb nz ⟨b0,b.es⟩ s.data.toList).nd z.i _) z.i none i=if i=z.i then none else (T.takenF b.i z.i nb nz ⟨b0,b.es⟩ s.data.toList).nd i
         rw [setN_again];rfl
     · exact fun B=>⟨rfl,rfl,rfl,fun _ h=>Or.inl h,by refine NdS.off (NdS.put (NdS.put (NdS.put NdS.refl hnz ?_ ?_) hnb ?_ ?_) hnz ?_ ?_)<;>rfl,by refine DsS.put DsS.refl hd ?_;rfl⟩
     · rcases hh.2.1 with ⟨_,_,h3⟩ | ⟨h1,_⟩
       · exact h3
       · exact absurd hg1 h1
   · rw [if_neg hgo] at hform
     rw [hform] at I' ⊢;have hg1:¬ (nz.L=1∧T.pn z.i=0):=fun q=>hgo ⟨by have:=q.1;rw [hL] at this;omega,by rw [← R.pn z hz];exact q.2⟩;refine ⟨T.lostF b.i z.i nb nz ⟨b0,b.es⟩ s.data.toList,?_,?_,fun W hW=>(hc W hW).mono fun r w' hh=>⟨hh.1,?_,hh.2.2.mono fun i hi=>Or.inl (mems hW i hi)⟩⟩
     · have I1:DInv (D.turn b.i b.c (Dn.drop s.data.toList)):=by
         refine M.full (fun v hv q qK _=>?_) (fun v hv q qK=>?_)
         · rw [same_no M.nos hv hzD q] at qK
           omega
         · rw [same_no M.nos hv hzD q]
           show (D.turn b.i b.c (Dn.drop s.data.toList)).cnt z.i z.c≤8∧(0 < (D.turn b.i b.c (Dn.drop s.data.toList)).cnt z.i z.c∨0 < z.p);exact ⟨by omega,by omega⟩
       have hR1:=hX.rep I1 fun v hv q qK=>by
         rw [same_no M.nos hv hzD q] at qK;omega
       refine hR1.quiet (f:=Dn.touched) (n:={ nz with L:=nz.L - 1 }) (n':={ nz with L:=nz.L - 1,C:=nz.C+1 }) I1 hzD (fun _=>⟨rfl,rfl⟩) (fun _=>rfl) (fun _=>rfl) ((setN_other _ _ (Ne.symm hbz)).trans (setN_same _ _ _)) rfl rfl rfl rfl ?_ rfl (by show nz.C+1=z.C+1;rw [nz2]) nz3 nz4 rfl rfl rfl rfl;funext i;show T.pn i=setN T.pn z.i z.p i
       by_cases e:i=z.i
       · rw [e,setN_same];exact R.pn z hz
       · rw [setN_other _ _ e]
     · exact fun B=>⟨rfl,rfl,rfl,fun _ h=>Or.inl h,by refine NdS.put (NdS.put (NdS.put NdS.refl hnz ?_ ?_) hnb ?_ ?_) hnz ?_ ?_<;>rfl,by refine DsS.put DsS.refl hd ?_;rfl⟩
     · rcases hh.2.1 with ⟨h1,h2,_⟩ | ⟨_,h3⟩
       · exact absurd ⟨h1,h2⟩ hg1
       · exact h3
 · obtain ⟨bz,hdz⟩:=(R.ds z hz).1 k
   have hpn:T.pn z.i=0:=by rw [R.pn z hz];exact hp
   have hc:=fun W hW=>lose_dir W tr T b.i z.i nb nz ⟨b0,b.es⟩ s hW hd hnb (nb1.trans hK) hnz (nz1.trans k) hbz (by rw [hdz];rfl) hpn (by rw [hgz];omega) hfe (by show b.es.length≤900;omega) hs (R.live I hW hb);rw [hgb] at hc;have hlost:(D.turn b.i b.c (Dn.drop s.data.toList)).lost z=(D.turn b.i b.c (Dn.drop s.data.toList)).gone z.i z.c:=if_pos k;rw [hlost] at I' ⊢;have hX:=R.taken (T':={ T.named b.i b0 (dropE b.es s.data.toList) with nd:=setN T.nd b.i (some { nb with Z:=((dropE b.es s.data.toList).length:Nat),L:=2+(dirsIn (dropE b.es s.data.toList) (T.named b.i b0 (dropE b.es s.data.toList)).ds:Int) }) }) (b0:=b0) (na':={ nb with Z:=((dropE b.es s.data.toList).length:Nat),L:=2+(dirsIn (dropE b.es s.data.toList) (T.named b.i b0 (dropE b.es s.data.toList)).ds:Int) }) (ny':=nz) I hb hK he hz rfl rfl hnb hnz rfl rfl rfl rfl (fun i h1 h2=>setN_other _ _ h1) (setN_same _ _ _) ((setN_other _ _ (Ne.symm hbz)).trans hnz) rfl rfl rfl rfl rfl rfl rfl rfl rfl rfl rfl rfl (fun q=>by omega) (fun _=>⟨rfl,rfl⟩);refine ⟨T.lostD b.i z.i nb ⟨b0,b.es⟩ s.data.toList,?_,?_,fun W hW=>(hc W hW).mono fun r w' hh=>⟨hh.1,hh.2.1,hh.2.2.mono fun i hi=>Or.inl ?_⟩⟩
   · refine hX.gone M hzD hes (fun c=>?_) I' (fun i=>?_) rfl (fun i=>?_) (fun i=>rfl) (fun i=>rfl)
     · by_cases e1:c=z.c
       · have:=I.dirs z hz k hz0
         rw [e1];show (D.turn b.i b.c (Dn.drop s.data.toList)).cnt z.i z.c=0;omega
       · exact cnt_other_times M hzD e1
     · show setN T.g z.i (T.g z.i+1) i=if i=z.i then z.c+1 else T.g i
       rw [hgz];rfl
     · show T.pn i=if i=z.i then 0 else T.pn i
       split
       · rename_i e;rw [e];exact hpn
       · rfl
   · exact fun B=>⟨rfl,rfl,rfl,fun _ h=>Or.inl h,by refine NdS.off (NdS.put NdS.refl hnb ?_ ?_)<;>rfl,by refine DsS.off (DsS.put DsS.refl hd ?_);rfl⟩
   · simp only [List.mem_append,List.mem_cons,List.not_mem_nil,or_false,Option.mem_toList] at hi
     rcases hi with (rfl | rfl | rfl) | hi
     · exact hW.bd hd
     · exact hW.bn hnb nb.b_foot
     · exact bdb
     · exact bp hi
end
def oc (A:Nat→Addr)(c:Nat):Option Addr:=if c=0 then none else some (A (c - 1))
def codeE (A:Nat→Addr)(c:Nat):Value:=errO (oc A c)
def Acts (B:Nat)(w:World)(tr:Nat)(A:Nat→Addr)(D':Dt)(c:Nat)(r:Ending)(w':World):Prop:=∃ T',r = .returned (codeE A c)∧Prg B w' tr T'∧Rep T' D'∧TreeW B w w'
section
variable {w:World}{B tr:Nat}{T:Tr}{D:Dt}{A:Nat→Addr}{Bd:Nat}
theorem Acts.same {c:Nat}{r:Ending}{w':World}(P:Prg B w tr T)(R:Rep T D)(h:r = .returned (codeE A c))(ho:Only [] w w'):Acts B w tr A D c r w':=⟨T,h,P.only ho,R,TreeW.none ho⟩
theorem Acts.go {T':Tr}{D':Dt}{r:Ending}{w':World}(P:Prg B w tr T)(hs:∀ B,SubT B T T')(R':Rep T' D')(h:r = .returned .nilIface)(ht:TreeAt w' tr T')(ho:Only T.blocks w w'):Acts B w tr A D' 0 r w':=by
 obtain ⟨h1,h2⟩:=P.go ht ho (fun _ hk=>hk) (hs _);exact ⟨T',h,h1,R',h2⟩
theorem dirC (P:Prg B w tr T)(R:Rep T D)(I:DInv D)(hE:Errs w A)(N G:Int):∀ W,Only [] w W→Calls Tryz.prog 66 #[.pointer (some ⟨tr,0,none⟩),.agg #[.int .i64 N,.int .i64 G]] W fun e w'=>e = .returned (errO (oc A (dirN D N G)))∧Only [] W w':=by
 obtain ⟨o,d,c⟩:=dir_any P.tree hE (R.kinds I) N G
 have:o=oc A (dirN D N G):=by
  rcases R.dirE d with ⟨x,h1,h2,rfl⟩ | ⟨x,h1,h2,rfl⟩ | ⟨h1,rfl⟩
  · rw [dir_no h1 h2];rfl
  · rcases dir_cases D N G with ⟨y,k1,k2,_⟩ | ⟨k1,_⟩ | ⟨_,k2⟩
    · rw [h1] at k1;cases k1;omega
    · rw [k1];rfl
    · rw [h1] at k2;cases k2
  · rcases dir_cases D N G with ⟨y,k1,k2,_⟩ | ⟨_,y,k2,_⟩ | ⟨k1,_⟩
    · rw [h1] at k1;cases k1
    · rw [h1] at k2;cases k2
    · rw [k1];rfl
 rw [← this];exact c
theorem dirYes (P:Prg B w tr T)(R:Rep T D)(I:DInv D)(hE:Errs w A){N G:Int}(h0:dirN D N G=0):∀ W,Only [] w W→Calls Tryz.prog 66 #[.pointer (some ⟨tr,0,none⟩),.agg #[.int .i64 N,.int .i64 G]] W fun e w'=>e = .returned .nilIface∧Only [] W w':=by
 have:=dirC P R I hE N G;rw [h0] at this;exact this
theorem nameYes (hE:Errs w A){s:ByteArray}(h:OkN s):∀ W,Only [] w W→Calls Tryz.prog 67 #[.string s] W fun e w'=>e = .returned .nilIface∧Only [] W w':=by
 obtain ⟨o,d,c⟩:=name_any hE s;rcases d with ⟨_,rfl⟩ | ⟨k,_⟩
 · exact c
 · exact absurd h k
theorem nameAny (hE:Errs w A)(s:ByteArray):∃ n,(OkN s∧n=0∨¬ OkN s∧n=4)∧∀ W,Only [] w W→Calls Tryz.prog 67 #[.string s] W fun e w'=>e = .returned (errO (oc A n))∧Only [] W w':=by
 obtain ⟨o,d,c⟩:=name_any hE s;rcases d with ⟨k,rfl⟩ | ⟨k,rfl⟩
 · exact ⟨0,Or.inl ⟨k,rfl⟩,c⟩
 · exact ⟨4,Or.inr ⟨k,rfl⟩,c⟩
theorem oc_some {c:Nat}(h:c≠0):oc A c=some (A (c - 1)):=if_neg h
theorem code_some {c:Nat}(h:c≠0):codeE A c=errV (A (c - 1)):=by unfold codeE;rw [oc_some h];rfl
theorem okSize {s:ByteArray}(h:OkN s):s.size≤1000∧s.data.toList.length≤24:=⟨by have:=h.2.1;omega,h.2.1⟩
theorem lost_mem {X:Dt}(hn:(X.L.map (·.i)).Nodup){z:Dn}(hz:z∈X.L)(hK:z.K=1∨z.K=2)(hh:∀ x∈X.L,x.i≠z.i→X.held x=true){v:Dn}(hv:v∈X.L)(hi:v.i≠z.i):v∈(X.lost z).L:=by
 have hg:v∈(X.gone z.i z.c).L:=List.mem_filter.2 ⟨hv,by rw [Bool.not_eq_true',Bool.eq_false_iff];exact fun k=>hi (is_iff.1 k).1⟩;rcases hK with k | k
 · rw [lost_form hn hz k hh]
   split
   · exact hg
   · exact mem_turn_other hv hi
 · unfold Dt.lost
   rw [if_pos k];exact hg
theorem DB.c {x:Dn}(h:DB D Bd)(hB:Bd≤999000)(hx:x∈D.L):0≤x.C∧x.C≤9000000:=by
 have:=h.1 x hx;omega
theorem DB.g {x:Dn}(h:DB D Bd)(hB:Bd≤999000)(I:DInv D)(hx:x∈D.L):x.c≤9000000:=by
 have:=h.2 x.i;have:=(I.lt x hx).2;omega
end
section
variable {w:World}{B tr:Nat}{T:Tr}{D:Dt}{A:Nat→Addr}{Bd:Nat}
theorem firstV_code {l r:List (Option Addr)}{c:Nat}(hl:∀ o∈l,o=none)(hc:c≠0):firstV (l++oc A c::r)=some (A (c - 1)):=by
 induction l with
 | nil=>rw [List.nil_append,oc_some hc];rfl
 | cons o l ih =>
  rw [hl o List.mem_cons_self];exact ih fun q hq=>hl q (List.mem_cons_of_mem _ hq)
theorem found {l:List Ent}{s:ByteArray}{e:Ent}{y:Dn}(hf:findE l s.data.toList=some e)(hi:y.i=e.i)(hc:y.c=e.c):e=⟨s.data.toList,y.i,y.c⟩∧e∈l:=by
 obtain ⟨k,hk,hs⟩:=findE_idx hf;obtain ⟨es,ei,ec⟩:=e;simp only at hs hi hc;subst hs hi hc;exact ⟨rfl,List.mem_of_getElem? hk⟩
end
end
end Go.Proofs.YtbdfjbmocifhmaaGreatDoor
