import Derived.Test.YtmfcfkomdflhlaaGreatDoorK43
import Derived.Test.YtmfcfkomdflhlaaGreatDoorK44
set_option maxHeartbeats 8000000
namespace Go.Proofs.YtmfcfkomdflhlaaGreatDoor
section
open Go Go.RowKit Go.Deep
theorem nameError_few (s:ByteArray)(w:World)(h:s.size < 1):Calls Tryz.prog 17 #[.string s] w fun e w'=>e = .returned (.int .i64 4)∧w=w':=by
 have hd:decide ((s.size:Int) < 1)=true:=decide_eq_true (by omega)
 go_enter Tryz.func17,Tryz.ntmps17
 go_wp2
 go_ret
 exact ⟨rfl,rfl⟩
theorem nameError_long (s:ByteArray)(w:World)(h:24 < s.size):Calls Tryz.prog 17 #[.string s] w fun e w'=>e = .returned (.int .i64 4)∧w=w':=by
 have hd0:decide ((s.size:Int) < 1)=false:=decide_eq_false (by omega);have hd:decide (24 < (s.size:Int))=true:=decide_eq_true (by omega)
 go_enter Tryz.func17,Tryz.ntmps17
 go_wp2
 go_ret
 exact ⟨rfl,rfl⟩
theorem nameError_dot (s:ByteArray)(w:World)(h1:1≤s.size)(h2:s.size≤24)(h:(s.toList==[46])=true∨(s.toList==[46])=false∧(s.toList==[46,46])=true):Calls Tryz.prog 17 #[.string s] w fun e w'=>e = .returned (.int .i64 4)∧w=w':=by
 have hd0:decide ((s.size:Int) < 1)=false:=decide_eq_false (by omega);have hd:decide (24 < (s.size:Int))=false:=decide_eq_false (by omega);rcases h with h | ⟨h,h'⟩
 all_goals
  go_enter Tryz.func17,Tryz.ntmps17
  go_wp2
  go_ret
  exact ⟨rfl,rfl⟩
theorem nameError_loop (s:ByteArray)(w:World)(h1:1≤s.size)(h2:s.size≤24)(h3:(s.toList==[46])=false)(h4:(s.toList==[46,46])=false):
  Calls Tryz.prog 17 #[.string s] w fun e w'=>((OkN s∧e = .returned (.int .i64 0))∨(¬ OkN s∧e = .returned (.int .i64 4)))∧w=w':=by
 have hd0:decide ((s.size:Int) < 1)=false:=decide_eq_false (by omega);have hd:decide (24 < (s.size:Int))=false:=decide_eq_false (by omega)
 go_enter Tryz.func17,Tryz.ntmps17
 go_wp2
 go_loop [3] (fun i=>∃ j:Nat,j≤s.size∧i = .int .i64 j∧∀ x,(hx:x < s.size)→x < j→okC s[x].toNat=true) (fun i=>s.size - (intOf i).toNat)
 case atStart=>exact ⟨0,Nat.zero_le _,rfl,fun x _ h=>absurd h (Nat.not_lt_zero _)⟩
 case round =>
  obtain ⟨j,hj,rfl,hall⟩:=hrel;have HA:Hid _:=hall;clear hall
  by_cases hlt:j < s.size
  · rcases classes s[j].toNat with ⟨hok,hcl⟩ | ⟨hno,hcl⟩
    · have HN:Hid (∀ x,(hx:x < s.size)→x < j+1→okC s[x].toNat=true):=fun x hx hxj=>by
       rcases Nat.lt_or_ge x j with h1 | h1
       · exact HA.out x hx h1
       · obtain rfl:x=j:=by omega
         exact hok
      clear hok HA;rcases hcl with ⟨hl,hu⟩ | ⟨hl,hu⟩ | ⟨hl,hu⟩ | ⟨hl,hu⟩ | ⟨hl,hu⟩ | ⟨hl,hu⟩
      all_goals go_wp2
      all_goals first
       | (exfalso;omega)
       | (exfalso;rename_i hx;simp at hx;omega)
       | (exfalso;rename_i hx _;simp at hx;omega)
       | (exfalso;rename_i hx _ _;simp at hx;omega)
       | (go_round;(case rel=>exact ⟨j+1,by omega,by go_num,HN.out⟩);(case measure=>simp [intOf];omega))
    · have HN:Hid (¬ OkN s):=fun k=>by
       have:=k.2.2.2.2 j hlt;rw [hno] at this
       cases this
      clear hno HA;rcases hcl with ⟨hl,hu⟩ | ⟨hl,hu⟩ | ⟨hl,hu⟩ | ⟨hl,hu⟩ | ⟨hl,hu⟩ | ⟨hl,hu⟩
      all_goals go_wp2
      all_goals first
       | (exfalso;omega)
       | (exfalso;rename_i hx;simp at hx;omega)
       | (exfalso;rename_i hx _;simp at hx;omega)
       | (exfalso;rename_i hx _ _;simp at hx;omega)
       | (go_ret;exact ⟨Or.inr ⟨HN.out,rfl⟩,rfl⟩)
  · have HO:Hid (OkN s):=⟨h1,h2,h3,h4,fun x hx=>HA.out x hx (by omega)⟩
    clear HA
    go_wp2
    go_ret
    exact ⟨Or.inl ⟨HO.out,rfl⟩,rfl⟩
theorem nameError_any (s:ByteArray)(w:World):
   Calls Tryz.prog 17 #[.string s] w fun e w'=>((OkN s∧e = .returned (.int .i64 0))∨(¬ OkN s∧e = .returned (.int .i64 4)))∧w=w':=by
 by_cases h1:1≤s.size
 · by_cases h2:s.size≤24
   · cases h3:(s.toList==[46])
     · cases h4:(s.toList==[46,46])
       · exact nameError_loop s w h1 h2 h3 h4
       · exact (nameError_dot s w h1 h2 (Or.inr ⟨h3,h4⟩)).mono fun e w' h=>⟨Or.inr ⟨fun k=>Bool.noConfusion (h4.symm.trans k.2.2.2.1),h.1⟩,h.2⟩
     · exact (nameError_dot s w h1 h2 (Or.inl h3)).mono fun e w' h=>⟨Or.inr ⟨fun k=>Bool.noConfusion (h3.symm.trans k.2.2.1),h.1⟩,h.2⟩
   · exact (nameError_long s w (by omega)).mono fun e w' h=>⟨Or.inr ⟨fun k=>h2 k.2.1,h.1⟩,h.2⟩
 · exact (nameError_few s w (by omega)).mono fun e w' h=>⟨Or.inr ⟨fun k=>h1 k.1,h.1⟩,h.2⟩
end
section
open Go Go.RowKit Go.Deep Go.Maps
def onK (n g s l c b c0 tr t:Nat)(p:Row)(bb db B pb lo hi base:Nat)(nm tx u:ByteArray)(kc:Int)(cn:Nat)(w0:World):OnK:=⟨n,g,s,l,c,b,c0,tr,t,p,bb,db,B,pb,lo,hi,base,nm,tx,u,kc,cn,w0⟩
theorem wd_ok (w0:World){w1 w2:World}{n g s l c b c0 tr t:Nat}{p:Row}{bb db B pb hi:Nat}{nm tx:ByteArray}(h:WdAt w2 n g s l c b c0 tr t p bb db B pb w1.heap.size hi)(hz:tx.size≤400∧pAll pOp tx=some [opR,opM nm]):
   ∃ k:OnK,k.Ok∧k.n=n∧k.g=g∧k.s=s∧k.c0=c0∧k.tx=tx∧k.nm=nm∧k.w0=w0∧k.lo=w1.heap.size∧k.base=w2.heap.size∧WdAt w2 k.n k.g k.s k.l k.c k.b k.c0 k.tr k.t k.p k.bb k.db k.B k.pb k.lo k.hi:=by
 have o:=h.ord;have h0:=h.srv.lt
 by_cases hn:OkN nm
 · obtain ⟨u,hu⟩:=reps_text 0 (Or.inl rfl)
   exact ⟨onK n g s l c b c0 tr t p bb db B pb w1.heap.size hi w2.heap.size nm tx u 0 1 w0,⟨by simp only [onK];omega,h.srv.foot,h.srv.low,h.srv.one,hz,hu,Or.inl ⟨hn,rfl,rfl⟩⟩,rfl,rfl,rfl,rfl,rfl,rfl,rfl,rfl,rfl,h⟩
 · obtain ⟨u,hu⟩:=reps_text 4 (Or.inr rfl)
   exact ⟨onK n g s l c b c0 tr t p bb db B pb w1.heap.size hi w2.heap.size nm tx u 4 0 w0,⟨by simp only [onK];omega,h.srv.foot,h.srv.low,h.srv.one,hz,hu,Or.inr ⟨hn,rfl,rfl⟩⟩,rfl,rfl,rfl,rfl,rfl,rfl,rfl,rfl,rfl,h⟩
section
variable {A:Nat→Addr}{k:OnK}{w w':World}{v v':Value}{ms ms':List Msg}{did heard:Bool}
def OnK.cnt (k:OnK):Bool→Nat
 | false=>0
 | true=>k.cn
theorem srvTree (s tr:Nat)(h:w.cell? ⟨s,0,none⟩=some (.pointer (some ⟨tr,0,none⟩))):Calls Tryz.prog 14 #[.pointer (some ⟨s,0,none⟩)] w fun e w'=>e = .returned (.pointer (some ⟨tr,0,none⟩))∧w=w':=by
 go_enter Tryz.func14,Tryz.ntmps14
 go_wp2
 go_ret
 exact ⟨rfl,rfl⟩
theorem OnS.root (h:OnS A k w v ms did heard):∃ T,RootAt w k.tr T (k.cnt did):=by
 cases did
 · exact ⟨_,root_fresh h.srv.2⟩
 · obtain ⟨_,T,hT,_⟩:=h.srv
   exact ⟨T,hT⟩
theorem OnS.ends (h:OnS A k w v ms did heard):∃ L UN UG,∀ W,Only [] w W →
  (Calls Tryz.prog 14 #[.pointer (some ⟨k.s,0,none⟩)] W fun e w'=>e = .returned (.pointer (some ⟨k.tr,0,none⟩))∧Only [] W w') ∧
  (Calls Tryz.prog 16 #[.pointer (some ⟨k.tr,0,none⟩)] W fun e w'=>e = .returned (.agg #[.int .i64 0,.int .i64 0])∧Only [] W w') ∧
  Calls Tryz.prog 15 #[.pointer (some ⟨k.tr,0,none⟩),.agg #[.int .i64 0,.int .i64 0]] W fun e w'=>e = .returned (.tuple #[.agg #[.int .i64 2,.int .i64 (k.cnt did),.int .i64 L,.int .i64 (k.cnt did),.int .i64 UN,.int .i64 UG],.nilIface])∧Only [] W w':=by
 obtain ⟨T,hT⟩:=h.root;obtain ⟨L,UN,UG,hA⟩:=hT.attr h.E;refine ⟨L,UN,UG,fun W ho=>⟨(srvTree k.s k.tr ((ho.cell (p:=⟨k.s,0,none⟩) (lt_of_cell h.cell) (by simp)).trans h.cell)).mono fun e w' q=>⟨q.1,q.2 ▸ Only.refl [] _⟩,?_,hA W ho⟩⟩;exact (root_any W _).mono fun e w' q=>⟨q.1,q.2⟩
end
theorem OnS.round {A:Nat→Addr}{k:OnK}{w:World}{v:Value}{ms:List Msg}{did heard:Bool}(hk:k.Ok)(h:OnS A k w v ms did heard)(hl:ms.length < 100)(hh:heard=true→did=true)(x:Msg)(hx:x=k.R∨(did=true∧x=k.P)):
   ∃ (sv:ByteArray) (is now did' heard':Bool),
    (∀ W,Only [] w W→Calls Tryz.prog 12 #[.pointer (some ⟨k.c0,0,none⟩),.agg #[.string x.F,.string x.T,.string x.X]] W fun e w'=>e = .returned (.tuple #[.string sv,.bool is])∧OnS A k w' v ms did heard'∧Only [k.c0] W w') ∧
    (∀ W,OnS A k W v ms did heard'→Calls Tryz.prog 13 #[.pointer (some ⟨k.l,0,none⟩),.pointer (some ⟨k.n,0,none⟩),.agg #[.string x.F,.string x.T,.string x.X]] W fun e w'=>e = .returned (.tuple #[.bool now,.nilIface])∧∃ v' ms',OnS A k w' v' ms' did' heard'∧ms'.length≤ms.length+1) ∧
    ((is=false∧now=true∧did=false∧did'=true∧heard'=heard∧heard=false)∨(is=false∧now=false∧did=true∧did'=true∧heard'=heard)∨(is=true∧now=false∧did=true∧did'=true∧heard=false∧heard'=true)):=by
 rcases hx with hx | ⟨hd,hx⟩
 · subst hx
   cases did with
   | false =>
    have hf:heard=false:=by
      cases heard with
      | false=>rfl
      | true=>exact absurd (hh rfl) (by decide)
    subst hf;refine ⟨⟨#[]⟩,false,true,true,false,fun W ho=>(h.quiet hk ho).cpasses hk k.R (Or.inl rfl),fun W hW=>(hW.hears_new hk hl).mono fun e w' q=>?_,Or.inl ⟨rfl,rfl,rfl,rfl,rfl,rfl⟩⟩;obtain ⟨he,v',h1⟩:=q;exact ⟨he,v',_,h1,by simp⟩
   | true =>
    refine ⟨⟨#[]⟩,false,false,true,heard,fun W ho=>(h.quiet hk ho).cpasses hk k.R (Or.inl rfl),fun W hW=>(hW.hears_known hk hl).mono fun e w' q=>?_,Or.inr (Or.inl ⟨rfl,rfl,rfl,rfl,rfl⟩)⟩;obtain ⟨he,v',h1⟩:=q;exact ⟨he,v',_,h1,by simp⟩
 · subst hx hd
   cases heard with
   | false =>
    refine ⟨k.u,true,false,true,true,fun W ho=>(h.quiet hk ho).chears hk,fun W hW=>(hW.passes hk).mono fun e w' q=>⟨q.1,v,ms,q.2,by omega⟩,Or.inr (Or.inr ⟨rfl,rfl,rfl,rfl,rfl,rfl⟩)⟩
   | true =>
    refine ⟨⟨#[]⟩,false,false,true,true,fun W ho=>(h.quiet hk ho).cpasses hk k.P (Or.inr rfl),fun W hW=>(hW.passes hk).mono fun e w' q=>⟨q.1,v,ms,q.2,by omega⟩,Or.inr (Or.inl ⟨rfl,rfl,rfl,rfl,rfl⟩)⟩
theorem nameErr_yes (s:ByteArray)(h:OkN s)(w:World):Calls Tryz.prog 17 #[.string s] w fun e w'=>e = .returned (.int .i64 0)∧w'=w :=
 (nameError_any s w).mono fun e w' q=>by
  rcases q with ⟨⟨_,q⟩ | ⟨q,_⟩,hb⟩
  · exact ⟨q,hb.symm⟩
  · exact absurd h q
theorem nameErr_no (s:ByteArray)(h:¬ OkN s)(w:World):Calls Tryz.prog 17 #[.string s] w fun e w'=>e = .returned (.int .i64 4)∧w'=w :=
 (nameError_any s w).mono fun e w' q=>by
  rcases q with ⟨⟨q,_⟩ | ⟨_,q⟩,hb⟩
  · exact absurd q h
  · exact ⟨q,hb.symm⟩
end
end Go.Proofs.YtmfcfkomdflhlaaGreatDoor
