import Derived.Test.YtbdfjbmocifhmaaGreatDoorK11
set_option maxHeartbeats 8000000
namespace Go.Proofs.YtbdfjbmocifhmaaGreatDoor
section
open Go Go.RowKit Go.Deep Go.Maps
def Tr.bare (t:Nat)(p:Row)(most:Nat)(g:Nat→Nat)(nd:Nat→Option Nod)(db pb:Nat):Tr:=⟨t,p,most,g,nd,db,fun _=>none,pb,fun _=>0⟩
theorem over_ok (w:World)(t:Nat)(p:Row)(most:Nat)(g:Nat→Nat)(nd:Nat→Option Nod)(h:TabAt w t p most g nd)(hN:p.N≤1000)(hg:∀ i,g i≤5000000000000000000):
   Calls Tryz.prog 22 #[.pointer (some ⟨t,0,none⟩)] w fun e w'=>∃ tr db pb,e = .returned (.pointer (some ⟨tr,0,none⟩))∧TreeAt w' tr (Tr.bare t p most g nd db pb)∧Only [] w w'∧w.heap.size≤tr∧w.heap.size≤db∧w.heap.size≤pb:=by
 have hm1:=run_makeMap (P:=Tryz.prog) 127 w;have hm2:=run_makeMap (P:=Tryz.prog) 128 (w.alloc (.map #[] 0));have H:Hid (TabAt w t p most g nd):=h;clear h
 go_enter Tryz.func22,Tryz.ntmps22
 go_wp2
 go_ret
 have ho:Only [] w (((w.alloc (.map #[] 0)).alloc (.map #[] 0)).alloc (.cells #[.pointer (some ⟨t,0,none⟩),.map (some w.heap.size),.map (some (w.heap.size+1))] 130)):=(((Only.refl [] w).alloc _).alloc _).alloc _;refine ⟨w.heap.size+1+1,w.heap.size,w.heap.size+1,rfl,?_,ho,by omega,by omega,by omega⟩;have hh:=heap_alloc_last ((w.alloc (.map #[] 0)).alloc (.map #[] 0)) (.cells #[.pointer (some ⟨t,0,none⟩),.map (some w.heap.size),.map (some (w.heap.size+1))] 130);simp only [World.size_alloc] at hh
 have hno:∀ k,w.heap.size≤k→¬ InFoot t p most nd k:=fun k hk hf=>by have:=H.out.foot_lt k hf;omega
 have hd:(((w.alloc (.map #[] 0)).alloc (.map #[] 0)).alloc (.cells #[.pointer (some ⟨t,0,none⟩),.map (some w.heap.size),.map (some (w.heap.size+1))] 130)).ownsMap Tryz.prog 34 mapElem w.heap.size 0 (.map []:DataW Unit):=((World.ownsMap_made (H:=Unit) w Tryz.prog 34 mapElem).alloc _).alloc _
 have hp:(((w.alloc (.map #[] 0)).alloc (.map #[] 0)).alloc (.cells #[.pointer (some ⟨t,0,none⟩),.map (some w.heap.size),.map (some (w.heap.size+1))] 130)).ownsMap Tryz.prog 34 (plainElem Tryz.prog 3) (w.heap.size+1) 0 (.map []:DataW Unit):=by
   have:=World.ownsMap_made (H:=Unit) (w.alloc (.map #[] 0)) Tryz.prog 34 (plainElem Tryz.prog 3);rw [World.size_alloc] at this;exact this.alloc _
 refine ⟨cell_of_row _ _ 0 _ _ _ hh,cell_of_row _ _ 1 _ _ _ hh,cell_of_row _ _ 2 _ _ _ hh,H.out.kept ho (fun _ _=>by simp),⟨_,0,hd,by omega,Reads.empty.congr (fun k=>?_)⟩,(fun i d e=>by cases e),⟨_,0,hp,by omega,Reads.empty.congr (fun k=>?_)⟩,(fun i j d d' e=>by cases e),⟨hN,hg⟩,hno (w.heap.size+1+1) (by omega),hno w.heap.size (Nat.le_refl _),hno (w.heap.size+1) (by omega),(fun i d e=>by cases e),?_,(fun i d e=>by cases e),(fun i e=>by cases e)⟩
 · show (if k.2=g k.1 then (none:Option DirM).map (·.b) else none)=none
   split<;>rfl
 · simp [Tr.pinsF,Tr.bare]
 · show w.heap.size≠w.heap.size+1
   omega
def Tr.fresh (t:Nat)(p:Row)(most b db B pb:Nat):Tr:=⟨t,p,most,fun _=>0,setN (fun _=>none) 0 (some { newNod b 2 with Z:=0,L:=2 }),db,setN (fun _=>none) 0 (some ⟨B,[]⟩),pb,fun _=>0⟩
theorem tree_new (w:World)(most:Nat)(h1:1≤most)(h2:most≤300):
  Calls Tryz.prog 8 #[.int .i64 most] w fun e w'=>∃ tr t p b db B pb,e = .returned (.tuple #[.pointer (some ⟨tr,0,none⟩),.nilIface])∧TreeAt w' tr (Tr.fresh t p most b db B pb)∧Only [] w w'∧p.N=1∧w.heap.size≤tr∧w.heap.size≤t∧w.heap.size≤b∧w.heap.size≤db∧w.heap.size≤B∧w.heap.size≤pb∧∀ k,p.a=some k→w.heap.size≤k:=by
 have hnew:=tnew w most h1 h2
 go_enter Tryz.func8,Tryz.ntmps8
 go_wp2_with (first
  | (go_at_call 21;go_must (refine hnew.mono ?_);rintro e w1 ⟨t,rfl,hT1,ho1,ht⟩;have hov:=over_ok w1 t noRow most (fun _=>0) (fun _=>none) hT1 (by decide) (fun _=>by omega);have HO1:Hid (Only [] w w1):=ho1;have HTT:Hid (w.heap.size≤t):=ht;clear hT1 ho1 hnew ht)
  | (go_at_call 22;go_must (refine hov.mono ?_);rintro e w2 ⟨tr,db,pb,rfl,hT2,ho2,htr,hdb,hpb⟩;have hadd:=add_dir w2 tr (Tr.bare t noRow most (fun _=>0) (fun _=>none) db pb) 0 hT2 (by decide) (show countTo (fun _=>none) 0 < most from h1) rfl rfl (fun j hj=>by omega);have HO2:Hid (Only [] w w2):=HO1.out.trans ho2 (fun _ hk=>by cases hk);have HS:Hid (w.heap.size≤tr∧w.heap.size≤db∧w.heap.size≤pb):=(show w.heap.size≤tr∧w.heap.size≤db∧w.heap.size≤pb from by have:=HO1.out.size;omega);clear hT2 ho2 hov htr hdb hpb)
  | (go_at_call 23;go_must (refine hadd.mono ?_);rintro e w3 ⟨rfl,p,b,B,hT3,ho3,hb3,hB3,hN3,hA3⟩;clear hadd)
  | go_in)
 have ho:Only [] w w3:=HO2.out.trans ho3 (fun k hk=>Or.inr (by
  have h1:=HS.out;have h2:=HTT.out;rcases List.mem_cons.1 hk with e | e
  · rw [e];exact h1.2.1
  · rcases List.mem_cons.1 e with e | e
    · rw [e];exact h2
    · cases e))
 have hs2:=HO2.out.size;refine bodyPost_ret (v := .tuple #[.pointer (some ⟨tr,0,none⟩),.nilIface]) (by simp [results,Tryz.results8,go_sem]) rfl ?_;exact ⟨tr,t,p,b,db,B,pb,rfl,TreeAt.only (T:=Tr.fresh t p most b db B pb) hT3 ((Only.refl [] w3).alloc _),ho.alloc _,by rw [hN3];rfl,HS.out.1,HTT.out,by omega,HS.out.2.1,by omega,HS.out.2.2,fun k hk=>(hA3 k hk).elim (fun e=>by cases e) (fun e=>by omega)⟩
def firstV:List (Option Addr)→Option Addr
 | []=>none
 | some a::_=>some a
 | none::r=>firstV r
def errO:Option Addr→Value
 | none => .nilIface
 | some a=>errV a
theorem firstV_drop {l:List (Option Addr)}(j:Nat)(h:∀ q,q < j→l[q]?=some none):firstV l=firstV (l.drop j):=by
 induction j generalizing l with
 | zero=>rfl
 | succ j ih =>
  cases l with
  | nil=>rfl
  | cons x r =>
   have h0:=h 0 (by omega);simp at h0;subst h0;exact ih (fun q hq=>by have:=h (q+1) (by omega);simpa using this)
theorem firstOf_any (w:World)(B len cap:Nat)(l:List (Option Addr))(hl:l.length=len)(hlen:len≤10)(hc:∀ j o,l[j]?=some o→w.cell? ⟨B,j,none⟩=some (errO o)):
  Calls Tryz.prog 65 #[.slice (some ⟨B,0,none⟩) len cap] w fun e w'=>e = .returned (errO (firstV l))∧w=w':=by
 have HC:Hid (∀ j o,l[j]?=some o→w.cell? ⟨B,j,none⟩=some (errO o)):=hc;clear hc
 go_enter Tryz.func65,Tryz.ntmps65
 go_wp2
 go_loopw [4,7] (fun _ k wr=>∃ j:Nat,k = .int .i64 j∧j≤len∧(∀ q,q < j→l[q]?=some none)∧w=wr) (fun _ k _=>len - (intOf k).toNat)
 case atStart=>exact ⟨0,rfl,Nat.zero_le _,(fun q hq=>by omega),rfl⟩
 case round =>
  obtain ⟨j,rfl,hj,hall,rfl⟩:=hrel;have HA:Hid (∀ q,q < j→l[q]?=some none):=hall;clear hall
  by_cases hlt:j < len
  · obtain ⟨o,ho⟩:∃ o,l[j]?=some o:=⟨_,List.getElem?_eq_getElem (by omega)⟩
    have c0:=HC.out j o ho;have HO:Hid (l[j]?=some o):=ho;clear ho
    cases o with
    | none =>
     unfold errO at c0
     go_wp2
     go_roundw
     case rel=>exact ⟨j+1,by go_num,by omega,(fun q hq=>by
        rcases Nat.lt_or_ge q j with h1 | h1
        · exact HA.out q h1
        · obtain rfl:q=j:=by omega
          exact HO.out),trivial⟩
     case measure=>simp [intOf];omega
    | some a =>
     have hf:Hid (firstV l=some a):=show firstV l=some a from by
      have hd:l.drop j=some a::l.drop (j+1):=by
       have hjl:j < l.length:=by omega
       rw [List.drop_eq_getElem_cons hjl];have:=HO.out;rw [List.getElem?_eq_getElem hjl] at this;rw [Option.some.inj this]
      rw [firstV_drop j HA.out,hd];rfl
     unfold errO errV at c0
     go_wp2
     go_ret
     exact ⟨by rw [hf.out];rfl,rfl⟩
  · obtain rfl:j=len:=by omega
    have hf:Hid (firstV l=none):=show firstV l=none from by
     rw [firstV_drop j HA.out,List.drop_eq_nil_of_le (by omega)];rfl
    go_wp2
    go_ret
    exact ⟨by rw [hf.out];rfl,rfl⟩
theorem look_name {w:World}{d:DirM}(h:DirAt w d)(s:ByteArray)(hs:s.size≤1000):∃ v,(Instr.lookup 136 (.map (some d.b)) (.string s) true).run Tryz.prog w = .ok (.tuple #[v,.bool (findE d.l s.data.toList).isSome]) w∧v=(match findE d.l s.data.toList with | some e=>handV e.i e.c | none=>handV 0 0):=by
 obtain ⟨v,ps,hr,hv⟩:=World.ownsMap.look_ok h lawS undNames (zeroHand _) (zd:=entV 0 0) (zp:=[]) rfl (WideMaps.keyOf_string_mk Tryz.underlying9 (s:=s) (by unfold maxLen;omega));rw [has_entD] at hr;rw [at_entD] at hv;refine ⟨v,hr,?_⟩
 cases hf:findE d.l s.data.toList with
 | none=>rw [hf] at hv;exact handElem_inv hv
 | some e=>rw [hf] at hv;exact handElem_inv hv
end
end Go.Proofs.YtbdfjbmocifhmaaGreatDoor
