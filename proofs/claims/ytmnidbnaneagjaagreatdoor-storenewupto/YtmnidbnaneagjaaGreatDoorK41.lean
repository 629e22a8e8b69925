import Derived.Test.YtmnidbnaneagjaaGreatDoorK38
set_option maxHeartbeats 8000000
namespace Go.Proofs.YtmnidbnaneagjaaGreatDoor
section
open Go Go.RowKit Go.Deep Go.Maps
def TreeRow (w:World)(tr:Nat):Prop:=∃ row,w.heap[tr]?=some (.cells row 128 (0,0))
theorem TreeRow.only {w w':World}{tr:Nat}{L:List Nat}(h:TreeRow w tr)(ho:Only L w w')(hL:tr∉L):TreeRow w' tr:=by
 obtain ⟨row,h⟩:=h;exact ⟨row,(ho.block tr (Array.getElem?_eq_some_iff.1 h).1 hL).trans h⟩
theorem over_okT (w:World)(t:Nat)(p:Row)(most:Nat)(g:Nat→Nat)(nd:Nat→Option Nod)(h:TabAt w t p most g nd)(hN:p.N≤1000)(hg:∀ i,g i≤5000000000000000000):
   Calls Tryz.prog 90 #[.pointer (some ⟨t,0,none⟩)] w fun e w'=>∃ tr db pb,e = .returned (.pointer (some ⟨tr,0,none⟩))∧(TreeRow w' tr∧tr≠db∧tr≠t)∧TreeAt w' tr (Tr.bare t p most g nd db pb)∧Only [] w w'∧w.heap.size≤tr∧w.heap.size≤db∧w.heap.size≤pb:=by
 have hm1:=run_makeMap (P:=Tryz.prog) 125 w;have hm2:=run_makeMap (P:=Tryz.prog) 126 (w.alloc (.map #[] 0));have H:Hid (TabAt w t p most g nd):=h;clear h
 go_enter Tryz.func90,Tryz.ntmps90
 go_wp2
 go_ret
 have ho:Only [] w (((w.alloc (.map #[] 0)).alloc (.map #[] 0)).alloc (.cells #[.pointer (some ⟨t,0,none⟩),.map (some w.heap.size),.map (some (w.heap.size+1))] 128)):=(((Only.refl [] w).alloc _).alloc _).alloc _;have hh:=heap_alloc_last ((w.alloc (.map #[] 0)).alloc (.map #[] 0)) (.cells #[.pointer (some ⟨t,0,none⟩),.map (some w.heap.size),.map (some (w.heap.size+1))] 128);simp only [World.size_alloc] at hh;have htl:=H.out.foot_lt t (Or.inl rfl);refine ⟨w.heap.size+1+1,w.heap.size,w.heap.size+1,rfl,⟨⟨_,hh⟩,by omega,by omega⟩,?_,ho,by omega,by omega,by omega⟩
 have hno:∀ k,w.heap.size≤k→¬ InFoot t p most nd k:=fun k hk hf=>by have:=H.out.foot_lt k hf;omega
 have hd:(((w.alloc (.map #[] 0)).alloc (.map #[] 0)).alloc (.cells #[.pointer (some ⟨t,0,none⟩),.map (some w.heap.size),.map (some (w.heap.size+1))] 128)).ownsMap Tryz.prog 94 mapElem w.heap.size 0 (.map []:DataW Unit):=((World.ownsMap_made (H:=Unit) w Tryz.prog 94 mapElem).alloc _).alloc _
 have hp:(((w.alloc (.map #[] 0)).alloc (.map #[] 0)).alloc (.cells #[.pointer (some ⟨t,0,none⟩),.map (some w.heap.size),.map (some (w.heap.size+1))] 128)).ownsMap Tryz.prog 94 (plainElem Tryz.prog 3) (w.heap.size+1) 0 (.map []:DataW Unit):=by
   have:=World.ownsMap_made (H:=Unit) (w.alloc (.map #[] 0)) Tryz.prog 94 (plainElem Tryz.prog 3);rw [World.size_alloc] at this;exact this.alloc _
 refine ⟨cell_of_row _ _ 0 _ _ _ hh,cell_of_row _ _ 1 _ _ _ hh,cell_of_row _ _ 2 _ _ _ hh,H.out.kept ho (fun _ _=>by simp),⟨_,0,hd,by omega,Reads.empty.congr (fun k=>?_)⟩,(fun i d e=>by cases e),⟨_,0,hp,by omega,Reads.empty.congr (fun k=>?_)⟩,(fun i j d d' e=>by cases e),⟨hN,hg⟩,hno (w.heap.size+1+1) (by omega),hno w.heap.size (Nat.le_refl _),hno (w.heap.size+1) (by omega),(fun i d e=>by cases e),?_,(fun i d e=>by cases e),(fun i e=>by cases e)⟩
 · show (if k.2=g k.1 then (none:Option DirM).map (·.b) else none)=none
   split<;>rfl
 · simp [Tr.pinsF,Tr.bare]
 · show w.heap.size≠w.heap.size+1
   omega
theorem tree_newT (w:World)(most:Nat)(h1:1≤most)(h2:most≤300):
  Calls Tryz.prog 48 #[.int .i64 most] w fun e w'=>∃ tr t p b db B pb,e = .returned (.tuple #[.pointer (some ⟨tr,0,none⟩),.nilIface])∧TreeRow w' tr∧TreeAt w' tr (Tr.fresh t p most b db B pb)∧Only [] w w'∧p.N=1∧w.heap.size≤tr∧w.heap.size≤t∧w.heap.size≤b∧w.heap.size≤db∧w.heap.size≤B∧w.heap.size≤pb∧∀ k,p.a=some k→w.heap.size≤k:=by
 have hnew:=tnew w most h1 h2
 go_enter Tryz.func48,Tryz.ntmps48
 go_wp2_with (first
  | (go_at_call 89;go_must (refine hnew.mono ?_);rintro e w1 ⟨t,rfl,hT1,ho1,ht⟩;have hov:=over_okT w1 t noRow most (fun _=>0) (fun _=>none) hT1 (by decide) (fun _=>by omega);have HO1:Hid (Only [] w w1):=ho1;have HTT:Hid (w.heap.size≤t):=ht;clear hT1 ho1 hnew ht)
  | (go_at_call 90;go_must (refine hov.mono ?_);rintro e w2 ⟨tr,db,pb,rfl,hR2,hT2,ho2,htr,hdb,hpb⟩;have hadd:=add_dir w2 tr (Tr.bare t noRow most (fun _=>0) (fun _=>none) db pb) 0 hT2 (by decide) (show countTo (fun _=>none) 0 < most from h1) rfl rfl (fun j hj=>by omega);have HR2:Hid (TreeRow w2 tr∧tr≠db∧tr≠t):=hR2;have HO2:Hid (Only [] w w2):=HO1.out.trans ho2 (fun _ hk=>by cases hk);have HS:Hid (w.heap.size≤tr∧w.heap.size≤db∧w.heap.size≤pb):=(show w.heap.size≤tr∧w.heap.size≤db∧w.heap.size≤pb from by have:=HO1.out.size;omega);clear hR2 hT2 ho2 hov htr hdb hpb)
  | (go_at_call 91;go_must (refine hadd.mono ?_);rintro e w3 ⟨rfl,p,b,B,hT3,ho3,hb3,hB3,hN3,hA3⟩;clear hadd)
  | go_in)
 have ho:Only [] w w3:=HO2.out.trans ho3 (fun k hk=>Or.inr (by
  have h1:=HS.out;have h2:=HTT.out;rcases List.mem_cons.1 hk with e | e
  · rw [e];exact h1.2.1
  · rcases List.mem_cons.1 e with e | e
    · rw [e];exact h2
    · cases e))
 have hs2:=HO2.out.size
 have hR3:TreeRow w3 tr:=HR2.out.1.only ho3 (fun e=>by
  rcases List.mem_cons.1 e with e | e
  · exact HR2.out.2.1 e
  · rcases List.mem_cons.1 e with e | e
    · exact HR2.out.2.2 e
    · cases e)
 refine bodyPost_ret (v := .tuple #[.pointer (some ⟨tr,0,none⟩),.nilIface]) (by simp [results,Tryz.results48,go_sem]) rfl ?_;exact ⟨tr,t,p,b,db,B,pb,rfl,hR3.only ((Only.refl [] w3).alloc _) (by simp),TreeAt.only (T:=Tr.fresh t p most b db B pb) hT3 ((Only.refl [] w3).alloc _),ho.alloc _,by rw [hN3];rfl,HS.out.1,HTT.out,by omega,HS.out.2.1,by omega,HS.out.2.2,fun k hk=>(hA3 k hk).elim (fun e=>by cases e) (fun e=>by omega)⟩
theorem own_atS {w:World}{base e k n b:Nat}{v:Value}{xs:List Value}(h:w.ownsRow base e k v n xs)(hb:v.ownBlock=some b):base≤b∧b < w.heap.size∧∃ cur,w.heap[b]?=some (.cells cur e (0,0)):=by
 rcases h.2 with ⟨rfl,_⟩ | ⟨g,cap,cur,rfl,h1,h2,_⟩
 · cases hb
 · cases hb
   exact ⟨h1,(Array.getElem?_eq_some_iff.1 h2).1,cur,h2⟩
theorem TreeAt.obj {w:World}{tr k:Nat}{T:Tr}(h:TreeAt w tr T)(hr:TreeRow w tr)(hk:FootT tr T k){o:Obj}(ho:w.heap[k]?=some o):(∀ cs ty fr,o ≠ .cells cs ty fr)∨∃ cs ty fr,o = .cells cs ty fr∧ty≠61∧ty≠106∧ty≠108∧ty≠138:=by
 have ty:∀ {ty:TypeId} {fr:Nat×Nat},(∃ cs,w.heap[k]?=some (.cells cs ty fr))→(ty≠61∧ty≠106∧ty≠108∧ty≠138)→(∀ cs ty fr,o ≠ .cells cs ty fr)∨∃ cs ty fr,o = .cells cs ty fr∧ty≠61∧ty≠106∧ty≠108∧ty≠138:=fun ⟨cs,e⟩ hn=>Or.inr ⟨cs,_,_,Option.some.inj (ho.symm.trans e),hn⟩
 have mp:∀ {K:TypeId} {R:Value→Option (DataW Unit×List MemPlace)} {n:Nat} {D:DataW Unit},w.ownsMap Tryz.prog K R k n D→(∀ cs ty fr,o ≠ .cells cs ty fr):=fun h cs ty fr e=>by
   obtain ⟨es,clock,hb,_⟩:=h;rw [hb,e] at ho
   cases ho
 rcases hk with e | e | e | ⟨i,d,h1,h2⟩ | (e | e | ⟨i,n,h1,h2⟩)
 · obtain ⟨row,hr⟩:=hr
   exact ty ⟨row,e ▸ hr⟩ ⟨by decide,by decide,by decide,by decide⟩
 · obtain ⟨D,n,h1,_⟩:=h.dirs
   exact Or.inl (mp (e ▸ h1))
 · obtain ⟨D,n,h1,_⟩:=h.pins
   exact Or.inl (mp (e ▸ h1))
 · subst h2
   exact Or.inl (mp (h.dir i d h1))
 · obtain ⟨cs,fr,hc⟩:=h.tab.ty
   exact ty ⟨cs,e ▸ hc⟩ ⟨by decide,by decide,by decide,by decide⟩
 · obtain ⟨_,_,cur,hc⟩:=own_atS h.tab.row (by rw [T.p.own];exact e)
   exact ty ⟨cur,hc⟩ ⟨by decide,by decide,by decide,by decide⟩
 · have hN:=h.tab.node i n h1
   rcases List.mem_cons.1 h2 with rfl | h2
   · obtain ⟨cs,fr,hc⟩:=hN.d.ty
     exact ty ⟨cs,hc⟩ ⟨by decide,by decide,by decide,by decide⟩
   · obtain ⟨f,_,hm⟩:=hN.d.holds
     have e:n.m=some k:=by simpa using h2
     rw [e] at hm;obtain ⟨D,hm,_⟩:=hm;exact Or.inl (mp hm)
theorem OthL.only {w w':World}(h:OthL w w'):∃ L:List Nat,Only L w w'∧∀ k∈L,k < w.heap.size∧w'.heap[k]?≠w.heap[k]?:=by
 classical
 refine ⟨(List.range w.heap.size).filter (fun k=>decide (w'.heap[k]?≠w.heap[k]?)),⟨h.os,h.tape,h.output,h.size,fun k hk hn=>?_⟩,fun k hk=>?_⟩
 · refine Classical.byContradiction fun hne=>hn (List.mem_filter.2 ⟨List.mem_range.2 hk,decide_eq_true hne⟩)
 · obtain ⟨h1,h2⟩:=List.mem_filter.1 hk
   exact ⟨List.mem_range.1 h1,of_decide_eq_true h2⟩
theorem OthL.obj {w w':World}(h:OthL w w'){k:Nat}{o:Obj}(ho:w.heap[k]?=some o)(hn:(∀ cs ty fr,o ≠ .cells cs ty fr)∨∃ cs ty fr,o = .cells cs ty fr∧ty≠61∧ty≠106∧ty≠108∧ty≠138):w'.heap[k]?=w.heap[k]?:=by
 rcases hn with hn | ⟨cs,ty,fr,rfl,h1,h2,h3,h4⟩
 · exact (h.maps k o ho hn).trans ho.symm
 · exact (h.block k cs ty fr ho h1 h2 h3 h4).trans ho.symm
theorem TreeAt.othL {w w':World}{tr:Nat}{T:Tr}(h:TreeAt w tr T)(hr:TreeRow w tr)(ho:OthL w w'):TreeAt w' tr T∧TreeRow w' tr:=by
 obtain ⟨L,hL,hd⟩:=ho.only
 have hk:∀ k,FootT tr T k→k∉L:=fun k hk hm=>by
  obtain ⟨h1,h2⟩:=hd k hm;exact h2 (ho.obj (Array.getElem?_eq_getElem h1) (h.obj hr hk (Array.getElem?_eq_getElem h1)))
 exact ⟨h.kept hL hk,hr.only hL (hk tr (Or.inl rfl))⟩
end
end Go.Proofs.YtmnidbnaneagjaaGreatDoor
