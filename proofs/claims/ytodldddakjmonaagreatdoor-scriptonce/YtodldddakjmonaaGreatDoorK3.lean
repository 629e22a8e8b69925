import Derived.LaidLaws
import Derived.Stop.LaidErr
import Derived.Test.YtodldddakjmonaaGreatDoorK2
import Derived.Deep.OwnRows
namespace Go.Proofs.YtodldddakjmonaaGreatDoor
section
open Go Go.RowKit Go.ChangeShapes
def sent (nm:String)(x:String×List UInt8):String×DataW Unit:=(x.1,.iface nm (.ptr (.agg [.lit (.string x.2)])))
theorem sentinels_list {P:Program}{nm:String}{W:World}{ti tp te ts:TypeId}{ms:Array (String×TypeId)}{f:Field}
  (hi:P.underlying ti=some (.interface ms)) (hrow:∀ u,P.typeName? 3 u=some nm→u=tp)
  (hp:P.underlying tp=some (.pointer te)) (he:P.underlying te=some (.struct #[f])) (hft:f.type=ts) (hfo:f.offset=0) (hs:P.underlying ts=some .string) (hc:P.cellsOf te=1) (hcs:P.cellsOf ts=1) :
  ∀ (L:List (String×List UInt8)) (G:List Nat) (ps:List MemPlace),L.length=G.length→(∀ x∈L.zip G,P.globalNamed x.1.1=some x.2∧(P.globals[x.2]?).map (·.type)=some ti) →
   DataW.LaidVars P W (L.map (sent nm)) ps →
   (∀ b off,MemPlace.cell b off∈ps→(∃ c t,W.heap[b]?=some (.cells c t (0,0)))∧∀ u v,W.cell? ⟨b,off,none⟩=some (.iface u v)→Value.okWide P W .any 0 u v) →
   ∃ As:List Addr,As.length=L.length∧(As.map fun a=>MemPlace.cell a.block a.off).Sublist ps∧(∀ a∈As,a.spot=none∧∃ c t,W.heap[a.block]?=some (.cells c t (0,0))) ∧
     (∀ x∈G.zip As,W.cell? ⟨x.1,0,none⟩=some (.iface tp (.pointer (some x.2))))∧∀ x∈L.zip As,∃ s:ByteArray,W.cell? x.2=some (.string s)∧s.data.toList=x.1.2:=by
 intro L
 induction L with
 | nil=>intro G ps hl _ _ _;exact ⟨[],rfl,List.nil_sublist _,fun a h=>by simp at h,fun x h=>by cases G<;>simp_all,fun x h=>by simp at h⟩
 | cons x L ih =>
  intro G ps hl hG hv hrows
  cases G with
  | nil=>simp at hl
  | cons g G =>
   obtain ⟨g0,t0,cs0,f0,p0,q0,hg0,ht0,hv0,hd0,hq,rfl⟩:=hv;have hG0:=hG (x,g) (by simp);obtain rfl:=Option.some.inj (hG0.1.symm.trans hg0);obtain rfl:=Option.some.inj (hG0.2.symm.trans ht0);obtain ⟨l0⟩:=cs0
   have ok0:∀ u v,l0=[.iface u v]→Value.okWide P W .any 0 u v:=fun u v e=>by
     subst e;exact (hrows g 0 (by simp [MemPlace.row])).2 u v (by simpa using World.var?_cell hg0 hv0 0)
   obtain ⟨a0,s0,rfl,hc0,hs0,hz0,rfl⟩:=errorString_of_trod hi hrow hp he hft hfo hs hc hcs hd0 ok0;obtain ⟨As,h1,h2,h3,h4,h5⟩:=ih G q0 (by simpa using hl) (fun y hy=>hG y (by simp [hy])) hq (fun b off hm=>hrows b off (List.mem_append_right _ hm));refine ⟨a0::As,by simp [h1],?_,?_,?_,?_⟩
   · rw [List.append_assoc]
     refine List.Sublist.trans ?_ (List.sublist_append_right _ _);show List.Sublist (MemPlace.cell a0.block a0.off::As.map _) (MemPlace.cell a0.block (a0.off+0)::q0);exact h2.cons_cons _
   · intro a ha
     rcases List.mem_cons.1 ha with rfl | ha
     · exact ⟨World.cell?_spot hc0,(hrows a.block a.off (by simp [MemPlace.row])).1⟩
     · exact h3 a ha
   · intro y hy
     rcases List.mem_cons.1 (by simpa using hy) with rfl | hy
     · simpa using World.var?_cell hg0 hv0 0
     · exact h4 y hy
   · intro y hy
     rcases List.mem_cons.1 (by simpa using hy) with rfl | hy
     · exact ⟨s0,hc0,hs0⟩
     · exact h5 y hy
end
section
open Go Go.RowKit
def errNames:List (String×List UInt8):=[("pigeonholes/api.ErrText",[112,105,103,101,111,110,104,111,108,101,115,58,32,116,101,120,116]),("pigeonholes/api.ErrBound",[112,105,103,101,111,110,104,111,108,101,115,58,32,98,111,117,110,100]),("pigeonholes/api.ErrShape",[112,105,103,101,111,110,104,111,108,101,115,58,32,115,104,97,112,101]),("pigeonholes/api.ErrName",[112,105,103,101,111,110,104,111,108,101,115,58,32,110,97,109,101]),("pigeonholes/api.ErrNone",[112,105,103,101,111,110,104,111,108,101,115,58,32,110,111,110,101]),("pigeonholes/api.ErrExist",[112,105,103,101,111,110,104,111,108,101,115,58,32,101,120,105,115,116]),("pigeonholes/api.ErrDir",[112,105,103,101,111,110,104,111,108,101,115,58,32,100,105,114]),("pigeonholes/api.ErrFile",[112,105,103,101,111,110,104,111,108,101,115,58,32,102,105,108,101]),("pigeonholes/api.ErrFull",[112,105,103,101,111,110,104,111,108,101,115,58,32,102,117,108,108]),("pigeonholes/api.ErrStale",[112,105,103,101,111,110,104,111,108,101,115,58,32,115,116,97,108,101]),("pigeonholes/api.ErrHeld",[112,105,103,101,111,110,104,111,108,101,115,58,32,104,101,108,100]),("pigeonholes/api.ErrSeq",[112,105,103,101,111,110,104,111,108,101,115,58,32,115,101,113]),("pigeonholes/api.ErrOld",[112,105,103,101,111,110,104,111,108,101,115,58,32,111,108,100]),("pigeonholes/api.ErrGrace",[112,105,103,101,111,110,104,111,108,101,115,58,32,103,114,97,99,101]),("pigeonholes/api.ErrPower",[112,105,103,101,111,110,104,111,108,101,115,58,32,112,111,119,101,114])]
def errGs:List Nat:=[1,0,2,4,6,9,10,11,7,12,5,13,14,15,16]
def gOf (k:Nat):Nat:=errGs.getD k 0
structure Errs (W:World)(A:Nat→Addr):Prop where
 cell:∀ k,k < 15→W.cell? ⟨gOf k,0,none⟩=some (.iface 416 (.pointer (some (A k))))
 inj:∀ i j,i < 15→j < 15→A i=A j→i=j
 row:∀ k,k < 15→∃ c t,W.heap[(A k).block]?=some (.cells c t (0,0))
 text:∀ k,k < 15→∃ s:ByteArray,W.cell? (A k)=some (.string s)∧s.data.toList=(errNames.getD k ("",[])).2
 typ:W.cell? ⟨3,0,none⟩=some (.iface 142 (.agg #[.pointer (some ⟨29,27,none⟩)]))
theorem Errs.below {W W':World}{A:Nat→Addr}{B:Nat}(h:Errs W A)(hb:Below B W W')(hB:W.heap.size≤B):Errs W' A:=by
 refine ⟨fun k hk=>?_,h.inj,fun k hk=>?_,fun k hk=>?_,?_⟩
 · have:=h.cell k hk
   exact (hb.cell (p:=⟨gOf k,0,none⟩) (Nat.lt_of_lt_of_le (lt_of_cell this) hB)).trans this
 · obtain ⟨c,t,e⟩:=h.row k hk
   exact ⟨c,t,(hb.block _ (Nat.lt_of_lt_of_le (Array.getElem?_eq_some_iff.1 e).1 hB)).trans e⟩
 · obtain ⟨s,e,e2⟩:=h.text k hk
   exact ⟨s,(hb.cell (Nat.lt_of_lt_of_le (lt_of_cell e) hB)).trans e,e2⟩
 · exact (hb.cell (p:=⟨3,0,none⟩) (Nat.lt_of_lt_of_le (lt_of_cell h.typ) hB)).trans h.typ
theorem code_nil (w:World):Calls Tryz.prog 168 #[.nilIface] w fun e w'=>e = .returned (.tuple #[.int .i64 0,.int .i64 (-1)])∧w=w':=by
 go_enter Tryz.func168,Tryz.ntmps168
 go_wp2
 go_ret2
 exact ⟨rfl,rfl⟩
def sErr (A:Nat→Addr)(k:Nat):Value := .iface 416 (.pointer (some (A k)))
def errN (A:Nat→Addr)(c:Nat):Value:=if c=0 then .nilIface else sErr A (c - 1)
end
end Go.Proofs.YtodldddakjmonaaGreatDoor
