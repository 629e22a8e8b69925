import Derived.Test.YtodldddakjmonaaGreatDoorK7
import Derived.Laws.EntriesVeiled
namespace Go.Proofs.YtodldddakjmonaaGreatDoor
section
open Go Go.RowKit Go.Deep Go.Maps
structure Fv where
 f:Nat
 c:Option Nat
abbrev fn0 (f:Nat):Value := .func (.func f) #[] #[]
abbrev fn1 (f b:Nat):Value := .func (.func f) #[] #[.pointer (some ⟨b,0,none⟩)]
def fvV (v:Fv):Value:=match v.c with | none=>fn0 v.f | some b=>fn1 v.f b
def fvD (v:Fv):DataW Unit := .agg [.lit (.int .i64 (v.f:Int)),match v.c with | none => .nil | some b => .lit (.int .i64 (b:Int))]
def fnElem:Value→Option (DataW Unit×List MemPlace)
 | .nilFunc=>some (.nil,[])
 | .func (.func f) x y=>match x.toList,y.toList with
  | [],[]=>some (fvD ⟨f,none⟩,[])
  | [],[.pointer (some ⟨b,0,none⟩)]=>some (fvD ⟨f,some b⟩,[])
  | _,_=>none
 | _=>none
theorem fnElem_mk (v:Fv):fnElem (fvV v)=some (fvD v,[]):=by
 obtain ⟨f,c⟩:=v
 cases c<;>rfl
theorem fnElem_inv {v:Value}{x:Fv}{ps:List MemPlace}(h:fnElem v=some (fvD x,ps)):v=fvV x:=by
 obtain ⟨f,c⟩:=x;unfold fnElem at h
 split at h
 · cases c<;>cases h
 · rename_i g y z
   split at h
   · rename_i e1 e2
     cases c with
     | none =>
      simp only [fvD,Option.some.injEq,Prod.mk.injEq,DataW.agg.injEq,List.cons.injEq,DataW.lit.injEq,Lit.int.injEq,true_and,and_true] at h;obtain rfl:g=f:=Int.ofNat.inj h.1;show Value.func (.func g) y z = .func (.func g) #[] #[];have e3:y=#[]:=Array.toList_inj.1 e1;have e4:z=#[]:=Array.toList_inj.1 e2;rw [e3,e4]
     | some b=>simp [fvD] at h
   · rename_i b e1 e2
     cases c with
     | none=>simp [fvD] at h
     | some b' =>
      simp only [fvD,Option.some.injEq,Prod.mk.injEq,DataW.agg.injEq,List.cons.injEq,DataW.lit.injEq,Lit.int.injEq,true_and,and_true] at h;obtain rfl:g=f:=Int.ofNat.inj h.1.1;obtain rfl:b=b':=Int.ofNat.inj h.1.2;show Value.func (.func g) y z = .func (.func g) #[] #[.pointer (some ⟨b,0,none⟩)];have e3:y=#[]:=Array.toList_inj.1 e1;have e4:z=#[.pointer (some ⟨b,0,none⟩)]:=Array.toList_inj.1 e2;rw [e3,e4]
   · cases h
 · cases h
def skey (s:List UInt8):Lit := .string s
theorem skey_key (s:List UInt8):WideAt.IsKeyLit (skey s):=trivial
theorem undWork:Tryz.prog.underlying 428=some (.map 9 411):=by kernel_rfl
theorem infoWork:(Tryz.prog.info? 411).map (fun i=>(i.zero,i.size))=some (some .nilFunc,1):=by kernel_rfl
theorem zeroWork (w:World):(zeroValue 411).run Tryz.prog w = .ok .nilFunc w:=(zero_of_info infoWork).1 w
def FnMap (w:World)(b:Nat)(f:List UInt8→Option Fv):Prop:=∃ n D,n≤100∧w.ownsMap Tryz.prog 9 fnElem b n D∧Reads skey fvD D f
theorem FnMap.only {w w':World}{b:Nat}{f:List UInt8→Option Fv}{L:List Nat}(h:FnMap w b f)(ho:Only L w w')(hb:b∉L):FnMap w' b f:=by
 obtain ⟨n,D,h0,h1,h2⟩:=h;exact ⟨n,D,h0,own_only h1 ho hb,h2⟩
def updF (f:List UInt8→Option Fv)(s:ByteArray)(v:Fv):List UInt8→Option Fv:=fun k=>if k=s.data.toList then some v else f k
theorem FnMap.new (w:World):FnMap (w.alloc (.map #[] 0)) w.heap.size (fun _=>none):=⟨0,.map [],by omega,World.ownsMap_made _ _ _ _,Reads.empty⟩
def FnMapN (w:World)(b:Nat)(f:List UInt8→Option Fv)(n:Nat):Prop:=n≤100∧∃ D,w.ownsMap Tryz.prog 9 fnElem b n D∧Reads skey fvD D f
theorem FnMapN.new (w:World):FnMapN (w.alloc (.map #[] 0)) w.heap.size (fun _=>none) 0:=⟨by omega,.map [],World.ownsMap_made _ _ _ _,Reads.empty⟩
theorem FnMapN.put {w:World}{b:Nat}{f:List UInt8→Option Fv}{n:Nat}(h:FnMapN w b f n)(hn:n < 100)(s:ByteArray)(hs:s.size≤1000)(v:Fv):
  ∃ w',(Instr.mapUpdate 428 (.map (some b)) (.string s) (fvV v)).run Tryz.prog w = .ok () w'∧FnMapN w' b (updF f s v) (n+1)∧Only [b] w w':=by
 obtain ⟨h0,D,h1,h2⟩:=h;obtain ⟨w',hr,hown,ht⟩:=h1.store lawS undWork (by unfold maxLen;omega) (WideMaps.keyOf_string_mk Tryz.underlying9 (s:=s) (by unfold maxLen;omega)) (fnElem_mk v);refine ⟨w',hr,⟨by omega,_,hown,h2.put h1.isMap skey_key (fun j e=>by cases e;rfl) (by simp [updF]) (fun j hj=>if_neg hj)⟩,only_turned ht⟩
theorem FnMapN.only {w w':World}{b n:Nat}{f:List UInt8→Option Fv}{L:List Nat}(h:FnMapN w b f n)(ho:Only L w w')(hb:b∉L):FnMapN w' b f n:=by
 obtain ⟨h0,D,h1,h2⟩:=h;exact ⟨h0,D,own_only h1 ho hb,h2⟩
theorem FnMapN.map {w:World}{b n:Nat}{f:List UInt8→Option Fv}(h:FnMapN w b f n):FnMap w b f:=by
 obtain ⟨h0,D,h1,h2⟩:=h;exact ⟨n,D,h0,h1,h2⟩
theorem FnMap.look {w:World}{b:Nat}{f:List UInt8→Option Fv}(h:FnMap w b f)(s:ByteArray)(hs:s.size≤maxLen):
  (Instr.lookup 428 (.map (some b)) (.string s) true).run Tryz.prog w = .ok (.tuple #[(match f s.data.toList with | some v=>fvV v | none => .nilFunc),.bool (f s.data.toList).isSome]) w:=by
 obtain ⟨n,D,h0,h1,h2⟩:=h;obtain ⟨v,ps,hr,hv⟩:=h1.look_ok lawS undWork (zeroWork _) (zd := .nil) (zp:=[]) rfl (WideMaps.keyOf_string_mk Tryz.underlying9 (s:=s) hs);have e1:=h2.isSome s.data.toList;have e2:=h2.look s.data.toList .nil
 rw [show (Lit.string s.data.toList)=skey s.data.toList from rfl] at hr hv
 rw [e1] at hr;rw [e2] at hv
 cases hf:f s.data.toList with
 | none =>
  rw [hf] at hv hr
  have:v = .nilFunc:=by
   unfold fnElem at hv
   split at hv
   · rfl
   · split at hv
     · cases hv
     · cases hv
     · cases hv
   · cases hv
  subst this;exact hr
 | some x =>
  rw [hf] at hv hr;obtain rfl:=fnElem_inv hv;exact hr
end
end Go.Proofs.YtodldddakjmonaaGreatDoor
