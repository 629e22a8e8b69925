import Derived.Test.YtmnidbnaneagjaaGreatDoorK13
import Derived.Laws.EntriesVeiled
set_option maxRecDepth 100000
set_option maxHeartbeats 8000000
namespace Go.Proofs.YtmnidbnaneagjaaGreatDoor
section
open Go Go.RowKit Go.Deep Go.Maps
structure Fv where
 f:Nat
 c:Option Nat
abbrev fn0 (f:Nat):Value := .func (.func f) #[] #[]
abbrev fn1 (f b:Nat):Value := .func (.func f) #[] #[.pointer (some ⟨b,0,none⟩)]
def fvV (v:Fv):Value:=match v.c with | none=>fn0 v.f | some b=>fn1 v.f b
def fvD (v:Fv):DataW Unit := .agg [.lit (.int .i64 (v.f:Int)),match v.c with | none => .nil | some b => .lit (.int .i64 (b:Int))]
def fnElem:Value→Option (DataW Unit×List MemPlace)
 | .nilFunc=>some (.nil,[])
 | .func (.func f) x y=>match x.toList,y.toList with
  | [],[]=>some (fvD ⟨f,none⟩,[])
  | [],[.pointer (some ⟨b,0,none⟩)]=>some (fvD ⟨f,some b⟩,[])
  | _,_=>none
 | _=>none
theorem fnElem_mk (v:Fv):fnElem (fvV v)=some (fvD v,[]):=by
 obtain ⟨f,c⟩:=v
 cases c<;>rfl
theorem fnElem_inv {v:Value}{x:Fv}{ps:List MemPlace}(h:fnElem v=some (fvD x,ps)):v=fvV x:=by
 obtain ⟨f,c⟩:=x;unfold fnElem at h
 split at h
 · cases c<;>cases h
 · rename_i g y z
   split at h
   · rename_i e1 e2
     cases c with
     | none =>
      simp only [fvD,Option.some.injEq,Prod.mk.injEq,DataW.agg.injEq,List.cons.injEq,DataW.lit.injEq,Lit.int.injEq,true_and,and_true] at h;obtain rfl:g=f:=Int.ofNat.inj h.1;show Value.func (.func g) y z = .func (.func g) #[] #[];have e3:y=#[]:=Array.toList_inj.1 e1;have e4:z=#[]:=Array.toList_inj.1 e2;rw [e3,e4]
     | some b=>simp [fvD] at h
   · rename_i b e1 e2
     cases c with
     | none=>simp [fvD] at h
     | some b' =>
      simp only [fvD,Option.some.injEq,Prod.mk.injEq,DataW.agg.injEq,List.cons.injEq,DataW.lit.injEq,Lit.int.injEq,true_and,and_true] at h;obtain rfl:g=f:=Int.ofNat.inj h.1.1;obtain rfl:b=b':=Int.ofNat.inj h.1.2;show Value.func (.func g) y z = .func (.func g) #[] #[.pointer (some ⟨b,0,none⟩)];have e3:y=#[]:=Array.toList_inj.1 e1;have e4:z=#[.pointer (some ⟨b,0,none⟩)]:=Array.toList_inj.1 e2;rw [e3,e4]
   · cases h
 · cases h
def skey (s:List UInt8):Lit := .string s
theorem skey_key (s:List UInt8):WideAt.IsKeyLit (skey s):=trivial
theorem undWork:Tryz.prog.underlying 249=some (.map 9 174):=by kernel_rfl
theorem infoWork:(Tryz.prog.info? 174).map (fun i=>(i.zero,i.size))=some (some .nilFunc,1):=by kernel_rfl
theorem zeroWork (w:World):(zeroValue 174).run Tryz.prog w = .ok .nilFunc w:=(zero_of_info infoWork).1 w
def FnMap (w:World)(b:Nat)(f:List UInt8→Option Fv):Prop:=∃ n D,n≤100∧w.ownsMap Tryz.prog 9 fnElem b n D∧Reads skey fvD D f
theorem FnMap.only {w w':World}{b:Nat}{f:List UInt8→Option Fv}{L:List Nat}(h:FnMap w b f)(ho:Only L w w')(hb:b∉L):FnMap w' b f:=by
 obtain ⟨n,D,h0,h1,h2⟩:=h;exact ⟨n,D,h0,own_only h1 ho hb,h2⟩
def updF (f:List UInt8→Option Fv)(s:ByteArray)(v:Fv):List UInt8→Option Fv:=fun k=>if k=s.data.toList then some v else f k
theorem FnMap.new (w:World):FnMap (w.alloc (.map #[] 0)) w.heap.size (fun _=>none):=⟨0,.map [],by omega,World.ownsMap_made _ _ _ _,Reads.empty⟩
def FnMapN (w:World)(b:Nat)(f:List UInt8→Option Fv)(n:Nat):Prop:=n≤100∧∃ D,w.ownsMap Tryz.prog 9 fnElem b n D∧Reads skey fvD D f
theorem FnMapN.new (w:World):FnMapN (w.alloc (.map #[] 0)) w.heap.size (fun _=>none) 0:=⟨by omega,.map [],World.ownsMap_made _ _ _ _,Reads.empty⟩
theorem FnMapN.put {w:World}{b:Nat}{f:List UInt8→Option Fv}{n:Nat}(h:FnMapN w b f n)(hn:n < 100)(s:ByteArray)(hs:s.size≤1000)(v:Fv):
  ∃ w',(Instr.mapUpdate 249 (.map (some b)) (.string s) (fvV v)).run Tryz.prog w = .ok () w'∧FnMapN w' b (updF f s v) (n+1)∧Only [b] w w':=by
 obtain ⟨h0,D,h1,h2⟩:=h;obtain ⟨w',hr,hown,ht⟩:=h1.store lawS undWork (by unfold maxLen;omega) (WideMaps.keyOf_string_mk Tryz.underlying9 (s:=s) (by unfold maxLen;omega)) (fnElem_mk v);refine ⟨w',hr,⟨by omega,_,hown,h2.put h1.isMap skey_key (fun j e=>by cases e;rfl) (by simp [updF]) (fun j hj=>if_neg hj)⟩,only_turned ht⟩
theorem FnMapN.only {w w':World}{b n:Nat}{f:List UInt8→Option Fv}{L:List Nat}(h:FnMapN w b f n)(ho:Only L w w')(hb:b∉L):FnMapN w' b f n:=by
 obtain ⟨h0,D,h1,h2⟩:=h;exact ⟨h0,D,own_only h1 ho hb,h2⟩
theorem FnMapN.map {w:World}{b n:Nat}{f:List UInt8→Option Fv}(h:FnMapN w b f n):FnMap w b f:=by
 obtain ⟨h0,D,h1,h2⟩:=h;exact ⟨n,D,h0,h1,h2⟩
theorem FnMap.look {w:World}{b:Nat}{f:List UInt8→Option Fv}(h:FnMap w b f)(s:ByteArray)(hs:s.size≤maxLen):
  (Instr.lookup 249 (.map (some b)) (.string s) true).run Tryz.prog w = .ok (.tuple #[(match f s.data.toList with | some v=>fvV v | none => .nilFunc),.bool (f s.data.toList).isSome]) w:=by
 obtain ⟨n,D,h0,h1,h2⟩:=h;obtain ⟨v,ps,hr,hv⟩:=h1.look_ok lawS undWork (zeroWork _) (zd := .nil) (zp:=[]) rfl (WideMaps.keyOf_string_mk Tryz.underlying9 (s:=s) hs);have e1:=h2.isSome s.data.toList;have e2:=h2.look s.data.toList .nil
 rw [show (Lit.string s.data.toList)=skey s.data.toList from rfl] at hr hv
 rw [e1] at hr;rw [e2] at hv
 cases hf:f s.data.toList with
 | none =>
  rw [hf] at hv hr
  have:v = .nilFunc:=by
   unfold fnElem at hv
   split at hv
   · rfl
   · split at hv
     · cases hv
     · cases hv
     · cases hv
   · cases hv
  subst this;exact hr
 | some x =>
  rw [hf] at hv hr;obtain rfl:=fnElem_inv hv;exact hr
def BoxF (w:World)(x:Nat)(t:TypeId)(v:Value):Prop:=w.heap[x]?=some (.cells #[v] t (0,0))
theorem BoxF.only {w w':World}{x:Nat}{t:TypeId}{v:Value}{L:List Nat}(h:BoxF w x t v)(ho:Only L w w')(hx:x∉L):BoxF w' x t v:=(ho.block x (Array.getElem?_eq_some_iff.1 h).1 hx).trans h
theorem BoxF.new (w:World)(t:TypeId)(v:Value):BoxF (w.alloc (.cells #[v] t)) w.heap.size t v:=(show (w.heap.push _)[w.heap.size]?=_ by simp)
theorem BoxF.cell {w:World}{x:Nat}{t:TypeId}{v:Value}(h:BoxF w x t v):w.cell? ⟨x,0,none⟩=some v:=by
 simp [World.cell?,show w.heap[x]?=_ from h]
theorem FnMapN.put0 {w:World}{b:Nat}{f:List UInt8→Option Fv}{n:Nat}(h:FnMapN w b f n)(hn:n < 100)(s:ByteArray)(hs:s.size≤1000)(g:Nat):
 ∃ w',(Instr.mapUpdate 249 (.map (some b)) (.string s) (fn0 g)).run Tryz.prog w = .ok () w'∧FnMapN w' b (updF f s ⟨g,none⟩) (n+1)∧Only [b] w w':=h.put hn s hs ⟨g,none⟩
theorem FnMapN.put1 {w:World}{b:Nat}{f:List UInt8→Option Fv}{n:Nat}(h:FnMapN w b f n)(hn:n < 100)(s:ByteArray)(hs:s.size≤1000)(g x:Nat):
 ∃ w',(Instr.mapUpdate 249 (.map (some b)) (.string s) (fn1 g x)).run Tryz.prog w = .ok () w'∧FnMapN w' b (updF f s ⟨g,some x⟩) (n+1)∧Only [b] w w':=h.put hn s hs ⟨g,some x⟩
theorem FnMapN.lt {w:World}{b n:Nat}{f:List UInt8→Option Fv}(h:FnMapN w b f n):b < w.heap.size:=by
 obtain ⟨h0,D,h1,h2⟩:=h;exact h1.lt
theorem only_step {w a b:World}{m:Nat}(h:Only [] w a)(hm:w.heap.size≤m)(ho:Only [m] a b):Only [] w b:=h.trans ho (fun k hk=>by rw [List.mem_singleton.1 hk];exact Or.inr hm)
theorem needCur_any (w:World)(v:Value)(fn:Fn)(x y:Array Value)(hv:v = .func fn x y)(z:Nat)(hz:w.heap.size=z):Calls Tryz.prog 172 #[v] w fun e w'=>e = .returned (fn1 263 z)∧w'=w.alloc (.cells #[v] 174):=by
 have hmf:∀ (fn:Fn) (first cap:Array Value) (w:World),(Instr.makeFunc fn first cap).run Tryz.prog w = .ok (.func fn first cap) w:=fun _ _ _ _=>rfl
 subst hv hz
 go_enter Tryz.func172,Tryz.ntmps172
 go_wp2
 go_ret
 exact ⟨rfl,rfl⟩
theorem needSaved_any (w:World)(v:Value)(fn:Fn)(x y:Array Value)(hv:v = .func fn x y)(z:Nat)(hz:w.heap.size=z):Calls Tryz.prog 174 #[v] w fun e w'=>e = .returned (fn1 264 z)∧w'=w.alloc (.cells #[v] 174):=by
 have hmf:∀ (fn:Fn) (first cap:Array Value) (w:World),(Instr.makeFunc fn first cap).run Tryz.prog w = .ok (.func fn first cap) w:=fun _ _ _ _=>rfl
 subst hv hz
 go_enter Tryz.func174,Tryz.ntmps174
 go_wp2
 go_ret
 exact ⟨rfl,rfl⟩
theorem inTurn_any (w:World)(v:Value)(fn:Fn)(x y:Array Value)(hv:v = .func fn x y)(z:Nat)(hz:w.heap.size=z):Calls Tryz.prog 202 #[v] w fun e w'=>e = .returned (fn1 281 z)∧w'=w.alloc (.cells #[v] 174):=by
 have hmf:∀ (fn:Fn) (first cap:Array Value) (w:World),(Instr.makeFunc fn first cap).run Tryz.prog w = .ok (.func fn first cap) w:=fun _ _ _ _=>rfl
 subst hv hz
 go_enter Tryz.func202,Tryz.ntmps202
 go_wp2
 go_ret
 exact ⟨rfl,rfl⟩
theorem guarded_any (w:World)(v:Value)(fn:Fn)(x y:Array Value)(hv:v = .func fn x y)(z:Nat)(hz:w.heap.size=z):Calls Tryz.prog 201 #[v] w fun e w'=>e = .returned (fn1 279 z)∧w'=w.alloc (.cells #[v] 174):=by
 have hmf:∀ (fn:Fn) (first cap:Array Value) (w:World),(Instr.makeFunc fn first cap).run Tryz.prog w = .ok (.func fn first cap) w:=fun _ _ _ _=>rfl
 subst hv hz
 go_enter Tryz.func201,Tryz.ntmps201
 go_wp2
 go_ret
 exact ⟨rfl,rfl⟩
theorem asLock_any (w:World)(g:Nat)(z:Nat)(hz:w.heap.size=z):Calls Tryz.prog 206 #[fn0 g] w fun e w'=>e = .returned (fn1 295 z)∧w'=w.alloc (.cells #[fn0 g] 351):=by
 have hmf:∀ (fn:Fn) (first cap:Array Value) (w:World),(Instr.makeFunc fn first cap).run Tryz.prog w = .ok (.func fn first cap) w:=fun _ _ _ _=>rfl
 subst hz
 go_enter Tryz.func206,Tryz.ntmps206
 go_wp2
 go_ret
 exact ⟨rfl,rfl⟩
theorem onFile_any (w:World)(n:Int)(g:Nat)(z:Nat)(hz:w.heap.size=z):Calls Tryz.prog 215 #[.int .i64 n,fn0 g] w fun e w'=>e = .returned (.func (.func 305) #[] #[.pointer (some ⟨z,0,none⟩),.pointer (some ⟨z+1,0,none⟩)])∧w'=(w.alloc (.cells #[.int .i64 n] 3)).alloc (.cells #[fn0 g] 174):=by
 have hmf:∀ (fn:Fn) (first cap:Array Value) (w:World),(Instr.makeFunc fn first cap).run Tryz.prog w = .ok (.func fn first cap) w:=fun _ _ _ _=>rfl
 subst hz
 go_enter Tryz.func215,Tryz.ntmps215
 go_wp2
 go_ret
 exact ⟨by simp,rfl⟩
def WalkingR (w w':World)(e:Ending):Prop:=∃ b x0 x1 x2 x3 x4,e = .returned (.map (some b))∧FnMap w' b (updF (updF (updF (updF (updF (updF (fun _=>none) ⟨#[114,111,111,116]⟩ ⟨170,none⟩) ⟨#[115,97,118,101]⟩ ⟨263,some x0⟩) ⟨#[114,101,115,116,111,114,101]⟩ ⟨264,some x1⟩) ⟨#[108,111,111,107,117,112]⟩ ⟨263,some x2⟩) ⟨#[117,112]⟩ ⟨263,some x3⟩) ⟨#[109,97,107,101]⟩ ⟨263,some x4⟩)∧w.heap.size≤b∧Only [] w w'∧BoxF w' x0 174 (fn0 173)∧BoxF w' x1 174 (fn0 175)∧BoxF w' x2 174 (fn0 176)∧BoxF w' x3 174 (fn0 178)∧BoxF w' x4 174 (fn0 180)
theorem walking_any (w:World):Calls Tryz.prog 114 #[] w fun e w'=>WalkingR w w' e:=by
 have hmm:=@run_makeMap Tryz.prog;have m0:FnMapN (w.alloc (.map #[] 0)) w.heap.size (fun _=>none) 0:=FnMapN.new w;have p0:Only [] w (w.alloc (.map #[] 0)):=(Only.refl [] w).alloc _;obtain ⟨W1,r1,m1,o1⟩:=m0.put0 (by omega) ⟨#[114,111,111,116]⟩ (by decide) 170;have p1:=only_step p0 (Nat.le_refl _) o1;obtain ⟨W2,hW2⟩:∃ W,W=W1.alloc (.cells #[fn0 173] 174):=⟨_,rfl⟩;have q2:Only [] W1 W2:=hW2 ▸ (Only.refl [] _).alloc _;have c2:Calls Tryz.prog 172 #[fn0 173] W1 fun e w'=>e = .returned (fn1 263 W1.heap.size)∧w'=W2:=hW2 ▸ needCur_any W1 _ _ _ _ rfl _ rfl;have e2:BoxF W2 W1.heap.size 174 (fn0 173):=hW2 ▸ BoxF.new W1 _ _
 have e2_ne:W1.heap.size≠w.heap.size:=by have:=m1.lt;omega
 have m2:=m1.only q2 (by simp);have p2:=p1.trans q2 (fun k hk=>by cases hk);obtain ⟨W3,r3,m3,o3⟩:=m2.put1 (by omega) ⟨#[115,97,118,101]⟩ (by decide) 263 W1.heap.size;have p3:=only_step p2 (Nat.le_refl _) o3;have e2:=e2.only o3 (fun k=>e2_ne (List.mem_singleton.1 k));obtain ⟨W4,hW4⟩:∃ W,W=W3.alloc (.cells #[fn0 175] 174):=⟨_,rfl⟩;have q4:Only [] W3 W4:=hW4 ▸ (Only.refl [] _).alloc _;have c4:Calls Tryz.prog 174 #[fn0 175] W3 fun e w'=>e = .returned (fn1 264 W3.heap.size)∧w'=W4:=hW4 ▸ needSaved_any W3 _ _ _ _ rfl _ rfl;have e4:BoxF W4 W3.heap.size 174 (fn0 175):=hW4 ▸ BoxF.new W3 _ _
 have e4_ne:W3.heap.size≠w.heap.size:=by have:=m3.lt;omega
 have m4:=m3.only q4 (by simp);have p4:=p3.trans q4 (fun k hk=>by cases hk);have e2:=e2.only q4 (by simp);obtain ⟨W5,r5,m5,o5⟩:=m4.put1 (by omega) ⟨#[114,101,115,116,111,114,101]⟩ (by decide) 264 W3.heap.size;have p5:=only_step p4 (Nat.le_refl _) o5;have e2:=e2.only o5 (fun k=>e2_ne (List.mem_singleton.1 k));have e4:=e4.only o5 (fun k=>e4_ne (List.mem_singleton.1 k));obtain ⟨W6,hW6⟩:∃ W,W=W5.alloc (.cells #[fn0 176] 174):=⟨_,rfl⟩;have q6:Only [] W5 W6:=hW6 ▸ (Only.refl [] _).alloc _;have c6:Calls Tryz.prog 172 #[fn0 176] W5 fun e w'=>e = .returned (fn1 263 W5.heap.size)∧w'=W6:=hW6 ▸ needCur_any W5 _ _ _ _ rfl _ rfl;have e6:BoxF W6 W5.heap.size 174 (fn0 176):=hW6 ▸ BoxF.new W5 _ _
 have e6_ne:W5.heap.size≠w.heap.size:=by have:=m5.lt;omega
 have m6:=m5.only q6 (by simp);have p6:=p5.trans q6 (fun k hk=>by cases hk);have e2:=e2.only q6 (by simp);have e4:=e4.only q6 (by simp);obtain ⟨W7,r7,m7,o7⟩:=m6.put1 (by omega) ⟨#[108,111,111,107,117,112]⟩ (by decide) 263 W5.heap.size;have p7:=only_step p6 (Nat.le_refl _) o7;have e2:=e2.only o7 (fun k=>e2_ne (List.mem_singleton.1 k));have e4:=e4.only o7 (fun k=>e4_ne (List.mem_singleton.1 k));have e6:=e6.only o7 (fun k=>e6_ne (List.mem_singleton.1 k));obtain ⟨W8,hW8⟩:∃ W,W=W7.alloc (.cells #[fn0 178] 174):=⟨_,rfl⟩;have q8:Only [] W7 W8:=hW8 ▸ (Only.refl [] _).alloc _;have c8:Calls Tryz.prog 172 #[fn0 178] W7 fun e w'=>e = .returned (fn1 263 W7.heap.size)∧w'=W8:=hW8 ▸ needCur_any W7 _ _ _ _ rfl _ rfl;have e8:BoxF W8 W7.heap.size 174 (fn0 178):=hW8 ▸ BoxF.new W7 _ _
 have e8_ne:W7.heap.size≠w.heap.size:=by have:=m7.lt;omega
 have m8:=m7.only q8 (by simp);have p8:=p7.trans q8 (fun k hk=>by cases hk);have e2:=e2.only q8 (by simp);have e4:=e4.only q8 (by simp);have e6:=e6.only q8 (by simp);obtain ⟨W9,r9,m9,o9⟩:=m8.put1 (by omega) ⟨#[117,112]⟩ (by decide) 263 W7.heap.size;have p9:=only_step p8 (Nat.le_refl _) o9;have e2:=e2.only o9 (fun k=>e2_ne (List.mem_singleton.1 k));have e4:=e4.only o9 (fun k=>e4_ne (List.mem_singleton.1 k));have e6:=e6.only o9 (fun k=>e6_ne (List.mem_singleton.1 k));have e8:=e8.only o9 (fun k=>e8_ne (List.mem_singleton.1 k));obtain ⟨W10,hW10⟩:∃ W,W=W9.alloc (.cells #[fn0 180] 174):=⟨_,rfl⟩;have q10:Only [] W9 W10:=hW10 ▸ (Only.refl [] _).alloc _;have c10:Calls Tryz.prog 172 #[fn0 180] W9 fun e w'=>e = .returned (fn1 263 W9.heap.size)∧w'=W10:=hW10 ▸ needCur_any W9 _ _ _ _ rfl _ rfl;have e10:BoxF W10 W9.heap.size 174 (fn0 180):=hW10 ▸ BoxF.new W9 _ _
 have e10_ne:W9.heap.size≠w.heap.size:=by have:=m9.lt;omega
 have m10:=m9.only q10 (by simp);have p10:=p9.trans q10 (fun k hk=>by cases hk);have e2:=e2.only q10 (by simp);have e4:=e4.only q10 (by simp);have e6:=e6.only q10 (by simp);have e8:=e8.only q10 (by simp);obtain ⟨W11,r11,m11,o11⟩:=m10.put1 (by omega) ⟨#[109,97,107,101]⟩ (by decide) 263 W9.heap.size;have p11:=only_step p10 (Nat.le_refl _) o11;have e2:=e2.only o11 (fun k=>e2_ne (List.mem_singleton.1 k));have e4:=e4.only o11 (fun k=>e4_ne (List.mem_singleton.1 k));have e6:=e6.only o11 (fun k=>e6_ne (List.mem_singleton.1 k));have e8:=e8.only o11 (fun k=>e8_ne (List.mem_singleton.1 k));have e10:=e10.only o11 (fun k=>e10_ne (List.mem_singleton.1 k));have HR:Hid (WalkingR w W11 (.returned (.map (some w.heap.size)))):=⟨_,_,_,_,_,_,rfl,m11.map,Nat.le_refl _,p11,e2,e4,e6,e8,e10⟩;clear m0 m1 m2 m3 m4 m5 m6 m7 m8 m9 m10 m11 p0 p1 p2 p3 p4 p5 p6 p7 p8 p9 p10 p11 e2 e4 e6 e8 e10 e2_ne e4_ne e6_ne e8_ne e10_ne q2 q4 q6 q8 q10 o1 o3 o5 o7 o9 o11 hW2 hW4 hW6 hW8 hW10
 go_enter Tryz.func114,Tryz.ntmps114
 go_wp2_with (first
  | (go_at_call 172;(with_reducible refine c2.mono ?_);rintro e wz ⟨rfl,rfl⟩)
  | (go_at_call 174;(with_reducible refine c4.mono ?_);rintro e wz ⟨rfl,rfl⟩)
  | (go_at_call 172;(with_reducible refine c6.mono ?_);rintro e wz ⟨rfl,rfl⟩)
  | (go_at_call 172;(with_reducible refine c8.mono ?_);rintro e wz ⟨rfl,rfl⟩)
  | (go_at_call 172;(with_reducible refine c10.mono ?_);rintro e wz ⟨rfl,rfl⟩))
 go_ret
 exact HR.out
def NamingR (w w':World)(e:Ending):Prop:=∃ b x0 x1 x2 x3 x4,e = .returned (.map (some b))∧FnMap w' b (updF (updF (updF (fun _=>none) ⟨#[108,105,110,107]⟩ ⟨263,some x1⟩) ⟨#[114,101,109,111,118,101]⟩ ⟨263,some x2⟩) ⟨#[114,101,110,97,109,101]⟩ ⟨263,some x4⟩)∧w.heap.size≤b∧Only [] w w'∧BoxF w' x0 174 (fn0 182)∧BoxF w' x1 174 (fn1 264 x0)∧BoxF w' x2 174 (fn0 184)∧BoxF w' x3 174 (fn0 186)∧BoxF w' x4 174 (fn1 264 x3)
theorem naming_any (w:World):Calls Tryz.prog 115 #[] w fun e w'=>NamingR w w' e:=by
 have hmm:=@run_makeMap Tryz.prog;have m0:FnMapN (w.alloc (.map #[] 0)) w.heap.size (fun _=>none) 0:=FnMapN.new w;have p0:Only [] w (w.alloc (.map #[] 0)):=(Only.refl [] w).alloc _;obtain ⟨W1,hW1⟩:∃ W,W=(w.alloc (.map #[] 0)).alloc (.cells #[fn0 182] 174):=⟨_,rfl⟩;have q1:Only [] (w.alloc (.map #[] 0)) W1:=hW1 ▸ (Only.refl [] _).alloc _;have c1:Calls Tryz.prog 174 #[fn0 182] (w.alloc (.map #[] 0)) fun e w'=>e = .returned (fn1 264 (w.heap.size+1))∧w'=W1:=hW1 ▸ needSaved_any (w.alloc (.map #[] 0)) _ _ _ _ rfl _ (World.size_alloc _ _);have e1:BoxF W1 (w.heap.size+1) 174 (fn0 182):=(by rw [hW1,← World.size_alloc w (.map #[] 0)];exact BoxF.new _ _ _)
 have e1_ne:(w.heap.size+1)≠w.heap.size:=by have:=m0.lt;omega
 have m1:=m0.only q1 (by simp);have p1:=p0.trans q1 (fun k hk=>by cases hk);obtain ⟨W2,hW2⟩:∃ W,W=W1.alloc (.cells #[fn1 264 (w.heap.size+1)] 174):=⟨_,rfl⟩;have q2:Only [] W1 W2:=hW2 ▸ (Only.refl [] _).alloc _;have c2:Calls Tryz.prog 172 #[fn1 264 (w.heap.size+1)] W1 fun e w'=>e = .returned (fn1 263 W1.heap.size)∧w'=W2:=hW2 ▸ needCur_any W1 _ _ _ _ rfl _ rfl;have e2:BoxF W2 W1.heap.size 174 (fn1 264 (w.heap.size+1)):=hW2 ▸ BoxF.new W1 _ _
 have e2_ne:W1.heap.size≠w.heap.size:=by have:=m1.lt;omega
 have m2:=m1.only q2 (by simp);have p2:=p1.trans q2 (fun k hk=>by cases hk);have e1:=e1.only q2 (by simp);obtain ⟨W3,r3,m3,o3⟩:=m2.put1 (by omega) ⟨#[108,105,110,107]⟩ (by decide) 263 W1.heap.size;have p3:=only_step p2 (Nat.le_refl _) o3;have e1:=e1.only o3 (fun k=>e1_ne (List.mem_singleton.1 k));have e2:=e2.only o3 (fun k=>e2_ne (List.mem_singleton.1 k));obtain ⟨W4,hW4⟩:∃ W,W=W3.alloc (.cells #[fn0 184] 174):=⟨_,rfl⟩;have q4:Only [] W3 W4:=hW4 ▸ (Only.refl [] _).alloc _;have c4:Calls Tryz.prog 172 #[fn0 184] W3 fun e w'=>e = .returned (fn1 263 W3.heap.size)∧w'=W4:=hW4 ▸ needCur_any W3 _ _ _ _ rfl _ rfl;have e4:BoxF W4 W3.heap.size 174 (fn0 184):=hW4 ▸ BoxF.new W3 _ _
 have e4_ne:W3.heap.size≠w.heap.size:=by have:=m3.lt;omega
 have m4:=m3.only q4 (by simp);have p4:=p3.trans q4 (fun k hk=>by cases hk);have e1:=e1.only q4 (by simp);have e2:=e2.only q4 (by simp);obtain ⟨W5,r5,m5,o5⟩:=m4.put1 (by omega) ⟨#[114,101,109,111,118,101]⟩ (by decide) 263 W3.heap.size;have p5:=only_step p4 (Nat.le_refl _) o5;have e1:=e1.only o5 (fun k=>e1_ne (List.mem_singleton.1 k));have e2:=e2.only o5 (fun k=>e2_ne (List.mem_singleton.1 k));have e4:=e4.only o5 (fun k=>e4_ne (List.mem_singleton.1 k));obtain ⟨W6,hW6⟩:∃ W,W=W5.alloc (.cells #[fn0 186] 174):=⟨_,rfl⟩;have q6:Only [] W5 W6:=hW6 ▸ (Only.refl [] _).alloc _;have c6:Calls Tryz.prog 174 #[fn0 186] W5 fun e w'=>e = .returned (fn1 264 W5.heap.size)∧w'=W6:=hW6 ▸ needSaved_any W5 _ _ _ _ rfl _ rfl;have e6:BoxF W6 W5.heap.size 174 (fn0 186):=hW6 ▸ BoxF.new W5 _ _
 have e6_ne:W5.heap.size≠w.heap.size:=by have:=m5.lt;omega
 have m6:=m5.only q6 (by simp);have p6:=p5.trans q6 (fun k hk=>by cases hk);have e1:=e1.only q6 (by simp);have e2:=e2.only q6 (by simp);have e4:=e4.only q6 (by simp);obtain ⟨W7,hW7⟩:∃ W,W=W6.alloc (.cells #[fn1 264 W5.heap.size] 174):=⟨_,rfl⟩;have q7:Only [] W6 W7:=hW7 ▸ (Only.refl [] _).alloc _;have c7:Calls Tryz.prog 172 #[fn1 264 W5.heap.size] W6 fun e w'=>e = .returned (fn1 263 W6.heap.size)∧w'=W7:=hW7 ▸ needCur_any W6 _ _ _ _ rfl _ rfl;have e7:BoxF W7 W6.heap.size 174 (fn1 264 W5.heap.size):=hW7 ▸ BoxF.new W6 _ _
 have e7_ne:W6.heap.size≠w.heap.size:=by have:=m6.lt;omega
 have m7:=m6.only q7 (by simp);have p7:=p6.trans q7 (fun k hk=>by cases hk);have e1:=e1.only q7 (by simp);have e2:=e2.only q7 (by simp);have e4:=e4.only q7 (by simp);have e6:=e6.only q7 (by simp);obtain ⟨W8,r8,m8,o8⟩:=m7.put1 (by omega) ⟨#[114,101,110,97,109,101]⟩ (by decide) 263 W6.heap.size;have p8:=only_step p7 (Nat.le_refl _) o8;have e1:=e1.only o8 (fun k=>e1_ne (List.mem_singleton.1 k));have e2:=e2.only o8 (fun k=>e2_ne (List.mem_singleton.1 k));have e4:=e4.only o8 (fun k=>e4_ne (List.mem_singleton.1 k));have e6:=e6.only o8 (fun k=>e6_ne (List.mem_singleton.1 k));have e7:=e7.only o8 (fun k=>e7_ne (List.mem_singleton.1 k));have HR:Hid (NamingR w W8 (.returned (.map (some w.heap.size)))):=⟨_,_,_,_,_,_,rfl,m8.map,Nat.le_refl _,p8,e1,e2,e4,e6,e7⟩;clear m0 m1 m2 m3 m4 m5 m6 m7 m8 p0 p1 p2 p3 p4 p5 p6 p7 p8 e1 e2 e4 e6 e7 e1_ne e2_ne e4_ne e6_ne e7_ne q1 q2 q4 q6 q7 o3 o5 o8 hW1 hW2 hW4 hW6 hW7
 go_enter Tryz.func115,Tryz.ntmps115
 go_wp2_with (first
  | (go_at_call 174;(with_reducible refine c1.mono ?_);rintro e wz ⟨rfl,rfl⟩)
  | (go_at_call 172;(with_reducible refine c2.mono ?_);rintro e wz ⟨rfl,rfl⟩)
  | (go_at_call 172;(with_reducible refine c4.mono ?_);rintro e wz ⟨rfl,rfl⟩)
  | (go_at_call 174;(with_reducible refine c6.mono ?_);rintro e wz ⟨rfl,rfl⟩)
  | (go_at_call 172;(with_reducible refine c7.mono ?_);rintro e wz ⟨rfl,rfl⟩))
 go_ret
 exact HR.out
def AskingR (w w':World)(e:Ending):Prop:=∃ b x0 x1 x2,e = .returned (.map (some b))∧FnMap w' b (updF (updF (updF (fun _=>none) ⟨#[108,105,115,116]⟩ ⟨263,some x0⟩) ⟨#[97,116,116,114]⟩ ⟨263,some x1⟩) ⟨#[104,97,110,100,108,101]⟩ ⟨263,some x2⟩)∧w.heap.size≤b∧Only [] w w'∧BoxF w' x0 174 (fn0 188)∧BoxF w' x1 174 (fn0 190)∧BoxF w' x2 174 (fn0 193)
theorem asking_any (w:World):Calls Tryz.prog 116 #[] w fun e w'=>AskingR w w' e:=by
 have hmm:=@run_makeMap Tryz.prog;have m0:FnMapN (w.alloc (.map #[] 0)) w.heap.size (fun _=>none) 0:=FnMapN.new w;have p0:Only [] w (w.alloc (.map #[] 0)):=(Only.refl [] w).alloc _;obtain ⟨W1,hW1⟩:∃ W,W=(w.alloc (.map #[] 0)).alloc (.cells #[fn0 188] 174):=⟨_,rfl⟩;have q1:Only [] (w.alloc (.map #[] 0)) W1:=hW1 ▸ (Only.refl [] _).alloc _;have c1:Calls Tryz.prog 172 #[fn0 188] (w.alloc (.map #[] 0)) fun e w'=>e = .returned (fn1 263 (w.heap.size+1))∧w'=W1:=hW1 ▸ needCur_any (w.alloc (.map #[] 0)) _ _ _ _ rfl _ (World.size_alloc _ _);have e1:BoxF W1 (w.heap.size+1) 174 (fn0 188):=(by rw [hW1,← World.size_alloc w (.map #[] 0)];exact BoxF.new _ _ _)
 have e1_ne:(w.heap.size+1)≠w.heap.size:=by have:=m0.lt;omega
 have m1:=m0.only q1 (by simp);have p1:=p0.trans q1 (fun k hk=>by cases hk);obtain ⟨W2,r2,m2,o2⟩:=m1.put1 (by omega) ⟨#[108,105,115,116]⟩ (by decide) 263 (w.heap.size+1);have p2:=only_step p1 (Nat.le_refl _) o2;have e1:=e1.only o2 (fun k=>e1_ne (List.mem_singleton.1 k));obtain ⟨W3,hW3⟩:∃ W,W=W2.alloc (.cells #[fn0 190] 174):=⟨_,rfl⟩;have q3:Only [] W2 W3:=hW3 ▸ (Only.refl [] _).alloc _;have c3:Calls Tryz.prog 172 #[fn0 190] W2 fun e w'=>e = .returned (fn1 263 W2.heap.size)∧w'=W3:=hW3 ▸ needCur_any W2 _ _ _ _ rfl _ rfl;have e3:BoxF W3 W2.heap.size 174 (fn0 190):=hW3 ▸ BoxF.new W2 _ _
 have e3_ne:W2.heap.size≠w.heap.size:=by have:=m2.lt;omega
 have m3:=m2.only q3 (by simp);have p3:=p2.trans q3 (fun k hk=>by cases hk);have e1:=e1.only q3 (by simp);obtain ⟨W4,r4,m4,o4⟩:=m3.put1 (by omega) ⟨#[97,116,116,114]⟩ (by decide) 263 W2.heap.size;have p4:=only_step p3 (Nat.le_refl _) o4;have e1:=e1.only o4 (fun k=>e1_ne (List.mem_singleton.1 k));have e3:=e3.only o4 (fun k=>e3_ne (List.mem_singleton.1 k));obtain ⟨W5,hW5⟩:∃ W,W=W4.alloc (.cells #[fn0 193] 174):=⟨_,rfl⟩;have q5:Only [] W4 W5:=hW5 ▸ (Only.refl [] _).alloc _;have c5:Calls Tryz.prog 172 #[fn0 193] W4 fun e w'=>e = .returned (fn1 263 W4.heap.size)∧w'=W5:=hW5 ▸ needCur_any W4 _ _ _ _ rfl _ rfl;have e5:BoxF W5 W4.heap.size 174 (fn0 193):=hW5 ▸ BoxF.new W4 _ _
 have e5_ne:W4.heap.size≠w.heap.size:=by have:=m4.lt;omega
 have m5:=m4.only q5 (by simp);have p5:=p4.trans q5 (fun k hk=>by cases hk);have e1:=e1.only q5 (by simp);have e3:=e3.only q5 (by simp);obtain ⟨W6,r6,m6,o6⟩:=m5.put1 (by omega) ⟨#[104,97,110,100,108,101]⟩ (by decide) 263 W4.heap.size;have p6:=only_step p5 (Nat.le_refl _) o6;have e1:=e1.only o6 (fun k=>e1_ne (List.mem_singleton.1 k));have e3:=e3.only o6 (fun k=>e3_ne (List.mem_singleton.1 k));have e5:=e5.only o6 (fun k=>e5_ne (List.mem_singleton.1 k));have HR:Hid (AskingR w W6 (.returned (.map (some w.heap.size)))):=⟨_,_,_,_,rfl,m6.map,Nat.le_refl _,p6,e1,e3,e5⟩;clear m0 m1 m2 m3 m4 m5 m6 p0 p1 p2 p3 p4 p5 p6 e1 e3 e5 e1_ne e3_ne e5_ne q1 q3 q5 o2 o4 o6 hW1 hW3 hW5
 go_enter Tryz.func116,Tryz.ntmps116
 go_wp2_with (first
  | (go_at_call 172;(with_reducible refine c1.mono ?_);rintro e wz ⟨rfl,rfl⟩)
  | (go_at_call 172;(with_reducible refine c3.mono ?_);rintro e wz ⟨rfl,rfl⟩)
  | (go_at_call 172;(with_reducible refine c5.mono ?_);rintro e wz ⟨rfl,rfl⟩))
 go_ret
 exact HR.out
def KnowingR (w w':World)(e:Ending):Prop:=∃ b,e = .returned (.map (some b))∧FnMap w' b (updF (updF (updF (fun _=>none) ⟨#[99,108,105,101,110,116]⟩ ⟨194,none⟩) ⟨#[99,111,110,102,105,114,109]⟩ ⟨196,none⟩) ⟨#[114,101,110,101,119]⟩ ⟨199,none⟩)∧w.heap.size≤b∧Only [] w w'
theorem knowing_any (w:World):Calls Tryz.prog 117 #[] w fun e w'=>KnowingR w w' e:=by
 have hmm:=@run_makeMap Tryz.prog;have m0:FnMapN (w.alloc (.map #[] 0)) w.heap.size (fun _=>none) 0:=FnMapN.new w;have p0:Only [] w (w.alloc (.map #[] 0)):=(Only.refl [] w).alloc _;obtain ⟨W1,r1,m1,o1⟩:=m0.put0 (by omega) ⟨#[99,108,105,101,110,116]⟩ (by decide) 194;have p1:=only_step p0 (Nat.le_refl _) o1;obtain ⟨W2,r2,m2,o2⟩:=m1.put0 (by omega) ⟨#[99,111,110,102,105,114,109]⟩ (by decide) 196;have p2:=only_step p1 (Nat.le_refl _) o2;obtain ⟨W3,r3,m3,o3⟩:=m2.put0 (by omega) ⟨#[114,101,110,101,119]⟩ (by decide) 199;have p3:=only_step p2 (Nat.le_refl _) o3;have HR:Hid (KnowingR w W3 (.returned (.map (some w.heap.size)))):=⟨_,rfl,m3.map,Nat.le_refl _,p3⟩;clear m0 m1 m2 m3 p0 p1 p2 p3 o1 o2 o3
 go_enter Tryz.func117,Tryz.ntmps117
 go_wp2_with (first
  | fail)
 go_ret
 exact HR.out
def OpeningR (w w':World)(e:Ending):Prop:=∃ b x0 x1 x2 x3 x4,e = .returned (.map (some b))∧FnMap w' b (updF (updF (updF (fun _=>none) ⟨#[111,112,101,110]⟩ ⟨263,some x2⟩) ⟨#[99,108,111,115,101]⟩ ⟨281,some x3⟩) ⟨#[100,111,119,110]⟩ ⟨281,some x4⟩)∧w.heap.size≤b∧Only [] w w'∧BoxF w' x0 174 (fn0 203)∧BoxF w' x1 174 (fn1 281 x0)∧BoxF w' x2 174 (fn1 279 x1)∧BoxF w' x3 174 (fn0 204)∧BoxF w' x4 174 (fn0 205)
theorem opening_any (w:World):Calls Tryz.prog 118 #[] w fun e w'=>OpeningR w w' e:=by
 have hmm:=@run_makeMap Tryz.prog;have m0:FnMapN (w.alloc (.map #[] 0)) w.heap.size (fun _=>none) 0:=FnMapN.new w;have p0:Only [] w (w.alloc (.map #[] 0)):=(Only.refl [] w).alloc _;obtain ⟨W1,hW1⟩:∃ W,W=(w.alloc (.map #[] 0)).alloc (.cells #[fn0 203] 174):=⟨_,rfl⟩;have q1:Only [] (w.alloc (.map #[] 0)) W1:=hW1 ▸ (Only.refl [] _).alloc _;have c1:Calls Tryz.prog 202 #[fn0 203] (w.alloc (.map #[] 0)) fun e w'=>e = .returned (fn1 281 (w.heap.size+1))∧w'=W1:=hW1 ▸ inTurn_any (w.alloc (.map #[] 0)) _ _ _ _ rfl _ (World.size_alloc _ _);have e1:BoxF W1 (w.heap.size+1) 174 (fn0 203):=(by rw [hW1,← World.size_alloc w (.map #[] 0)];exact BoxF.new _ _ _)
 have e1_ne:(w.heap.size+1)≠w.heap.size:=by have:=m0.lt;omega
 have m1:=m0.only q1 (by simp);have p1:=p0.trans q1 (fun k hk=>by cases hk);obtain ⟨W2,hW2⟩:∃ W,W=W1.alloc (.cells #[fn1 281 (w.heap.size+1)] 174):=⟨_,rfl⟩;have q2:Only [] W1 W2:=hW2 ▸ (Only.refl [] _).alloc _;have c2:Calls Tryz.prog 201 #[fn1 281 (w.heap.size+1)] W1 fun e w'=>e = .returned (fn1 279 W1.heap.size)∧w'=W2:=hW2 ▸ guarded_any W1 _ _ _ _ rfl _ rfl;have e2:BoxF W2 W1.heap.size 174 (fn1 281 (w.heap.size+1)):=hW2 ▸ BoxF.new W1 _ _
 have e2_ne:W1.heap.size≠w.heap.size:=by have:=m1.lt;omega
 have m2:=m1.only q2 (by simp);have p2:=p1.trans q2 (fun k hk=>by cases hk);have e1:=e1.only q2 (by simp);obtain ⟨W3,hW3⟩:∃ W,W=W2.alloc (.cells #[fn1 279 W1.heap.size] 174):=⟨_,rfl⟩;have q3:Only [] W2 W3:=hW3 ▸ (Only.refl [] _).alloc _;have c3:Calls Tryz.prog 172 #[fn1 279 W1.heap.size] W2 fun e w'=>e = .returned (fn1 263 W2.heap.size)∧w'=W3:=hW3 ▸ needCur_any W2 _ _ _ _ rfl _ rfl;have e3:BoxF W3 W2.heap.size 174 (fn1 279 W1.heap.size):=hW3 ▸ BoxF.new W2 _ _
 have e3_ne:W2.heap.size≠w.heap.size:=by have:=m2.lt;omega
 have m3:=m2.only q3 (by simp);have p3:=p2.trans q3 (fun k hk=>by cases hk);have e1:=e1.only q3 (by simp);have e2:=e2.only q3 (by simp);obtain ⟨W4,r4,m4,o4⟩:=m3.put1 (by omega) ⟨#[111,112,101,110]⟩ (by decide) 263 W2.heap.size;have p4:=only_step p3 (Nat.le_refl _) o4;have e1:=e1.only o4 (fun k=>e1_ne (List.mem_singleton.1 k));have e2:=e2.only o4 (fun k=>e2_ne (List.mem_singleton.1 k));have e3:=e3.only o4 (fun k=>e3_ne (List.mem_singleton.1 k));obtain ⟨W5,hW5⟩:∃ W,W=W4.alloc (.cells #[fn0 204] 174):=⟨_,rfl⟩;have q5:Only [] W4 W5:=hW5 ▸ (Only.refl [] _).alloc _;have c5:Calls Tryz.prog 202 #[fn0 204] W4 fun e w'=>e = .returned (fn1 281 W4.heap.size)∧w'=W5:=hW5 ▸ inTurn_any W4 _ _ _ _ rfl _ rfl;have e5:BoxF W5 W4.heap.size 174 (fn0 204):=hW5 ▸ BoxF.new W4 _ _
 have e5_ne:W4.heap.size≠w.heap.size:=by have:=m4.lt;omega
 have m5:=m4.only q5 (by simp);have p5:=p4.trans q5 (fun k hk=>by cases hk);have e1:=e1.only q5 (by simp);have e2:=e2.only q5 (by simp);have e3:=e3.only q5 (by simp);obtain ⟨W6,r6,m6,o6⟩:=m5.put1 (by omega) ⟨#[99,108,111,115,101]⟩ (by decide) 281 W4.heap.size;have p6:=only_step p5 (Nat.le_refl _) o6;have e1:=e1.only o6 (fun k=>e1_ne (List.mem_singleton.1 k));have e2:=e2.only o6 (fun k=>e2_ne (List.mem_singleton.1 k));have e3:=e3.only o6 (fun k=>e3_ne (List.mem_singleton.1 k));have e5:=e5.only o6 (fun k=>e5_ne (List.mem_singleton.1 k));obtain ⟨W7,hW7⟩:∃ W,W=W6.alloc (.cells #[fn0 205] 174):=⟨_,rfl⟩;have q7:Only [] W6 W7:=hW7 ▸ (Only.refl [] _).alloc _;have c7:Calls Tryz.prog 202 #[fn0 205] W6 fun e w'=>e = .returned (fn1 281 W6.heap.size)∧w'=W7:=hW7 ▸ inTurn_any W6 _ _ _ _ rfl _ rfl;have e7:BoxF W7 W6.heap.size 174 (fn0 205):=hW7 ▸ BoxF.new W6 _ _
 have e7_ne:W6.heap.size≠w.heap.size:=by have:=m6.lt;omega
 have m7:=m6.only q7 (by simp);have p7:=p6.trans q7 (fun k hk=>by cases hk);have e1:=e1.only q7 (by simp);have e2:=e2.only q7 (by simp);have e3:=e3.only q7 (by simp);have e5:=e5.only q7 (by simp);obtain ⟨W8,r8,m8,o8⟩:=m7.put1 (by omega) ⟨#[100,111,119,110]⟩ (by decide) 281 W6.heap.size;have p8:=only_step p7 (Nat.le_refl _) o8;have e1:=e1.only o8 (fun k=>e1_ne (List.mem_singleton.1 k));have e2:=e2.only o8 (fun k=>e2_ne (List.mem_singleton.1 k));have e3:=e3.only o8 (fun k=>e3_ne (List.mem_singleton.1 k));have e5:=e5.only o8 (fun k=>e5_ne (List.mem_singleton.1 k));have e7:=e7.only o8 (fun k=>e7_ne (List.mem_singleton.1 k));have HR:Hid (OpeningR w W8 (.returned (.map (some w.heap.size)))):=⟨_,_,_,_,_,_,rfl,m8.map,Nat.le_refl _,p8,e1,e2,e3,e5,e7⟩;clear m0 m1 m2 m3 m4 m5 m6 m7 m8 p0 p1 p2 p3 p4 p5 p6 p7 p8 e1 e2 e3 e5 e7 e1_ne e2_ne e3_ne e5_ne e7_ne q1 q2 q3 q5 q7 o4 o6 o8 hW1 hW2 hW3 hW5 hW7
 go_enter Tryz.func118,Tryz.ntmps118
 go_wp2_with (first
  | (go_at_call 202;(with_reducible refine c1.mono ?_);rintro e wz ⟨rfl,rfl⟩)
  | (go_at_call 201;(with_reducible refine c2.mono ?_);rintro e wz ⟨rfl,rfl⟩)
  | (go_at_call 172;(with_reducible refine c3.mono ?_);rintro e wz ⟨rfl,rfl⟩)
  | (go_at_call 202;(with_reducible refine c5.mono ?_);rintro e wz ⟨rfl,rfl⟩)
  | (go_at_call 202;(with_reducible refine c7.mono ?_);rintro e wz ⟨rfl,rfl⟩))
 go_ret
 exact HR.out
def LockingR (w w':World)(e:Ending):Prop:=∃ b x0 x1 x2,e = .returned (.map (some b))∧FnMap w' b (updF (updF (updF (fun _=>none) ⟨#[108,111,99,107]⟩ ⟨279,some x1⟩) ⟨#[116,101,115,116]⟩ ⟨295,some x2⟩) ⟨#[117,110,108,111,99,107]⟩ ⟨211,none⟩)∧w.heap.size≤b∧Only [] w w'∧BoxF w' x0 351 (fn0 207)∧BoxF w' x1 174 (fn1 295 x0)∧BoxF w' x2 351 (fn0 209)
theorem locking_any (w:World):Calls Tryz.prog 119 #[] w fun e w'=>LockingR w w' e:=by
 have hmm:=@run_makeMap Tryz.prog;have m0:FnMapN (w.alloc (.map #[] 0)) w.heap.size (fun _=>none) 0:=FnMapN.new w;have p0:Only [] w (w.alloc (.map #[] 0)):=(Only.refl [] w).alloc _;obtain ⟨W1,hW1⟩:∃ W,W=(w.alloc (.map #[] 0)).alloc (.cells #[fn0 207] 351):=⟨_,rfl⟩;have q1:Only [] (w.alloc (.map #[] 0)) W1:=hW1 ▸ (Only.refl [] _).alloc _;have c1:Calls Tryz.prog 206 #[fn0 207] (w.alloc (.map #[] 0)) fun e w'=>e = .returned (fn1 295 (w.heap.size+1))∧w'=W1:=hW1 ▸ asLock_any (w.alloc (.map #[] 0)) _ _ (World.size_alloc _ _);have e1:BoxF W1 (w.heap.size+1) 351 (fn0 207):=(by rw [hW1,← World.size_alloc w (.map #[] 0)];exact BoxF.new _ _ _)
 have e1_ne:(w.heap.size+1)≠w.heap.size:=by have:=m0.lt;omega
 have m1:=m0.only q1 (by simp);have p1:=p0.trans q1 (fun k hk=>by cases hk);obtain ⟨W2,hW2⟩:∃ W,W=W1.alloc (.cells #[fn1 295 (w.heap.size+1)] 174):=⟨_,rfl⟩;have q2:Only [] W1 W2:=hW2 ▸ (Only.refl [] _).alloc _;have c2:Calls Tryz.prog 201 #[fn1 295 (w.heap.size+1)] W1 fun e w'=>e = .returned (fn1 279 W1.heap.size)∧w'=W2:=hW2 ▸ guarded_any W1 _ _ _ _ rfl _ rfl;have e2:BoxF W2 W1.heap.size 174 (fn1 295 (w.heap.size+1)):=hW2 ▸ BoxF.new W1 _ _
 have e2_ne:W1.heap.size≠w.heap.size:=by have:=m1.lt;omega
 have m2:=m1.only q2 (by simp);have p2:=p1.trans q2 (fun k hk=>by cases hk);have e1:=e1.only q2 (by simp);obtain ⟨W3,r3,m3,o3⟩:=m2.put1 (by omega) ⟨#[108,111,99,107]⟩ (by decide) 279 W1.heap.size;have p3:=only_step p2 (Nat.le_refl _) o3;have e1:=e1.only o3 (fun k=>e1_ne (List.mem_singleton.1 k));have e2:=e2.only o3 (fun k=>e2_ne (List.mem_singleton.1 k));obtain ⟨W4,hW4⟩:∃ W,W=W3.alloc (.cells #[fn0 209] 351):=⟨_,rfl⟩;have q4:Only [] W3 W4:=hW4 ▸ (Only.refl [] _).alloc _;have c4:Calls Tryz.prog 206 #[fn0 209] W3 fun e w'=>e = .returned (fn1 295 W3.heap.size)∧w'=W4:=hW4 ▸ asLock_any W3 _ _ rfl;have e4:BoxF W4 W3.heap.size 351 (fn0 209):=hW4 ▸ BoxF.new W3 _ _
 have e4_ne:W3.heap.size≠w.heap.size:=by have:=m3.lt;omega
 have m4:=m3.only q4 (by simp);have p4:=p3.trans q4 (fun k hk=>by cases hk);have e1:=e1.only q4 (by simp);have e2:=e2.only q4 (by simp);obtain ⟨W5,r5,m5,o5⟩:=m4.put1 (by omega) ⟨#[116,101,115,116]⟩ (by decide) 295 W3.heap.size;have p5:=only_step p4 (Nat.le_refl _) o5;have e1:=e1.only o5 (fun k=>e1_ne (List.mem_singleton.1 k));have e2:=e2.only o5 (fun k=>e2_ne (List.mem_singleton.1 k));have e4:=e4.only o5 (fun k=>e4_ne (List.mem_singleton.1 k));obtain ⟨W6,r6,m6,o6⟩:=m5.put0 (by omega) ⟨#[117,110,108,111,99,107]⟩ (by decide) 211;have p6:=only_step p5 (Nat.le_refl _) o6;have e1:=e1.only o6 (fun k=>e1_ne (List.mem_singleton.1 k));have e2:=e2.only o6 (fun k=>e2_ne (List.mem_singleton.1 k));have e4:=e4.only o6 (fun k=>e4_ne (List.mem_singleton.1 k));have HR:Hid (LockingR w W6 (.returned (.map (some w.heap.size)))):=⟨_,_,_,_,rfl,m6.map,Nat.le_refl _,p6,e1,e2,e4⟩;clear m0 m1 m2 m3 m4 m5 m6 p0 p1 p2 p3 p4 p5 p6 e1 e2 e4 e1_ne e2_ne e4_ne q1 q2 q4 o3 o5 o6 hW1 hW2 hW4
 go_enter Tryz.func119,Tryz.ntmps119
 go_wp2_with (first
  | (go_at_call 206;(with_reducible refine c1.mono ?_);rintro e wz ⟨rfl,rfl⟩)
  | (go_at_call 201;(with_reducible refine c2.mono ?_);rintro e wz ⟨rfl,rfl⟩)
  | (go_at_call 206;(with_reducible refine c4.mono ?_);rintro e wz ⟨rfl,rfl⟩))
 go_ret
 exact HR.out
def UsingR (w w':World)(e:Ending):Prop:=∃ b x0 x1 x2 x3 x4 x5 x6 x7 x8 x9 x10,e = .returned (.map (some b))∧FnMap w' b (updF (updF (updF (fun _=>none) ⟨#[114,101,97,100]⟩ ⟨263,some x2⟩) ⟨#[119,114,105,116,101]⟩ ⟨263,some x6⟩) ⟨#[114,101,115,105,122,101]⟩ ⟨263,some x10⟩)∧w.heap.size≤b∧Only [] w w'∧BoxF w' x0 3 (.int .i64 1)∧BoxF w' x1 174 (fn0 216)∧BoxF w' x2 174 (.func (.func 305) #[] #[.pointer (some ⟨x0,0,none⟩),.pointer (some ⟨x1,0,none⟩)])∧BoxF w' x3 3 (.int .i64 2)∧BoxF w' x4 174 (fn0 218)∧BoxF w' x5 174 (.func (.func 305) #[] #[.pointer (some ⟨x3,0,none⟩),.pointer (some ⟨x4,0,none⟩)])∧BoxF w' x6 174 (fn1 279 x5)∧BoxF w' x7 3 (.int .i64 2)∧BoxF w' x8 174 (fn0 220)∧BoxF w' x9 174 (.func (.func 305) #[] #[.pointer (some ⟨x7,0,none⟩),.pointer (some ⟨x8,0,none⟩)])∧BoxF w' x10 174 (fn1 279 x9)
theorem using_any (w:World):Calls Tryz.prog 120 #[] w fun e w'=>UsingR w w' e:=by
 have hmm:=@run_makeMap Tryz.prog;have m0:FnMapN (w.alloc (.map #[] 0)) w.heap.size (fun _=>none) 0:=FnMapN.new w;have p0:Only [] w (w.alloc (.map #[] 0)):=(Only.refl [] w).alloc _;obtain ⟨W1,hW1⟩:∃ W,W=((w.alloc (.map #[] 0)).alloc (.cells #[.int .i64 1] 3)).alloc (.cells #[fn0 216] 174):=⟨_,rfl⟩;have q1:Only [] (w.alloc (.map #[] 0)) W1:=hW1 ▸ ((Only.refl [] _).alloc _).alloc _;have c1:Calls Tryz.prog 215 #[.int .i64 1,fn0 216] (w.alloc (.map #[] 0)) fun e w'=>e = .returned (.func (.func 305) #[] #[.pointer (some ⟨(w.heap.size+1),0,none⟩),.pointer (some ⟨(w.heap.size+1)+1,0,none⟩)])∧w'=W1:=hW1 ▸ onFile_any (w.alloc (.map #[] 0)) 1 _ _ (World.size_alloc _ _)
 have ea1:BoxF W1 (w.heap.size+1) 3 (.int .i64 1):=by have h:=(BoxF.new (w.alloc (.map #[] 0)) 3 (.int .i64 1)).only ((Only.refl [] _).alloc (.cells #[fn0 216] 174)) (by simp);rw [World.size_alloc w (.map #[] 0)] at h;rw [hW1];exact h
 have ea1_ne:(w.heap.size+1)≠w.heap.size:=by have:=m0.lt;omega
 have eb1:BoxF W1 ((w.heap.size+1)+1) 174 (fn0 216):=by rw [hW1,show (w.heap.size+1)+1=((w.alloc (.map #[] 0)).alloc (.cells #[.int .i64 1] 3)).heap.size by simp];exact BoxF.new _ _ _
 have eb1_ne:((w.heap.size+1)+1)≠w.heap.size:=by have:=m0.lt;omega
 have m1:=m0.only q1 (by simp);have p1:=p0.trans q1 (fun k hk=>by cases hk);obtain ⟨W2,hW2⟩:∃ W,W=W1.alloc (.cells #[.func (.func 305) #[] #[.pointer (some ⟨(w.heap.size+1),0,none⟩),.pointer (some ⟨(w.heap.size+1)+1,0,none⟩)]] 174):=⟨_,rfl⟩;have q2:Only [] W1 W2:=hW2 ▸ (Only.refl [] _).alloc _;have c2:Calls Tryz.prog 172 #[.func (.func 305) #[] #[.pointer (some ⟨(w.heap.size+1),0,none⟩),.pointer (some ⟨(w.heap.size+1)+1,0,none⟩)]] W1 fun e w'=>e = .returned (fn1 263 W1.heap.size)∧w'=W2:=hW2 ▸ needCur_any W1 _ _ _ _ rfl _ rfl;have e2:BoxF W2 W1.heap.size 174 (.func (.func 305) #[] #[.pointer (some ⟨(w.heap.size+1),0,none⟩),.pointer (some ⟨(w.heap.size+1)+1,0,none⟩)]):=hW2 ▸ BoxF.new W1 _ _
 have e2_ne:W1.heap.size≠w.heap.size:=by have:=m1.lt;omega
 have m2:=m1.only q2 (by simp);have p2:=p1.trans q2 (fun k hk=>by cases hk);have ea1:=ea1.only q2 (by simp);have eb1:=eb1.only q2 (by simp);obtain ⟨W3,r3,m3,o3⟩:=m2.put1 (by omega) ⟨#[114,101,97,100]⟩ (by decide) 263 W1.heap.size;have p3:=only_step p2 (Nat.le_refl _) o3;have ea1:=ea1.only o3 (fun k=>ea1_ne (List.mem_singleton.1 k));have eb1:=eb1.only o3 (fun k=>eb1_ne (List.mem_singleton.1 k));have e2:=e2.only o3 (fun k=>e2_ne (List.mem_singleton.1 k));obtain ⟨W4,hW4⟩:∃ W,W=(W3.alloc (.cells #[.int .i64 2] 3)).alloc (.cells #[fn0 218] 174):=⟨_,rfl⟩;have q4:Only [] W3 W4:=hW4 ▸ ((Only.refl [] _).alloc _).alloc _;have c4:Calls Tryz.prog 215 #[.int .i64 2,fn0 218] W3 fun e w'=>e = .returned (.func (.func 305) #[] #[.pointer (some ⟨W3.heap.size,0,none⟩),.pointer (some ⟨W3.heap.size+1,0,none⟩)])∧w'=W4:=hW4 ▸ onFile_any W3 2 _ _ rfl
 have ea4:BoxF W4 W3.heap.size 3 (.int .i64 2):=by rw [hW4];exact (BoxF.new W3 _ _).only ((Only.refl [] _).alloc _) (by simp)
 have ea4_ne:W3.heap.size≠w.heap.size:=by have:=m3.lt;omega
 have eb4:BoxF W4 (W3.heap.size+1) 174 (fn0 218):=by rw [hW4,show W3.heap.size+1=(W3.alloc (.cells #[.int .i64 2] 3)).heap.size by simp];exact BoxF.new _ _ _
 have eb4_ne:(W3.heap.size+1)≠w.heap.size:=by have:=m3.lt;omega
 have m4:=m3.only q4 (by simp);have p4:=p3.trans q4 (fun k hk=>by cases hk);have ea1:=ea1.only q4 (by simp);have eb1:=eb1.only q4 (by simp);have e2:=e2.only q4 (by simp);obtain ⟨W5,hW5⟩:∃ W,W=W4.alloc (.cells #[.func (.func 305) #[] #[.pointer (some ⟨W3.heap.size,0,none⟩),.pointer (some ⟨W3.heap.size+1,0,none⟩)]] 174):=⟨_,rfl⟩;have q5:Only [] W4 W5:=hW5 ▸ (Only.refl [] _).alloc _;have c5:Calls Tryz.prog 201 #[.func (.func 305) #[] #[.pointer (some ⟨W3.heap.size,0,none⟩),.pointer (some ⟨W3.heap.size+1,0,none⟩)]] W4 fun e w'=>e = .returned (fn1 279 W4.heap.size)∧w'=W5:=hW5 ▸ guarded_any W4 _ _ _ _ rfl _ rfl;have e5:BoxF W5 W4.heap.size 174 (.func (.func 305) #[] #[.pointer (some ⟨W3.heap.size,0,none⟩),.pointer (some ⟨W3.heap.size+1,0,none⟩)]):=hW5 ▸ BoxF.new W4 _ _
 have e5_ne:W4.heap.size≠w.heap.size:=by have:=m4.lt;omega
 have m5:=m4.only q5 (by simp);have p5:=p4.trans q5 (fun k hk=>by cases hk);have ea1:=ea1.only q5 (by simp);have eb1:=eb1.only q5 (by simp);have e2:=e2.only q5 (by simp);have ea4:=ea4.only q5 (by simp);have eb4:=eb4.only q5 (by simp);obtain ⟨W6,hW6⟩:∃ W,W=W5.alloc (.cells #[fn1 279 W4.heap.size] 174):=⟨_,rfl⟩;have q6:Only [] W5 W6:=hW6 ▸ (Only.refl [] _).alloc _;have c6:Calls Tryz.prog 172 #[fn1 279 W4.heap.size] W5 fun e w'=>e = .returned (fn1 263 W5.heap.size)∧w'=W6:=hW6 ▸ needCur_any W5 _ _ _ _ rfl _ rfl;have e6:BoxF W6 W5.heap.size 174 (fn1 279 W4.heap.size):=hW6 ▸ BoxF.new W5 _ _
 have e6_ne:W5.heap.size≠w.heap.size:=by have:=m5.lt;omega
 have m6:=m5.only q6 (by simp);have p6:=p5.trans q6 (fun k hk=>by cases hk);have ea1:=ea1.only q6 (by simp);have eb1:=eb1.only q6 (by simp);have e2:=e2.only q6 (by simp);have ea4:=ea4.only q6 (by simp);have eb4:=eb4.only q6 (by simp);have e5:=e5.only q6 (by simp);obtain ⟨W7,r7,m7,o7⟩:=m6.put1 (by omega) ⟨#[119,114,105,116,101]⟩ (by decide) 263 W5.heap.size;have p7:=only_step p6 (Nat.le_refl _) o7;have ea1:=ea1.only o7 (fun k=>ea1_ne (List.mem_singleton.1 k));have eb1:=eb1.only o7 (fun k=>eb1_ne (List.mem_singleton.1 k));have e2:=e2.only o7 (fun k=>e2_ne (List.mem_singleton.1 k));have ea4:=ea4.only o7 (fun k=>ea4_ne (List.mem_singleton.1 k));have eb4:=eb4.only o7 (fun k=>eb4_ne (List.mem_singleton.1 k));have e5:=e5.only o7 (fun k=>e5_ne (List.mem_singleton.1 k));have e6:=e6.only o7 (fun k=>e6_ne (List.mem_singleton.1 k));obtain ⟨W8,hW8⟩:∃ W,W=(W7.alloc (.cells #[.int .i64 2] 3)).alloc (.cells #[fn0 220] 174):=⟨_,rfl⟩;have q8:Only [] W7 W8:=hW8 ▸ ((Only.refl [] _).alloc _).alloc _;have c8:Calls Tryz.prog 215 #[.int .i64 2,fn0 220] W7 fun e w'=>e = .returned (.func (.func 305) #[] #[.pointer (some ⟨W7.heap.size,0,none⟩),.pointer (some ⟨W7.heap.size+1,0,none⟩)])∧w'=W8:=hW8 ▸ onFile_any W7 2 _ _ rfl
 have ea8:BoxF W8 W7.heap.size 3 (.int .i64 2):=by rw [hW8];exact (BoxF.new W7 _ _).only ((Only.refl [] _).alloc _) (by simp)
 have ea8_ne:W7.heap.size≠w.heap.size:=by have:=m7.lt;omega
 have eb8:BoxF W8 (W7.heap.size+1) 174 (fn0 220):=by rw [hW8,show W7.heap.size+1=(W7.alloc (.cells #[.int .i64 2] 3)).heap.size by simp];exact BoxF.new _ _ _
 have eb8_ne:(W7.heap.size+1)≠w.heap.size:=by have:=m7.lt;omega
 have m8:=m7.only q8 (by simp);have p8:=p7.trans q8 (fun k hk=>by cases hk);have ea1:=ea1.only q8 (by simp);have eb1:=eb1.only q8 (by simp);have e2:=e2.only q8 (by simp);have ea4:=ea4.only q8 (by simp);have eb4:=eb4.only q8 (by simp);have e5:=e5.only q8 (by simp);have e6:=e6.only q8 (by simp);obtain ⟨W9,hW9⟩:∃ W,W=W8.alloc (.cells #[.func (.func 305) #[] #[.pointer (some ⟨W7.heap.size,0,none⟩),.pointer (some ⟨W7.heap.size+1,0,none⟩)]] 174):=⟨_,rfl⟩;have q9:Only [] W8 W9:=hW9 ▸ (Only.refl [] _).alloc _;have c9:Calls Tryz.prog 201 #[.func (.func 305) #[] #[.pointer (some ⟨W7.heap.size,0,none⟩),.pointer (some ⟨W7.heap.size+1,0,none⟩)]] W8 fun e w'=>e = .returned (fn1 279 W8.heap.size)∧w'=W9:=hW9 ▸ guarded_any W8 _ _ _ _ rfl _ rfl;have e9:BoxF W9 W8.heap.size 174 (.func (.func 305) #[] #[.pointer (some ⟨W7.heap.size,0,none⟩),.pointer (some ⟨W7.heap.size+1,0,none⟩)]):=hW9 ▸ BoxF.new W8 _ _
 have e9_ne:W8.heap.size≠w.heap.size:=by have:=m8.lt;omega
 have m9:=m8.only q9 (by simp);have p9:=p8.trans q9 (fun k hk=>by cases hk);have ea1:=ea1.only q9 (by simp);have eb1:=eb1.only q9 (by simp);have e2:=e2.only q9 (by simp);have ea4:=ea4.only q9 (by simp);have eb4:=eb4.only q9 (by simp);have e5:=e5.only q9 (by simp);have e6:=e6.only q9 (by simp);have ea8:=ea8.only q9 (by simp);have eb8:=eb8.only q9 (by simp);obtain ⟨W10,hW10⟩:∃ W,W=W9.alloc (.cells #[fn1 279 W8.heap.size] 174):=⟨_,rfl⟩;have q10:Only [] W9 W10:=hW10 ▸ (Only.refl [] _).alloc _;have c10:Calls Tryz.prog 172 #[fn1 279 W8.heap.size] W9 fun e w'=>e = .returned (fn1 263 W9.heap.size)∧w'=W10:=hW10 ▸ needCur_any W9 _ _ _ _ rfl _ rfl;have e10:BoxF W10 W9.heap.size 174 (fn1 279 W8.heap.size):=hW10 ▸ BoxF.new W9 _ _
 have e10_ne:W9.heap.size≠w.heap.size:=by have:=m9.lt;omega
 have m10:=m9.only q10 (by simp);have p10:=p9.trans q10 (fun k hk=>by cases hk);have ea1:=ea1.only q10 (by simp);have eb1:=eb1.only q10 (by simp);have e2:=e2.only q10 (by simp);have ea4:=ea4.only q10 (by simp);have eb4:=eb4.only q10 (by simp);have e5:=e5.only q10 (by simp);have e6:=e6.only q10 (by simp);have ea8:=ea8.only q10 (by simp);have eb8:=eb8.only q10 (by simp);have e9:=e9.only q10 (by simp);obtain ⟨W11,r11,m11,o11⟩:=m10.put1 (by omega) ⟨#[114,101,115,105,122,101]⟩ (by decide) 263 W9.heap.size;have p11:=only_step p10 (Nat.le_refl _) o11;have ea1:=ea1.only o11 (fun k=>ea1_ne (List.mem_singleton.1 k));have eb1:=eb1.only o11 (fun k=>eb1_ne (List.mem_singleton.1 k));have e2:=e2.only o11 (fun k=>e2_ne (List.mem_singleton.1 k));have ea4:=ea4.only o11 (fun k=>ea4_ne (List.mem_singleton.1 k));have eb4:=eb4.only o11 (fun k=>eb4_ne (List.mem_singleton.1 k));have e5:=e5.only o11 (fun k=>e5_ne (List.mem_singleton.1 k));have e6:=e6.only o11 (fun k=>e6_ne (List.mem_singleton.1 k));have ea8:=ea8.only o11 (fun k=>ea8_ne (List.mem_singleton.1 k));have eb8:=eb8.only o11 (fun k=>eb8_ne (List.mem_singleton.1 k));have e9:=e9.only o11 (fun k=>e9_ne (List.mem_singleton.1 k));have e10:=e10.only o11 (fun k=>e10_ne (List.mem_singleton.1 k));have HR:Hid (UsingR w W11 (.returned (.map (some w.heap.size)))):=⟨_,_,_,_,_,_,_,_,_,_,_,_,rfl,m11.map,Nat.le_refl _,p11,ea1,eb1,e2,ea4,eb4,e5,e6,ea8,eb8,e9,e10⟩;clear m0 m1 m2 m3 m4 m5 m6 m7 m8 m9 m10 m11 p0 p1 p2 p3 p4 p5 p6 p7 p8 p9 p10 p11 ea1 eb1 e2 ea4 eb4 e5 e6 ea8 eb8 e9 e10 ea1_ne eb1_ne e2_ne ea4_ne eb4_ne e5_ne e6_ne ea8_ne eb8_ne e9_ne e10_ne q1 q2 q4 q5 q6 q8 q9 q10 o3 o7 o11 hW1 hW2 hW4 hW5 hW6 hW8 hW9 hW10
 go_enter Tryz.func120,Tryz.ntmps120
 go_wp2_with (first
  | (go_at_call 215;(with_reducible refine c1.mono ?_);rintro e wz ⟨rfl,rfl⟩)
  | (go_at_call 172;(with_reducible refine c2.mono ?_);rintro e wz ⟨rfl,rfl⟩)
  | (go_at_call 215;(with_reducible refine c4.mono ?_);rintro e wz ⟨rfl,rfl⟩)
  | (go_at_call 201;(with_reducible refine c5.mono ?_);rintro e wz ⟨rfl,rfl⟩)
  | (go_at_call 172;(with_reducible refine c6.mono ?_);rintro e wz ⟨rfl,rfl⟩)
  | (go_at_call 215;(with_reducible refine c8.mono ?_);rintro e wz ⟨rfl,rfl⟩)
  | (go_at_call 201;(with_reducible refine c9.mono ?_);rintro e wz ⟨rfl,rfl⟩)
  | (go_at_call 172;(with_reducible refine c10.mono ?_);rintro e wz ⟨rfl,rfl⟩))
 go_ret
 exact HR.out
structure FinderAt (w:World)(fb r:Nat)(b:Nat→Nat)(f:Nat→List UInt8→Option Fv):Prop where
 box:BoxF w fb 251 (.slice (some ⟨r,0,none⟩) 7 7)
 row:w.heap[r]?=some (.cells #[.map (some (b 0)),.map (some (b 1)),.map (some (b 2)),.map (some (b 3)),.map (some (b 4)),.map (some (b 5)),.map (some (b 6))] 249 (0,0))
 maps:∀ i,i < 7→FnMap w (b i) (f i)
theorem FinderAt.only {w w':World}{fb r:Nat}{b:Nat→Nat}{f:Nat→List UInt8→Option Fv}(h:FinderAt w fb r b f)(ho:Only [] w w'):FinderAt w' fb r b f :=
 ⟨h.box.only ho (by simp),(ho.block r (Array.getElem?_eq_some_iff.1 h.row).1 (by simp)).trans h.row,fun i hi=>(h.maps i hi).only ho (by simp)⟩
theorem find_first (w:World)(fb r:Nat)(b:Nat→Nat)(f:Nat→List UInt8→Option Fv)(k:ByteArray)(hk:k.size≤1000)(v:Fv)(fn:Fn)(x y:Array Value)(h:FinderAt w fb r b f)(hv:f 0 k.data.toList=some v)(he:fvV v = .func fn x y):
  Calls Tryz.prog 121 #[.string k,.pointer (some ⟨fb,0,none⟩)] w fun e w'=>e = .returned (.func fn x y)∧w'=w:=by
 have c0:=h.box.cell
 have c1:w.cell? ⟨r,0,none⟩=some (.map (some (b 0))):=by
  have:=h.row;simp [World.cell?,this]
 have l0:=(h.maps 0 (by decide)).look k (by unfold maxLen;omega);rw [hv] at l0;simp only [he,Option.isSome_some] at l0;clear h hv he
 go_enter Tryz.func121,Tryz.ntmps121
 go_wp2
 refine wp_loop_rounds 1 ?_;rw [rounds_succ]
 go_wp2
 go_ret
 exact ⟨rfl,rfl⟩
theorem walking_short (w:World):Calls Tryz.prog 114 #[] w fun e w'=>∃ b x f,e = .returned (.map (some b))∧FnMap w' b f∧f [114,111,111,116]=some ⟨170,none⟩∧f [109,97,107,101]=some ⟨263,some x⟩∧BoxF w' x 174 (fn0 180)∧Only [] w w' :=
 (walking_any w).mono fun e w' q=>by
  obtain ⟨b,x0,x1,x2,x3,x4,he,hf,_,ho,_,_,_,_,h4⟩:=q;exact ⟨b,x4,_,he,hf,rfl,rfl,h4,ho⟩
theorem naming_short (w:World):Calls Tryz.prog 115 #[] w fun e w'=>∃ b f,e = .returned (.map (some b))∧FnMap w' b f∧Only [] w w' :=
 (naming_any w).mono fun e w' q=>by
  obtain ⟨b,_,_,_,_,_,he,hf,_,ho,_⟩:=q;exact ⟨b,_,he,hf,ho⟩
theorem asking_short (w:World):Calls Tryz.prog 116 #[] w fun e w'=>∃ b f,e = .returned (.map (some b))∧FnMap w' b f∧Only [] w w' :=
 (asking_any w).mono fun e w' q=>by
  obtain ⟨b,_,_,_,he,hf,_,ho,_⟩:=q;exact ⟨b,_,he,hf,ho⟩
theorem knowing_short (w:World):Calls Tryz.prog 117 #[] w fun e w'=>∃ b f,e = .returned (.map (some b))∧FnMap w' b f∧Only [] w w' :=
 (knowing_any w).mono fun e w' q=>by
  obtain ⟨b,he,hf,_,ho⟩:=q;exact ⟨b,_,he,hf,ho⟩
theorem opening_short (w:World):Calls Tryz.prog 118 #[] w fun e w'=>∃ b f,e = .returned (.map (some b))∧FnMap w' b f∧Only [] w w' :=
 (opening_any w).mono fun e w' q=>by
  obtain ⟨b,_,_,_,_,_,he,hf,_,ho,_⟩:=q;exact ⟨b,_,he,hf,ho⟩
theorem locking_short (w:World):Calls Tryz.prog 119 #[] w fun e w'=>∃ b f,e = .returned (.map (some b))∧FnMap w' b f∧Only [] w w' :=
 (locking_any w).mono fun e w' q=>by
  obtain ⟨b,_,_,_,he,hf,_,ho,_⟩:=q;exact ⟨b,_,he,hf,ho⟩
theorem using_short (w:World):Calls Tryz.prog 120 #[] w fun e w'=>∃ b f,e = .returned (.map (some b))∧FnMap w' b f∧Only [] w w' :=
 (using_any w).mono fun e w' q=>by
  obtain ⟨b,_,_,_,_,_,_,_,_,_,_,_,he,hf,_,ho,_⟩:=q;exact ⟨b,_,he,hf,ho⟩
def FoundR (w w':World)(e:Ending):Prop:=∃ fb r b f x,e = .returned (fn1 121 fb)∧FinderAt w' fb r b f∧f 0 [114,111,111,116]=some ⟨170,none⟩∧f 0 [109,97,107,101]=some ⟨263,some x⟩∧BoxF w' x 174 (fn0 180)∧Only [] w w'
theorem finder_any (w:World):Calls Tryz.prog 62 #[] w fun e w'=>FoundR w w' e:=by
 have hmf:∀ (fn:Fn) (first cap:Array Value) (w:World),(Instr.makeFunc fn first cap).run Tryz.prog w = .ok (.func fn first cap) w:=fun _ _ _ _=>rfl
 go_enter Tryz.func62,Tryz.ntmps62
 go_wp2_with (first
   | (go_at_call 114;(with_reducible refine (walking_short _).mono ?_);rintro e w1 ⟨b0,x,f0,rfl,hm,h1,h2,h3,ho⟩;have M0:Hid (FnMap w1 b0 f0∧f0 [114,111,111,116]=some ⟨170,none⟩∧f0 [109,97,107,101]=some ⟨263,some x⟩∧BoxF w1 x 174 (fn0 180)):=⟨hm,h1,h2,h3⟩;have O1:Hid (Only [] w w1):=ho;clear hm h1 h2 h3 ho)
   | (go_at_call 115;(with_reducible refine (naming_short _).mono ?_);rintro e w2 ⟨b1,f1,rfl,hm,ho⟩;have M1:Hid (FnMap w2 b1 f1):=hm;have O2:Hid (Only [] w1 w2):=ho;clear hm ho)
   | (go_at_call 116;(with_reducible refine (asking_short _).mono ?_);rintro e w3 ⟨b2,f2,rfl,hm,ho⟩;have M2:Hid (FnMap w3 b2 f2):=hm;have O3:Hid (Only [] w2 w3):=ho;clear hm ho)
   | (go_at_call 117;(with_reducible refine (knowing_short _).mono ?_);rintro e w4 ⟨b3,f3,rfl,hm,ho⟩;have M3:Hid (FnMap w4 b3 f3):=hm;have O4:Hid (Only [] w3 w4):=ho;clear hm ho)
   | (go_at_call 118;(with_reducible refine (opening_short _).mono ?_);rintro e w5 ⟨b4,f4,rfl,hm,ho⟩;have M4:Hid (FnMap w5 b4 f4):=hm;have O5:Hid (Only [] w4 w5):=ho;clear hm ho)
   | (go_at_call 119;(with_reducible refine (locking_short _).mono ?_);rintro e w6 ⟨b5,f5,rfl,hm,ho⟩;have M5:Hid (FnMap w6 b5 f5):=hm;have O6:Hid (Only [] w5 w6):=ho;clear hm ho)
   | (go_at_call 120;(with_reducible refine (using_short _).mono ?_);rintro e w7 ⟨b6,f6,rfl,hm,ho⟩;have M6:Hid (FnMap w7 b6 f6):=hm;have O7:Hid (Only [] w6 w7):=ho;clear hm ho))
 go_ret
 have o7:=O7.out;have o6:=O6.out.trans o7 (fun k hk=>by cases hk);have o5:=O5.out.trans o6 (fun k hk=>by cases hk);have o4:=O4.out.trans o5 (fun k hk=>by cases hk);have o3:=O3.out.trans o4 (fun k hk=>by cases hk);have o2:=O2.out.trans o3 (fun k hk=>by cases hk);have o1:=O1.out.trans o2 (fun k hk=>by cases hk);have oz:Only [] w7 ((w7.alloc (.cells #[.map (some b0),.map (some b1),.map (some b2),.map (some b3),.map (some b4),.map (some b5),.map (some b6)] 249)).alloc (.cells #[.slice (some ⟨w7.heap.size,0,none⟩) 7 7] 251)):=((Only.refl [] _).alloc _).alloc _;have hrow:(w7.alloc (.cells #[.map (some b0),.map (some b1),.map (some b2),.map (some b3),.map (some b4),.map (some b5),.map (some b6)] 249)).heap[w7.heap.size]?=some (.cells #[.map (some b0),.map (some b1),.map (some b2),.map (some b3),.map (some b4),.map (some b5),.map (some b6)] 249 (0,0)):=(show (w7.heap.push _)[w7.heap.size]?=_ by simp);refine ⟨w7.heap.size+1,w7.heap.size,fun i=>[b0,b1,b2,b3,b4,b5,b6].getD i 0,fun i=>[f0,f1,f2,f3,f4,f5,f6].getD i f0,x,rfl,⟨?_,?_,fun i hi=>?_⟩,M0.out.2.1,M0.out.2.2.1,(M0.out.2.2.2.only o2 (by simp)).only oz (by simp),o1.trans oz (fun k hk=>by cases hk)⟩
 · have:=BoxF.new (w7.alloc (.cells #[.map (some b0),.map (some b1),.map (some b2),.map (some b3),.map (some b4),.map (some b5),.map (some b6)] 249)) 251 (.slice (some ⟨w7.heap.size,0,none⟩) 7 7)
   rw [World.size_alloc] at this;exact this
 · exact (((Only.refl [] _).alloc _).block _ (Array.getElem?_eq_some_iff.1 hrow).1 (by simp)).trans hrow
 · rcases (show i=0∨i=1∨i=2∨i=3∨i=4∨i=5∨i=6 by omega) with rfl | rfl | rfl | rfl | rfl | rfl | rfl
   · exact (M0.out.1.only o2 (by simp)).only oz (by simp)
   · exact (M1.out.only o3 (by simp)).only oz (by simp)
   · exact (M2.out.only o4 (by simp)).only oz (by simp)
   · exact (M3.out.only o5 (by simp)).only oz (by simp)
   · exact (M4.out.only o6 (by simp)).only oz (by simp)
   · exact (M5.out.only o7 (by simp)).only oz (by simp)
   · exact M6.out.only oz (by simp)
end
end Go.Proofs.YtmnidbnaneagjaaGreatDoor
