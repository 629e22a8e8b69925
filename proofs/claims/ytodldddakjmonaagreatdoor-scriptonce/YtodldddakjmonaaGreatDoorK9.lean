import Derived.Test.YtodldddakjmonaaGreatDoorK8
set_option maxRecDepth 100000
set_option maxHeartbeats 8000000
namespace Go.Proofs.YtodldddakjmonaaGreatDoor
section
open Go Go.RowKit Go.Deep Go.Maps
def BoxF (w:World)(x:Nat)(t:TypeId)(v:Value):Prop:=w.heap[x]?=some (.cells #[v] t (0,0))
theorem BoxF.only {w w':World}{x:Nat}{t:TypeId}{v:Value}{L:List Nat}(h:BoxF w x t v)(ho:Only L w w')(hx:x∉L):BoxF w' x t v:=(ho.block x (Array.getElem?_eq_some_iff.1 h).1 hx).trans h
theorem BoxF.new (w:World)(t:TypeId)(v:Value):BoxF (w.alloc (.cells #[v] t)) w.heap.size t v:=(show (w.heap.push _)[w.heap.size]?=_ by simp)
theorem BoxF.cell {w:World}{x:Nat}{t:TypeId}{v:Value}(h:BoxF w x t v):w.cell? ⟨x,0,none⟩=some v:=by
 simp [World.cell?,show w.heap[x]?=_ from h]
theorem FnMapN.put0 {w:World}{b:Nat}{f:List UInt8→Option Fv}{n:Nat}(h:FnMapN w b f n)(hn:n < 100)(s:ByteArray)(hs:s.size≤1000)(g:Nat):
 ∃ w',(Instr.mapUpdate 428 (.map (some b)) (.string s) (fn0 g)).run Tryz.prog w = .ok () w'∧FnMapN w' b (updF f s ⟨g,none⟩) (n+1)∧Only [b] w w':=h.put hn s hs ⟨g,none⟩
theorem FnMapN.put1 {w:World}{b:Nat}{f:List UInt8→Option Fv}{n:Nat}(h:FnMapN w b f n)(hn:n < 100)(s:ByteArray)(hs:s.size≤1000)(g x:Nat):
 ∃ w',(Instr.mapUpdate 428 (.map (some b)) (.string s) (fn1 g x)).run Tryz.prog w = .ok () w'∧FnMapN w' b (updF f s ⟨g,some x⟩) (n+1)∧Only [b] w w':=h.put hn s hs ⟨g,some x⟩
theorem FnMapN.lt {w:World}{b n:Nat}{f:List UInt8→Option Fv}(h:FnMapN w b f n):b < w.heap.size:=by
 obtain ⟨h0,D,h1,h2⟩:=h;exact h1.lt
theorem only_step {w a b:World}{m:Nat}(h:Only [] w a)(hm:w.heap.size≤m)(ho:Only [m] a b):Only [] w b:=h.trans ho (fun k hk=>by rw [List.mem_singleton.1 hk];exact Or.inr hm)
theorem needCur_any (w:World)(v:Value)(fn:Fn)(x y:Array Value)(hv:v = .func fn x y)(z:Nat)(hz:w.heap.size=z):Calls Tryz.prog 298 #[v] w fun e w'=>e = .returned (fn1 356 z)∧w'=w.alloc (.cells #[v] 411):=by
 have hmf:∀ (fn:Fn) (first cap:Array Value) (w:World),(Instr.makeFunc fn first cap).run Tryz.prog w = .ok (.func fn first cap) w:=fun _ _ _ _=>rfl
 subst hv hz
 go_enter Tryz.func298,Tryz.ntmps298
 go_wp2
 go_ret
 exact ⟨rfl,rfl⟩
theorem needSaved_any (w:World)(v:Value)(fn:Fn)(x y:Array Value)(hv:v = .func fn x y)(z:Nat)(hz:w.heap.size=z):Calls Tryz.prog 300 #[v] w fun e w'=>e = .returned (fn1 357 z)∧w'=w.alloc (.cells #[v] 411):=by
 have hmf:∀ (fn:Fn) (first cap:Array Value) (w:World),(Instr.makeFunc fn first cap).run Tryz.prog w = .ok (.func fn first cap) w:=fun _ _ _ _=>rfl
 subst hv hz
 go_enter Tryz.func300,Tryz.ntmps300
 go_wp2
 go_ret
 exact ⟨rfl,rfl⟩
theorem inTurn_any (w:World)(v:Value)(fn:Fn)(x y:Array Value)(hv:v = .func fn x y)(z:Nat)(hz:w.heap.size=z):Calls Tryz.prog 326 #[v] w fun e w'=>e = .returned (fn1 374 z)∧w'=w.alloc (.cells #[v] 411):=by
 have hmf:∀ (fn:Fn) (first cap:Array Value) (w:World),(Instr.makeFunc fn first cap).run Tryz.prog w = .ok (.func fn first cap) w:=fun _ _ _ _=>rfl
 subst hv hz
 go_enter Tryz.func326,Tryz.ntmps326
 go_wp2
 go_ret
 exact ⟨rfl,rfl⟩
theorem guarded_any (w:World)(v:Value)(fn:Fn)(x y:Array Value)(hv:v = .func fn x y)(z:Nat)(hz:w.heap.size=z):Calls Tryz.prog 325 #[v] w fun e w'=>e = .returned (fn1 372 z)∧w'=w.alloc (.cells #[v] 411):=by
 have hmf:∀ (fn:Fn) (first cap:Array Value) (w:World),(Instr.makeFunc fn first cap).run Tryz.prog w = .ok (.func fn first cap) w:=fun _ _ _ _=>rfl
 subst hv hz
 go_enter Tryz.func325,Tryz.ntmps325
 go_wp2
 go_ret
 exact ⟨rfl,rfl⟩
theorem asLock_any (w:World)(g:Nat)(z:Nat)(hz:w.heap.size=z):Calls Tryz.prog 330 #[fn0 g] w fun e w'=>e = .returned (fn1 388 z)∧w'=w.alloc (.cells #[fn0 g] 455):=by
 have hmf:∀ (fn:Fn) (first cap:Array Value) (w:World),(Instr.makeFunc fn first cap).run Tryz.prog w = .ok (.func fn first cap) w:=fun _ _ _ _=>rfl
 subst hz
 go_enter Tryz.func330,Tryz.ntmps330
 go_wp2
 go_ret
 exact ⟨rfl,rfl⟩
theorem onFile_any (w:World)(n:Int)(g:Nat)(z:Nat)(hz:w.heap.size=z):Calls Tryz.prog 339 #[.int .i64 n,fn0 g] w fun e w'=>e = .returned (.func (.func 398) #[] #[.pointer (some ⟨z,0,none⟩),.pointer (some ⟨z+1,0,none⟩)])∧w'=(w.alloc (.cells #[.int .i64 n] 3)).alloc (.cells #[fn0 g] 411):=by
 have hmf:∀ (fn:Fn) (first cap:Array Value) (w:World),(Instr.makeFunc fn first cap).run Tryz.prog w = .ok (.func fn first cap) w:=fun _ _ _ _=>rfl
 subst hz
 go_enter Tryz.func339,Tryz.ntmps339
 go_wp2
 go_ret
 exact ⟨by simp,rfl⟩
def WalkingR (w w':World)(e:Ending):Prop:=∃ b x0 x1 x2 x3 x4,e = .returned (.map (some b))∧FnMap w' b (updF (updF (updF (updF (updF (updF (fun _=>none) ⟨#[114,111,111,116]⟩ ⟨296,none⟩) ⟨#[115,97,118,101]⟩ ⟨356,some x0⟩) ⟨#[114,101,115,116,111,114,101]⟩ ⟨357,some x1⟩) ⟨#[108,111,111,107,117,112]⟩ ⟨356,some x2⟩) ⟨#[117,112]⟩ ⟨356,some x3⟩) ⟨#[109,97,107,101]⟩ ⟨356,some x4⟩)∧w.heap.size≤b∧Only [] w w'∧BoxF w' x0 411 (fn0 299)∧BoxF w' x1 411 (fn0 301)∧BoxF w' x2 411 (fn0 302)∧BoxF w' x3 411 (fn0 304)∧BoxF w' x4 411 (fn0 306)
theorem walking_any (w:World):Calls Tryz.prog 284 #[] w fun e w'=>WalkingR w w' e:=by
 have hmm:=@run_makeMap Tryz.prog;have m0:FnMapN (w.alloc (.map #[] 0)) w.heap.size (fun _=>none) 0:=FnMapN.new w;have p0:Only [] w (w.alloc (.map #[] 0)):=(Only.refl [] w).alloc _;obtain ⟨W1,r1,m1,o1⟩:=m0.put0 (by omega) ⟨#[114,111,111,116]⟩ (by decide) 296;have p1:=only_step p0 (Nat.le_refl _) o1;obtain ⟨W2,hW2⟩:∃ W,W=W1.alloc (.cells #[fn0 299] 411):=⟨_,rfl⟩;have q2:Only [] W1 W2:=hW2 ▸ (Only.refl [] _).alloc _;have c2:Calls Tryz.prog 298 #[fn0 299] W1 fun e w'=>e = .returned (fn1 356 W1.heap.size)∧w'=W2:=hW2 ▸ needCur_any W1 _ _ _ _ rfl _ rfl;have e2:BoxF W2 W1.heap.size 411 (fn0 299):=hW2 ▸ BoxF.new W1 _ _
 have e2_ne:W1.heap.size≠w.heap.size:=by have:=m1.lt;omega
 have m2:=m1.only q2 (by simp);have p2:=p1.trans q2 (fun k hk=>by cases hk);obtain ⟨W3,r3,m3,o3⟩:=m2.put1 (by omega) ⟨#[115,97,118,101]⟩ (by decide) 356 W1.heap.size;have p3:=only_step p2 (Nat.le_refl _) o3;have e2:=e2.only o3 (fun k=>e2_ne (List.mem_singleton.1 k));obtain ⟨W4,hW4⟩:∃ W,W=W3.alloc (.cells #[fn0 301] 411):=⟨_,rfl⟩;have q4:Only [] W3 W4:=hW4 ▸ (Only.refl [] _).alloc _;have c4:Calls Tryz.prog 300 #[fn0 301] W3 fun e w'=>e = .returned (fn1 357 W3.heap.size)∧w'=W4:=hW4 ▸ needSaved_any W3 _ _ _ _ rfl _ rfl;have e4:BoxF W4 W3.heap.size 411 (fn0 301):=hW4 ▸ BoxF.new W3 _ _
 have e4_ne:W3.heap.size≠w.heap.size:=by have:=m3.lt;omega
 have m4:=m3.only q4 (by simp);have p4:=p3.trans q4 (fun k hk=>by cases hk);have e2:=e2.only q4 (by simp);obtain ⟨W5,r5,m5,o5⟩:=m4.put1 (by omega) ⟨#[114,101,115,116,111,114,101]⟩ (by decide) 357 W3.heap.size;have p5:=only_step p4 (Nat.le_refl _) o5;have e2:=e2.only o5 (fun k=>e2_ne (List.mem_singleton.1 k));have e4:=e4.only o5 (fun k=>e4_ne (List.mem_singleton.1 k));obtain ⟨W6,hW6⟩:∃ W,W=W5.alloc (.cells #[fn0 302] 411):=⟨_,rfl⟩;have q6:Only [] W5 W6:=hW6 ▸ (Only.refl [] _).alloc _;have c6:Calls Tryz.prog 298 #[fn0 302] W5 fun e w'=>e = .returned (fn1 356 W5.heap.size)∧w'=W6:=hW6 ▸ needCur_any W5 _ _ _ _ rfl _ rfl;have e6:BoxF W6 W5.heap.size 411 (fn0 302):=hW6 ▸ BoxF.new W5 _ _
 have e6_ne:W5.heap.size≠w.heap.size:=by have:=m5.lt;omega
 have m6:=m5.only q6 (by simp);have p6:=p5.trans q6 (fun k hk=>by cases hk);have e2:=e2.only q6 (by simp);have e4:=e4.only q6 (by simp);obtain ⟨W7,r7,m7,o7⟩:=m6.put1 (by omega) ⟨#[108,111,111,107,117,112]⟩ (by decide) 356 W5.heap.size;have p7:=only_step p6 (Nat.le_refl _) o7;have e2:=e2.only o7 (fun k=>e2_ne (List.mem_singleton.1 k));have e4:=e4.only o7 (fun k=>e4_ne (List.mem_singleton.1 k));have e6:=e6.only o7 (fun k=>e6_ne (List.mem_singleton.1 k));obtain ⟨W8,hW8⟩:∃ W,W=W7.alloc (.cells #[fn0 304] 411):=⟨_,rfl⟩;have q8:Only [] W7 W8:=hW8 ▸ (Only.refl [] _).alloc _;have c8:Calls Tryz.prog 298 #[fn0 304] W7 fun e w'=>e = .returned (fn1 356 W7.heap.size)∧w'=W8:=hW8 ▸ needCur_any W7 _ _ _ _ rfl _ rfl;have e8:BoxF W8 W7.heap.size 411 (fn0 304):=hW8 ▸ BoxF.new W7 _ _
 have e8_ne:W7.heap.size≠w.heap.size:=by have:=m7.lt;omega
 have m8:=m7.only q8 (by simp);have p8:=p7.trans q8 (fun k hk=>by cases hk);have e2:=e2.only q8 (by simp);have e4:=e4.only q8 (by simp);have e6:=e6.only q8 (by simp);obtain ⟨W9,r9,m9,o9⟩:=m8.put1 (by omega) ⟨#[117,112]⟩ (by decide) 356 W7.heap.size;have p9:=only_step p8 (Nat.le_refl _) o9;have e2:=e2.only o9 (fun k=>e2_ne (List.mem_singleton.1 k));have e4:=e4.only o9 (fun k=>e4_ne (List.mem_singleton.1 k));have e6:=e6.only o9 (fun k=>e6_ne (List.mem_singleton.1 k));have e8:=e8.only o9 (fun k=>e8_ne (List.mem_singleton.1 k));obtain ⟨W10,hW10⟩:∃ W,W=W9.alloc (.cells #[fn0 306] 411):=⟨_,rfl⟩;have q10:Only [] W9 W10:=hW10 ▸ (Only.refl [] _).alloc _;have c10:Calls Tryz.prog 298 #[fn0 306] W9 fun e w'=>e = .returned (fn1 356 W9.heap.size)∧w'=W10:=hW10 ▸ needCur_any W9 _ _ _ _ rfl _ rfl;have e10:BoxF W10 W9.heap.size 411 (fn0 306):=hW10 ▸ BoxF.new W9 _ _
 have e10_ne:W9.heap.size≠w.heap.size:=by have:=m9.lt;omega
 have m10:=m9.only q10 (by simp);have p10:=p9.trans q10 (fun k hk=>by cases hk);have e2:=e2.only q10 (by simp);have e4:=e4.only q10 (by simp);have e6:=e6.only q10 (by simp);have e8:=e8.only q10 (by simp);obtain ⟨W11,r11,m11,o11⟩:=m10.put1 (by omega) ⟨#[109,97,107,101]⟩ (by decide) 356 W9.heap.size;have p11:=only_step p10 (Nat.le_refl _) o11;have e2:=e2.only o11 (fun k=>e2_ne (List.mem_singleton.1 k));have e4:=e4.only o11 (fun k=>e4_ne (List.mem_singleton.1 k));have e6:=e6.only o11 (fun k=>e6_ne (List.mem_singleton.1 k));have e8:=e8.only o11 (fun k=>e8_ne (List.mem_singleton.1 k));have e10:=e10.only o11 (fun k=>e10_ne (List.mem_singleton.1 k));have HR:Hid (WalkingR w W11 (.returned (.map (some w.heap.size)))):=⟨_,_,_,_,_,_,rfl,m11.map,Nat.le_refl _,p11,e2,e4,e6,e8,e10⟩;clear m0 m1 m2 m3 m4 m5 m6 m7 m8 m9 m10 m11 p0 p1 p2 p3 p4 p5 p6 p7 p8 p9 p10 p11 e2 e4 e6 e8 e10 e2_ne e4_ne e6_ne e8_ne e10_ne q2 q4 q6 q8 q10 o1 o3 o5 o7 o9 o11 hW2 hW4 hW6 hW8 hW10
 go_enter Tryz.func284,Tryz.ntmps284
 go_wp2_with (first
  | (go_at_call 298;(with_reducible refine c2.mono ?_);rintro e wz ⟨rfl,rfl⟩)
  | (go_at_call 300;(with_reducible refine c4.mono ?_);rintro e wz ⟨rfl,rfl⟩)
  | (go_at_call 298;(with_reducible refine c6.mono ?_);rintro e wz ⟨rfl,rfl⟩)
  | (go_at_call 298;(with_reducible refine c8.mono ?_);rintro e wz ⟨rfl,rfl⟩)
  | (go_at_call 298;(with_reducible refine c10.mono ?_);rintro e wz ⟨rfl,rfl⟩))
 go_ret
 exact HR.out
def NamingR (w w':World)(e:Ending):Prop:=∃ b x0 x1 x2 x3 x4,e = .returned (.map (some b))∧FnMap w' b (updF (updF (updF (fun _=>none) ⟨#[108,105,110,107]⟩ ⟨356,some x1⟩) ⟨#[114,101,109,111,118,101]⟩ ⟨356,some x2⟩) ⟨#[114,101,110,97,109,101]⟩ ⟨356,some x4⟩)∧w.heap.size≤b∧Only [] w w'∧BoxF w' x0 411 (fn0 308)∧BoxF w' x1 411 (fn1 357 x0)∧BoxF w' x2 411 (fn0 310)∧BoxF w' x3 411 (fn0 312)∧BoxF w' x4 411 (fn1 357 x3)
theorem naming_any (w:World):Calls Tryz.prog 285 #[] w fun e w'=>NamingR w w' e:=by
 have hmm:=@run_makeMap Tryz.prog;have m0:FnMapN (w.alloc (.map #[] 0)) w.heap.size (fun _=>none) 0:=FnMapN.new w;have p0:Only [] w (w.alloc (.map #[] 0)):=(Only.refl [] w).alloc _;obtain ⟨W1,hW1⟩:∃ W,W=(w.alloc (.map #[] 0)).alloc (.cells #[fn0 308] 411):=⟨_,rfl⟩;have q1:Only [] (w.alloc (.map #[] 0)) W1:=hW1 ▸ (Only.refl [] _).alloc _;have c1:Calls Tryz.prog 300 #[fn0 308] (w.alloc (.map #[] 0)) fun e w'=>e = .returned (fn1 357 (w.heap.size+1))∧w'=W1:=hW1 ▸ needSaved_any (w.alloc (.map #[] 0)) _ _ _ _ rfl _ (World.size_alloc _ _);have e1:BoxF W1 (w.heap.size+1) 411 (fn0 308):=(by rw [hW1,← World.size_alloc w (.map #[] 0)];exact BoxF.new _ _ _)
 have e1_ne:(w.heap.size+1)≠w.heap.size:=by have:=m0.lt;omega
 have m1:=m0.only q1 (by simp);have p1:=p0.trans q1 (fun k hk=>by cases hk);obtain ⟨W2,hW2⟩:∃ W,W=W1.alloc (.cells #[fn1 357 (w.heap.size+1)] 411):=⟨_,rfl⟩;have q2:Only [] W1 W2:=hW2 ▸ (Only.refl [] _).alloc _;have c2:Calls Tryz.prog 298 #[fn1 357 (w.heap.size+1)] W1 fun e w'=>e = .returned (fn1 356 W1.heap.size)∧w'=W2:=hW2 ▸ needCur_any W1 _ _ _ _ rfl _ rfl;have e2:BoxF W2 W1.heap.size 411 (fn1 357 (w.heap.size+1)):=hW2 ▸ BoxF.new W1 _ _
 have e2_ne:W1.heap.size≠w.heap.size:=by have:=m1.lt;omega
 have m2:=m1.only q2 (by simp);have p2:=p1.trans q2 (fun k hk=>by cases hk);have e1:=e1.only q2 (by simp);obtain ⟨W3,r3,m3,o3⟩:=m2.put1 (by omega) ⟨#[108,105,110,107]⟩ (by decide) 356 W1.heap.size;have p3:=only_step p2 (Nat.le_refl _) o3;have e1:=e1.only o3 (fun k=>e1_ne (List.mem_singleton.1 k));have e2:=e2.only o3 (fun k=>e2_ne (List.mem_singleton.1 k));obtain ⟨W4,hW4⟩:∃ W,W=W3.alloc (.cells #[fn0 310] 411):=⟨_,rfl⟩;have q4:Only [] W3 W4:=hW4 ▸ (Only.refl [] _).alloc _;have c4:Calls Tryz.prog 298 #[fn0 310] W3 fun e w'=>e = .returned (fn1 356 W3.heap.size)∧w'=W4:=hW4 ▸ needCur_any W3 _ _ _ _ rfl _ rfl;have e4:BoxF W4 W3.heap.size 411 (fn0 310):=hW4 ▸ BoxF.new W3 _ _
 have e4_ne:W3.heap.size≠w.heap.size:=by have:=m3.lt;omega
 have m4:=m3.only q4 (by simp);have p4:=p3.trans q4 (fun k hk=>by cases hk);have e1:=e1.only q4 (by simp);have e2:=e2.only q4 (by simp);obtain ⟨W5,r5,m5,o5⟩:=m4.put1 (by omega) ⟨#[114,101,109,111,118,101]⟩ (by decide) 356 W3.heap.size;have p5:=only_step p4 (Nat.le_refl _) o5;have e1:=e1.only o5 (fun k=>e1_ne (List.mem_singleton.1 k));have e2:=e2.only o5 (fun k=>e2_ne (List.mem_singleton.1 k));have e4:=e4.only o5 (fun k=>e4_ne (List.mem_singleton.1 k));obtain ⟨W6,hW6⟩:∃ W,W=W5.alloc (.cells #[fn0 312] 411):=⟨_,rfl⟩;have q6:Only [] W5 W6:=hW6 ▸ (Only.refl [] _).alloc _;have c6:Calls Tryz.prog 300 #[fn0 312] W5 fun e w'=>e = .returned (fn1 357 W5.heap.size)∧w'=W6:=hW6 ▸ needSaved_any W5 _ _ _ _ rfl _ rfl;have e6:BoxF W6 W5.heap.size 411 (fn0 312):=hW6 ▸ BoxF.new W5 _ _
 have e6_ne:W5.heap.size≠w.heap.size:=by have:=m5.lt;omega
 have m6:=m5.only q6 (by simp);have p6:=p5.trans q6 (fun k hk=>by cases hk);have e1:=e1.only q6 (by simp);have e2:=e2.only q6 (by simp);have e4:=e4.only q6 (by simp);obtain ⟨W7,hW7⟩:∃ W,W=W6.alloc (.cells #[fn1 357 W5.heap.size] 411):=⟨_,rfl⟩;have q7:Only [] W6 W7:=hW7 ▸ (Only.refl [] _).alloc _;have c7:Calls Tryz.prog 298 #[fn1 357 W5.heap.size] W6 fun e w'=>e = .returned (fn1 356 W6.heap.size)∧w'=W7:=hW7 ▸ needCur_any W6 _ _ _ _ rfl _ rfl;have e7:BoxF W7 W6.heap.size 411 (fn1 357 W5.heap.size):=hW7 ▸ BoxF.new W6 _ _
 have e7_ne:W6.heap.size≠w.heap.size:=by have:=m6.lt;omega
 have m7:=m6.only q7 (by simp);have p7:=p6.trans q7 (fun k hk=>by cases hk);have e1:=e1.only q7 (by simp);have e2:=e2.only q7 (by simp);have e4:=e4.only q7 (by simp);have e6:=e6.only q7 (by simp);obtain ⟨W8,r8,m8,o8⟩:=m7.put1 (by omega) ⟨#[114,101,110,97,109,101]⟩ (by decide) 356 W6.heap.size;have p8:=only_step p7 (Nat.le_refl _) o8;have e1:=e1.only o8 (fun k=>e1_ne (List.mem_singleton.1 k));have e2:=e2.only o8 (fun k=>e2_ne (List.mem_singleton.1 k));have e4:=e4.only o8 (fun k=>e4_ne (List.mem_singleton.1 k));have e6:=e6.only o8 (fun k=>e6_ne (List.mem_singleton.1 k));have e7:=e7.only o8 (fun k=>e7_ne (List.mem_singleton.1 k));have HR:Hid (NamingR w W8 (.returned (.map (some w.heap.size)))):=⟨_,_,_,_,_,_,rfl,m8.map,Nat.le_refl _,p8,e1,e2,e4,e6,e7⟩;clear m0 m1 m2 m3 m4 m5 m6 m7 m8 p0 p1 p2 p3 p4 p5 p6 p7 p8 e1 e2 e4 e6 e7 e1_ne e2_ne e4_ne e6_ne e7_ne q1 q2 q4 q6 q7 o3 o5 o8 hW1 hW2 hW4 hW6 hW7
 go_enter Tryz.func285,Tryz.ntmps285
 go_wp2_with (first
  | (go_at_call 300;(with_reducible refine c1.mono ?_);rintro e wz ⟨rfl,rfl⟩)
  | (go_at_call 298;(with_reducible refine c2.mono ?_);rintro e wz ⟨rfl,rfl⟩)
  | (go_at_call 298;(with_reducible refine c4.mono ?_);rintro e wz ⟨rfl,rfl⟩)
  | (go_at_call 300;(with_reducible refine c6.mono ?_);rintro e wz ⟨rfl,rfl⟩)
  | (go_at_call 298;(with_reducible refine c7.mono ?_);rintro e wz ⟨rfl,rfl⟩))
 go_ret
 exact HR.out
def AskingR (w w':World)(e:Ending):Prop:=∃ b x0 x1 x2,e = .returned (.map (some b))∧FnMap w' b (updF (updF (updF (fun _=>none) ⟨#[108,105,115,116]⟩ ⟨356,some x0⟩) ⟨#[97,116,116,114]⟩ ⟨356,some x1⟩) ⟨#[104,97,110,100,108,101]⟩ ⟨356,some x2⟩)∧w.heap.size≤b∧Only [] w w'∧BoxF w' x0 411 (fn0 314)∧BoxF w' x1 411 (fn0 315)∧BoxF w' x2 411 (fn0 317)
theorem asking_any (w:World):Calls Tryz.prog 286 #[] w fun e w'=>AskingR w w' e:=by
 have hmm:=@run_makeMap Tryz.prog;have m0:FnMapN (w.alloc (.map #[] 0)) w.heap.size (fun _=>none) 0:=FnMapN.new w;have p0:Only [] w (w.alloc (.map #[] 0)):=(Only.refl [] w).alloc _;obtain ⟨W1,hW1⟩:∃ W,W=(w.alloc (.map #[] 0)).alloc (.cells #[fn0 314] 411):=⟨_,rfl⟩;have q1:Only [] (w.alloc (.map #[] 0)) W1:=hW1 ▸ (Only.refl [] _).alloc _;have c1:Calls Tryz.prog 298 #[fn0 314] (w.alloc (.map #[] 0)) fun e w'=>e = .returned (fn1 356 (w.heap.size+1))∧w'=W1:=hW1 ▸ needCur_any (w.alloc (.map #[] 0)) _ _ _ _ rfl _ (World.size_alloc _ _);have e1:BoxF W1 (w.heap.size+1) 411 (fn0 314):=(by rw [hW1,← World.size_alloc w (.map #[] 0)];exact BoxF.new _ _ _)
 have e1_ne:(w.heap.size+1)≠w.heap.size:=by have:=m0.lt;omega
 have m1:=m0.only q1 (by simp);have p1:=p0.trans q1 (fun k hk=>by cases hk);obtain ⟨W2,r2,m2,o2⟩:=m1.put1 (by omega) ⟨#[108,105,115,116]⟩ (by decide) 356 (w.heap.size+1);have p2:=only_step p1 (Nat.le_refl _) o2;have e1:=e1.only o2 (fun k=>e1_ne (List.mem_singleton.1 k));obtain ⟨W3,hW3⟩:∃ W,W=W2.alloc (.cells #[fn0 315] 411):=⟨_,rfl⟩;have q3:Only [] W2 W3:=hW3 ▸ (Only.refl [] _).alloc _;have c3:Calls Tryz.prog 298 #[fn0 315] W2 fun e w'=>e = .returned (fn1 356 W2.heap.size)∧w'=W3:=hW3 ▸ needCur_any W2 _ _ _ _ rfl _ rfl;have e3:BoxF W3 W2.heap.size 411 (fn0 315):=hW3 ▸ BoxF.new W2 _ _
 have e3_ne:W2.heap.size≠w.heap.size:=by have:=m2.lt;omega
 have m3:=m2.only q3 (by simp);have p3:=p2.trans q3 (fun k hk=>by cases hk);have e1:=e1.only q3 (by simp);obtain ⟨W4,r4,m4,o4⟩:=m3.put1 (by omega) ⟨#[97,116,116,114]⟩ (by decide) 356 W2.heap.size;have p4:=only_step p3 (Nat.le_refl _) o4;have e1:=e1.only o4 (fun k=>e1_ne (List.mem_singleton.1 k));have e3:=e3.only o4 (fun k=>e3_ne (List.mem_singleton.1 k));obtain ⟨W5,hW5⟩:∃ W,W=W4.alloc (.cells #[fn0 317] 411):=⟨_,rfl⟩;have q5:Only [] W4 W5:=hW5 ▸ (Only.refl [] _).alloc _;have c5:Calls Tryz.prog 298 #[fn0 317] W4 fun e w'=>e = .returned (fn1 356 W4.heap.size)∧w'=W5:=hW5 ▸ needCur_any W4 _ _ _ _ rfl _ rfl;have e5:BoxF W5 W4.heap.size 411 (fn0 317):=hW5 ▸ BoxF.new W4 _ _
 have e5_ne:W4.heap.size≠w.heap.size:=by have:=m4.lt;omega
 have m5:=m4.only q5 (by simp);have p5:=p4.trans q5 (fun k hk=>by cases hk);have e1:=e1.only q5 (by simp);have e3:=e3.only q5 (by simp);obtain ⟨W6,r6,m6,o6⟩:=m5.put1 (by omega) ⟨#[104,97,110,100,108,101]⟩ (by decide) 356 W4.heap.size;have p6:=only_step p5 (Nat.le_refl _) o6;have e1:=e1.only o6 (fun k=>e1_ne (List.mem_singleton.1 k));have e3:=e3.only o6 (fun k=>e3_ne (List.mem_singleton.1 k));have e5:=e5.only o6 (fun k=>e5_ne (List.mem_singleton.1 k));have HR:Hid (AskingR w W6 (.returned (.map (some w.heap.size)))):=⟨_,_,_,_,rfl,m6.map,Nat.le_refl _,p6,e1,e3,e5⟩;clear m0 m1 m2 m3 m4 m5 m6 p0 p1 p2 p3 p4 p5 p6 e1 e3 e5 e1_ne e3_ne e5_ne q1 q3 q5 o2 o4 o6 hW1 hW3 hW5
 go_enter Tryz.func286,Tryz.ntmps286
 go_wp2_with (first
  | (go_at_call 298;(with_reducible refine c1.mono ?_);rintro e wz ⟨rfl,rfl⟩)
  | (go_at_call 298;(with_reducible refine c3.mono ?_);rintro e wz ⟨rfl,rfl⟩)
  | (go_at_call 298;(with_reducible refine c5.mono ?_);rintro e wz ⟨rfl,rfl⟩))
 go_ret
 exact HR.out
def KnowingR (w w':World)(e:Ending):Prop:=∃ b,e = .returned (.map (some b))∧FnMap w' b (updF (updF (updF (fun _=>none) ⟨#[99,108,105,101,110,116]⟩ ⟨318,none⟩) ⟨#[99,111,110,102,105,114,109]⟩ ⟨320,none⟩) ⟨#[114,101,110,101,119]⟩ ⟨323,none⟩)∧w.heap.size≤b∧Only [] w w'
theorem knowing_any (w:World):Calls Tryz.prog 287 #[] w fun e w'=>KnowingR w w' e:=by
 have hmm:=@run_makeMap Tryz.prog;have m0:FnMapN (w.alloc (.map #[] 0)) w.heap.size (fun _=>none) 0:=FnMapN.new w;have p0:Only [] w (w.alloc (.map #[] 0)):=(Only.refl [] w).alloc _;obtain ⟨W1,r1,m1,o1⟩:=m0.put0 (by omega) ⟨#[99,108,105,101,110,116]⟩ (by decide) 318;have p1:=only_step p0 (Nat.le_refl _) o1;obtain ⟨W2,r2,m2,o2⟩:=m1.put0 (by omega) ⟨#[99,111,110,102,105,114,109]⟩ (by decide) 320;have p2:=only_step p1 (Nat.le_refl _) o2;obtain ⟨W3,r3,m3,o3⟩:=m2.put0 (by omega) ⟨#[114,101,110,101,119]⟩ (by decide) 323;have p3:=only_step p2 (Nat.le_refl _) o3;have HR:Hid (KnowingR w W3 (.returned (.map (some w.heap.size)))):=⟨_,rfl,m3.map,Nat.le_refl _,p3⟩;clear m0 m1 m2 m3 p0 p1 p2 p3 o1 o2 o3
 go_enter Tryz.func287,Tryz.ntmps287
 go_wp2_with (first
  | fail)
 go_ret
 exact HR.out
def OpeningR (w w':World)(e:Ending):Prop:=∃ b x0 x1 x2 x3 x4,e = .returned (.map (some b))∧FnMap w' b (updF (updF (updF (fun _=>none) ⟨#[111,112,101,110]⟩ ⟨356,some x2⟩) ⟨#[99,108,111,115,101]⟩ ⟨374,some x3⟩) ⟨#[100,111,119,110]⟩ ⟨374,some x4⟩)∧w.heap.size≤b∧Only [] w w'∧BoxF w' x0 411 (fn0 327)∧BoxF w' x1 411 (fn1 374 x0)∧BoxF w' x2 411 (fn1 372 x1)∧BoxF w' x3 411 (fn0 328)∧BoxF w' x4 411 (fn0 329)
theorem opening_any (w:World):Calls Tryz.prog 288 #[] w fun e w'=>OpeningR w w' e:=by
 have hmm:=@run_makeMap Tryz.prog;have m0:FnMapN (w.alloc (.map #[] 0)) w.heap.size (fun _=>none) 0:=FnMapN.new w;have p0:Only [] w (w.alloc (.map #[] 0)):=(Only.refl [] w).alloc _;obtain ⟨W1,hW1⟩:∃ W,W=(w.alloc (.map #[] 0)).alloc (.cells #[fn0 327] 411):=⟨_,rfl⟩;have q1:Only [] (w.alloc (.map #[] 0)) W1:=hW1 ▸ (Only.refl [] _).alloc _;have c1:Calls Tryz.prog 326 #[fn0 327] (w.alloc (.map #[] 0)) fun e w'=>e = .returned (fn1 374 (w.heap.size+1))∧w'=W1:=hW1 ▸ inTurn_any (w.alloc (.map #[] 0)) _ _ _ _ rfl _ (World.size_alloc _ _);have e1:BoxF W1 (w.heap.size+1) 411 (fn0 327):=(by rw [hW1,← World.size_alloc w (.map #[] 0)];exact BoxF.new _ _ _)
 have e1_ne:(w.heap.size+1)≠w.heap.size:=by have:=m0.lt;omega
 have m1:=m0.only q1 (by simp);have p1:=p0.trans q1 (fun k hk=>by cases hk);obtain ⟨W2,hW2⟩:∃ W,W=W1.alloc (.cells #[fn1 374 (w.heap.size+1)] 411):=⟨_,rfl⟩;have q2:Only [] W1 W2:=hW2 ▸ (Only.refl [] _).alloc _;have c2:Calls Tryz.prog 325 #[fn1 374 (w.heap.size+1)] W1 fun e w'=>e = .returned (fn1 372 W1.heap.size)∧w'=W2:=hW2 ▸ guarded_any W1 _ _ _ _ rfl _ rfl;have e2:BoxF W2 W1.heap.size 411 (fn1 374 (w.heap.size+1)):=hW2 ▸ BoxF.new W1 _ _
 have e2_ne:W1.heap.size≠w.heap.size:=by have:=m1.lt;omega
 have m2:=m1.only q2 (by simp);have p2:=p1.trans q2 (fun k hk=>by cases hk);have e1:=e1.only q2 (by simp);obtain ⟨W3,hW3⟩:∃ W,W=W2.alloc (.cells #[fn1 372 W1.heap.size] 411):=⟨_,rfl⟩;have q3:Only [] W2 W3:=hW3 ▸ (Only.refl [] _).alloc _;have c3:Calls Tryz.prog 298 #[fn1 372 W1.heap.size] W2 fun e w'=>e = .returned (fn1 356 W2.heap.size)∧w'=W3:=hW3 ▸ needCur_any W2 _ _ _ _ rfl _ rfl;have e3:BoxF W3 W2.heap.size 411 (fn1 372 W1.heap.size):=hW3 ▸ BoxF.new W2 _ _
 have e3_ne:W2.heap.size≠w.heap.size:=by have:=m2.lt;omega
 have m3:=m2.only q3 (by simp);have p3:=p2.trans q3 (fun k hk=>by cases hk);have e1:=e1.only q3 (by simp);have e2:=e2.only q3 (by simp);obtain ⟨W4,r4,m4,o4⟩:=m3.put1 (by omega) ⟨#[111,112,101,110]⟩ (by decide) 356 W2.heap.size;have p4:=only_step p3 (Nat.le_refl _) o4;have e1:=e1.only o4 (fun k=>e1_ne (List.mem_singleton.1 k));have e2:=e2.only o4 (fun k=>e2_ne (List.mem_singleton.1 k));have e3:=e3.only o4 (fun k=>e3_ne (List.mem_singleton.1 k));obtain ⟨W5,hW5⟩:∃ W,W=W4.alloc (.cells #[fn0 328] 411):=⟨_,rfl⟩;have q5:Only [] W4 W5:=hW5 ▸ (Only.refl [] _).alloc _;have c5:Calls Tryz.prog 326 #[fn0 328] W4 fun e w'=>e = .returned (fn1 374 W4.heap.size)∧w'=W5:=hW5 ▸ inTurn_any W4 _ _ _ _ rfl _ rfl;have e5:BoxF W5 W4.heap.size 411 (fn0 328):=hW5 ▸ BoxF.new W4 _ _
 have e5_ne:W4.heap.size≠w.heap.size:=by have:=m4.lt;omega
 have m5:=m4.only q5 (by simp);have p5:=p4.trans q5 (fun k hk=>by cases hk);have e1:=e1.only q5 (by simp);have e2:=e2.only q5 (by simp);have e3:=e3.only q5 (by simp);obtain ⟨W6,r6,m6,o6⟩:=m5.put1 (by omega) ⟨#[99,108,111,115,101]⟩ (by decide) 374 W4.heap.size;have p6:=only_step p5 (Nat.le_refl _) o6;have e1:=e1.only o6 (fun k=>e1_ne (List.mem_singleton.1 k));have e2:=e2.only o6 (fun k=>e2_ne (List.mem_singleton.1 k));have e3:=e3.only o6 (fun k=>e3_ne (List.mem_singleton.1 k));have e5:=e5.only o6 (fun k=>e5_ne (List.mem_singleton.1 k));obtain ⟨W7,hW7⟩:∃ W,W=W6.alloc (.cells #[fn0 329] 411):=⟨_,rfl⟩;have q7:Only [] W6 W7:=hW7 ▸ (Only.refl [] _).alloc _;have c7:Calls Tryz.prog 326 #[fn0 329] W6 fun e w'=>e = .returned (fn1 374 W6.heap.size)∧w'=W7:=hW7 ▸ inTurn_any W6 _ _ _ _ rfl _ rfl;have e7:BoxF W7 W6.heap.size 411 (fn0 329):=hW7 ▸ BoxF.new W6 _ _
 have e7_ne:W6.heap.size≠w.heap.size:=by have:=m6.lt;omega
 have m7:=m6.only q7 (by simp);have p7:=p6.trans q7 (fun k hk=>by cases hk);have e1:=e1.only q7 (by simp);have e2:=e2.only q7 (by simp);have e3:=e3.only q7 (by simp);have e5:=e5.only q7 (by simp);obtain ⟨W8,r8,m8,o8⟩:=m7.put1 (by omega) ⟨#[100,111,119,110]⟩ (by decide) 374 W6.heap.size;have p8:=only_step p7 (Nat.le_refl _) o8;have e1:=e1.only o8 (fun k=>e1_ne (List.mem_singleton.1 k));have e2:=e2.only o8 (fun k=>e2_ne (List.mem_singleton.1 k));have e3:=e3.only o8 (fun k=>e3_ne (List.mem_singleton.1 k));have e5:=e5.only o8 (fun k=>e5_ne (List.mem_singleton.1 k));have e7:=e7.only o8 (fun k=>e7_ne (List.mem_singleton.1 k));have HR:Hid (OpeningR w W8 (.returned (.map (some w.heap.size)))):=⟨_,_,_,_,_,_,rfl,m8.map,Nat.le_refl _,p8,e1,e2,e3,e5,e7⟩;clear m0 m1 m2 m3 m4 m5 m6 m7 m8 p0 p1 p2 p3 p4 p5 p6 p7 p8 e1 e2 e3 e5 e7 e1_ne e2_ne e3_ne e5_ne e7_ne q1 q2 q3 q5 q7 o4 o6 o8 hW1 hW2 hW3 hW5 hW7
 go_enter Tryz.func288,Tryz.ntmps288
 go_wp2_with (first
  | (go_at_call 326;(with_reducible refine c1.mono ?_);rintro e wz ⟨rfl,rfl⟩)
  | (go_at_call 325;(with_reducible refine c2.mono ?_);rintro e wz ⟨rfl,rfl⟩)
  | (go_at_call 298;(with_reducible refine c3.mono ?_);rintro e wz ⟨rfl,rfl⟩)
  | (go_at_call 326;(with_reducible refine c5.mono ?_);rintro e wz ⟨rfl,rfl⟩)
  | (go_at_call 326;(with_reducible refine c7.mono ?_);rintro e wz ⟨rfl,rfl⟩))
 go_ret
 exact HR.out
def LockingR (w w':World)(e:Ending):Prop:=∃ b x0 x1 x2,e = .returned (.map (some b))∧FnMap w' b (updF (updF (updF (fun _=>none) ⟨#[108,111,99,107]⟩ ⟨372,some x1⟩) ⟨#[116,101,115,116]⟩ ⟨388,some x2⟩) ⟨#[117,110,108,111,99,107]⟩ ⟨335,none⟩)∧w.heap.size≤b∧Only [] w w'∧BoxF w' x0 455 (fn0 331)∧BoxF w' x1 411 (fn1 388 x0)∧BoxF w' x2 455 (fn0 333)
theorem locking_any (w:World):Calls Tryz.prog 289 #[] w fun e w'=>LockingR w w' e:=by
 have hmm:=@run_makeMap Tryz.prog;have m0:FnMapN (w.alloc (.map #[] 0)) w.heap.size (fun _=>none) 0:=FnMapN.new w;have p0:Only [] w (w.alloc (.map #[] 0)):=(Only.refl [] w).alloc _;obtain ⟨W1,hW1⟩:∃ W,W=(w.alloc (.map #[] 0)).alloc (.cells #[fn0 331] 455):=⟨_,rfl⟩;have q1:Only [] (w.alloc (.map #[] 0)) W1:=hW1 ▸ (Only.refl [] _).alloc _;have c1:Calls Tryz.prog 330 #[fn0 331] (w.alloc (.map #[] 0)) fun e w'=>e = .returned (fn1 388 (w.heap.size+1))∧w'=W1:=hW1 ▸ asLock_any (w.alloc (.map #[] 0)) _ _ (World.size_alloc _ _);have e1:BoxF W1 (w.heap.size+1) 455 (fn0 331):=(by rw [hW1,← World.size_alloc w (.map #[] 0)];exact BoxF.new _ _ _)
 have e1_ne:(w.heap.size+1)≠w.heap.size:=by have:=m0.lt;omega
 have m1:=m0.only q1 (by simp);have p1:=p0.trans q1 (fun k hk=>by cases hk);obtain ⟨W2,hW2⟩:∃ W,W=W1.alloc (.cells #[fn1 388 (w.heap.size+1)] 411):=⟨_,rfl⟩;have q2:Only [] W1 W2:=hW2 ▸ (Only.refl [] _).alloc _;have c2:Calls Tryz.prog 325 #[fn1 388 (w.heap.size+1)] W1 fun e w'=>e = .returned (fn1 372 W1.heap.size)∧w'=W2:=hW2 ▸ guarded_any W1 _ _ _ _ rfl _ rfl;have e2:BoxF W2 W1.heap.size 411 (fn1 388 (w.heap.size+1)):=hW2 ▸ BoxF.new W1 _ _
 have e2_ne:W1.heap.size≠w.heap.size:=by have:=m1.lt;omega
 have m2:=m1.only q2 (by simp);have p2:=p1.trans q2 (fun k hk=>by cases hk);have e1:=e1.only q2 (by simp);obtain ⟨W3,r3,m3,o3⟩:=m2.put1 (by omega) ⟨#[108,111,99,107]⟩ (by decide) 372 W1.heap.size;have p3:=only_step p2 (Nat.le_refl _) o3;have e1:=e1.only o3 (fun k=>e1_ne (List.mem_singleton.1 k));have e2:=e2.only o3 (fun k=>e2_ne (List.mem_singleton.1 k));obtain ⟨W4,hW4⟩:∃ W,W=W3.alloc (.cells #[fn0 333] 455):=⟨_,rfl⟩;have q4:Only [] W3 W4:=hW4 ▸ (Only.refl [] _).alloc _;have c4:Calls Tryz.prog 330 #[fn0 333] W3 fun e w'=>e = .returned (fn1 388 W3.heap.size)∧w'=W4:=hW4 ▸ asLock_any W3 _ _ rfl;have e4:BoxF W4 W3.heap.size 455 (fn0 333):=hW4 ▸ BoxF.new W3 _ _
 have e4_ne:W3.heap.size≠w.heap.size:=by have:=m3.lt;omega
 have m4:=m3.only q4 (by simp);have p4:=p3.trans q4 (fun k hk=>by cases hk);have e1:=e1.only q4 (by simp);have e2:=e2.only q4 (by simp);obtain ⟨W5,r5,m5,o5⟩:=m4.put1 (by omega) ⟨#[116,101,115,116]⟩ (by decide) 388 W3.heap.size;have p5:=only_step p4 (Nat.le_refl _) o5;have e1:=e1.only o5 (fun k=>e1_ne (List.mem_singleton.1 k));have e2:=e2.only o5 (fun k=>e2_ne (List.mem_singleton.1 k));have e4:=e4.only o5 (fun k=>e4_ne (List.mem_singleton.1 k));obtain ⟨W6,r6,m6,o6⟩:=m5.put0 (by omega) ⟨#[117,110,108,111,99,107]⟩ (by decide) 335;have p6:=only_step p5 (Nat.le_refl _) o6;have e1:=e1.only o6 (fun k=>e1_ne (List.mem_singleton.1 k));have e2:=e2.only o6 (fun k=>e2_ne (List.mem_singleton.1 k));have e4:=e4.only o6 (fun k=>e4_ne (List.mem_singleton.1 k));have HR:Hid (LockingR w W6 (.returned (.map (some w.heap.size)))):=⟨_,_,_,_,rfl,m6.map,Nat.le_refl _,p6,e1,e2,e4⟩;clear m0 m1 m2 m3 m4 m5 m6 p0 p1 p2 p3 p4 p5 p6 e1 e2 e4 e1_ne e2_ne e4_ne q1 q2 q4 o3 o5 o6 hW1 hW2 hW4
 go_enter Tryz.func289,Tryz.ntmps289
 go_wp2_with (first
  | (go_at_call 330;(with_reducible refine c1.mono ?_);rintro e wz ⟨rfl,rfl⟩)
  | (go_at_call 325;(with_reducible refine c2.mono ?_);rintro e wz ⟨rfl,rfl⟩)
  | (go_at_call 330;(with_reducible refine c4.mono ?_);rintro e wz ⟨rfl,rfl⟩))
 go_ret
 exact HR.out
def UsingR (w w':World)(e:Ending):Prop:=∃ b x0 x1 x2 x3 x4 x5 x6 x7 x8 x9 x10,e = .returned (.map (some b))∧FnMap w' b (updF (updF (updF (fun _=>none) ⟨#[114,101,97,100]⟩ ⟨356,some x2⟩) ⟨#[119,114,105,116,101]⟩ ⟨356,some x6⟩) ⟨#[114,101,115,105,122,101]⟩ ⟨356,some x10⟩)∧w.heap.size≤b∧Only [] w w'∧BoxF w' x0 3 (.int .i64 1)∧BoxF w' x1 411 (fn0 340)∧BoxF w' x2 411 (.func (.func 398) #[] #[.pointer (some ⟨x0,0,none⟩),.pointer (some ⟨x1,0,none⟩)])∧BoxF w' x3 3 (.int .i64 2)∧BoxF w' x4 411 (fn0 342)∧BoxF w' x5 411 (.func (.func 398) #[] #[.pointer (some ⟨x3,0,none⟩),.pointer (some ⟨x4,0,none⟩)])∧BoxF w' x6 411 (fn1 372 x5)∧BoxF w' x7 3 (.int .i64 2)∧BoxF w' x8 411 (fn0 344)∧BoxF w' x9 411 (.func (.func 398) #[] #[.pointer (some ⟨x7,0,none⟩),.pointer (some ⟨x8,0,none⟩)])∧BoxF w' x10 411 (fn1 372 x9)
theorem using_any (w:World):Calls Tryz.prog 290 #[] w fun e w'=>UsingR w w' e:=by
 have hmm:=@run_makeMap Tryz.prog;have m0:FnMapN (w.alloc (.map #[] 0)) w.heap.size (fun _=>none) 0:=FnMapN.new w;have p0:Only [] w (w.alloc (.map #[] 0)):=(Only.refl [] w).alloc _;obtain ⟨W1,hW1⟩:∃ W,W=((w.alloc (.map #[] 0)).alloc (.cells #[.int .i64 1] 3)).alloc (.cells #[fn0 340] 411):=⟨_,rfl⟩;have q1:Only [] (w.alloc (.map #[] 0)) W1:=hW1 ▸ ((Only.refl [] _).alloc _).alloc _;have c1:Calls Tryz.prog 339 #[.int .i64 1,fn0 340] (w.alloc (.map #[] 0)) fun e w'=>e = .returned (.func (.func 398) #[] #[.pointer (some ⟨(w.heap.size+1),0,none⟩),.pointer (some ⟨(w.heap.size+1)+1,0,none⟩)])∧w'=W1:=hW1 ▸ onFile_any (w.alloc (.map #[] 0)) 1 _ _ (World.size_alloc _ _)
 have ea1:BoxF W1 (w.heap.size+1) 3 (.int .i64 1):=by have h:=(BoxF.new (w.alloc (.map #[] 0)) 3 (.int .i64 1)).only ((Only.refl [] _).alloc (.cells #[fn0 340] 411)) (by simp);rw [World.size_alloc w (.map #[] 0)] at h;rw [hW1];exact h
 have ea1_ne:(w.heap.size+1)≠w.heap.size:=by have:=m0.lt;omega
 have eb1:BoxF W1 ((w.heap.size+1)+1) 411 (fn0 340):=by rw [hW1,show (w.heap.size+1)+1=((w.alloc (.map #[] 0)).alloc (.cells #[.int .i64 1] 3)).heap.size by simp];exact BoxF.new _ _ _
 have eb1_ne:((w.heap.size+1)+1)≠w.heap.size:=by have:=m0.lt;omega
 have m1:=m0.only q1 (by simp);have p1:=p0.trans q1 (fun k hk=>by cases hk);obtain ⟨W2,hW2⟩:∃ W,W=W1.alloc (.cells #[.func (.func 398) #[] #[.pointer (some ⟨(w.heap.size+1),0,none⟩),.pointer (some ⟨(w.heap.size+1)+1,0,none⟩)]] 411):=⟨_,rfl⟩;have q2:Only [] W1 W2:=hW2 ▸ (Only.refl [] _).alloc _;have c2:Calls Tryz.prog 298 #[.func (.func 398) #[] #[.pointer (some ⟨(w.heap.size+1),0,none⟩),.pointer (some ⟨(w.heap.size+1)+1,0,none⟩)]] W1 fun e w'=>e = .returned (fn1 356 W1.heap.size)∧w'=W2:=hW2 ▸ needCur_any W1 _ _ _ _ rfl _ rfl;have e2:BoxF W2 W1.heap.size 411 (.func (.func 398) #[] #[.pointer (some ⟨(w.heap.size+1),0,none⟩),.pointer (some ⟨(w.heap.size+1)+1,0,none⟩)]):=hW2 ▸ BoxF.new W1 _ _
 have e2_ne:W1.heap.size≠w.heap.size:=by have:=m1.lt;omega
 have m2:=m1.only q2 (by simp);have p2:=p1.trans q2 (fun k hk=>by cases hk);have ea1:=ea1.only q2 (by simp);have eb1:=eb1.only q2 (by simp);obtain ⟨W3,r3,m3,o3⟩:=m2.put1 (by omega) ⟨#[114,101,97,100]⟩ (by decide) 356 W1.heap.size;have p3:=only_step p2 (Nat.le_refl _) o3;have ea1:=ea1.only o3 (fun k=>ea1_ne (List.mem_singleton.1 k));have eb1:=eb1.only o3 (fun k=>eb1_ne (List.mem_singleton.1 k));have e2:=e2.only o3 (fun k=>e2_ne (List.mem_singleton.1 k));obtain ⟨W4,hW4⟩:∃ W,W=(W3.alloc (.cells #[.int .i64 2] 3)).alloc (.cells #[fn0 342] 411):=⟨_,rfl⟩;have q4:Only [] W3 W4:=hW4 ▸ ((Only.refl [] _).alloc _).alloc _;have c4:Calls Tryz.prog 339 #[.int .i64 2,fn0 342] W3 fun e w'=>e = .returned (.func (.func 398) #[] #[.pointer (some ⟨W3.heap.size,0,none⟩),.pointer (some ⟨W3.heap.size+1,0,none⟩)])∧w'=W4:=hW4 ▸ onFile_any W3 2 _ _ rfl
 have ea4:BoxF W4 W3.heap.size 3 (.int .i64 2):=by rw [hW4];exact (BoxF.new W3 _ _).only ((Only.refl [] _).alloc _) (by simp)
 have ea4_ne:W3.heap.size≠w.heap.size:=by have:=m3.lt;omega
 have eb4:BoxF W4 (W3.heap.size+1) 411 (fn0 342):=by rw [hW4,show W3.heap.size+1=(W3.alloc (.cells #[.int .i64 2] 3)).heap.size by simp];exact BoxF.new _ _ _
 have eb4_ne:(W3.heap.size+1)≠w.heap.size:=by have:=m3.lt;omega
 have m4:=m3.only q4 (by simp);have p4:=p3.trans q4 (fun k hk=>by cases hk);have ea1:=ea1.only q4 (by simp);have eb1:=eb1.only q4 (by simp);have e2:=e2.only q4 (by simp);obtain ⟨W5,hW5⟩:∃ W,W=W4.alloc (.cells #[.func (.func 398) #[] #[.pointer (some ⟨W3.heap.size,0,none⟩),.pointer (some ⟨W3.heap.size+1,0,none⟩)]] 411):=⟨_,rfl⟩;have q5:Only [] W4 W5:=hW5 ▸ (Only.refl [] _).alloc _;have c5:Calls Tryz.prog 325 #[.func (.func 398) #[] #[.pointer (some ⟨W3.heap.size,0,none⟩),.pointer (some ⟨W3.heap.size+1,0,none⟩)]] W4 fun e w'=>e = .returned (fn1 372 W4.heap.size)∧w'=W5:=hW5 ▸ guarded_any W4 _ _ _ _ rfl _ rfl;have e5:BoxF W5 W4.heap.size 411 (.func (.func 398) #[] #[.pointer (some ⟨W3.heap.size,0,none⟩),.pointer (some ⟨W3.heap.size+1,0,none⟩)]):=hW5 ▸ BoxF.new W4 _ _
 have e5_ne:W4.heap.size≠w.heap.size:=by have:=m4.lt;omega
 have m5:=m4.only q5 (by simp);have p5:=p4.trans q5 (fun k hk=>by cases hk);have ea1:=ea1.only q5 (by simp);have eb1:=eb1.only q5 (by simp);have e2:=e2.only q5 (by simp);have ea4:=ea4.only q5 (by simp);have eb4:=eb4.only q5 (by simp);obtain ⟨W6,hW6⟩:∃ W,W=W5.alloc (.cells #[fn1 372 W4.heap.size] 411):=⟨_,rfl⟩;have q6:Only [] W5 W6:=hW6 ▸ (Only.refl [] _).alloc _;have c6:Calls Tryz.prog 298 #[fn1 372 W4.heap.size] W5 fun e w'=>e = .returned (fn1 356 W5.heap.size)∧w'=W6:=hW6 ▸ needCur_any W5 _ _ _ _ rfl _ rfl;have e6:BoxF W6 W5.heap.size 411 (fn1 372 W4.heap.size):=hW6 ▸ BoxF.new W5 _ _
 have e6_ne:W5.heap.size≠w.heap.size:=by have:=m5.lt;omega
 have m6:=m5.only q6 (by simp);have p6:=p5.trans q6 (fun k hk=>by cases hk);have ea1:=ea1.only q6 (by simp);have eb1:=eb1.only q6 (by simp);have e2:=e2.only q6 (by simp);have ea4:=ea4.only q6 (by simp);have eb4:=eb4.only q6 (by simp);have e5:=e5.only q6 (by simp);obtain ⟨W7,r7,m7,o7⟩:=m6.put1 (by omega) ⟨#[119,114,105,116,101]⟩ (by decide) 356 W5.heap.size;have p7:=only_step p6 (Nat.le_refl _) o7;have ea1:=ea1.only o7 (fun k=>ea1_ne (List.mem_singleton.1 k));have eb1:=eb1.only o7 (fun k=>eb1_ne (List.mem_singleton.1 k));have e2:=e2.only o7 (fun k=>e2_ne (List.mem_singleton.1 k));have ea4:=ea4.only o7 (fun k=>ea4_ne (List.mem_singleton.1 k));have eb4:=eb4.only o7 (fun k=>eb4_ne (List.mem_singleton.1 k));have e5:=e5.only o7 (fun k=>e5_ne (List.mem_singleton.1 k));have e6:=e6.only o7 (fun k=>e6_ne (List.mem_singleton.1 k));obtain ⟨W8,hW8⟩:∃ W,W=(W7.alloc (.cells #[.int .i64 2] 3)).alloc (.cells #[fn0 344] 411):=⟨_,rfl⟩;have q8:Only [] W7 W8:=hW8 ▸ ((Only.refl [] _).alloc _).alloc _;have c8:Calls Tryz.prog 339 #[.int .i64 2,fn0 344] W7 fun e w'=>e = .returned (.func (.func 398) #[] #[.pointer (some ⟨W7.heap.size,0,none⟩),.pointer (some ⟨W7.heap.size+1,0,none⟩)])∧w'=W8:=hW8 ▸ onFile_any W7 2 _ _ rfl
 have ea8:BoxF W8 W7.heap.size 3 (.int .i64 2):=by rw [hW8];exact (BoxF.new W7 _ _).only ((Only.refl [] _).alloc _) (by simp)
 have ea8_ne:W7.heap.size≠w.heap.size:=by have:=m7.lt;omega
 have eb8:BoxF W8 (W7.heap.size+1) 411 (fn0 344):=by rw [hW8,show W7.heap.size+1=(W7.alloc (.cells #[.int .i64 2] 3)).heap.size by simp];exact BoxF.new _ _ _
 have eb8_ne:(W7.heap.size+1)≠w.heap.size:=by have:=m7.lt;omega
 have m8:=m7.only q8 (by simp);have p8:=p7.trans q8 (fun k hk=>by cases hk);have ea1:=ea1.only q8 (by simp);have eb1:=eb1.only q8 (by simp);have e2:=e2.only q8 (by simp);have ea4:=ea4.only q8 (by simp);have eb4:=eb4.only q8 (by simp);have e5:=e5.only q8 (by simp);have e6:=e6.only q8 (by simp);obtain ⟨W9,hW9⟩:∃ W,W=W8.alloc (.cells #[.func (.func 398) #[] #[.pointer (some ⟨W7.heap.size,0,none⟩),.pointer (some ⟨W7.heap.size+1,0,none⟩)]] 411):=⟨_,rfl⟩;have q9:Only [] W8 W9:=hW9 ▸ (Only.refl [] _).alloc _;have c9:Calls Tryz.prog 325 #[.func (.func 398) #[] #[.pointer (some ⟨W7.heap.size,0,none⟩),.pointer (some ⟨W7.heap.size+1,0,none⟩)]] W8 fun e w'=>e = .returned (fn1 372 W8.heap.size)∧w'=W9:=hW9 ▸ guarded_any W8 _ _ _ _ rfl _ rfl;have e9:BoxF W9 W8.heap.size 411 (.func (.func 398) #[] #[.pointer (some ⟨W7.heap.size,0,none⟩),.pointer (some ⟨W7.heap.size+1,0,none⟩)]):=hW9 ▸ BoxF.new W8 _ _
 have e9_ne:W8.heap.size≠w.heap.size:=by have:=m8.lt;omega
 have m9:=m8.only q9 (by simp);have p9:=p8.trans q9 (fun k hk=>by cases hk);have ea1:=ea1.only q9 (by simp);have eb1:=eb1.only q9 (by simp);have e2:=e2.only q9 (by simp);have ea4:=ea4.only q9 (by simp);have eb4:=eb4.only q9 (by simp);have e5:=e5.only q9 (by simp);have e6:=e6.only q9 (by simp);have ea8:=ea8.only q9 (by simp);have eb8:=eb8.only q9 (by simp);obtain ⟨W10,hW10⟩:∃ W,W=W9.alloc (.cells #[fn1 372 W8.heap.size] 411):=⟨_,rfl⟩;have q10:Only [] W9 W10:=hW10 ▸ (Only.refl [] _).alloc _;have c10:Calls Tryz.prog 298 #[fn1 372 W8.heap.size] W9 fun e w'=>e = .returned (fn1 356 W9.heap.size)∧w'=W10:=hW10 ▸ needCur_any W9 _ _ _ _ rfl _ rfl;have e10:BoxF W10 W9.heap.size 411 (fn1 372 W8.heap.size):=hW10 ▸ BoxF.new W9 _ _
 have e10_ne:W9.heap.size≠w.heap.size:=by have:=m9.lt;omega
 have m10:=m9.only q10 (by simp);have p10:=p9.trans q10 (fun k hk=>by cases hk);have ea1:=ea1.only q10 (by simp);have eb1:=eb1.only q10 (by simp);have e2:=e2.only q10 (by simp);have ea4:=ea4.only q10 (by simp);have eb4:=eb4.only q10 (by simp);have e5:=e5.only q10 (by simp);have e6:=e6.only q10 (by simp);have ea8:=ea8.only q10 (by simp);have eb8:=eb8.only q10 (by simp);have e9:=e9.only q10 (by simp);obtain ⟨W11,r11,m11,o11⟩:=m10.put1 (by omega) ⟨#[114,101,115,105,122,101]⟩ (by decide) 356 W9.heap.size;have p11:=only_step p10 (Nat.le_refl _) o11;have ea1:=ea1.only o11 (fun k=>ea1_ne (List.mem_singleton.1 k));have eb1:=eb1.only o11 (fun k=>eb1_ne (List.mem_singleton.1 k));have e2:=e2.only o11 (fun k=>e2_ne (List.mem_singleton.1 k));have ea4:=ea4.only o11 (fun k=>ea4_ne (List.mem_singleton.1 k));have eb4:=eb4.only o11 (fun k=>eb4_ne (List.mem_singleton.1 k));have e5:=e5.only o11 (fun k=>e5_ne (List.mem_singleton.1 k));have e6:=e6.only o11 (fun k=>e6_ne (List.mem_singleton.1 k));have ea8:=ea8.only o11 (fun k=>ea8_ne (List.mem_singleton.1 k));have eb8:=eb8.only o11 (fun k=>eb8_ne (List.mem_singleton.1 k));have e9:=e9.only o11 (fun k=>e9_ne (List.mem_singleton.1 k));have e10:=e10.only o11 (fun k=>e10_ne (List.mem_singleton.1 k));have HR:Hid (UsingR w W11 (.returned (.map (some w.heap.size)))):=⟨_,_,_,_,_,_,_,_,_,_,_,_,rfl,m11.map,Nat.le_refl _,p11,ea1,eb1,e2,ea4,eb4,e5,e6,ea8,eb8,e9,e10⟩;clear m0 m1 m2 m3 m4 m5 m6 m7 m8 m9 m10 m11 p0 p1 p2 p3 p4 p5 p6 p7 p8 p9 p10 p11 ea1 eb1 e2 ea4 eb4 e5 e6 ea8 eb8 e9 e10 ea1_ne eb1_ne e2_ne ea4_ne eb4_ne e5_ne e6_ne ea8_ne eb8_ne e9_ne e10_ne q1 q2 q4 q5 q6 q8 q9 q10 o3 o7 o11 hW1 hW2 hW4 hW5 hW6 hW8 hW9 hW10
 go_enter Tryz.func290,Tryz.ntmps290
 go_wp2_with (first
  | (go_at_call 339;(with_reducible refine c1.mono ?_);rintro e wz ⟨rfl,rfl⟩)
  | (go_at_call 298;(with_reducible refine c2.mono ?_);rintro e wz ⟨rfl,rfl⟩)
  | (go_at_call 339;(with_reducible refine c4.mono ?_);rintro e wz ⟨rfl,rfl⟩)
  | (go_at_call 325;(with_reducible refine c5.mono ?_);rintro e wz ⟨rfl,rfl⟩)
  | (go_at_call 298;(with_reducible refine c6.mono ?_);rintro e wz ⟨rfl,rfl⟩)
  | (go_at_call 339;(with_reducible refine c8.mono ?_);rintro e wz ⟨rfl,rfl⟩)
  | (go_at_call 325;(with_reducible refine c9.mono ?_);rintro e wz ⟨rfl,rfl⟩)
  | (go_at_call 298;(with_reducible refine c10.mono ?_);rintro e wz ⟨rfl,rfl⟩))
 go_ret
 exact HR.out
end
end Go.Proofs.YtodldddakjmonaaGreatDoor
