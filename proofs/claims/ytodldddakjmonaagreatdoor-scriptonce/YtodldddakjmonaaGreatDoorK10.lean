import Derived.Test.YtodldddakjmonaaGreatDoorK9
set_option maxHeartbeats 8000000
namespace Go.Proofs.YtodldddakjmonaaGreatDoor
section
open Go Go.RowKit Go.Deep Go.Maps
structure FinderAt (w:World)(fb r:Nat)(b:Nat→Nat)(f:Nat→List UInt8→Option Fv):Prop where
 box:BoxF w fb 430 (.slice (some ⟨r,0,none⟩) 7 7)
 row:w.heap[r]?=some (.cells #[.map (some (b 0)),.map (some (b 1)),.map (some (b 2)),.map (some (b 3)),.map (some (b 4)),.map (some (b 5)),.map (some (b 6))] 428 (0,0))
 maps:∀ i,i < 7→FnMap w (b i) (f i)
theorem FinderAt.only {w w':World}{fb r:Nat}{b:Nat→Nat}{f:Nat→List UInt8→Option Fv}(h:FinderAt w fb r b f)(ho:Only [] w w'):FinderAt w' fb r b f :=
 ⟨h.box.only ho (by simp),(ho.block r (Array.getElem?_eq_some_iff.1 h.row).1 (by simp)).trans h.row,fun i hi=>(h.maps i hi).only ho (by simp)⟩
theorem find_first (w:World)(fb r:Nat)(b:Nat→Nat)(f:Nat→List UInt8→Option Fv)(k:ByteArray)(hk:k.size≤1000)(v:Fv)(fn:Fn)(x y:Array Value)(h:FinderAt w fb r b f)(hv:f 0 k.data.toList=some v)(he:fvV v = .func fn x y):
  Calls Tryz.prog 291 #[.string k,.pointer (some ⟨fb,0,none⟩)] w fun e w'=>e = .returned (.func fn x y)∧w'=w:=by
 have c0:=h.box.cell
 have c1:w.cell? ⟨r,0,none⟩=some (.map (some (b 0))):=by
  have:=h.row;simp [World.cell?,this]
 have l0:=(h.maps 0 (by decide)).look k (by unfold maxLen;omega);rw [hv] at l0;simp only [he,Option.isSome_some] at l0;clear h hv he
 go_enter Tryz.func291,Tryz.ntmps291
 go_wp2
 refine wp_loop_rounds 1 ?_;rw [rounds_succ]
 go_wp2
 go_ret
 exact ⟨rfl,rfl⟩
theorem walking_short (w:World):Calls Tryz.prog 284 #[] w fun e w'=>∃ b x f,e = .returned (.map (some b))∧FnMap w' b f∧f [114,111,111,116]=some ⟨296,none⟩∧f [109,97,107,101]=some ⟨356,some x⟩∧BoxF w' x 411 (fn0 306)∧Only [] w w' :=
 (walking_any w).mono fun e w' q=>by
  obtain ⟨b,x0,x1,x2,x3,x4,he,hf,_,ho,_,_,_,_,h4⟩:=q;exact ⟨b,x4,_,he,hf,rfl,rfl,h4,ho⟩
theorem naming_short (w:World):Calls Tryz.prog 285 #[] w fun e w'=>∃ b f,e = .returned (.map (some b))∧FnMap w' b f∧Only [] w w' :=
 (naming_any w).mono fun e w' q=>by
  obtain ⟨b,_,_,_,_,_,he,hf,_,ho,_⟩:=q;exact ⟨b,_,he,hf,ho⟩
theorem asking_short (w:World):Calls Tryz.prog 286 #[] w fun e w'=>∃ b f,e = .returned (.map (some b))∧FnMap w' b f∧Only [] w w' :=
 (asking_any w).mono fun e w' q=>by
  obtain ⟨b,_,_,_,he,hf,_,ho,_⟩:=q;exact ⟨b,_,he,hf,ho⟩
theorem knowing_short (w:World):Calls Tryz.prog 287 #[] w fun e w'=>∃ b f,e = .returned (.map (some b))∧FnMap w' b f∧Only [] w w' :=
 (knowing_any w).mono fun e w' q=>by
  obtain ⟨b,he,hf,_,ho⟩:=q;exact ⟨b,_,he,hf,ho⟩
theorem opening_short (w:World):Calls Tryz.prog 288 #[] w fun e w'=>∃ b f,e = .returned (.map (some b))∧FnMap w' b f∧Only [] w w' :=
 (opening_any w).mono fun e w' q=>by
  obtain ⟨b,_,_,_,_,_,he,hf,_,ho,_⟩:=q;exact ⟨b,_,he,hf,ho⟩
theorem locking_short (w:World):Calls Tryz.prog 289 #[] w fun e w'=>∃ b f,e = .returned (.map (some b))∧FnMap w' b f∧Only [] w w' :=
 (locking_any w).mono fun e w' q=>by
  obtain ⟨b,_,_,_,he,hf,_,ho,_⟩:=q;exact ⟨b,_,he,hf,ho⟩
theorem using_short (w:World):Calls Tryz.prog 290 #[] w fun e w'=>∃ b f,e = .returned (.map (some b))∧FnMap w' b f∧Only [] w w' :=
 (using_any w).mono fun e w' q=>by
  obtain ⟨b,_,_,_,_,_,_,_,_,_,_,_,he,hf,_,ho,_⟩:=q;exact ⟨b,_,he,hf,ho⟩
def FoundR (w w':World)(e:Ending):Prop:=∃ fb r b f x,e = .returned (fn1 291 fb)∧FinderAt w' fb r b f∧f 0 [114,111,111,116]=some ⟨296,none⟩∧f 0 [109,97,107,101]=some ⟨356,some x⟩∧BoxF w' x 411 (fn0 306)∧Only [] w w'
theorem finder_any (w:World):Calls Tryz.prog 267 #[] w fun e w'=>FoundR w w' e:=by
 have hmf:∀ (fn:Fn) (first cap:Array Value) (w:World),(Instr.makeFunc fn first cap).run Tryz.prog w = .ok (.func fn first cap) w:=fun _ _ _ _=>rfl
 go_enter Tryz.func267,Tryz.ntmps267
 go_wp2_with (first
   | (go_at_call 284;(with_reducible refine (walking_short _).mono ?_);rintro e w1 ⟨b0,x,f0,rfl,hm,h1,h2,h3,ho⟩;have M0:Hid (FnMap w1 b0 f0∧f0 [114,111,111,116]=some ⟨296,none⟩∧f0 [109,97,107,101]=some ⟨356,some x⟩∧BoxF w1 x 411 (fn0 306)):=⟨hm,h1,h2,h3⟩;have O1:Hid (Only [] w w1):=ho;clear hm h1 h2 h3 ho)
   | (go_at_call 285;(with_reducible refine (naming_short _).mono ?_);rintro e w2 ⟨b1,f1,rfl,hm,ho⟩;have M1:Hid (FnMap w2 b1 f1):=hm;have O2:Hid (Only [] w1 w2):=ho;clear hm ho)
   | (go_at_call 286;(with_reducible refine (asking_short _).mono ?_);rintro e w3 ⟨b2,f2,rfl,hm,ho⟩;have M2:Hid (FnMap w3 b2 f2):=hm;have O3:Hid (Only [] w2 w3):=ho;clear hm ho)
   | (go_at_call 287;(with_reducible refine (knowing_short _).mono ?_);rintro e w4 ⟨b3,f3,rfl,hm,ho⟩;have M3:Hid (FnMap w4 b3 f3):=hm;have O4:Hid (Only [] w3 w4):=ho;clear hm ho)
   | (go_at_call 288;(with_reducible refine (opening_short _).mono ?_);rintro e w5 ⟨b4,f4,rfl,hm,ho⟩;have M4:Hid (FnMap w5 b4 f4):=hm;have O5:Hid (Only [] w4 w5):=ho;clear hm ho)
   | (go_at_call 289;(with_reducible refine (locking_short _).mono ?_);rintro e w6 ⟨b5,f5,rfl,hm,ho⟩;have M5:Hid (FnMap w6 b5 f5):=hm;have O6:Hid (Only [] w5 w6):=ho;clear hm ho)
   | (go_at_call 290;(with_reducible refine (using_short _).mono ?_);rintro e w7 ⟨b6,f6,rfl,hm,ho⟩;have M6:Hid (FnMap w7 b6 f6):=hm;have O7:Hid (Only [] w6 w7):=ho;clear hm ho))
 go_ret
 have o7:=O7.out;have o6:=O6.out.trans o7 (fun k hk=>by cases hk);have o5:=O5.out.trans o6 (fun k hk=>by cases hk);have o4:=O4.out.trans o5 (fun k hk=>by cases hk);have o3:=O3.out.trans o4 (fun k hk=>by cases hk);have o2:=O2.out.trans o3 (fun k hk=>by cases hk);have o1:=O1.out.trans o2 (fun k hk=>by cases hk);have oz:Only [] w7 ((w7.alloc (.cells #[.map (some b0),.map (some b1),.map (some b2),.map (some b3),.map (some b4),.map (some b5),.map (some b6)] 428)).alloc (.cells #[.slice (some ⟨w7.heap.size,0,none⟩) 7 7] 430)):=((Only.refl [] _).alloc _).alloc _;have hrow:(w7.alloc (.cells #[.map (some b0),.map (some b1),.map (some b2),.map (some b3),.map (some b4),.map (some b5),.map (some b6)] 428)).heap[w7.heap.size]?=some (.cells #[.map (some b0),.map (some b1),.map (some b2),.map (some b3),.map (some b4),.map (some b5),.map (some b6)] 428 (0,0)):=(show (w7.heap.push _)[w7.heap.size]?=_ by simp);refine ⟨w7.heap.size+1,w7.heap.size,fun i=>[b0,b1,b2,b3,b4,b5,b6].getD i 0,fun i=>[f0,f1,f2,f3,f4,f5,f6].getD i f0,x,rfl,⟨?_,?_,fun i hi=>?_⟩,M0.out.2.1,M0.out.2.2.1,(M0.out.2.2.2.only o2 (by simp)).only oz (by simp),o1.trans oz (fun k hk=>by cases hk)⟩
 · have:=BoxF.new (w7.alloc (.cells #[.map (some b0),.map (some b1),.map (some b2),.map (some b3),.map (some b4),.map (some b5),.map (some b6)] 428)) 430 (.slice (some ⟨w7.heap.size,0,none⟩) 7 7)
   rw [World.size_alloc] at this;exact this
 · exact (((Only.refl [] _).alloc _).block _ (Array.getElem?_eq_some_iff.1 hrow).1 (by simp)).trans hrow
 · rcases (show i=0∨i=1∨i=2∨i=3∨i=4∨i=5∨i=6 by omega) with rfl | rfl | rfl | rfl | rfl | rfl | rfl
   · exact (M0.out.1.only o2 (by simp)).only oz (by simp)
   · exact (M1.out.only o3 (by simp)).only oz (by simp)
   · exact (M2.out.only o4 (by simp)).only oz (by simp)
   · exact (M3.out.only o5 (by simp)).only oz (by simp)
   · exact (M4.out.only o6 (by simp)).only oz (by simp)
   · exact (M5.out.only o7 (by simp)).only oz (by simp)
   · exact M6.out.only oz (by simp)
end
end Go.Proofs.YtodldddakjmonaaGreatDoor
