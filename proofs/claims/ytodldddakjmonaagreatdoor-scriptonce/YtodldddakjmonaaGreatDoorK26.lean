import Derived.Test.YtodldddakjmonaaGreatDoorK18
import Derived.Test.YtodldddakjmonaaGreatDoorK25
set_option maxRecDepth 100000
set_option maxHeartbeats 8000000
namespace Go.Proofs.YtodldddakjmonaaGreatDoor
section
open Go Go.RowKit Go.Deep Go.Maps
theorem attr_go (w:World)(tr t:Nat)(N G K Z L C UN UG:Int)(E:Value)(hc:w.cell? ⟨tr,0,none⟩=some (.pointer (some ⟨t,0,none⟩)))(h1:∀ W,Only [] w W→Calls Tryz.prog 183 #[.pointer (some ⟨t,0,none⟩),.agg #[.int .i64 N,.int .i64 G]] W fun e w'=>e = .returned (.tuple #[.agg #[.int .i64 K,.int .i64 Z,.int .i64 L,.int .i64 C,.int .i64 UN,.int .i64 UG],E])∧Only [] W w'):
  Calls Tryz.prog 130 #[.pointer (some ⟨tr,0,none⟩),.agg #[.int .i64 N,.int .i64 G]] w fun e w'=>e = .returned (.tuple #[.agg #[.int .i64 K,.int .i64 Z,.int .i64 L,.int .i64 C,.int .i64 UN,.int .i64 UG],E])∧Only [] w w':=by
 have htl:tr < w.heap.size:=lt_of_cell hc;have HVA:Hid (Only [] w ((w.alloc (.cells #[.int .i64 N,.int .i64 G] 116)).alloc (.cells #[.int .i64 0,.int .i64 0,.int .i64 0,.int .i64 0,.int .i64 0,.int .i64 0] 179))):=((Only.refl [] _).alloc _).alloc _;have HW1:Hid (Only [] ((w.alloc (.cells #[.int .i64 N,.int .i64 G] 116)).alloc (.cells #[.int .i64 0,.int .i64 0,.int .i64 0,.int .i64 0,.int .i64 0,.int .i64 0] 179)) ((w.alloc (.cells #[.int .i64 N,.int .i64 G] 116)).alloc (.cells #[.int .i64 0,.int .i64 0,.int .i64 0,.int .i64 0,.int .i64 0,.int .i64 0] 179)).drew):=(Only.refl [] _).drew
 have H1:Hid (((w.alloc (.cells #[.int .i64 N,.int .i64 G] 116)).alloc (.cells #[.int .i64 0,.int .i64 0,.int .i64 0,.int .i64 0,.int .i64 0,.int .i64 0] 179)).cell? ⟨tr,0,none⟩=some (.pointer (some ⟨t,0,none⟩))∧((w.alloc (.cells #[.int .i64 N,.int .i64 G] 116)).alloc (.cells #[.int .i64 0,.int .i64 0,.int .i64 0,.int .i64 0,.int .i64 0,.int .i64 0] 179)).cell? ⟨w.heap.size,0,none⟩=some (.int .i64 N)∧((w.alloc (.cells #[.int .i64 N,.int .i64 G] 116)).alloc (.cells #[.int .i64 0,.int .i64 0,.int .i64 0,.int .i64 0,.int .i64 0,.int .i64 0] 179)).cell? ⟨w.heap.size,1,none⟩=some (.int .i64 G)):=by
  obtain ⟨a0,a1⟩:=own_box (N:=N) (G:=G) (W:=((w.alloc (.cells #[.int .i64 N,.int .i64 G] 116)).alloc (.cells #[.int .i64 0,.int .i64 0,.int .i64 0,.int .i64 0,.int .i64 0,.int .i64 0] 179))) ((Only.refl [] (w.alloc (.cells #[.int .i64 N,.int .i64 G] 116))).alloc _) (by simp);exact ⟨(HVA.out.cell (p:=⟨tr,0,none⟩) htl (by simp)).trans hc,a0,a1⟩
 have K1:Hid (((w.alloc (.cells #[.int .i64 N,.int .i64 G] 116)).alloc (.cells #[.int .i64 0,.int .i64 0,.int .i64 0,.int .i64 0,.int .i64 0,.int .i64 0] 179)).drew.cell? ⟨tr,0,none⟩=some (.pointer (some ⟨t,0,none⟩))∧((w.alloc (.cells #[.int .i64 N,.int .i64 G] 116)).alloc (.cells #[.int .i64 0,.int .i64 0,.int .i64 0,.int .i64 0,.int .i64 0,.int .i64 0] 179)).drew.cell? ⟨w.heap.size,0,none⟩=some (.int .i64 N)∧((w.alloc (.cells #[.int .i64 N,.int .i64 G] 116)).alloc (.cells #[.int .i64 0,.int .i64 0,.int .i64 0,.int .i64 0,.int .i64 0,.int .i64 0] 179)).drew.cell? ⟨w.heap.size,1,none⟩=some (.int .i64 G)):=keepZ_only H1.out HW1.out
 have HN2:Hid (tr≠w.heap.size+1):=show tr≠w.heap.size+1 from by omega
 have HB2:Hid (w.heap.size≠w.heap.size+1):=show w.heap.size≠w.heap.size+1 from by omega
 have HC:Hid (∀ W,Only [] w W→_):=h1;clear h1 hc
 go_enter Tryz.func130,Tryz.ntmps130
 go_upto_region 1 with fail
 go_region_held3 (fun W=>W.cell? ⟨tr,0,none⟩=some (.pointer (some ⟨t,0,none⟩))∧W.cell? ⟨w.heap.size,0,none⟩=some (.int .i64 N)∧W.cell? ⟨w.heap.size,1,none⟩=some (.int .i64 G))
  (with_reducible first
   | exact K1.out
   | exact HS2.out
   | exact keepZ_set (keepZ_set (keepZ_set (keepZ_set (keepZ_set (keepZ_set (HS2.out) HN2.out HB2.out) HN2.out HB2.out) HN2.out HB2.out) HN2.out HB2.out) HN2.out HB2.out) HN2.out HB2.out)
  (first
   | (go_at_call 183;refine (HC.out _ (only_nilT HVA.out HW1.out)).mono ?_;rintro e w2 ⟨rfl,ho2⟩;have HO2:Hid (Only [] ((w.alloc (.cells #[.int .i64 N,.int .i64 G] 116)).alloc (.cells #[.int .i64 0,.int .i64 0,.int .i64 0,.int .i64 0,.int .i64 0,.int .i64 0] 179)) w2):=only_nilT HW1.out ho2;have HS2:Hid (w2.cell? ⟨tr,0,none⟩=some (.pointer (some ⟨t,0,none⟩))∧w2.cell? ⟨w.heap.size,0,none⟩=some (.int .i64 N)∧w2.cell? ⟨w.heap.size,1,none⟩=some (.int .i64 G)):=keepZ_only H1.out HO2.out;obtain ⟨q0,q1,q2,q3,q4,q5,f1,hl1⟩:=own_six_drew (B:=w.heap.size+1) ho2 (by simp);clear ho2))
 all_goals go_wp2
 all_goals have HOW:Hid (Only [] w w2):=only_nilT HVA.out HO2.out
 all_goals refine bodyPost_ret (v := .tuple #[.agg #[.int .i64 K,.int .i64 Z,.int .i64 L,.int .i64 C,.int .i64 UN,.int .i64 UG],E]) (by simp [results,Tryz.results130,go_sem,q0,q1,q2,q3,q4,q5]) rfl ⟨rfl,?_⟩
 all_goals repeat (first | exact HOW.out | refine Only.setCell ?_ (Or.inr (Nat.le_succ _)) _ | refine Only.alloc ?_ _ | refine Only.drew ?_)
def AttrE (T:Tr)(A:Nat→Addr)(N G K Z L C UN UG:Int)(o:Option Addr):Prop :=
 (∃ (i:Nat) (n:Nod),N=(i:Int)∧G=(T.g i:Nat)∧T.nd i=some n∧o=none∧K=n.K∧Z=(if n.K=1 then (n.S.size:Int) else n.Z)∧L=n.L∧C=n.C∧UN=n.UN∧UG=n.UG) ∨
 (Stale0 T.g T.nd N G∧o=some (A 9)∧K=0∧Z=0∧L=0∧C=0∧UN=0∧UG=0)
theorem tattr_any {w:World}{tr:Nat}{T:Tr}{A:Nat→Addr}(h:TreeAt w tr T)(hE:Errs w A)(hk:Kinds T)(N G:Int):∃ K Z L C UN UG o,AttrE T A N G K Z L C UN UG o∧∀ W,Only [] w W→Calls Tryz.prog 183 #[.pointer (some ⟨T.t,0,none⟩),.agg #[.int .i64 N,.int .i64 G]] W fun e w'=>e = .returned (.tuple #[.agg #[.int .i64 K,.int .i64 Z,.int .i64 L,.int .i64 C,.int .i64 UN,.int .i64 UG],errO o])∧Only [] W w':=by
 rcases live_or T N G with hs | ⟨i,n,rfl,rfl,hn⟩
 · exact ⟨0,0,0,0,0,0,some (A 9),Or.inr ⟨hs,rfl,rfl,rfl,rfl,rfl,rfl,rfl⟩,fun W ho=>tattr_stale W T.t T.p T.most T.g T.nd N G (A 9) (h.only ho).tab ((errs_only hE ho).cell 9 (by decide)) hs⟩
 · refine ⟨n.K,_,n.L,n.C,n.UN,n.UG,none,Or.inl ⟨i,n,rfl,rfl,hn,rfl,rfl,rfl,rfl,rfl,rfl,rfl⟩,fun W ho=>?_⟩
   refine tattr_ok W T.t T.p T.most i T.g T.nd n _ (h.only ho).tab hn ?_;rcases hk i n hn with ⟨h1,_⟩ | ⟨h1,_⟩
   · exact Or.inl ⟨h1,by rw [if_pos h1]⟩
   · exact Or.inr ⟨h1,by rw [if_neg (by omega)]⟩
theorem attr_any {w:World}{tr:Nat}{T:Tr}{A:Nat→Addr}(h:TreeAt w tr T)(hE:Errs w A)(hk:Kinds T)(N G:Int):∃ K Z L C UN UG o,AttrE T A N G K Z L C UN UG o∧∀ W,Only [] w W→Calls Tryz.prog 130 #[.pointer (some ⟨tr,0,none⟩),.agg #[.int .i64 N,.int .i64 G]] W fun e w'=>e = .returned (.tuple #[.agg #[.int .i64 K,.int .i64 Z,.int .i64 L,.int .i64 C,.int .i64 UN,.int .i64 UG],errO o])∧Only [] W w':=by
 obtain ⟨K,Z,L,C,UN,UG,o,h1,h2⟩:=tattr_any h hE hk N G;exact ⟨K,Z,L,C,UN,UG,o,h1,fun W ho=>attr_go W tr T.t N G K Z L C UN UG (errO o) (h.only ho).c0 (fun W' ho'=>h2 W' (only_nilT ho ho'))⟩
end
end Go.Proofs.YtodldddakjmonaaGreatDoor
