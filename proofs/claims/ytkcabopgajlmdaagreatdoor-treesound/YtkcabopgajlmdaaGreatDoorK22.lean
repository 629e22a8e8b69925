import Derived.Test.YtkcabopgajlmdaaGreatDoorK21
set_option maxRecDepth 100000
set_option maxHeartbeats 8000000
namespace Go.Proofs.YtkcabopgajlmdaaGreatDoor
section
open Go Go.RowKit Go.Deep Go.Maps
theorem attr_go (w:World)(tr t:Nat)(N G K Z L C UN UG:Int)(E:Value)(hc:w.cell? (zA tr 0)=some (zP t))(h1:∀ W,zQ w W→zO 52 #[zP t,zG N G] W (.tuple #[.agg #[zI K,zI Z,zI L,zI C,zI UN,zI UG],E])):
  zO 22 #[zP tr,zG N G] w (.tuple #[.agg #[zI K,zI Z,zI L,zI C,zI UN,zI UG],E]):=by
 have htl:tr < w.heap.size:=zv hc;have HVA:Hid (zQ w ((w.alloc (zH N G)).alloc (.cells #[zI 0,zI 0,zI 0,zI 0,zI 0,zI 0] 65))):=((Only.refl [] _).alloc _).alloc _;have HW1:Hid (zQ ((w.alloc (zH N G)).alloc (.cells #[zI 0,zI 0,zI 0,zI 0,zI 0,zI 0] 65)) ((w.alloc (zH N G)).alloc (.cells #[zI 0,zI 0,zI 0,zI 0,zI 0,zI 0] 65)).drew):=(Only.refl [] _).drew
 have H1:Hid (((w.alloc (zH N G)).alloc (.cells #[zI 0,zI 0,zI 0,zI 0,zI 0,zI 0] 65)).cell? (zA tr 0)=some (zP t)∧((w.alloc (zH N G)).alloc (.cells #[zI 0,zI 0,zI 0,zI 0,zI 0,zI 0] 65)).cell? (zA w.heap.size 0)=some (zI N)∧((w.alloc (zH N G)).alloc (.cells #[zI 0,zI 0,zI 0,zI 0,zI 0,zI 0] 65)).cell? (zA w.heap.size 1)=some (zI G)):=by
  obtain ⟨a0,a1⟩:=own_box (N:=N) (G:=G) (W:=((w.alloc (zH N G)).alloc (.cells #[zI 0,zI 0,zI 0,zI 0,zI 0,zI 0] 65))) ((Only.refl [] (w.alloc (zH N G))).alloc _) (by simp);exact ⟨(HVA.out.cell (p:=⟨tr,0,none⟩) htl (by simp)).trans hc,a0,a1⟩
 have K1:Hid (((w.alloc (zH N G)).alloc (.cells #[zI 0,zI 0,zI 0,zI 0,zI 0,zI 0] 65)).drew.cell? (zA tr 0)=some (zP t)∧((w.alloc (zH N G)).alloc (.cells #[zI 0,zI 0,zI 0,zI 0,zI 0,zI 0] 65)).drew.cell? (zA w.heap.size 0)=some (zI N)∧((w.alloc (zH N G)).alloc (.cells #[zI 0,zI 0,zI 0,zI 0,zI 0,zI 0] 65)).drew.cell? (zA w.heap.size 1)=some (zI G)):=keepZ_only H1.out HW1.out
 have HN2:Hid (tr≠w.heap.size+1):=show tr≠w.heap.size+1 from by omega
 have HB2:Hid (w.heap.size≠w.heap.size+1):=show w.heap.size≠w.heap.size+1 from by omega
 have HC:Hid (∀ W,zQ w W→_):=h1;clear h1 hc
 go_enter Tryz.func22,Tryz.ntmps22
 go_upto_region 1 with fail
 go_region_held3 (fun W=>W.cell? (zA tr 0)=some (zP t)∧W.cell? (zA w.heap.size 0)=some (zI N)∧W.cell? (zA w.heap.size 1)=some (zI G))
  (with_reducible first
   | exact K1.out
   | exact HS2.out
   | exact keepZ_set (keepZ_set (keepZ_set (keepZ_set (keepZ_set (keepZ_set (HS2.out) HN2.out HB2.out) HN2.out HB2.out) HN2.out HB2.out) HN2.out HB2.out) HN2.out HB2.out) HN2.out HB2.out)
  (first
   | (go_at_call 52;refine (HC.out _ (zo HVA.out HW1.out)).mono ?_;rintro e w2 ⟨rfl,ho2⟩;have HO2:Hid (zQ ((w.alloc (zH N G)).alloc (.cells #[zI 0,zI 0,zI 0,zI 0,zI 0,zI 0] 65)) w2):=zo HW1.out ho2;have HS2:Hid (w2.cell? (zA tr 0)=some (zP t)∧w2.cell? (zA w.heap.size 0)=some (zI N)∧w2.cell? (zA w.heap.size 1)=some (zI G)):=keepZ_only H1.out HO2.out;obtain ⟨q0,q1,q2,q3,q4,q5,f1,hl1⟩:=own_six_drew (B:=w.heap.size+1) ho2 (by simp);clear ho2))
 all_goals go_wp2
 all_goals have HOW:Hid (zQ w w2):=zo HVA.out HO2.out
 all_goals refine bodyPost_ret (v := .tuple #[.agg #[zI K,zI Z,zI L,zI C,zI UN,zI UG],E]) (by simp [results,Tryz.results22,go_sem,q0,q1,q2,q3,q4,q5]) rfl ⟨rfl,?_⟩
 all_goals repeat (first | exact HOW.out | refine Only.setCell ?_ (Or.inr (Nat.le_succ _)) _ | refine Only.alloc ?_ _ | refine Only.drew ?_)
def AttrE (T:Tr)(A:Nat→Addr)(N G K Z L C UN UG:Int)(o:Option Addr):Prop :=
 (∃ (i:Nat) (n:Nod),N=(i:Int)∧G=(T.g i:Nat)∧T.nd i=some n∧o=none∧K=n.K∧Z=(if n.K=1 then (n.S.size:Int) else n.Z)∧L=n.L∧C=n.C∧UN=n.UN∧UG=n.UG) ∨
 (Stale0 T.g T.nd N G∧o=some (A 9)∧K=0∧Z=0∧L=0∧C=0∧UN=0∧UG=0)
theorem tattr_any {w:World}{tr:Nat}{T:Tr}{A:Nat→Addr}(h:TreeAt w tr T)(hE:Errs w A)(hk:Kinds T)(N G:Int):∃ K Z L C UN UG o,AttrE T A N G K Z L C UN UG o∧∀ W,zQ w W→zO 52 #[zP T.t,zG N G] W (.tuple #[.agg #[zI K,zI Z,zI L,zI C,zI UN,zI UG],errO o]):=by
 rcases live_or T N G with hs | ⟨i,n,rfl,rfl,hn⟩
 · exact ⟨0,0,0,0,0,0,some (A 9),Or.inr ⟨hs,rfl,rfl,rfl,rfl,rfl,rfl,rfl⟩,fun W ho=>tattr_stale W T.t T.p T.most T.g T.nd N G (A 9) (h.only ho).tab ((errs_only hE ho).cell 9 (by decide)) hs⟩
 · refine ⟨n.K,_,n.L,n.C,n.UN,n.UG,none,Or.inl ⟨i,n,rfl,rfl,hn,rfl,rfl,rfl,rfl,rfl,rfl,rfl⟩,fun W ho=>?_⟩
   refine tattr_ok W T.t T.p T.most i T.g T.nd n _ (h.only ho).tab hn ?_;rcases hk i n hn with ⟨h1,_⟩ | ⟨h1,_⟩
   · exact Or.inl ⟨h1,by rw [if_pos h1]⟩
   · exact Or.inr ⟨h1,by rw [if_neg (by omega)]⟩
theorem attr_any {w:World}{tr:Nat}{T:Tr}{A:Nat→Addr}(h:TreeAt w tr T)(hE:Errs w A)(hk:Kinds T)(N G:Int):∃ K Z L C UN UG o,AttrE T A N G K Z L C UN UG o∧∀ W,zQ w W→zO 22 #[zP tr,zG N G] W (.tuple #[.agg #[zI K,zI Z,zI L,zI C,zI UN,zI UG],errO o]):=by
 obtain ⟨K,Z,L,C,UN,UG,o,h1,h2⟩:=tattr_any h hE hk N G;exact ⟨K,Z,L,C,UN,UG,o,h1,fun W ho=>attr_go W tr T.t N G K Z L C UN UG (errO o) (h.only ho).c0 (fun W' ho'=>h2 W' (zo ho ho'))⟩
end
end Go.Proofs.YtkcabopgajlmdaaGreatDoor
