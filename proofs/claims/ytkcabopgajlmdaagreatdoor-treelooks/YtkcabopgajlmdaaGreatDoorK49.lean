import Derived.Laws.ResultCell
import Derived.Test.YtkcabopgajlmdaaGreatDoorK48
set_option maxRecDepth 100000
set_option maxHeartbeats 8000000
namespace Go.Proofs.YtkcabopgajlmdaaGreatDoor
section
open Go Go.RowKit
theorem code_fault (A:Nat→Addr)(k:Nat)(hk:k < 15)(pb:Nat)(n:Int)(w:World)(h:Errs w A)(hp0:w.cell? ⟨pb,0,none⟩=some (.int .i64 n))(hp1:w.cell? ⟨pb,1,none⟩=some (.iface 228 (.pointer (some (A k))))):
   Calls Tryz.prog 50 #[.iface 114 (.pointer (some ⟨pb,0,none⟩))] w fun e w'=>e = .returned (.tuple #[.int .i64 ((k:Int)+1),.int .i64 n])∧Below w.heap.size w w':=by
 go_enter Tryz.func50,Tryz.ntmps50
 go_wp2_with fail
 refine (as_hit ⟨pb,0,none⟩ ⟨w.heap.size,0,none⟩ (.pointer none) _ ?_ ?_ ?_).mono ?_
 · rw [World.cell?_alloc_lt _ _ ⟨15,0,none⟩ (zv h.typ)];exact h.typ
 · simp
 · simp
 rintro e w1 ⟨rfl,hb1⟩;have hb2:Below w.heap.size w w1:=(((Below.refl _ _).alloc (Nat.le_refl _) _).setCell (Nat.le_refl _) _).trans (hb1.mono (by simp));have hpl:pb < w.heap.size:=zv hp0;have y0:w1.cell? ⟨pb,0,none⟩=some (.int .i64 n):=(hb2.cell (p:=⟨pb,0,none⟩) hpl).trans hp0;have y1:w1.cell? ⟨pb,0+1,none⟩=some (.iface 228 (.pointer (some (A k)))):=(hb2.cell (p:=⟨pb,1,none⟩) hpl).trans hp1;have y2:w1.cell? ⟨w.heap.size,0,none⟩=some (.pointer (some ⟨pb,0,none⟩)):=put_cell hb1 (u := .pointer none) (by simp);have h1:Errs w1 A:=h.below hb2 (Nat.le_refl _);have hcell:=h1.cell;have g0:w1.cell? ⟨8,0,none⟩=some (.iface 228 (.pointer (some (A 0)))):=hcell 0 (by decide);have g1:w1.cell? ⟨1,0,none⟩=some (.iface 228 (.pointer (some (A 1)))):=hcell 1 (by decide);have g2:w1.cell? ⟨2,0,none⟩=some (.iface 228 (.pointer (some (A 2)))):=hcell 2 (by decide);have g3:w1.cell? ⟨7,0,none⟩=some (.iface 228 (.pointer (some (A 3)))):=hcell 3 (by decide);have g4:w1.cell? ⟨0,0,none⟩=some (.iface 228 (.pointer (some (A 4)))):=hcell 4 (by decide);have g5:w1.cell? ⟨9,0,none⟩=some (.iface 228 (.pointer (some (A 5)))):=hcell 5 (by decide);have g6:w1.cell? ⟨6,0,none⟩=some (.iface 228 (.pointer (some (A 6)))):=hcell 6 (by decide);have g7:w1.cell? ⟨3,0,none⟩=some (.iface 228 (.pointer (some (A 7)))):=hcell 7 (by decide);have g8:w1.cell? ⟨4,0,none⟩=some (.iface 228 (.pointer (some (A 8)))):=hcell 8 (by decide);have g9:w1.cell? ⟨10,0,none⟩=some (.iface 228 (.pointer (some (A 9)))):=hcell 9 (by decide);have g10:w1.cell? ⟨5,0,none⟩=some (.iface 228 (.pointer (some (A 10)))):=hcell 10 (by decide);have g11:w1.cell? ⟨11,0,none⟩=some (.iface 228 (.pointer (some (A 11)))):=hcell 11 (by decide);have g12:w1.cell? ⟨12,0,none⟩=some (.iface 228 (.pointer (some (A 12)))):=hcell 12 (by decide);have g13:w1.cell? ⟨13,0,none⟩=some (.iface 228 (.pointer (some (A 13)))):=hcell 13 (by decide);have g14:w1.cell? ⟨14,0,none⟩=some (.iface 228 (.pointer (some (A 14)))):=hcell 14 (by decide);clear hcell hb1;have Hk:Hid (Errs w1 A):=h1;clear h1 h
 go_wp2
 have hat:=errs_at A w1;have Hat:Hid _:=hat;have y3:∀ o,(w1.alloc o).cell? ⟨pb,0+1,none⟩=some (.iface 228 (.pointer (some (A k)))):=fun o=>(World.cell?_alloc_lt _ _ ⟨pb,0+1,none⟩ (zv y1)).trans y1;have Y3:Hid _:=y3;clear y0 y1 y2 y3 hp0 hp1;clear hat g0 g1 g2 g3 g4 g5 g6 g7 g8 g9 g10 g11 g12 g13 g14
 go_loop [3,33] (fun pl i=>∃ j:Nat,j≤k∧i = .int .i64 j∧pl = .int .i64 n) (fun _ i=>k+1 - (intOf i).toNat)
 case atStart=>exact ⟨0,Nat.zero_le _,rfl,rfl⟩
 case round =>
   obtain ⟨j,hj,rfl,rfl⟩:=hrel;have hc:=Hat.out j (by omega);have hE:Errs (w1.alloc (.cells #[.iface 228 (.pointer (some (A 0))),.iface 228 (.pointer (some (A 1))),.iface 228 (.pointer (some (A 2))),.iface 228 (.pointer (some (A 3))),.iface 228 (.pointer (some (A 4))),.iface 228 (.pointer (some (A 5))),.iface 228 (.pointer (some (A 6))),.iface 228 (.pointer (some (A 7))),.iface 228 (.pointer (some (A 8))),.iface 228 (.pointer (some (A 9))),.iface 228 (.pointer (some (A 10))),.iface 228 (.pointer (some (A 11))),.iface 228 (.pointer (some (A 12))),.iface 228 (.pointer (some (A 13))),.iface 228 (.pointer (some (A 14)))] 28)) A:=Hk.out.below ((Below.refl _ _).alloc (Nat.le_refl _) _) (Nat.le_refl _)
   by_cases hjk:j=k
   · subst hjk
     clear hE
     go_wp2_with (go_at_call 79;refine (is_fault_same pb 0 (A j) _ (Y3.out _)).mono ?_;rintro e w2 ⟨rfl,rfl⟩)
     go_ret2
     exact ⟨rfl,hb2.alloc hb2.size _⟩
   · obtain ⟨ca,ta,ra⟩:=hE.row k hk
     obtain ⟨cb,tb,rb⟩:=hE.row j (by omega);have hne:A k≠A j:=fun e=>hjk (hE.inj j k (by omega) hk e.symm);clear hE;have Ra:Hid _:=ra;have Rb:Hid _:=rb;clear ra rb
     go_wp2_with (go_at_call 79;refine (is_fault_other pb 0 (A j) (A k) ca cb ta tb _ (Y3.out _) hne Ra.out Rb.out).mono ?_;rintro e w2 ⟨rfl,rfl⟩)
     go_round
     case rel=>exact ⟨j+1,by omega,by go_num,rfl⟩
     case measure=>simp [intOf];omega
end
section
open Go Go.RowKit Go.Deep
theorem fine_any (w:World):Calls Tryz.prog 17 #[] w fun e w'=>e = .returned (.agg #[.int .i64 0,.int .i64 (-1)])∧Below w.heap.size w w':=by
 go_enter Tryz.func17,Tryz.ntmps17
 go_wp2
 exact bodyPost_ret (v := .agg #[.int .i64 0,.int .i64 (-1)]) (by simp [results,Tryz.results17,go_sem]) rfl ⟨rfl,(Below.refl _ _).alloc (Nat.le_refl _) _⟩
theorem faulted_err (A:Nat→Addr)(k:Nat)(hk:k < 15)(w:World)(h:Errs w A):
  Calls Tryz.prog 19 #[.iface 228 (.pointer (some (A k))),.agg #[.int .i64 ((k:Int)+1),.int .i64 (-1)]] w fun e w'=>e = .returned (.bool true)∧Below w.heap.size w w':=by
 have EA:Hid (Errs (w.alloc (.cells #[.int .i64 ((k:Int)+1),.int .i64 (-1)] 56)) A):=h.below ((Below.refl _ _).alloc (Nat.le_refl _) _) (Nat.le_refl _)
 have hz:(((k:Int)+1)==0)=false:=by rw [beq_eq_false_iff_ne];omega
 clear h
 go_enter Tryz.func19,Tryz.ntmps19
 go_wp2_with fail
 refine (code_err A k hk _ EA.out).mono ?_;rintro e w1 ⟨rfl,hb1⟩;have k1:w1.cell? ⟨w.heap.size,0,none⟩=some (.int .i64 ((k:Int)+1)):=(hb1.cell (p:=⟨w.heap.size,0,none⟩) (by simp)).trans (by simp);have k2:w1.cell? ⟨w.heap.size,1,none⟩=some (.int .i64 (-1)):=(hb1.cell (p:=⟨w.heap.size,1,none⟩) (by simp)).trans (by simp);have hb2:Below w.heap.size w w1:=((Below.refl _ _).alloc (Nat.le_refl _) _).trans (hb1.mono (by simp));clear hb1
 go_wp2
 go_ret
 exact ⟨rfl,hb2⟩
theorem faulted_fault (A:Nat→Addr)(k:Nat)(hk:k < 15)(pb:Nat)(n:Int)(w:World)(h:Errs w A)(hp0:w.cell? ⟨pb,0,none⟩=some (.int .i64 n))(hp1:w.cell? ⟨pb,1,none⟩=some (.iface 228 (.pointer (some (A k))))):
  Calls Tryz.prog 19 #[.iface 114 (.pointer (some ⟨pb,0,none⟩)),.agg #[.int .i64 ((k:Int)+1),.int .i64 n]] w fun e w'=>e = .returned (.bool true)∧Below w.heap.size w w':=by
 have EA:Hid (Errs (w.alloc (.cells #[.int .i64 ((k:Int)+1),.int .i64 n] 56)) A):=h.below ((Below.refl _ _).alloc (Nat.le_refl _) _) (Nat.le_refl _);have P0:Hid ((w.alloc (.cells #[.int .i64 ((k:Int)+1),.int .i64 n] 56)).cell? ⟨pb,0,none⟩=some (.int .i64 n)):=(World.cell?_alloc_lt _ _ ⟨pb,0,none⟩ (zv hp0)).trans hp0;have P1:Hid ((w.alloc (.cells #[.int .i64 ((k:Int)+1),.int .i64 n] 56)).cell? ⟨pb,1,none⟩=some (.iface 228 (.pointer (some (A k))))):=(World.cell?_alloc_lt _ _ ⟨pb,1,none⟩ (zv hp1)).trans hp1
 have hz:(((k:Int)+1)==0)=false:=by rw [beq_eq_false_iff_ne];omega
 clear h hp0 hp1
 go_enter Tryz.func19,Tryz.ntmps19
 go_wp2_with fail
 refine (code_fault A k hk pb n _ EA.out P0.out P1.out).mono ?_;rintro e w1 ⟨rfl,hb1⟩;have k1:w1.cell? ⟨w.heap.size,0,none⟩=some (.int .i64 ((k:Int)+1)):=(hb1.cell (p:=⟨w.heap.size,0,none⟩) (by simp)).trans (by simp);have k2:w1.cell? ⟨w.heap.size,1,none⟩=some (.int .i64 n):=(hb1.cell (p:=⟨w.heap.size,1,none⟩) (by simp)).trans (by simp);have hb2:Below w.heap.size w w1:=((Below.refl _ _).alloc (Nat.le_refl _) _).trans (hb1.mono (by simp));clear hb1
 go_wp2
 go_ret
 exact ⟨rfl,hb2⟩
end
section
open Go Go.RowKit Go.Deep Go.Maps
def LookD (D:Dt)(A:Nat→Addr)(N G:Int)(s:ByteArray)(x:Nat×Nat)(o:Option Addr):Prop:=∃ c,c≤14∧LookR D N G s c x.1 x.2∧o=oc A c
def StepsD (D:Dt)(A:Nat→Addr)(ps:List ByteArray)(f:Nat→Nat×Nat)(j:Nat):Prop:=f 0=(0,0)∧∀ q,q < j→∃ s,ps[q]?=some s∧LookD D A ((f q).1:Nat) ((f q).2:Nat) s (f (q+1)) none
theorem StepsD.next {D:Dt}{A:Nat→Addr}{ps:List ByteArray}{f:Nat→Nat×Nat}{j:Nat}{s:ByteArray}{x:Nat×Nat}(h:StepsD D A ps f j)(hs:ps[j]?=some s)(hx:LookD D A ((f j).1:Nat) ((f j).2:Nat) s x none):StepsD D A ps (setN f (j+1) x) (j+1):=by
 refine ⟨by rw [setN_other _ _ (by omega)];exact h.1,fun q hq=>?_⟩;rw [setN_other _ _ (show q≠j+1 by omega)];rcases Nat.lt_or_ge q j with h1 | h1
 · rw [setN_other _ _ (show q+1≠j+1 by omega)]
   exact h.2 q h1
 · obtain rfl:q=j:=by omega
   rw [setN_same];exact ⟨s,hs,hx⟩
def WalkedD (w w':World)(D:Dt)(A:Nat→Addr)(ps:List ByteArray)(e:Ending):Prop :=
 (∃ f,StepsD D A ps f ps.length∧e = .returned (.tuple #[.agg #[.int .i64 ((f ps.length).1:Nat),.int .i64 ((f ps.length).2:Nat)],.nilIface])∧Only [] w w') ∨
 (∃ (f:Nat→Nat×Nat) (j:Nat) (s:ByteArray) (x:Nat×Nat) (ad:Addr) (b:Nat),StepsD D A ps f j∧ps[j]?=some s∧LookD D A ((f j).1:Nat) ((f j).2:Nat) s x (some ad)∧e = .returned (.tuple #[.agg #[.int .i64 0,.int .i64 0],.iface 114 (.pointer (some ⟨b,0,none⟩))])∧w.heap.size≤b∧w'.heap[b]?=some (.cells #[.int .i64 (j:Nat),errV ad] 116 (0,0))∧Only [] w w')
theorem walk_rep {W0:World}{B:Nat}(w:World)(tr:Nat)(D:Dt)(A:Nat→Addr)(ad:Option Addr)(n cap:Nat)(ps:List ByteArray)(h:One6 W0 w tr D B)(hE:Errs W0 A)(hn:ps.length=n)(hn2:n≤1000)(hp:∀ j s,ps[j]?=some s→∃ g,ad=some ⟨g,0,none⟩∧w.cell? ⟨g,j,none⟩=some (.string s)):
  Calls Tryz.prog 18 #[.pointer (some ⟨tr,0,none⟩),.slice ad n cap] w fun e w'=>WalkedD w w' D A ps e:=by
 have HA:Hid (Only [] w (w.alloc (.cells #[.int .i64 0,.int .i64 0] 35))):=(Only.refl [] w).alloc _;have HZ:Hid (HBox (w.alloc (.cells #[.int .i64 0,.int .i64 0] 35)) w.heap.size 0 0):=heap_alloc_last w _;have hro:=root_any (w.alloc (.cells #[.int .i64 0,.int .i64 0] 35)) (.pointer (some ⟨tr,0,none⟩))
 have HLK:Hid (∀ (N G:Int) (s:ByteArray),∃ x o,LookD D A N G s x o∧∀ W,Only [] w W→Calls Tryz.prog 11 #[.pointer (some ⟨tr,0,none⟩),.agg #[.int .i64 N,.int .i64 G],.string s] W fun r w'=>r = .returned (.tuple #[.agg #[.int .i64 (x.1:Nat),.int .i64 (x.2:Nat)],errO o])∧Only [] W w'):=fun N G s=>by
  obtain ⟨c,i,k,hc,hL,hl⟩:=h.look hE N G s;exact ⟨(i,k),oc A c,⟨c,hc,hL,rfl⟩,hl⟩
 have HP:Hid (∀ j s,ps[j]?=some s→∃ g,ad=some ⟨g,0,none⟩∧w.cell? ⟨g,j,none⟩=some (.string s)):=hp;have HN:Hid (ps.length=n):=hn;clear h hE hp hn
 go_enter Tryz.func18,Tryz.ntmps18
 go_wp2_with (first
  | (go_at_call 21;go_must (refine hro.mono ?_);rintro e1 w1 ⟨rfl,ho1⟩;have HO1:Hid (Only [] w w1):=zo HA.out ho1;have HZ1:Hid (HBox w1 w.heap.size 0 0):=HZ.out.kept ho1 (by simp);have hs1:w.heap.size < w1.heap.size:=HZ1.out.lt;clear ho1 hro))
 go_loopw [15] (fun k wr=>∃ (j:Nat) (f:Nat→Nat×Nat),k = .int .i64 j∧j≤n∧StepsD D A ps f j∧HBox wr w1.heap.size (f j).1 (f j).2∧HBox wr w.heap.size 0 0∧Only [] w wr) (fun k _=>n - (intOf k).toNat)
 case atStart =>
  refine ⟨0,fun _=>(0,0),rfl,Nat.zero_le _,⟨rfl,fun q hq=>by omega⟩,?_,?_,HO1.out.alloc _⟩
  · exact heap_alloc_last w1 _
  · exact HZ1.out.kept ((Only.refl [] w1).alloc _) (by simp)
 case round =>
  obtain ⟨j,f,rfl,hj,hst,hb6,hb0,hor⟩:=hrel;have HST:Hid (StepsD D A ps f j):=hst;have HB6:Hid (HBox wr w1.heap.size (f j).1 (f j).2):=hb6;have HB0:Hid (HBox wr w.heap.size 0 0):=hb0;have HOR:Hid (Only [] w wr):=hor;obtain ⟨x0,x1⟩:=hb6.cells;clear hst hb6 hb0 hor
  by_cases hlt:j < n
  · obtain ⟨s,hs⟩:∃ s,ps[j]?=some s:=⟨_,List.getElem?_eq_getElem (by have:=HN.out;omega)⟩
    have HS:Hid (ps[j]?=some s):=hs;obtain ⟨g,rfl,hg⟩:=HP.out j s hs;have c0:wr.cell? ⟨g,j,none⟩=some (.string s):=(HOR.out.cell (p:=⟨g,j,none⟩) (zv hg) (by simp)).trans hg;obtain ⟨x,o,hx,hlk⟩:=HLK.out ((f j).1:Nat) ((f j).2:Nat) s;have hlk1:=hlk wr HOR.out;have HX:Hid (LookD D A ((f j).1:Nat) ((f j).2:Nat) s x o):=hx;clear hlk hs hg hx
    cases o with
    | some er =>
      change Calls _ _ _ _ fun r w'=>r = .returned (.tuple #[.agg #[.int .i64 (x.1:Nat),.int .i64 (x.2:Nat)],.iface 228 (.pointer (some er))])∧Only [] wr w' at hlk1
      go_wp2_with (first
        | (go_at_call 11;go_must (refine hlk1.mono ?_);rintro e2 w2 ⟨rfl,ho2⟩;have HO2:Hid (Only [] w w2):=zo HOR.out ho2;have hz2:HBox w2 w.heap.size 0 0:=HB0.out.kept ho2 (by simp);have HZ2:Hid (HBox w2 w.heap.size 0 0):=hz2;obtain ⟨v0,v1⟩:=hz2.cells;have vf:=hz2.frozen;have hyl:=hz2.lt;clear ho2 hlk1 hz2 x0 x1 c0)
        | go_in)
      refine bodyPost_ret (v := .tuple #[.agg #[.int .i64 0,.int .i64 0],.iface 114 (.pointer (some ⟨w2.heap.size+1,0,none⟩))]) (by simp [results,Tryz.results18,go_sem,v0,v1,hyl]) rfl ?_;have hsz:=HO2.out.size;refine Or.inr ⟨f,j,s,x,er,w2.heap.size+1,HST.out,HS.out,HX.out,rfl,by omega,?_,?_⟩
      · have hh:=heap_alloc_last (((w2.setCell ⟨w.heap.size,0,none⟩ (.int .i64 0)).setCell ⟨w.heap.size,1,none⟩ (.int .i64 0)).alloc (.cells #[.int .i64 (x.1:Nat),.int .i64 (x.2:Nat)] 35)) (.cells #[.int .i64 (j:Nat),.iface 228 (.pointer (some er))] 116)
        rw [show (((w2.setCell ⟨w.heap.size,0,none⟩ (.int .i64 0)).setCell ⟨w.heap.size,1,none⟩ (.int .i64 0)).alloc (.cells #[.int .i64 (x.1:Nat),.int .i64 (x.2:Nat)] 35)).heap.size=w2.heap.size+1 by simp] at hh;exact hh
      · repeat (first | exact HO2.out | refine Only.setCell ?_ (Or.inr (Nat.le_refl _)) _ | refine Only.alloc ?_ _ | refine Only.drew ?_)
    | none =>
      change Calls _ _ _ _ fun r w'=>r = .returned (.tuple #[.agg #[.int .i64 (x.1:Nat),.int .i64 (x.2:Nat)],.nilIface])∧Only [] wr w' at hlk1
      go_wp2_with (first
        | (go_at_call 11;go_must (refine hlk1.mono ?_);rintro e2 w2 ⟨rfl,ho2⟩;have HO2:Hid (Only [] w w2):=zo HOR.out ho2;have HZ2:Hid (HBox w2 w.heap.size 0 0):=HB0.out.kept ho2 (by simp);have hb2:HBox w2 w1.heap.size (f j).1 (f j).2:=HB6.out.kept ho2 (by simp);have HB2:Hid (HBox w2 w1.heap.size (f j).1 (f j).2):=hb2;have vf:=hb2.frozen;have hyl:=hb2.lt;obtain ⟨y0,y1⟩:=hb2.cells;clear ho2 hlk1 hb2 x0 x1 c0)
        | go_in)
      go_roundw
      case rel =>
        refine ⟨j+1,setN f (j+1) x,by go_num,by omega,HST.out.next HS.out HX.out,?_,?_,?_⟩
        · rw [setN_same]
          exact (HB2.out.fill x.1 x.2).kept ((Only.refl [] _).alloc _) (by simp)
        · exact ((HZ2.out.other (by omega)).other (by omega)).kept ((Only.refl [] _).alloc _) (by simp)
        · exact ((HO2.out.setCell (Or.inr (Nat.le_of_lt hs1)) _).setCell (Or.inr (Nat.le_of_lt hs1)) _).alloc _
      case measure=>simp [intOf];omega
  · obtain rfl:n=j:=by omega
    obtain ⟨v0,v1⟩:=HB0.out.cells;have vf:=HB0.out.frozen;have hyl:=HB0.out.lt
    go_wp2
    refine bodyPost_ret (v := .tuple #[.agg #[.int .i64 ((f n).1:Nat),.int .i64 ((f n).2:Nat)],.nilIface]) (by simp [results,Tryz.results18,go_sem,v0,v1]) rfl ?_;refine Or.inl ⟨f,by rw [HN.out];exact HST.out,by rw [HN.out],?_⟩
    repeat (first | exact HOR.out | refine Only.setCell ?_ (Or.inr (Nat.le_refl _)) _ | refine Only.alloc ?_ _ | refine Only.drew ?_)
theorem oc_zero {A:Nat→Addr}{c:Nat}(h:none=oc A c):c=0:=by
 unfold oc at h
 split at h
 · assumption
 · cases h
theorem oc_some2 {A:Nat→Addr}{c:Nat}{ad:Addr}(h:some ad=oc A c):c≠0∧ad=A (c - 1):=by
 unfold oc at h
 split at h
 · cases h
 · exact ⟨by assumption,Option.some.inj h⟩
theorem StepsD.same {D:Dt}{A:Nat→Addr}{ps:List ByteArray}{f f':Nat→Nat×Nat}{j j':Nat}(h:StepsD D A ps f j)(h':StepsD D A ps f' j'):∀ q,q≤j→q≤j'→f' q=f q
 | 0,_,_=>h'.1.trans h.1.symm
 | q+1,h1,h2=>by
  have ih:=StepsD.same h h' q (by omega) (by omega);obtain ⟨s,hs,c,_,hL,ho⟩:=h.2 q (by omega);obtain ⟨s',hs',c',_,hL',ho'⟩:=h'.2 q (by omega);rw [hs] at hs'
  cases hs'
  rw [ih] at hL';obtain ⟨_,e1,e2⟩:=look_det hL hL';exact Prod.ext e1 e2
theorem StepsD.stop {D:Dt}{A:Nat→Addr}{ps:List ByteArray}{f f':Nat→Nat×Nat}{j j':Nat}{s:ByteArray}{c i k:Nat}(h:StepsD D A ps f j)(h':StepsD D A ps f' j')(hs:ps[j]?=some s)(hL:LookR D ((f j).1:Nat) ((f j).2:Nat) s c i k)(hc:c≠0):j'≤j:=by
 rcases Nat.lt_or_ge j j' with hlt | hge
 · obtain ⟨s',hs',c',_,hL',ho'⟩:=h'.2 j hlt
   rw [hs] at hs'
   cases hs'
   rw [h.same h' j (Nat.le_refl _) (Nat.le_of_lt hlt)] at hL';have:=(look_det hL hL').1;have:=oc_zero ho';omega
 · exact hge
theorem walked_all {w w':World}{D:Dt}{A:Nat→Addr}{ps:List ByteArray}{e:Ending}{f:Nat→Nat×Nat}(hw:WalkedD w w' D A ps e)(h:StepsD D A ps f ps.length):e = .returned (.tuple #[.agg #[.int .i64 ((f ps.length).1:Nat),.int .i64 ((f ps.length).2:Nat)],.nilIface])∧Only [] w w':=by
 rcases hw with ⟨f',h',he,ho⟩ | ⟨f',j,s,x,ad,b,h',hs,⟨c,_,hL,hoc⟩,_⟩
 · rw [h.same h' _ (Nat.le_refl _) (Nat.le_refl _)] at he
   exact ⟨he,ho⟩
 · have hj:j < ps.length:=(List.getElem?_eq_some_iff.1 hs).1
   have:=StepsD.stop h' h hs hL (oc_some2 hoc).1;omega
theorem walked_err {w w':World}{D:Dt}{A:Nat→Addr}{ps:List ByteArray}{e:Ending}{f:Nat→Nat×Nat}{j:Nat}{s:ByteArray}{c i k:Nat}(hw:WalkedD w w' D A ps e)(h:StepsD D A ps f j)(hs:ps[j]?=some s)(hL:LookR D ((f j).1:Nat) ((f j).2:Nat) s c i k)(hc:c≠0):∃ b,e = .returned (.tuple #[.agg #[.int .i64 0,.int .i64 0],.iface 114 (.pointer (some ⟨b,0,none⟩))])∧w'.cell? ⟨b,0,none⟩=some (.int .i64 (j:Nat))∧w'.cell? ⟨b,1,none⟩=some (.iface 228 (.pointer (some (A (c - 1)))))∧Only [] w w':=by
 have hj:j < ps.length:=(List.getElem?_eq_some_iff.1 hs).1;rcases hw with ⟨f',h',he,ho⟩ | ⟨f',j',s',x,ad,b,h',hs',⟨c',_,hL',hoc⟩,he,_,hb,ho⟩
 · have:=h.stop h' hs hL hc
   omega
 · have h1:=h.stop h' hs hL hc
   have h2:=StepsD.stop h' h hs' hL' (oc_some2 hoc).1
   obtain rfl:j'=j:=by omega
   rw [hs] at hs'
   cases hs'
   rw [h.same h' j' (Nat.le_refl _) (Nat.le_refl _)] at hL';obtain ⟨e1,_,_⟩:=look_det hL hL';subst e1;refine ⟨b,he,cell_of_row _ _ 0 _ _ _ hb,?_,ho⟩;rw [← (oc_some2 hoc).2];exact cell_of_row _ _ 1 _ _ _ hb
end
end Go.Proofs.YtkcabopgajlmdaaGreatDoor
