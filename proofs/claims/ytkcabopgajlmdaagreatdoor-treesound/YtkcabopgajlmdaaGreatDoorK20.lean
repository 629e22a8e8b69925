import Derived.Test.YtkcabopgajlmdaaGreatDoorK19
import Derived.Test.YtkcabopgajlmdaaGreatDoorK12
set_option maxRecDepth 100000
set_option maxHeartbeats 8000000
namespace Go.Proofs.YtkcabopgajlmdaaGreatDoor
section
open Go Go.RowKit Go.Deep Go.Maps
def ABox (w:World)(B:Nat)(K L:Int):Prop:=w.cell? (zA B 0)=some (zI K)∧w.cell? (zA B 2)=some (zI L)
theorem ABox.kept {w w':World}{B:Nat}{K L:Int}{M:List Nat}(h:ABox w B K L)(ho:Only M w w')(hB:B∉M):ABox w' B K L:=⟨(ho.cell (p:=⟨B,0,none⟩) (zv h.1) hB).trans h.1,(ho.cell (p:=⟨B,2,none⟩) (zv h.2) hB).trans h.2⟩
theorem first_three (w:World)(o1 o2 o3:Option Addr):zE 43 #[.slice (some ⟨w.heap.size,0,none⟩) 3 3] (w.alloc (.cells #[errO o1,errO o2,errO o3] 28)) (errO (firstV [o1,o2,o3])) :=
 firstOf_any (w.alloc (.cells #[errO o1,errO o2,errO o3] 28)) w.heap.size 3 3 [o1,o2,o3] rfl (by decide) (fun j o hj=>by
  have hh:=zh w (.cells #[errO o1,errO o2,errO o3] 28);rw [cell_of_row _ _ _ _ _ _ hh]
  match j,hj with
  | 0,hj=>simp at hj;subst hj;rfl
  | 1,hj=>simp at hj;subst hj;rfl
  | 2,hj=>simp at hj;subst hj;rfl
  | j+3,hj=>simp at hj)
section
variable (w:World)(tr t:Nat)(N G M F K Z L C UN UG:Int)(s:ByteArray)
theorem link_err (o1 o2 o3:Option Addr)(ad:Addr)(hc:w.cell? (zA tr 0)=some (zP t))(h1:∀ W,zQ w W→zO 52 #[zP t,zG N G] W (.tuple #[.agg #[zI K,zI Z,zI L,zI C,zI UN,zI UG],errO o1]))(h2:∀ W,zQ w W→zO 44 #[zP tr,zG M F] W (errO o2))(h3:∀ W,zQ w W→zO 45 #[.string s] W (errO o3))(hf:firstV [o1,o2,o3]=some ad):
   zO 29 #[zP tr,zG N G,zG M F,.string s] w (errV ad):=by
 have htl:tr < w.heap.size:=zv hc;have HVA:Hid (zQ w ((w.alloc (zH N G)).alloc (zH M F))):=((Only.refl [] _).alloc _).alloc _
 have H1:Hid (((w.alloc (zH N G)).alloc (zH M F)).cell? (zA tr 0)=some (zP t)∧((w.alloc (zH N G)).alloc (zH M F)).cell? (zA w.heap.size 0)=some (zI N)∧((w.alloc (zH N G)).alloc (zH M F)).cell? (zA w.heap.size 1)=some (zI G)):=by
   obtain ⟨a0,a1,_,_⟩:=two_ints (N:=N) (G:=G) (M:=M) (F:=F) (Only.refl [] ((w.alloc (zH N G)).alloc (zH M F))) (not_nil _);exact ⟨(HVA.out.cell (p:=⟨tr,0,none⟩) htl (by simp)).trans hc,a0,a1⟩
 have HW1:Hid (zQ ((w.alloc (zH N G)).alloc (zH M F)) ((w.alloc (zH N G)).alloc (zH M F)).drew):=(Only.refl [] _).drew;have HW2:Hid (zQ ((w.alloc (zH N G)).alloc (zH M F)) (((w.alloc (zH N G)).alloc (zH M F)).alloc (.cells #[zI 0,zI 0,zI 0,zI 0,zI 0,zI 0] 65)).drew):=((Only.refl [] _).alloc _).drew;have HV1:Hid (zQ w ((w.alloc (zH N G)).alloc (zH M F)).drew):=zo HVA.out HW1.out;have HV2:Hid (zQ w (((w.alloc (zH N G)).alloc (zH M F)).alloc (.cells #[zI 0,zI 0,zI 0,zI 0,zI 0,zI 0] 65)).drew):=zo HVA.out HW2.out;have K1:Hid (((w.alloc (zH N G)).alloc (zH M F)).drew.cell? (zA tr 0)=some (zP t)∧((w.alloc (zH N G)).alloc (zH M F)).drew.cell? (zA w.heap.size 0)=some (zI N)∧((w.alloc (zH N G)).alloc (zH M F)).drew.cell? (zA w.heap.size 1)=some (zI G)):=keepZ_only H1.out HW1.out;have K2:Hid ((((w.alloc (zH N G)).alloc (zH M F)).alloc (.cells #[zI 0,zI 0,zI 0,zI 0,zI 0,zI 0] 65)).drew.cell? (zA tr 0)=some (zP t)∧(((w.alloc (zH N G)).alloc (zH M F)).alloc (.cells #[zI 0,zI 0,zI 0,zI 0,zI 0,zI 0] 65)).drew.cell? (zA w.heap.size 0)=some (zI N)∧(((w.alloc (zH N G)).alloc (zH M F)).alloc (.cells #[zI 0,zI 0,zI 0,zI 0,zI 0,zI 0] 65)).drew.cell? (zA w.heap.size 1)=some (zI G)):=keepZ_only H1.out HW2.out
 have HN2:Hid (tr≠w.heap.size+2):=show tr≠w.heap.size+2 from by omega
 have HB2:Hid (w.heap.size≠w.heap.size+2):=show w.heap.size≠w.heap.size+2 from by omega
 have HC:Hid (∀ W,zQ w W→_):=h1;have HD:Hid (∀ W,zQ w W→_):=h2;have HK:Hid (∀ W,zQ w W→_):=h3;have HF:Hid (∀ w3:World,_):=fun w3=>first_three w3 o1 o2 o3;rw [hf] at HF
 change Hid (∀ w3:World,Calls _ _ _ _ fun e w'=>e = .returned (errV ad)∧_) at HF
 clear h1 h2 h3 hf hc;have HU:∀ (x:Addr),errO (some x) = .iface 228 (.pointer (some x)):=fun _=>rfl;have HN:errO none = .nilIface:=rfl;unfold errV at HF ⊢;rcases o1 with _ | p1<;>rcases o2 with _ | p2<;>rcases o3 with _ | p3
 · simp only [HN] at HF HC HD HK
   clear HU HN
   go_enter Tryz.func29,Tryz.ntmps29
   go_upto_region 1 with fail
   go_cut [9,10] from 13 to 21 (fun q r wx=>∃ B,q=zP B∧r = .nilIface∧w.heap.size+1 < B∧ABox wx B K L∧zQ ((w.alloc (zH N G)).alloc (zH M F)) wx)
   case first =>
    go_region_held3 (fun W=>W.cell? (zA tr 0)=some (zP t)∧W.cell? (zA w.heap.size 0)=some (zI N)∧W.cell? (zA w.heap.size 1)=some (zI G))
      (with_reducible first
       | exact K1.out
       | exact K2.out
       | exact HS2.out
       | exact keepZ_alloc HS2.out
       | exact keepZ_set (keepZ_set (keepZ_set (keepZ_set (keepZ_set (keepZ_set (HS2.out) HN2.out HB2.out) HN2.out HB2.out) HN2.out HB2.out) HN2.out HB2.out) HN2.out HB2.out) HN2.out HB2.out)
      (first
       | (go_at_call 52;refine (HC.out _ HV1.out).mono ?_;rintro e w2 ⟨rfl,ho2⟩;have HO2:Hid (zQ ((w.alloc (zH N G)).alloc (zH M F)) w2):=zo HW1.out ho2;have HS2:Hid (w2.cell? (zA tr 0)=some (zP t)∧w2.cell? (zA w.heap.size 0)=some (zI N)∧w2.cell? (zA w.heap.size 1)=some (zI G)):=keepZ_only H1.out HO2.out;clear ho2)
       | (go_at_call 52;refine (HC.out _ HV2.out).mono ?_;rintro e w2 ⟨rfl,ho2⟩;have HO2:Hid (zQ ((w.alloc (zH N G)).alloc (zH M F)) w2):=zo HW2.out ho2;have HS2:Hid (w2.cell? (zA tr 0)=some (zP t)∧w2.cell? (zA w.heap.size 0)=some (zI N)∧w2.cell? (zA w.heap.size 1)=some (zI G)):=keepZ_only H1.out HO2.out;obtain ⟨q0,q1,q2,q3,q4,q5,f1,hl1⟩:=own_six_drew (B:=w.heap.size+2) ho2 (by simp);clear ho2))
    all_goals go_wp2
    all_goals go_meet
    · have hsz:w.heap.size+1 < w2.heap.size:=Nat.lt_of_lt_of_le (by simp) HO2.out.size
      have hh:=zh w2 (.cells #[zI K,zI Z,zI L,zI C,zI UN,zI UG] 65);exact ⟨w2.heap.size,rfl,rfl,hsz,⟨cell_of_row _ _ 0 _ _ _ hh,cell_of_row _ _ 2 _ _ _ hh⟩,HO2.out.alloc _⟩
    · exact ⟨w.heap.size+1+1,rfl,rfl,by omega,six_read q0 q2,HO2.out.six (by simp)⟩
   case rest =>
    obtain ⟨B,rfl,rfl,hB,hab,hoc⟩:=hcut;generalize wc=w5 at hab hoc ⊢;have HO5:Hid (zQ ((w.alloc (zH N G)).alloc (zH M F)) w5):=hoc;have HA5:Hid (ABox w5 B K L):=hab;have hcd:=HD.out w5 (zo HVA.out hoc);obtain ⟨y0,y1,y2,y3⟩:=two_ints hoc (not_nil _);clear hab hoc H1 HW1 HW2 HV1 HV2 K1 K2 HN2 HB2 HC
    go_wp2_with (first
      | (go_at_call 44;go_must (refine hcd.mono ?_);rintro e w6 ⟨rfl,ho6⟩;have HO6:Hid (zQ w5 w6):=ho6;have hck:=HK.out w6 (zo HVA.out (zo HO5.out ho6));clear ho6 hcd)
      | (go_at_call 45;go_must (refine hck.mono ?_);rintro e w7 ⟨rfl,ho7⟩;have HO7:Hid (zQ w5 w7):=zo HO6.out ho7;have hfo:=HF.out w7;clear ho7 hck)
      | (go_at_call 43;go_must (refine hfo.mono ?_);rintro e w8 ⟨rfl,rfl⟩;clear hfo)
      | go_in)
    go_ret
    exact ⟨rfl,(zo HVA.out (zo HO5.out HO7.out)).alloc _⟩
 · simp only [HU,HN] at HF HC HD HK
   clear HU HN
   go_enter Tryz.func29,Tryz.ntmps29
   go_upto_region 1 with fail
   go_cut [9,10] from 13 to 21 (fun q r wx=>∃ B,q=zP B∧r = .nilIface∧w.heap.size+1 < B∧ABox wx B K L∧zQ ((w.alloc (zH N G)).alloc (zH M F)) wx)
   case first =>
    go_region_held3 (fun W=>W.cell? (zA tr 0)=some (zP t)∧W.cell? (zA w.heap.size 0)=some (zI N)∧W.cell? (zA w.heap.size 1)=some (zI G))
      (with_reducible first
       | exact K1.out
       | exact K2.out
       | exact HS2.out
       | exact keepZ_alloc HS2.out
       | exact keepZ_set (keepZ_set (keepZ_set (keepZ_set (keepZ_set (keepZ_set (HS2.out) HN2.out HB2.out) HN2.out HB2.out) HN2.out HB2.out) HN2.out HB2.out) HN2.out HB2.out) HN2.out HB2.out)
      (first
       | (go_at_call 52;refine (HC.out _ HV1.out).mono ?_;rintro e w2 ⟨rfl,ho2⟩;have HO2:Hid (zQ ((w.alloc (zH N G)).alloc (zH M F)) w2):=zo HW1.out ho2;have HS2:Hid (w2.cell? (zA tr 0)=some (zP t)∧w2.cell? (zA w.heap.size 0)=some (zI N)∧w2.cell? (zA w.heap.size 1)=some (zI G)):=keepZ_only H1.out HO2.out;clear ho2)
       | (go_at_call 52;refine (HC.out _ HV2.out).mono ?_;rintro e w2 ⟨rfl,ho2⟩;have HO2:Hid (zQ ((w.alloc (zH N G)).alloc (zH M F)) w2):=zo HW2.out ho2;have HS2:Hid (w2.cell? (zA tr 0)=some (zP t)∧w2.cell? (zA w.heap.size 0)=some (zI N)∧w2.cell? (zA w.heap.size 1)=some (zI G)):=keepZ_only H1.out HO2.out;obtain ⟨q0,q1,q2,q3,q4,q5,f1,hl1⟩:=own_six_drew (B:=w.heap.size+2) ho2 (by simp);clear ho2))
    all_goals go_wp2
    all_goals go_meet
    · have hsz:w.heap.size+1 < w2.heap.size:=Nat.lt_of_lt_of_le (by simp) HO2.out.size
      have hh:=zh w2 (.cells #[zI K,zI Z,zI L,zI C,zI UN,zI UG] 65);exact ⟨w2.heap.size,rfl,rfl,hsz,⟨cell_of_row _ _ 0 _ _ _ hh,cell_of_row _ _ 2 _ _ _ hh⟩,HO2.out.alloc _⟩
    · exact ⟨w.heap.size+1+1,rfl,rfl,by omega,six_read q0 q2,HO2.out.six (by simp)⟩
   case rest =>
    obtain ⟨B,rfl,rfl,hB,hab,hoc⟩:=hcut;generalize wc=w5 at hab hoc ⊢;have HO5:Hid (zQ ((w.alloc (zH N G)).alloc (zH M F)) w5):=hoc;have HA5:Hid (ABox w5 B K L):=hab;have hcd:=HD.out w5 (zo HVA.out hoc);obtain ⟨y0,y1,y2,y3⟩:=two_ints hoc (not_nil _);clear hab hoc H1 HW1 HW2 HV1 HV2 K1 K2 HN2 HB2 HC
    go_wp2_with (first
      | (go_at_call 44;go_must (refine hcd.mono ?_);rintro e w6 ⟨rfl,ho6⟩;have HO6:Hid (zQ w5 w6):=ho6;have hck:=HK.out w6 (zo HVA.out (zo HO5.out ho6));clear ho6 hcd)
      | (go_at_call 45;go_must (refine hck.mono ?_);rintro e w7 ⟨rfl,ho7⟩;have HO7:Hid (zQ w5 w7):=zo HO6.out ho7;have hfo:=HF.out w7;clear ho7 hck)
      | (go_at_call 43;go_must (refine hfo.mono ?_);rintro e w8 ⟨rfl,rfl⟩;clear hfo)
      | go_in)
    go_ret
    exact ⟨rfl,(zo HVA.out (zo HO5.out HO7.out)).alloc _⟩
 · simp only [HU,HN] at HF HC HD HK
   clear HU HN
   go_enter Tryz.func29,Tryz.ntmps29
   go_upto_region 1 with fail
   go_cut [9,10] from 13 to 21 (fun q r wx=>∃ B,q=zP B∧r = .nilIface∧w.heap.size+1 < B∧ABox wx B K L∧zQ ((w.alloc (zH N G)).alloc (zH M F)) wx)
   case first =>
    go_region_held3 (fun W=>W.cell? (zA tr 0)=some (zP t)∧W.cell? (zA w.heap.size 0)=some (zI N)∧W.cell? (zA w.heap.size 1)=some (zI G))
      (with_reducible first
       | exact K1.out
       | exact K2.out
       | exact HS2.out
       | exact keepZ_alloc HS2.out
       | exact keepZ_set (keepZ_set (keepZ_set (keepZ_set (keepZ_set (keepZ_set (HS2.out) HN2.out HB2.out) HN2.out HB2.out) HN2.out HB2.out) HN2.out HB2.out) HN2.out HB2.out) HN2.out HB2.out)
      (first
       | (go_at_call 52;refine (HC.out _ HV1.out).mono ?_;rintro e w2 ⟨rfl,ho2⟩;have HO2:Hid (zQ ((w.alloc (zH N G)).alloc (zH M F)) w2):=zo HW1.out ho2;have HS2:Hid (w2.cell? (zA tr 0)=some (zP t)∧w2.cell? (zA w.heap.size 0)=some (zI N)∧w2.cell? (zA w.heap.size 1)=some (zI G)):=keepZ_only H1.out HO2.out;clear ho2)
       | (go_at_call 52;refine (HC.out _ HV2.out).mono ?_;rintro e w2 ⟨rfl,ho2⟩;have HO2:Hid (zQ ((w.alloc (zH N G)).alloc (zH M F)) w2):=zo HW2.out ho2;have HS2:Hid (w2.cell? (zA tr 0)=some (zP t)∧w2.cell? (zA w.heap.size 0)=some (zI N)∧w2.cell? (zA w.heap.size 1)=some (zI G)):=keepZ_only H1.out HO2.out;obtain ⟨q0,q1,q2,q3,q4,q5,f1,hl1⟩:=own_six_drew (B:=w.heap.size+2) ho2 (by simp);clear ho2))
    all_goals go_wp2
    all_goals go_meet
    · have hsz:w.heap.size+1 < w2.heap.size:=Nat.lt_of_lt_of_le (by simp) HO2.out.size
      have hh:=zh w2 (.cells #[zI K,zI Z,zI L,zI C,zI UN,zI UG] 65);exact ⟨w2.heap.size,rfl,rfl,hsz,⟨cell_of_row _ _ 0 _ _ _ hh,cell_of_row _ _ 2 _ _ _ hh⟩,HO2.out.alloc _⟩
    · exact ⟨w.heap.size+1+1,rfl,rfl,by omega,six_read q0 q2,HO2.out.six (by simp)⟩
   case rest =>
    obtain ⟨B,rfl,rfl,hB,hab,hoc⟩:=hcut;generalize wc=w5 at hab hoc ⊢;have HO5:Hid (zQ ((w.alloc (zH N G)).alloc (zH M F)) w5):=hoc;have HA5:Hid (ABox w5 B K L):=hab;have hcd:=HD.out w5 (zo HVA.out hoc);obtain ⟨y0,y1,y2,y3⟩:=two_ints hoc (not_nil _);clear hab hoc H1 HW1 HW2 HV1 HV2 K1 K2 HN2 HB2 HC
    go_wp2_with (first
      | (go_at_call 44;go_must (refine hcd.mono ?_);rintro e w6 ⟨rfl,ho6⟩;have HO6:Hid (zQ w5 w6):=ho6;have hck:=HK.out w6 (zo HVA.out (zo HO5.out ho6));clear ho6 hcd)
      | (go_at_call 45;go_must (refine hck.mono ?_);rintro e w7 ⟨rfl,ho7⟩;have HO7:Hid (zQ w5 w7):=zo HO6.out ho7;have hfo:=HF.out w7;clear ho7 hck)
      | (go_at_call 43;go_must (refine hfo.mono ?_);rintro e w8 ⟨rfl,rfl⟩;clear hfo)
      | go_in)
    go_ret
    exact ⟨rfl,(zo HVA.out (zo HO5.out HO7.out)).alloc _⟩
 · simp only [HU,HN] at HF HC HD HK
   clear HU HN
   go_enter Tryz.func29,Tryz.ntmps29
   go_upto_region 1 with fail
   go_cut [9,10] from 13 to 21 (fun q r wx=>∃ B,q=zP B∧r = .nilIface∧w.heap.size+1 < B∧ABox wx B K L∧zQ ((w.alloc (zH N G)).alloc (zH M F)) wx)
   case first =>
    go_region_held3 (fun W=>W.cell? (zA tr 0)=some (zP t)∧W.cell? (zA w.heap.size 0)=some (zI N)∧W.cell? (zA w.heap.size 1)=some (zI G))
      (with_reducible first
       | exact K1.out
       | exact K2.out
       | exact HS2.out
       | exact keepZ_alloc HS2.out
       | exact keepZ_set (keepZ_set (keepZ_set (keepZ_set (keepZ_set (keepZ_set (HS2.out) HN2.out HB2.out) HN2.out HB2.out) HN2.out HB2.out) HN2.out HB2.out) HN2.out HB2.out) HN2.out HB2.out)
      (first
       | (go_at_call 52;refine (HC.out _ HV1.out).mono ?_;rintro e w2 ⟨rfl,ho2⟩;have HO2:Hid (zQ ((w.alloc (zH N G)).alloc (zH M F)) w2):=zo HW1.out ho2;have HS2:Hid (w2.cell? (zA tr 0)=some (zP t)∧w2.cell? (zA w.heap.size 0)=some (zI N)∧w2.cell? (zA w.heap.size 1)=some (zI G)):=keepZ_only H1.out HO2.out;clear ho2)
       | (go_at_call 52;refine (HC.out _ HV2.out).mono ?_;rintro e w2 ⟨rfl,ho2⟩;have HO2:Hid (zQ ((w.alloc (zH N G)).alloc (zH M F)) w2):=zo HW2.out ho2;have HS2:Hid (w2.cell? (zA tr 0)=some (zP t)∧w2.cell? (zA w.heap.size 0)=some (zI N)∧w2.cell? (zA w.heap.size 1)=some (zI G)):=keepZ_only H1.out HO2.out;obtain ⟨q0,q1,q2,q3,q4,q5,f1,hl1⟩:=own_six_drew (B:=w.heap.size+2) ho2 (by simp);clear ho2))
    all_goals go_wp2
    all_goals go_meet
    · have hsz:w.heap.size+1 < w2.heap.size:=Nat.lt_of_lt_of_le (by simp) HO2.out.size
      have hh:=zh w2 (.cells #[zI K,zI Z,zI L,zI C,zI UN,zI UG] 65);exact ⟨w2.heap.size,rfl,rfl,hsz,⟨cell_of_row _ _ 0 _ _ _ hh,cell_of_row _ _ 2 _ _ _ hh⟩,HO2.out.alloc _⟩
    · exact ⟨w.heap.size+1+1,rfl,rfl,by omega,six_read q0 q2,HO2.out.six (by simp)⟩
   case rest =>
    obtain ⟨B,rfl,rfl,hB,hab,hoc⟩:=hcut;generalize wc=w5 at hab hoc ⊢;have HO5:Hid (zQ ((w.alloc (zH N G)).alloc (zH M F)) w5):=hoc;have HA5:Hid (ABox w5 B K L):=hab;have hcd:=HD.out w5 (zo HVA.out hoc);obtain ⟨y0,y1,y2,y3⟩:=two_ints hoc (not_nil _);clear hab hoc H1 HW1 HW2 HV1 HV2 K1 K2 HN2 HB2 HC
    go_wp2_with (first
      | (go_at_call 44;go_must (refine hcd.mono ?_);rintro e w6 ⟨rfl,ho6⟩;have HO6:Hid (zQ w5 w6):=ho6;have hck:=HK.out w6 (zo HVA.out (zo HO5.out ho6));clear ho6 hcd)
      | (go_at_call 45;go_must (refine hck.mono ?_);rintro e w7 ⟨rfl,ho7⟩;have HO7:Hid (zQ w5 w7):=zo HO6.out ho7;have hfo:=HF.out w7;clear ho7 hck)
      | (go_at_call 43;go_must (refine hfo.mono ?_);rintro e w8 ⟨rfl,rfl⟩;clear hfo)
      | go_in)
    go_ret
    exact ⟨rfl,(zo HVA.out (zo HO5.out HO7.out)).alloc _⟩
 · simp only [HU,HN] at HF HC HD HK
   clear HU HN
   go_enter Tryz.func29,Tryz.ntmps29
   go_upto_region 1 with fail
   go_cut [9,10] from 13 to 21 (fun q r wx=>∃ B,q=zP B∧r=(.iface 228 (.pointer (some p1)))∧w.heap.size+1 < B∧ABox wx B K L∧zQ ((w.alloc (zH N G)).alloc (zH M F)) wx)
   case first =>
    go_region_held3 (fun W=>W.cell? (zA tr 0)=some (zP t)∧W.cell? (zA w.heap.size 0)=some (zI N)∧W.cell? (zA w.heap.size 1)=some (zI G))
      (with_reducible first
       | exact K1.out
       | exact K2.out
       | exact HS2.out
       | exact keepZ_alloc HS2.out
       | exact keepZ_set (keepZ_set (keepZ_set (keepZ_set (keepZ_set (keepZ_set (HS2.out) HN2.out HB2.out) HN2.out HB2.out) HN2.out HB2.out) HN2.out HB2.out) HN2.out HB2.out) HN2.out HB2.out)
      (first
       | (go_at_call 52;refine (HC.out _ HV1.out).mono ?_;rintro e w2 ⟨rfl,ho2⟩;have HO2:Hid (zQ ((w.alloc (zH N G)).alloc (zH M F)) w2):=zo HW1.out ho2;have HS2:Hid (w2.cell? (zA tr 0)=some (zP t)∧w2.cell? (zA w.heap.size 0)=some (zI N)∧w2.cell? (zA w.heap.size 1)=some (zI G)):=keepZ_only H1.out HO2.out;clear ho2)
       | (go_at_call 52;refine (HC.out _ HV2.out).mono ?_;rintro e w2 ⟨rfl,ho2⟩;have HO2:Hid (zQ ((w.alloc (zH N G)).alloc (zH M F)) w2):=zo HW2.out ho2;have HS2:Hid (w2.cell? (zA tr 0)=some (zP t)∧w2.cell? (zA w.heap.size 0)=some (zI N)∧w2.cell? (zA w.heap.size 1)=some (zI G)):=keepZ_only H1.out HO2.out;obtain ⟨q0,q1,q2,q3,q4,q5,f1,hl1⟩:=own_six_drew (B:=w.heap.size+2) ho2 (by simp);clear ho2))
    all_goals go_wp2
    all_goals go_meet
    · have hsz:w.heap.size+1 < w2.heap.size:=Nat.lt_of_lt_of_le (by simp) HO2.out.size
      have hh:=zh w2 (.cells #[zI K,zI Z,zI L,zI C,zI UN,zI UG] 65);exact ⟨w2.heap.size,rfl,rfl,hsz,⟨cell_of_row _ _ 0 _ _ _ hh,cell_of_row _ _ 2 _ _ _ hh⟩,HO2.out.alloc _⟩
    · exact ⟨w.heap.size+1+1,rfl,rfl,by omega,six_read q0 q2,HO2.out.six (by simp)⟩
   case rest =>
    obtain ⟨B,rfl,rfl,hB,hab,hoc⟩:=hcut;generalize wc=w5 at hab hoc ⊢;have HO5:Hid (zQ ((w.alloc (zH N G)).alloc (zH M F)) w5):=hoc;have HA5:Hid (ABox w5 B K L):=hab;have hcd:=HD.out w5 (zo HVA.out hoc);obtain ⟨y0,y1,y2,y3⟩:=two_ints hoc (not_nil _);clear hab hoc H1 HW1 HW2 HV1 HV2 K1 K2 HN2 HB2 HC
    go_wp2_with (first
      | (go_at_call 44;go_must (refine hcd.mono ?_);rintro e w6 ⟨rfl,ho6⟩;have HO6:Hid (zQ w5 w6):=ho6;have hck:=HK.out w6 (zo HVA.out (zo HO5.out ho6));clear ho6 hcd)
      | (go_at_call 45;go_must (refine hck.mono ?_);rintro e w7 ⟨rfl,ho7⟩;have HO7:Hid (zQ w5 w7):=zo HO6.out ho7;have hfo:=HF.out w7;clear ho7 hck)
      | (go_at_call 43;go_must (refine hfo.mono ?_);rintro e w8 ⟨rfl,rfl⟩;clear hfo)
      | go_in)
    go_ret
    exact ⟨rfl,(zo HVA.out (zo HO5.out HO7.out)).alloc _⟩
 · simp only [HU,HN] at HF HC HD HK
   clear HU HN
   go_enter Tryz.func29,Tryz.ntmps29
   go_upto_region 1 with fail
   go_cut [9,10] from 13 to 21 (fun q r wx=>∃ B,q=zP B∧r=(.iface 228 (.pointer (some p1)))∧w.heap.size+1 < B∧ABox wx B K L∧zQ ((w.alloc (zH N G)).alloc (zH M F)) wx)
   case first =>
    go_region_held3 (fun W=>W.cell? (zA tr 0)=some (zP t)∧W.cell? (zA w.heap.size 0)=some (zI N)∧W.cell? (zA w.heap.size 1)=some (zI G))
      (with_reducible first
       | exact K1.out
       | exact K2.out
       | exact HS2.out
       | exact keepZ_alloc HS2.out
       | exact keepZ_set (keepZ_set (keepZ_set (keepZ_set (keepZ_set (keepZ_set (HS2.out) HN2.out HB2.out) HN2.out HB2.out) HN2.out HB2.out) HN2.out HB2.out) HN2.out HB2.out) HN2.out HB2.out)
      (first
       | (go_at_call 52;refine (HC.out _ HV1.out).mono ?_;rintro e w2 ⟨rfl,ho2⟩;have HO2:Hid (zQ ((w.alloc (zH N G)).alloc (zH M F)) w2):=zo HW1.out ho2;have HS2:Hid (w2.cell? (zA tr 0)=some (zP t)∧w2.cell? (zA w.heap.size 0)=some (zI N)∧w2.cell? (zA w.heap.size 1)=some (zI G)):=keepZ_only H1.out HO2.out;clear ho2)
       | (go_at_call 52;refine (HC.out _ HV2.out).mono ?_;rintro e w2 ⟨rfl,ho2⟩;have HO2:Hid (zQ ((w.alloc (zH N G)).alloc (zH M F)) w2):=zo HW2.out ho2;have HS2:Hid (w2.cell? (zA tr 0)=some (zP t)∧w2.cell? (zA w.heap.size 0)=some (zI N)∧w2.cell? (zA w.heap.size 1)=some (zI G)):=keepZ_only H1.out HO2.out;obtain ⟨q0,q1,q2,q3,q4,q5,f1,hl1⟩:=own_six_drew (B:=w.heap.size+2) ho2 (by simp);clear ho2))
    all_goals go_wp2
    all_goals go_meet
    · have hsz:w.heap.size+1 < w2.heap.size:=Nat.lt_of_lt_of_le (by simp) HO2.out.size
      have hh:=zh w2 (.cells #[zI K,zI Z,zI L,zI C,zI UN,zI UG] 65);exact ⟨w2.heap.size,rfl,rfl,hsz,⟨cell_of_row _ _ 0 _ _ _ hh,cell_of_row _ _ 2 _ _ _ hh⟩,HO2.out.alloc _⟩
    · exact ⟨w.heap.size+1+1,rfl,rfl,by omega,six_read q0 q2,HO2.out.six (by simp)⟩
   case rest =>
    obtain ⟨B,rfl,rfl,hB,hab,hoc⟩:=hcut;generalize wc=w5 at hab hoc ⊢;have HO5:Hid (zQ ((w.alloc (zH N G)).alloc (zH M F)) w5):=hoc;have HA5:Hid (ABox w5 B K L):=hab;have hcd:=HD.out w5 (zo HVA.out hoc);obtain ⟨y0,y1,y2,y3⟩:=two_ints hoc (not_nil _);clear hab hoc H1 HW1 HW2 HV1 HV2 K1 K2 HN2 HB2 HC
    go_wp2_with (first
      | (go_at_call 44;go_must (refine hcd.mono ?_);rintro e w6 ⟨rfl,ho6⟩;have HO6:Hid (zQ w5 w6):=ho6;have hck:=HK.out w6 (zo HVA.out (zo HO5.out ho6));clear ho6 hcd)
      | (go_at_call 45;go_must (refine hck.mono ?_);rintro e w7 ⟨rfl,ho7⟩;have HO7:Hid (zQ w5 w7):=zo HO6.out ho7;have hfo:=HF.out w7;clear ho7 hck)
      | (go_at_call 43;go_must (refine hfo.mono ?_);rintro e w8 ⟨rfl,rfl⟩;clear hfo)
      | go_in)
    go_ret
    exact ⟨rfl,(zo HVA.out (zo HO5.out HO7.out)).alloc _⟩
 · simp only [HU,HN] at HF HC HD HK
   clear HU HN
   go_enter Tryz.func29,Tryz.ntmps29
   go_upto_region 1 with fail
   go_cut [9,10] from 13 to 21 (fun q r wx=>∃ B,q=zP B∧r=(.iface 228 (.pointer (some p1)))∧w.heap.size+1 < B∧ABox wx B K L∧zQ ((w.alloc (zH N G)).alloc (zH M F)) wx)
   case first =>
    go_region_held3 (fun W=>W.cell? (zA tr 0)=some (zP t)∧W.cell? (zA w.heap.size 0)=some (zI N)∧W.cell? (zA w.heap.size 1)=some (zI G))
      (with_reducible first
       | exact K1.out
       | exact K2.out
       | exact HS2.out
       | exact keepZ_alloc HS2.out
       | exact keepZ_set (keepZ_set (keepZ_set (keepZ_set (keepZ_set (keepZ_set (HS2.out) HN2.out HB2.out) HN2.out HB2.out) HN2.out HB2.out) HN2.out HB2.out) HN2.out HB2.out) HN2.out HB2.out)
      (first
       | (go_at_call 52;refine (HC.out _ HV1.out).mono ?_;rintro e w2 ⟨rfl,ho2⟩;have HO2:Hid (zQ ((w.alloc (zH N G)).alloc (zH M F)) w2):=zo HW1.out ho2;have HS2:Hid (w2.cell? (zA tr 0)=some (zP t)∧w2.cell? (zA w.heap.size 0)=some (zI N)∧w2.cell? (zA w.heap.size 1)=some (zI G)):=keepZ_only H1.out HO2.out;clear ho2)
       | (go_at_call 52;refine (HC.out _ HV2.out).mono ?_;rintro e w2 ⟨rfl,ho2⟩;have HO2:Hid (zQ ((w.alloc (zH N G)).alloc (zH M F)) w2):=zo HW2.out ho2;have HS2:Hid (w2.cell? (zA tr 0)=some (zP t)∧w2.cell? (zA w.heap.size 0)=some (zI N)∧w2.cell? (zA w.heap.size 1)=some (zI G)):=keepZ_only H1.out HO2.out;obtain ⟨q0,q1,q2,q3,q4,q5,f1,hl1⟩:=own_six_drew (B:=w.heap.size+2) ho2 (by simp);clear ho2))
    all_goals go_wp2
    all_goals go_meet
    · have hsz:w.heap.size+1 < w2.heap.size:=Nat.lt_of_lt_of_le (by simp) HO2.out.size
      have hh:=zh w2 (.cells #[zI K,zI Z,zI L,zI C,zI UN,zI UG] 65);exact ⟨w2.heap.size,rfl,rfl,hsz,⟨cell_of_row _ _ 0 _ _ _ hh,cell_of_row _ _ 2 _ _ _ hh⟩,HO2.out.alloc _⟩
    · exact ⟨w.heap.size+1+1,rfl,rfl,by omega,six_read q0 q2,HO2.out.six (by simp)⟩
   case rest =>
    obtain ⟨B,rfl,rfl,hB,hab,hoc⟩:=hcut;generalize wc=w5 at hab hoc ⊢;have HO5:Hid (zQ ((w.alloc (zH N G)).alloc (zH M F)) w5):=hoc;have HA5:Hid (ABox w5 B K L):=hab;have hcd:=HD.out w5 (zo HVA.out hoc);obtain ⟨y0,y1,y2,y3⟩:=two_ints hoc (not_nil _);clear hab hoc H1 HW1 HW2 HV1 HV2 K1 K2 HN2 HB2 HC
    go_wp2_with (first
      | (go_at_call 44;go_must (refine hcd.mono ?_);rintro e w6 ⟨rfl,ho6⟩;have HO6:Hid (zQ w5 w6):=ho6;have hck:=HK.out w6 (zo HVA.out (zo HO5.out ho6));clear ho6 hcd)
      | (go_at_call 45;go_must (refine hck.mono ?_);rintro e w7 ⟨rfl,ho7⟩;have HO7:Hid (zQ w5 w7):=zo HO6.out ho7;have hfo:=HF.out w7;clear ho7 hck)
      | (go_at_call 43;go_must (refine hfo.mono ?_);rintro e w8 ⟨rfl,rfl⟩;clear hfo)
      | go_in)
    go_ret
    exact ⟨rfl,(zo HVA.out (zo HO5.out HO7.out)).alloc _⟩
 · simp only [HU] at HF HC HD HK
   clear HU HN
   go_enter Tryz.func29,Tryz.ntmps29
   go_upto_region 1 with fail
   go_cut [9,10] from 13 to 21 (fun q r wx=>∃ B,q=zP B∧r=(.iface 228 (.pointer (some p1)))∧w.heap.size+1 < B∧ABox wx B K L∧zQ ((w.alloc (zH N G)).alloc (zH M F)) wx)
   case first =>
    go_region_held3 (fun W=>W.cell? (zA tr 0)=some (zP t)∧W.cell? (zA w.heap.size 0)=some (zI N)∧W.cell? (zA w.heap.size 1)=some (zI G))
      (with_reducible first
       | exact K1.out
       | exact K2.out
       | exact HS2.out
       | exact keepZ_alloc HS2.out
       | exact keepZ_set (keepZ_set (keepZ_set (keepZ_set (keepZ_set (keepZ_set (HS2.out) HN2.out HB2.out) HN2.out HB2.out) HN2.out HB2.out) HN2.out HB2.out) HN2.out HB2.out) HN2.out HB2.out)
      (first
       | (go_at_call 52;refine (HC.out _ HV1.out).mono ?_;rintro e w2 ⟨rfl,ho2⟩;have HO2:Hid (zQ ((w.alloc (zH N G)).alloc (zH M F)) w2):=zo HW1.out ho2;have HS2:Hid (w2.cell? (zA tr 0)=some (zP t)∧w2.cell? (zA w.heap.size 0)=some (zI N)∧w2.cell? (zA w.heap.size 1)=some (zI G)):=keepZ_only H1.out HO2.out;clear ho2)
       | (go_at_call 52;refine (HC.out _ HV2.out).mono ?_;rintro e w2 ⟨rfl,ho2⟩;have HO2:Hid (zQ ((w.alloc (zH N G)).alloc (zH M F)) w2):=zo HW2.out ho2;have HS2:Hid (w2.cell? (zA tr 0)=some (zP t)∧w2.cell? (zA w.heap.size 0)=some (zI N)∧w2.cell? (zA w.heap.size 1)=some (zI G)):=keepZ_only H1.out HO2.out;obtain ⟨q0,q1,q2,q3,q4,q5,f1,hl1⟩:=own_six_drew (B:=w.heap.size+2) ho2 (by simp);clear ho2))
    all_goals go_wp2
    all_goals go_meet
    · have hsz:w.heap.size+1 < w2.heap.size:=Nat.lt_of_lt_of_le (by simp) HO2.out.size
      have hh:=zh w2 (.cells #[zI K,zI Z,zI L,zI C,zI UN,zI UG] 65);exact ⟨w2.heap.size,rfl,rfl,hsz,⟨cell_of_row _ _ 0 _ _ _ hh,cell_of_row _ _ 2 _ _ _ hh⟩,HO2.out.alloc _⟩
    · exact ⟨w.heap.size+1+1,rfl,rfl,by omega,six_read q0 q2,HO2.out.six (by simp)⟩
   case rest =>
    obtain ⟨B,rfl,rfl,hB,hab,hoc⟩:=hcut;generalize wc=w5 at hab hoc ⊢;have HO5:Hid (zQ ((w.alloc (zH N G)).alloc (zH M F)) w5):=hoc;have HA5:Hid (ABox w5 B K L):=hab;have hcd:=HD.out w5 (zo HVA.out hoc);obtain ⟨y0,y1,y2,y3⟩:=two_ints hoc (not_nil _);clear hab hoc H1 HW1 HW2 HV1 HV2 K1 K2 HN2 HB2 HC
    go_wp2_with (first
      | (go_at_call 44;go_must (refine hcd.mono ?_);rintro e w6 ⟨rfl,ho6⟩;have HO6:Hid (zQ w5 w6):=ho6;have hck:=HK.out w6 (zo HVA.out (zo HO5.out ho6));clear ho6 hcd)
      | (go_at_call 45;go_must (refine hck.mono ?_);rintro e w7 ⟨rfl,ho7⟩;have HO7:Hid (zQ w5 w7):=zo HO6.out ho7;have hfo:=HF.out w7;clear ho7 hck)
      | (go_at_call 43;go_must (refine hfo.mono ?_);rintro e w8 ⟨rfl,rfl⟩;clear hfo)
      | go_in)
    go_ret
    exact ⟨rfl,(zo HVA.out (zo HO5.out HO7.out)).alloc _⟩
theorem link_dir (A:Nat→Addr)(hE:Errs w A)(hK:K=2)(hc:w.cell? (zA tr 0)=some (zP t))(h1:∀ W,zQ w W→zO 52 #[zP t,zG N G] W (.tuple #[.agg #[zI K,zI Z,zI L,zI C,zI UN,zI UG],.nilIface]))(h2:∀ W,zQ w W→zO 44 #[zP tr,zG M F] W .nilIface)(h3:∀ W,zQ w W→zO 45 #[.string s] W .nilIface):
  zO 29 #[zP tr,zG N G,zG M F,.string s] w (errV (A 7)):=by
 subst hK;have htl:tr < w.heap.size:=zv hc;have HVA:Hid (zQ w ((w.alloc (zH N G)).alloc (zH M F))):=((Only.refl [] _).alloc _).alloc _
 have H1:Hid (((w.alloc (zH N G)).alloc (zH M F)).cell? (zA tr 0)=some (zP t)∧((w.alloc (zH N G)).alloc (zH M F)).cell? (zA w.heap.size 0)=some (zI N)∧((w.alloc (zH N G)).alloc (zH M F)).cell? (zA w.heap.size 1)=some (zI G)):=by
  obtain ⟨a0,a1,_,_⟩:=two_ints (N:=N) (G:=G) (M:=M) (F:=F) (Only.refl [] ((w.alloc (zH N G)).alloc (zH M F))) (not_nil _);exact ⟨(HVA.out.cell (p:=⟨tr,0,none⟩) htl (by simp)).trans hc,a0,a1⟩
 have HW1:Hid (zQ ((w.alloc (zH N G)).alloc (zH M F)) ((w.alloc (zH N G)).alloc (zH M F)).drew):=(Only.refl [] _).drew;have HW2:Hid (zQ ((w.alloc (zH N G)).alloc (zH M F)) (((w.alloc (zH N G)).alloc (zH M F)).alloc (.cells #[zI 0,zI 0,zI 0,zI 0,zI 0,zI 0] 65)).drew):=((Only.refl [] _).alloc _).drew;have HV1:Hid (zQ w ((w.alloc (zH N G)).alloc (zH M F)).drew):=zo HVA.out HW1.out;have HV2:Hid (zQ w (((w.alloc (zH N G)).alloc (zH M F)).alloc (.cells #[zI 0,zI 0,zI 0,zI 0,zI 0,zI 0] 65)).drew):=zo HVA.out HW2.out;have K1:Hid (((w.alloc (zH N G)).alloc (zH M F)).drew.cell? (zA tr 0)=some (zP t)∧((w.alloc (zH N G)).alloc (zH M F)).drew.cell? (zA w.heap.size 0)=some (zI N)∧((w.alloc (zH N G)).alloc (zH M F)).drew.cell? (zA w.heap.size 1)=some (zI G)):=keepZ_only H1.out HW1.out;have K2:Hid ((((w.alloc (zH N G)).alloc (zH M F)).alloc (.cells #[zI 0,zI 0,zI 0,zI 0,zI 0,zI 0] 65)).drew.cell? (zA tr 0)=some (zP t)∧(((w.alloc (zH N G)).alloc (zH M F)).alloc (.cells #[zI 0,zI 0,zI 0,zI 0,zI 0,zI 0] 65)).drew.cell? (zA w.heap.size 0)=some (zI N)∧(((w.alloc (zH N G)).alloc (zH M F)).alloc (.cells #[zI 0,zI 0,zI 0,zI 0,zI 0,zI 0] 65)).drew.cell? (zA w.heap.size 1)=some (zI G)):=keepZ_only H1.out HW2.out
 have HN2:Hid (tr≠w.heap.size+2):=show tr≠w.heap.size+2 from by omega
 have HB2:Hid (w.heap.size≠w.heap.size+2):=show w.heap.size≠w.heap.size+2 from by omega
 have HC:Hid (∀ W,zQ w W→_):=h1;have HD:Hid (∀ W,zQ w W→_):=h2;have HK:Hid (∀ W,zQ w W→_):=h3;have HF:Hid (∀ w3:World,_):=fun w3=>first_three w3 none none none
 change Hid (∀ w3:World,Calls _ _ #[.slice (some ⟨w3.heap.size,0,none⟩) 3 3] (w3.alloc (.cells #[.nilIface,.nilIface,.nilIface] 28)) fun e w'=>e = .returned .nilIface∧(w3.alloc (.cells #[.nilIface,.nilIface,.nilIface] 28))=w') at HF
 have HEr:Hid (∀ W,zQ w W→W.cell? ⟨3,0,none⟩=some (.iface 228 (.pointer (some (A 7))))):=fun W ho=>(errs_only hE ho).cell 7 (by decide);have hel:3 < w.heap.size:=zv (HEr.out w (Only.refl [] w));clear h1 h2 h3 hc hE;unfold errV
 go_enter Tryz.func29,Tryz.ntmps29
 go_upto_region 1 with fail
 go_cut [9,10] from 13 to 21 (fun q r wx=>∃ B,q=zP B∧r = .nilIface∧w.heap.size+1 < B∧ABox wx B 2 L∧zQ ((w.alloc (zH N G)).alloc (zH M F)) wx)
 case first =>
  go_region_held3 (fun W=>W.cell? (zA tr 0)=some (zP t)∧W.cell? (zA w.heap.size 0)=some (zI N)∧W.cell? (zA w.heap.size 1)=some (zI G))
    (with_reducible first
     | exact K1.out
     | exact K2.out
     | exact HS2.out
     | exact keepZ_alloc HS2.out
     | exact keepZ_set (keepZ_set (keepZ_set (keepZ_set (keepZ_set (keepZ_set (HS2.out) HN2.out HB2.out) HN2.out HB2.out) HN2.out HB2.out) HN2.out HB2.out) HN2.out HB2.out) HN2.out HB2.out)
    (first
     | (go_at_call 52;refine (HC.out _ HV1.out).mono ?_;rintro e w2 ⟨rfl,ho2⟩;have HO2:Hid (zQ ((w.alloc (zH N G)).alloc (zH M F)) w2):=zo HW1.out ho2;have HS2:Hid (w2.cell? (zA tr 0)=some (zP t)∧w2.cell? (zA w.heap.size 0)=some (zI N)∧w2.cell? (zA w.heap.size 1)=some (zI G)):=keepZ_only H1.out HO2.out;clear ho2)
     | (go_at_call 52;refine (HC.out _ HV2.out).mono ?_;rintro e w2 ⟨rfl,ho2⟩;have HO2:Hid (zQ ((w.alloc (zH N G)).alloc (zH M F)) w2):=zo HW2.out ho2;have HS2:Hid (w2.cell? (zA tr 0)=some (zP t)∧w2.cell? (zA w.heap.size 0)=some (zI N)∧w2.cell? (zA w.heap.size 1)=some (zI G)):=keepZ_only H1.out HO2.out;obtain ⟨q0,q1,q2,q3,q4,q5,f1,hl1⟩:=own_six_drew (B:=w.heap.size+2) ho2 (by simp);clear ho2))
  all_goals go_wp2
  all_goals go_meet
  · have hsz:w.heap.size+1 < w2.heap.size:=Nat.lt_of_lt_of_le (by simp) HO2.out.size
    have hh:=zh w2 (.cells #[zI 2,zI Z,zI L,zI C,zI UN,zI UG] 65);exact ⟨w2.heap.size,rfl,rfl,hsz,⟨cell_of_row _ _ 0 _ _ _ hh,cell_of_row _ _ 2 _ _ _ hh⟩,HO2.out.alloc _⟩
  · exact ⟨w.heap.size+1+1,rfl,rfl,by omega,six_read q0 q2,HO2.out.six (by simp)⟩
 case rest =>
  obtain ⟨B,rfl,rfl,hB,hab,hoc⟩:=hcut;generalize wc=w5 at hab hoc ⊢;have HO5:Hid (zQ ((w.alloc (zH N G)).alloc (zH M F)) w5):=hoc;have HA5:Hid (ABox w5 B 2 L):=hab;have hcd:=HD.out w5 (zo HVA.out hoc);obtain ⟨y0,y1,y2,y3⟩:=two_ints hoc (not_nil _);clear hab hoc H1 HW1 HW2 HV1 HV2 K1 K2 HN2 HB2 HC
  go_wp2_with (first
    | (go_at_call 44;go_must (refine hcd.mono ?_);rintro e w6 ⟨rfl,ho6⟩;have HO6:Hid (zQ w5 w6):=ho6;have hck:=HK.out w6 (zo HVA.out (zo HO5.out ho6));clear ho6 hcd)
    | (go_at_call 45;go_must (refine hck.mono ?_);rintro e w7 ⟨rfl,ho7⟩;have HO7:Hid (zQ w5 w7):=zo HO6.out ho7;have hfo:=HF.out w7;clear ho7 hck)
    | (go_at_call 43;go_must (refine hfo.mono ?_);rintro e w8 ⟨rfl,rfl⟩;have HO8:Hid (zQ w5 (w7.alloc (.cells #[.nilIface,.nilIface,.nilIface] 28))):=HO7.out.alloc _;have k0:=(HA5.out.kept HO7.out (by simp)).1;have hk0:=zv k0;have e7:=HEr.out w7 (zo HVA.out (zo HO5.out HO7.out));have he7:=zv e7;clear hfo)
    | go_in)
  go_ret
  exact ⟨rfl,(zo HVA.out (zo HO5.out HO7.out)).alloc _⟩
theorem link_room (ad:Addr)(hK:K=1)(hc:w.cell? (zA tr 0)=some (zP t))(h1:∀ W,zQ w W→zO 52 #[zP t,zG N G] W (.tuple #[.agg #[zI K,zI Z,zI L,zI C,zI UN,zI UG],.nilIface]))(h2:∀ W,zQ w W→zO 44 #[zP tr,zG M F] W .nilIface)(h3:∀ W,zQ w W→zO 45 #[.string s] W .nilIface)(h4:∀ W,zQ w W→zO 54 #[zP tr,zG M F,.string s] W (.iface 228 (.pointer (some ad)))):
  zO 29 #[zP tr,zG N G,zG M F,.string s] w (errV ad):=by
 subst hK;have htl:tr < w.heap.size:=zv hc;have HVA:Hid (zQ w ((w.alloc (zH N G)).alloc (zH M F))):=((Only.refl [] _).alloc _).alloc _
 have H1:Hid (((w.alloc (zH N G)).alloc (zH M F)).cell? (zA tr 0)=some (zP t)∧((w.alloc (zH N G)).alloc (zH M F)).cell? (zA w.heap.size 0)=some (zI N)∧((w.alloc (zH N G)).alloc (zH M F)).cell? (zA w.heap.size 1)=some (zI G)):=by
  obtain ⟨a0,a1,_,_⟩:=two_ints (N:=N) (G:=G) (M:=M) (F:=F) (Only.refl [] ((w.alloc (zH N G)).alloc (zH M F))) (not_nil _);exact ⟨(HVA.out.cell (p:=⟨tr,0,none⟩) htl (by simp)).trans hc,a0,a1⟩
 have HW1:Hid (zQ ((w.alloc (zH N G)).alloc (zH M F)) ((w.alloc (zH N G)).alloc (zH M F)).drew):=(Only.refl [] _).drew;have HW2:Hid (zQ ((w.alloc (zH N G)).alloc (zH M F)) (((w.alloc (zH N G)).alloc (zH M F)).alloc (.cells #[zI 0,zI 0,zI 0,zI 0,zI 0,zI 0] 65)).drew):=((Only.refl [] _).alloc _).drew;have HV1:Hid (zQ w ((w.alloc (zH N G)).alloc (zH M F)).drew):=zo HVA.out HW1.out;have HV2:Hid (zQ w (((w.alloc (zH N G)).alloc (zH M F)).alloc (.cells #[zI 0,zI 0,zI 0,zI 0,zI 0,zI 0] 65)).drew):=zo HVA.out HW2.out;have K1:Hid (((w.alloc (zH N G)).alloc (zH M F)).drew.cell? (zA tr 0)=some (zP t)∧((w.alloc (zH N G)).alloc (zH M F)).drew.cell? (zA w.heap.size 0)=some (zI N)∧((w.alloc (zH N G)).alloc (zH M F)).drew.cell? (zA w.heap.size 1)=some (zI G)):=keepZ_only H1.out HW1.out;have K2:Hid ((((w.alloc (zH N G)).alloc (zH M F)).alloc (.cells #[zI 0,zI 0,zI 0,zI 0,zI 0,zI 0] 65)).drew.cell? (zA tr 0)=some (zP t)∧(((w.alloc (zH N G)).alloc (zH M F)).alloc (.cells #[zI 0,zI 0,zI 0,zI 0,zI 0,zI 0] 65)).drew.cell? (zA w.heap.size 0)=some (zI N)∧(((w.alloc (zH N G)).alloc (zH M F)).alloc (.cells #[zI 0,zI 0,zI 0,zI 0,zI 0,zI 0] 65)).drew.cell? (zA w.heap.size 1)=some (zI G)):=keepZ_only H1.out HW2.out
 have HN2:Hid (tr≠w.heap.size+2):=show tr≠w.heap.size+2 from by omega
 have HB2:Hid (w.heap.size≠w.heap.size+2):=show w.heap.size≠w.heap.size+2 from by omega
 have HC:Hid (∀ W,zQ w W→_):=h1;have HD:Hid (∀ W,zQ w W→_):=h2;have HK:Hid (∀ W,zQ w W→_):=h3;have HF:Hid (∀ w3:World,_):=fun w3=>first_three w3 none none none
 change Hid (∀ w3:World,Calls _ _ #[.slice (some ⟨w3.heap.size,0,none⟩) 3 3] (w3.alloc (.cells #[.nilIface,.nilIface,.nilIface] 28)) fun e w'=>e = .returned .nilIface∧(w3.alloc (.cells #[.nilIface,.nilIface,.nilIface] 28))=w') at HF
 have HR:Hid (∀ W,zQ w W→_):=h4;clear h1 h2 h3 h4 hc;unfold errV
 go_enter Tryz.func29,Tryz.ntmps29
 go_upto_region 1 with fail
 go_cut [9,10] from 13 to 21 (fun q r wx=>∃ B,q=zP B∧r = .nilIface∧w.heap.size+1 < B∧ABox wx B 1 L∧zQ ((w.alloc (zH N G)).alloc (zH M F)) wx)
 case first =>
  go_region_held3 (fun W=>W.cell? (zA tr 0)=some (zP t)∧W.cell? (zA w.heap.size 0)=some (zI N)∧W.cell? (zA w.heap.size 1)=some (zI G))
    (with_reducible first
     | exact K1.out
     | exact K2.out
     | exact HS2.out
     | exact keepZ_alloc HS2.out
     | exact keepZ_set (keepZ_set (keepZ_set (keepZ_set (keepZ_set (keepZ_set (HS2.out) HN2.out HB2.out) HN2.out HB2.out) HN2.out HB2.out) HN2.out HB2.out) HN2.out HB2.out) HN2.out HB2.out)
    (first
     | (go_at_call 52;refine (HC.out _ HV1.out).mono ?_;rintro e w2 ⟨rfl,ho2⟩;have HO2:Hid (zQ ((w.alloc (zH N G)).alloc (zH M F)) w2):=zo HW1.out ho2;have HS2:Hid (w2.cell? (zA tr 0)=some (zP t)∧w2.cell? (zA w.heap.size 0)=some (zI N)∧w2.cell? (zA w.heap.size 1)=some (zI G)):=keepZ_only H1.out HO2.out;clear ho2)
     | (go_at_call 52;refine (HC.out _ HV2.out).mono ?_;rintro e w2 ⟨rfl,ho2⟩;have HO2:Hid (zQ ((w.alloc (zH N G)).alloc (zH M F)) w2):=zo HW2.out ho2;have HS2:Hid (w2.cell? (zA tr 0)=some (zP t)∧w2.cell? (zA w.heap.size 0)=some (zI N)∧w2.cell? (zA w.heap.size 1)=some (zI G)):=keepZ_only H1.out HO2.out;obtain ⟨q0,q1,q2,q3,q4,q5,f1,hl1⟩:=own_six_drew (B:=w.heap.size+2) ho2 (by simp);clear ho2))
  all_goals go_wp2
  all_goals go_meet
  · have hsz:w.heap.size+1 < w2.heap.size:=Nat.lt_of_lt_of_le (by simp) HO2.out.size
    have hh:=zh w2 (.cells #[zI 1,zI Z,zI L,zI C,zI UN,zI UG] 65);exact ⟨w2.heap.size,rfl,rfl,hsz,⟨cell_of_row _ _ 0 _ _ _ hh,cell_of_row _ _ 2 _ _ _ hh⟩,HO2.out.alloc _⟩
  · exact ⟨w.heap.size+1+1,rfl,rfl,by omega,six_read q0 q2,HO2.out.six (by simp)⟩
 case rest =>
  obtain ⟨B,rfl,rfl,hB,hab,hoc⟩:=hcut;generalize wc=w5 at hab hoc ⊢;have HO5:Hid (zQ ((w.alloc (zH N G)).alloc (zH M F)) w5):=hoc;have HA5:Hid (ABox w5 B 1 L):=hab;have hcd:=HD.out w5 (zo HVA.out hoc);obtain ⟨y0,y1,y2,y3⟩:=two_ints hoc (not_nil _);clear hab hoc H1 HW1 HW2 HV1 HV2 K1 K2 HN2 HB2 HC
  go_wp2_with (first
    | (go_at_call 44;go_must (refine hcd.mono ?_);rintro e w6 ⟨rfl,ho6⟩;have HO6:Hid (zQ w5 w6):=ho6;have hck:=HK.out w6 (zo HVA.out (zo HO5.out ho6));clear ho6 hcd)
    | (go_at_call 45;go_must (refine hck.mono ?_);rintro e w7 ⟨rfl,ho7⟩;have HO7:Hid (zQ w5 w7):=zo HO6.out ho7;have hfo:=HF.out w7;clear ho7 hck)
    | (go_at_call 43;go_must (refine hfo.mono ?_);rintro e w8 ⟨rfl,rfl⟩;have HO8:Hid (zQ w5 (w7.alloc (.cells #[.nilIface,.nilIface,.nilIface] 28))):=HO7.out.alloc _;have k0:=(HA5.out.kept HO7.out (by simp)).1;have hk0:=zv k0;have hcr:=HR.out _ (zo HVA.out (zo HO5.out HO8.out));obtain ⟨z0,z1,z2,z3⟩:=two_ints (zo HO5.out HO7.out) (not_nil _);have hz2:=zv z2;clear y0 y1 y2 y3;clear hfo)
    | (go_at_call 54;go_must (refine hcr.mono ?_);rintro e w9 ⟨rfl,ho9⟩;have HO9:Hid (zQ w w9):=zo HVA.out (zo HO5.out (zo HO8.out ho9));clear ho9 hcr k0 z0 z1 z2 z3)
    | go_in)
  go_ret
  exact ⟨rfl,HO9.out⟩
end
end
end Go.Proofs.YtkcabopgajlmdaaGreatDoor
