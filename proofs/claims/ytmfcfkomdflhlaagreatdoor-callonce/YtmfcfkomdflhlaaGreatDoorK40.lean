import Derived.Test.YtmfcfkomdflhlaaGreatDoorK39
set_option maxRecDepth 100000
set_option maxHeartbeats 8000000
namespace Go.Proofs.YtmfcfkomdflhlaaGreatDoor
section
open Go Go.RowKit Go.Deep
theorem Placed.drews {w w':World}{k base g:Nat}{v':Value}{l:List Msg}(h:Placed (w.drewN k) w' base g v' l):Placed w w' base g v' l :=
 ⟨h.1,(((Only.refl [g] w).drewsN k).trans h.2.1 (fun _ hk=>Or.inl hk)),h.2.2⟩
theorem replace_last0 (w:World)(base g cap i c:Nat)(sa:Option Addr)(l:List Msg)(h:Msgs w base (.slice (some ⟨g,0,none⟩) (i+1) cap) l)(hn:l.length=i+1)(hl:i≤1000):
  Calls Tryz.prog 48 #[.slice (some ⟨g,0,none⟩) (i+1) cap,.int .i64 i,.int .i64 ((i:Int)+1),.slice sa 0 c] w fun e w'=>e = .returned (.slice (some ⟨g,0,none⟩) i cap)∧Placed w w' base g (.slice (some ⟨g,0,none⟩) i cap) (l.take i):=by
 obtain ⟨cur,-,-,-,hnc,hcm,-,-⟩:=row_open h hn;obtain ⟨w3,hcl,hP⟩:=last_run w base g i cap l h hn;rw [show i+1 - i=1 by omega] at hcl;have HP:Hid (Placed w w3 base g (.slice (some ⟨g,0,none⟩) i cap) (l.take i)):=hP;have hap:=fun ty=>run_append_zero w g i cap sa c ty (by omega)
 have hG63:(cap:Int)≤9223372036854775807:=by unfold maxLen at hcm;omega
 have q1:¬ ((i:Int)=(i:Int)+1):=by omega
 have q2:(i:Int)+1≤cap:=by omega
 have q3:(i:Int)≤(i:Int)+1:=by omega
 have q4:(0:Int)≤(i:Int)+1:=by omega
 have q6:(i:Int)≤cap:=by omega
 have q7:¬ (cap=i):=by omega
 have q8:((i:Int)+1).toNat=i+1:=by omega
 have q9:decide ((i:Int) < (i:Int)+1)=true:=decide_eq_true (by omega);clear h hP hcm
 go_enter Tryz.func48,Tryz.ntmps48
 go_wp2_with (at_builtin;first
  | refine Lib.wpList_append_run _ rfl _ _ _ _ rfl _ _ rfl rfl _ _ (hap _) ?_
  | refine wpList_clear_known rfl _ 38 rfl _ rfl (hcl _) ?_)
 go_ret
 exact ⟨rfl,HP.out⟩
theorem replace_last2 (w:World)(base b2 g vb cap i c:Nat)(l vs:List Msg)(h:Msgs w base (.slice (some ⟨g,0,none⟩) (i+1) cap) l)(hn:l.length=i+1)(hl:i≤1000)(hv:Msgs w b2 (.slice (some ⟨vb,0,none⟩) 2 c) vs)(hv2:vs.length=2)(hb:base≤w.heap.size):
  Calls Tryz.prog 48 #[.slice (some ⟨g,0,none⟩) (i+1) cap,.int .i64 i,.int .i64 ((i:Int)+1),.slice (some ⟨vb,0,none⟩) 2 c] w fun e w'=>∃ v',e = .returned v'∧Placed w w' base g v' (l.take i++vs):=by
 obtain ⟨i0,hi0,hz0,hz1,hz2⟩:=msInfo';obtain ⟨cur,-,-,-,hnc,hcm,-,-⟩:=row_open h hn;have HT:Hid (w.ownsRow base 52 3 (.slice (some ⟨g,0,none⟩) i cap) i (rowOf msC (l.take i))):=row_take h hn (by omega);have HV:Hid (∀ j u,(rowOf msC vs)[j]?=some u→w.cell? ((⟨vb,0,none⟩:Addr).add j)=some u):=RowM.rows hv hv2
 have hvl:(rowOf msC vs).length=2*3:=by rw [rowOf_len msC_len,hv2]
 have hF:∀ gl cp w6,w6.ownsRow base 52 3 (.slice (some ⟨gl,0,none⟩) (i+2) cp) (i+2) (rowOf msC (l.take i)++rowOf msC vs)→w.grownBy w6 (Value.slice (some ⟨g,0,none⟩) i cap).ownBlock→((Value.slice (some ⟨g,0,none⟩) i cap).ownBlock=some gl∨gl=w.heap.size)→Placed w w6 base g (.slice (some ⟨gl,0,none⟩) (i+2) cp) (l.take i++vs):=fun gl cp w6 h1 h2 h3=>by
  have e:(l.take i++vs).length=i+2:=by rw [List.length_append,List.length_take,hn,hv2];omega
  refine ⟨?_,(Only.refl _ w).grown h2 (fun k hk=>Or.inl (by cases hk;simp)),?_⟩
  · unfold Msgs RowM
    rw [e,rowOf_append];exact h1
  · rcases h3 with h3 | h3
    · exact Or.inl h3.symm
    · exact Or.inr ⟨gl,rfl,by omega⟩
 have HF:Hid (∀ gl cp w6,w6.ownsRow base 52 3 (.slice (some ⟨gl,0,none⟩) (i+2) cp) (i+2) (rowOf msC (l.take i)++rowOf msC vs)→w.grownBy w6 (Value.slice (some ⟨g,0,none⟩) i cap).ownBlock→((Value.slice (some ⟨g,0,none⟩) i cap).ownBlock=some gl∨gl=w.heap.size)→Placed w w6 base g (.slice (some ⟨gl,0,none⟩) (i+2) cp) (l.take i++vs)):=hF
 have hG63:(cap:Int)≤9223372036854775807:=by unfold maxLen at hcm;omega
 have q1:¬ ((i:Int)=(i:Int)+1):=by omega
 have q2:(i:Int)+1≤cap:=by omega
 have q3:(i:Int)≤(i:Int)+1:=by omega
 have q4:(0:Int)≤(i:Int)+1:=by omega
 have q6:(i:Int)≤cap:=by omega
 have q7:¬ (cap=i):=by omega
 have q8:((i:Int)+1).toNat=i+1:=by omega
 have q9:decide ((i:Int)+2 < (i:Int)+1)=false:=decide_eq_false (by omega);clear h hv hF hcm hn
 go_enter Tryz.func48,Tryz.ntmps48
 go_wp2_with (at_builtin;refine wpList_append_lies _ rfl (.tmp 32) (.tmp 33) 38 rfl base 52 i0 _ 3 48 msUnd hi0 hz0 hz1 hz2 rfl (by decide) _ i (rowOf msC (l.take i)) rfl HT.out ⟨vb,0,none⟩ 2 c (rowOf msC vs) rfl hvl HV.out (rowOf_one msC_one vs) (by decide) (by unfold maxLen;omega) (by omega) hb _ rfl ?_;intro gl cp w6 hown6 hgr6 hat6 hlt6;have HX:Hid (Placed w w6 base g (.slice (some ⟨gl,0,none⟩) (i+2) cp) (l.take i++vs)):=HF.out gl cp w6 hown6 hgr6 hat6;clear hown6 hgr6 hat6 hlt6)
 all_goals go_ret
 all_goals exact ⟨.slice (some ⟨gl,0,none⟩) (i+2) cp,rfl,HX.out⟩
theorem replace_shrink (w:World)(base g n cap i c:Nat)(sa:Option Addr)(l:List Msg)(h:Msgs w base (.slice (some ⟨g,0,none⟩) n cap) l)(hn:l.length=n)(hl:n≤1000)(hi:i+1 < n):
  Calls Tryz.prog 48 #[.slice (some ⟨g,0,none⟩) n cap,.int .i64 i,.int .i64 ((i:Int)+1),.slice sa 0 c] w fun e w'=>e = .returned (.slice (some ⟨g,0,none⟩) (n - 1) cap)∧Placed w w' base g (.slice (some ⟨g,0,none⟩) (n - 1) cap) (l.take i++l.drop (i+1)):=by
 obtain ⟨cur,-,-,-,hnc,hcm,-,-⟩:=row_open h hn
 have HR:Hid (∀ k,∃ w2 w3,(∀ ty,(Builtin.copy_ #[38,38] ty #[.slice (some ⟨g,i*3,none⟩) (n - 1 - i) (cap - i),.slice (some ⟨g,(i+1)*3,none⟩) (n - (i+1)) (cap - (i+1))]).run Tryz.prog (w.drewN k).drew = .ok (goInt (n - (i+1):Nat)) w2) ∧
   (∀ ty,(Builtin.clear_ #[38] ty #[.slice (some ⟨g,(n - 1)*3,none⟩) (n - (n - 1)) (cap - (n - 1))]).run Tryz.prog w2 = .ok (.tuple #[]) w3)∧Placed w w3 base g (.slice (some ⟨g,0,none⟩) (n - 1) cap) (l.take i++l.drop (i+1))):=fun k=>by
  obtain ⟨w2,w3,h1,h2,h3⟩:=shrink_runs (w.drewN k) base g n cap i l (RowM.only h ((Only.refl [] w).drewsN k) (fun _ _=>by simp)) hn hi;exact ⟨w2,w3,h1,h2,h3.drews⟩
 have hcz:=fun w dLen dCap ty=>run_copy_zero w g (i*3) dLen dCap sa c ty
 have hG63:(cap:Int)≤9223372036854775807:=by unfold maxLen at hcm;omega
 have q1:¬ ((i:Int)=(i:Int)+1):=by omega
 have q2:(i:Int)+1≤cap:=by omega
 have q2n:(i:Int)+1≤n:=by omega
 have q3:(i:Int)≤(i:Int)+1:=by omega
 have q4:(0:Int)≤(i:Int)+1:=by omega
 have q5:¬ ((i:Int)+1=(n:Int)):=by omega
 have q6:(i:Int)≤cap:=by omega
 have q7:¬ (cap=i):=by omega
 have q7':¬ (cap=i+1):=by omega
 have q7'':¬ (cap=n - 1):=by omega
 have q8:((i:Int)+1).toNat=i+1:=by omega
 have q10:IntKind.i64.wrap (i:Int)=i:=by rw [IntKind.wrap_i64];omega
 have q11:IntKind.i64.wrap ((i:Int)+((n - (i+1):Nat):Int))=((n - 1:Nat):Int):=by rw [IntKind.wrap_i64];omega
 have q12:decide ((cap:Int) < ((n - 1:Nat):Int))=false:=decide_eq_false (by omega)
 have q13:((n - 1:Nat):Int)≤cap:=by omega
 have q14:((n - 1:Nat):Int)≤n:=by omega
 have q15:(i:Int)≤((n - 1:Nat):Int):=by omega
 have mixed:Tryz.prog.follows Departure.mixedOrders=true:=by kernel_rfl
 clear h hcm hn
 go_enter Tryz.func48,Tryz.ntmps48
 go_wp2
 go_big_quiet (fail)
 obtain ⟨w2,w3,hc2,hc3,hP⟩:=HR.out nq;have HP:Hid (Placed w w3 base g (.slice (some ⟨g,0,none⟩) (n - 1) cap) (l.take i++l.drop (i+1))):=hP;clear hP HR
 go_wp2_with (at_builtin;refine wpList_copy_runI _ rfl _ _ 38 38 rfl _ _ rfl rfl (hcz _ _ _ _) ?_)
 go_region_law_o (refine step_copy_runI rfl _ _ 38 38 rfl (.slice (some ⟨g,i*3,none⟩) (n - 1 - i) (cap - i)) (.slice (some ⟨g,(i+1)*3,none⟩) (n - (i+1)) (cap - (i+1))) (by simp [Act.eval,Act.put]) (by simp [Act.eval,Act.put]) (hc2 _) ?_)
 go_wp2_with (at_builtin;refine wpList_clear_known rfl _ 38 rfl _ rfl (hc3 _) ?_)
 go_ret
 exact ⟨rfl,HP.out⟩
theorem replace_shift (w:World)(base b2 g vb n cap c i:Nat)(l vs:List Msg)(h:Msgs w base (.slice (some ⟨g,0,none⟩) n cap) l)(hn:l.length=n)(hl:n≤1000)(hi:i+1 < n)(hroom:n+1≤cap)(hv:Msgs w b2 (.slice (some ⟨vb,0,none⟩) 2 c) vs)(hv2:vs.length=2)(hvb:vb≠g):
  Calls Tryz.prog 48 #[.slice (some ⟨g,0,none⟩) n cap,.int .i64 i,.int .i64 ((i:Int)+1),.slice (some ⟨vb,0,none⟩) 2 c] w fun e w'=>∃ v',e = .returned v'∧Placed w w' base g v' (l.take i++vs++l.drop (i+1)):=by
 obtain ⟨i0,hi0,hz0,hz1,hz2⟩:=msInfo';obtain ⟨cur,-,-,hg,hnc,hcm,hcs,-⟩:=row_open h hn;obtain ⟨vcur,-,-,hvg,hvc,-,hvs,-⟩:=row_open hv hv2
 have hsz:∀ w,(Go.sizeOf 52).run Tryz.prog w = .ok 3 w:=fun w=>by simp [sizeOf,typeInfo,hi0,hz1]
 have hov:∀ k lb cb,(callFunc 78 #[.slice (some ⟨g,(i+2)*3,none⟩) lb cb,.slice (some ⟨vb,0,none⟩) 2 c]).run Tryz.prog (w.drewN k) = .ok (.value (.bool false)) (w.drewN k):=fun k lb cb=>by
  rw [run_callFunc_extern Tryz.func78 (by kernel_rfl) (by kernel_rfl) (by kernel_rfl) (e:=Extern.SlicesOverlaps.overlaps #[38,38] #[4]) (by kernel_rfl),
   Lib.run_overlaps_apart (w.drewN k) 38 4 52 msUnd 3 hsz ⟨g,(i+2)*3,none⟩ ⟨vb,0,none⟩ lb cb 2 c (Ne.symm hvb) 52 52 cur.size vcur.size (by show World.shape? w _=_;simp [World.shape?,hg]) (by show World.shape? w _=_;simp [World.shape?,hvg]) (by omega) (frozen_of_row _ _ _ _ _ hg) (frozen_of_row _ _ _ _ _ hg)]
  rfl
 have HR:Hid (∀ k,∃ w2 w3,(∀ ty,(Builtin.copy_ #[38,38] ty #[.slice (some ⟨g,(i+2)*3,none⟩) (n+1 - (i+2)) (cap - (i+2)),.slice (some ⟨g,(i+1)*3,none⟩) (n - (i+1)) (cap - (i+1))]).run Tryz.prog (w.drewN k).drew = .ok (goInt (n - (i+1):Nat)) w2) ∧
   (∀ ty,(Builtin.copy_ #[38,38] ty #[.slice (some ⟨g,i*3,none⟩) (n+1 - i) (cap - i),.slice (some ⟨vb,0,none⟩) 2 c]).run Tryz.prog w2 = .ok (goInt (2:Nat)) w3)∧Placed w w3 base g (.slice (some ⟨g,0,none⟩) (n+1) cap) (l.take i++vs++l.drop (i+1))):=fun k=>by
  obtain ⟨w2,w3,h1,h2,h3⟩:=shift_runs (w.drewN k) base b2 g vb n cap c i l vs (RowM.only h ((Only.refl [] w).drewsN k) (fun _ _=>by simp)) hn hi hroom (RowM.only hv ((Only.refl [] w).drewsN k) (fun _ _=>by simp)) hv2 hvb;exact ⟨w2,w3,h1,h2,h3.drews⟩
 have hG63:(cap:Int)≤9223372036854775807:=by unfold maxLen at hcm;omega
 have q1:¬ ((i:Int)=(i:Int)+1):=by omega
 have q2:(i:Int)+1≤cap:=by omega
 have q2n:(i:Int)+1≤n:=by omega
 have q3:(i:Int)≤(i:Int)+1:=by omega
 have q4:(0:Int)≤(i:Int)+1:=by omega
 have q5:¬ ((i:Int)+1=(n:Int)):=by omega
 have q6:(i:Int)≤cap:=by omega
 have q7:¬ (cap=i):=by omega
 have q7':¬ (cap=i+1):=by omega
 have q7b:¬ (cap=i+2):=by omega
 have q8:((i:Int)+1).toNat=i+1:=by omega
 have q8b:((i:Int)+2).toNat=i+2:=by omega
 have q8c:((n:Int)+1).toNat=n+1:=by omega
 have q10:IntKind.i64.wrap ((i:Int)+2)=(i:Int)+2:=by rw [IntKind.wrap_i64];omega
 have q11:IntKind.i64.wrap ((i:Int)+2+((n - (i+1):Nat):Int))=(n:Int)+1:=by rw [IntKind.wrap_i64];omega
 have q16:(0:Int)≤(i:Int)+2:=by omega
 have q17:(i:Int)+2≤(n:Int)+1:=by omega
 have q18:(0:Int)≤(n:Int)+1:=by omega
 have q19:(i:Int)≤(n:Int)+1:=by omega
 have q20:decide ((i:Int)+2≤(i:Int)+1)=false:=decide_eq_false (by omega);have q12:decide ((cap:Int) < (n:Int)+1)=false:=decide_eq_false (by omega)
 have q13:(n:Int)+1≤cap:=by omega
 have mixed:Tryz.prog.follows Departure.mixedOrders=true:=by kernel_rfl
 clear h hv hcm hn hi0 hz0 hz1 hz2 hg hvg hvs hcs hsz hvb
 go_enter Tryz.func48,Tryz.ntmps48
 go_wp2
 go_big_quiet (fail)
 obtain ⟨w2,w3,hc2,hc3,hP⟩:=HR.out nq;have HP:Hid (Placed w w3 base g (.slice (some ⟨g,0,none⟩) (n+1) cap) (l.take i++vs++l.drop (i+1))):=hP;have hov':=hov nq;clear hP HR hov
 go_wp2_with (simp only [hov'])
 go_region_law_o (refine step_copy_runI rfl _ _ 38 38 rfl (.slice (some ⟨g,(i+2)*3,none⟩) (n+1 - (i+2)) (cap - (i+2))) (.slice (some ⟨g,(i+1)*3,none⟩) (n - (i+1)) (cap - (i+1))) (by simp [Act.eval,Act.put]) (by simp [Act.eval,Act.put]) (hc2 _) ?_)
 go_wp2_with (at_builtin;refine wpList_copy_runI _ rfl _ _ 38 38 rfl _ _ rfl rfl (hc3 _) ?_)
 go_ret
 exact ⟨.slice (some ⟨g,0,none⟩) (n+1) cap,rfl,HP.out⟩
theorem replace_grow (w:World)(base b2 g vb n c i:Nat)(l vs:List Msg)(h:Msgs w base (.slice (some ⟨g,0,none⟩) n n) l)(hn:l.length=n)(hl:n≤1000)(hi:i+1 < n)(hv:Msgs w b2 (.slice (some ⟨vb,0,none⟩) 2 c) vs)(hv2:vs.length=2)(hb:base≤w.heap.size):
  Calls Tryz.prog 48 #[.slice (some ⟨g,0,none⟩) n n,.int .i64 i,.int .i64 ((i:Int)+1),.slice (some ⟨vb,0,none⟩) 2 c] w fun e w'=>∃ v',e = .returned v'∧Placed w w' base g v' (l.take i++vs++l.drop (i+1)):=by
 have HR:Hid (∀ k,∃ w1 w2 w3 gn G,n+1≤G∧(G:Int)≤9223372036854775807∧(∀ ty,(Builtin.append_ #[38,3] ty #[.slice (some ⟨g,0,none⟩) i n,.int .i64 ((n+1 - i:Nat):Int)]).run Tryz.prog (w.drewN k) = .ok (.slice (some ⟨gn,0,none⟩) (n+1) G) w1) ∧
   (∀ ty,(Builtin.copy_ #[38,38] ty #[.slice (some ⟨gn,i*3,none⟩) (n+1 - i) (G - i),.slice (some ⟨vb,0,none⟩) 2 c]).run Tryz.prog w1 = .ok (goInt (2:Nat)) w2) ∧
   (∀ ty,(Builtin.copy_ #[38,38] ty #[.slice (some ⟨gn,(i+2)*3,none⟩) (n+1 - (i+2)) (G - (i+2)),.slice (some ⟨g,(i+1)*3,none⟩) (n - (i+1)) (n - (i+1))]).run Tryz.prog w2.drew = .ok (goInt (n - (i+1):Nat)) w3)∧Placed w w3 base g (.slice (some ⟨gn,0,none⟩) (n+1) G) (l.take i++vs++l.drop (i+1))):=fun k=>by
  obtain ⟨w1,w2,w3,gn,G,h1,h2,h3,h4,h5,h6⟩:=grow_runs (w.drewN k) base b2 g vb n c i l vs (RowM.only h ((Only.refl [] w).drewsN k) (fun _ _=>by simp)) hn hl hi (RowM.only hv ((Only.refl [] w).drewsN k) (fun _ _=>by simp)) hv2 hb;exact ⟨w1,w2,w3,gn,G,h1,h2,h3,h4,h5,h6.drews⟩
 have q1:¬ ((i:Int)=(i:Int)+1):=by omega
 have q2:(i:Int)+1≤n:=by omega
 have q3:(i:Int)≤(i:Int)+1:=by omega
 have q4:(0:Int)≤(i:Int)+1:=by omega
 have q5:¬ ((i:Int)+1=(n:Int)):=by omega
 have q6:(i:Int)≤n:=by omega
 have q7:¬ (n=i):=by omega
 have q7':¬ (n=i+1):=by omega
 have q8:((i:Int)+1).toNat=i+1:=by omega
 have q8b:((i:Int)+2).toNat=i+2:=by omega
 have q8c:((n:Int)+1).toNat=n+1:=by omega
 have q10:IntKind.i64.wrap ((i:Int)+2)=(i:Int)+2:=by rw [IntKind.wrap_i64];omega
 have q11:IntKind.i64.wrap ((i:Int)+2+((n - (i+1):Nat):Int))=(n:Int)+1:=by rw [IntKind.wrap_i64];omega
 have q16:(0:Int)≤(i:Int)+2:=by omega
 have q17:(i:Int)+2≤(n:Int)+1:=by omega
 have q18:(0:Int)≤(n:Int)+1:=by omega
 have q19:(i:Int)≤(n:Int)+1:=by omega
 have q20:decide ((i:Int)+2≤(i:Int)+1)=false:=decide_eq_false (by omega);have q12:decide ((n:Int) < (n:Int)+1)=true:=decide_eq_true (by omega)
 have q13:IntKind.i64.wrap ((n:Int)+1 - (i:Int))=((n+1 - i:Nat):Int):=by rw [IntKind.wrap_i64];omega
 have mixed:Tryz.prog.follows Departure.mixedOrders=true:=by kernel_rfl
 clear h hv hn hb
 go_enter Tryz.func48,Tryz.ntmps48
 go_wp2
 go_big_quiet (fail)
 obtain ⟨w1,w2,w3,gn,G,hG1,hG63,hc1,hc2,hc3,hP⟩:=HR.out nq;have HP:Hid (Placed w w3 base g (.slice (some ⟨gn,0,none⟩) (n+1) G) (l.take i++vs++l.drop (i+1))):=hP
 have r1:¬ (G=i):=by omega
 have r2:¬ (G=i+2):=by omega
 clear hP HR
 go_wp2_with (at_builtin;first
  | refine Lib.wpList_append_run _ rfl _ _ _ _ rfl _ _ rfl rfl _ _ (hc1 _) ?_
  | refine wpList_copy_runI _ rfl _ _ 38 38 rfl _ _ rfl rfl (hc2 _) ?_)
 go_region_law_o (refine step_copy_runI rfl _ _ 38 38 rfl (.slice (some ⟨gn,(i+2)*3,none⟩) (n+1 - (i+2)) (G - (i+2))) (.slice (some ⟨g,(i+1)*3,none⟩) (n - (i+1)) (n - (i+1))) (by simp [Act.eval,Act.put]) (by simp [Act.eval,Act.put]) (hc3 _) ?_)
 go_wp2
 go_ret
 exact ⟨.slice (some ⟨gn,0,none⟩) (n+1) G,rfl,HP.out⟩
end
end Go.Proofs.YtmfcfkomdflhlaaGreatDoor
