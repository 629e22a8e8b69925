import Derived.Test.YtmfcfkomdflhlaaGreatDoorK37
set_option maxHeartbeats 8000000
namespace Go.Proofs.YtmfcfkomdflhlaaGreatDoor
section
open Go Go.RowKit Go.Deep Go.Maps
theorem once_known (A:Nat→Addr)(w:World)(base c b:Nat)(v fv:Value)(most:Nat)(L:List Kp)(a t r:ByteArray)(n:Int)(hE:Errs w A)(hc:CaAt w base c b v most L)(hq:OkQ (a,n))(hk:lookK L (a,n) t=(0,true,r)):
  Calls Tryz.prog 31 #[.agg #[.pointer (some ⟨c,0,none⟩)],.string a,.agg #[.int .i64 n,.string t],fv] w fun e w'=>e = .returned (.tuple #[.string r,.bool false,.nilIface])∧Only [] w w':=by
 have oA:Only [] w ((w.alloc (.cells #[.pointer (some ⟨c,0,none⟩)] 94)).alloc (.cells #[.int .i64 n,.string t] 72)):=((Only.refl [] w).alloc _).alloc _
 have HL:Hid (Calls Tryz.prog 55 #[.pointer (some ⟨c,0,none⟩),.string a,.int .i64 n,.string t] ((w.alloc (.cells #[.pointer (some ⟨c,0,none⟩)] 94)).alloc (.cells #[.int .i64 n,.string t] 72)) fun e w'=>e = .returned (.tuple #[.string r,.bool true,.nilIface])∧Only [] w w') :=
  (look_any A _ base c b v most L (a,n) t (hE.below (oA.to_below (Nat.le_refl _) (fun _ h=>by cases h)) (Nat.le_refl _)).four (hc.only oA) hq).mono fun e w' q=>⟨by rw [q.1];unfold lookV;rw [hk];rfl,oA.trans q.2 (fun _ hk=>by cases hk)⟩
 clear hE hc hq hk oA
 go_enter Tryz.func31,Tryz.ntmps31
 go_wp2_with (go_at_call 55;go_must (refine HL.out.mono ?_);rintro e w1 ⟨rfl,ho⟩;have H1:Hid (Only [] w w1):=ho;clear ho)
 go_ret3
 exact ⟨rfl,H1.out⟩
theorem once_new (A:Nat→Addr)(w:World)(base c b l N0:Nat)(most:Nat)(a t r:ByteArray)(n:Int)(L:List Nat)(R:World→World→Prop)(hE:Errs w A)(hc:CaAt w base c b (.slice none 0 0) most [])(hb:base≤w.heap.size)(hq:OkQ (a,n))(hcN:N0≤c)(hbN:N0≤b)(hbw:b < w.heap.size)(hLN:∀ k∈L,k < N0)(hNw:N0≤w.heap.size)(hEL:∀ W,Only L w W→Errs W A)
   (hA:∀ W,Only [] w W→Calls Tryz.prog 32 #[.pointer (some ⟨l,0,none⟩),.agg #[.int .i64 n,.string t]] W fun e w'=>e = .returned (.string r)∧AftR W.heap.size W.heap.size R w'∧Only L W w') :
   Calls Tryz.prog 31 #[.agg #[.pointer (some ⟨c,0,none⟩)],.string a,.agg #[.int .i64 n,.string t],.func (.func 32) #[.pointer (some ⟨l,0,none⟩)] #[]] w fun e w'=>e = .returned (.tuple #[.string r,.bool true,.nilIface])∧(∃ v',CaAt w' base c b v' most [⟨a,n,t,r⟩])∧AftR N0 w.heap.size R w'∧Only (c::b::L) w w':=by
 have oA:Only [] w ((w.alloc (.cells #[.pointer (some ⟨c,0,none⟩)] 94)).alloc (.cells #[.int .i64 n,.string t] 72)):=((Only.refl [] w).alloc _).alloc _
 have HL:Hid (Calls Tryz.prog 55 #[.pointer (some ⟨c,0,none⟩),.string a,.int .i64 n,.string t] ((w.alloc (.cells #[.pointer (some ⟨c,0,none⟩)] 94)).alloc (.cells #[.int .i64 n,.string t] 72)) fun e w'=>e = .returned (.tuple #[.string ⟨#[]⟩,.bool false,.nilIface])∧Only [] ((w.alloc (.cells #[.pointer (some ⟨c,0,none⟩)] 94)).alloc (.cells #[.int .i64 n,.string t] 72)) w') :=
   (look_any A _ base c b _ most [] (a,n) t (hE.below (oA.to_below (Nat.le_refl _) (fun _ h=>by cases h)) (Nat.le_refl _)).four (hc.only oA) hq).mono fun e w' q=>⟨by rw [q.1];rfl,q.2⟩
 have hcl:=hc.lt
 have ncL:∀ k,N0≤k→k∉L:=fun k hk h=>by have:=hLN k h;omega
 have HA:Hid (Only [] w ((w.alloc (.cells #[.pointer (some ⟨c,0,none⟩)] 94)).alloc (.cells #[.int .i64 n,.string t] 72))):=oA
 have HB:Hid (∀ w1,Only [] ((w.alloc (.cells #[.pointer (some ⟨c,0,none⟩)] 94)).alloc (.cells #[.int .i64 n,.string t] 72)) w1→∀ w2,Only L w1 w2→w2.cell? ⟨w.heap.size,0,none⟩=some (.pointer (some ⟨c,0,none⟩))∧w2.cell? ⟨w.heap.size+1,0,none⟩=some (.int .i64 n)∧w2.cell? ⟨w.heap.size+1,1,none⟩=some (.string t)):=fun w1 h1 w2 h2=>by
   have hs:=h1.size;simp at hs;have a0:w1.cell? ⟨w.heap.size,0,none⟩=some (.pointer (some ⟨c,0,none⟩)):=(h1.cell (p:=⟨w.heap.size,0,none⟩) (by simp;omega) (by simp)).trans (by simp);have a1:w1.cell? ⟨w.heap.size+1,0,none⟩=some (.int .i64 n):=(h1.cell (p:=⟨w.heap.size+1,0,none⟩) (by simp) (by simp)).trans (by simp);have a2:w1.cell? ⟨w.heap.size+1,1,none⟩=some (.string t):=(h1.cell (p:=⟨w.heap.size+1,1,none⟩) (by simp) (by simp)).trans (by simp);exact ⟨(h2.cell (p:=⟨w.heap.size,0,none⟩) (lt_of_cell a0) (ncL _ (by omega))).trans a0,(h2.cell (p:=⟨w.heap.size+1,0,none⟩) (lt_of_cell a1) (ncL _ (by show N0≤w.heap.size+1;omega))).trans a1,(h2.cell (p:=⟨w.heap.size+1,1,none⟩) (lt_of_cell a2) (ncL _ (by show N0≤w.heap.size+1;omega))).trans a2⟩
 have HN:Hid (∀ W,Only [] w W→Calls Tryz.prog 32 #[.pointer (some ⟨l,0,none⟩),.agg #[.int .i64 n,.string t]] W fun e w'=>e = .returned (.string r)∧AftR W.heap.size W.heap.size R w'∧Only L W w'):=hA
 have HK:Hid (∀ W,Only L w W→Calls Tryz.prog 56 #[.pointer (some ⟨c,0,none⟩),.string a,.int .i64 n,.string t,.string r] W fun e w'=>e = .returned .nilIface∧(∃ v',CaAt w' base c b v' most [⟨a,n,t,r⟩])∧Only [c,b] W w'):=fun W ho=>(keep_any A W base c b _ most [] ⟨a,n,t,r⟩ (hEL W ho).four (hc.kept ho (ncL c hcN) (ncL b hbN) (fun k hk=>by cases hk)) hq (Nat.le_trans hb ho.size)).mono fun e w' q=>by
   obtain ⟨he,v',h1,h2⟩:=q;refine ⟨by rw [he];rfl,⟨v',?_⟩,h2⟩
   have e2:(keepK most [] (⟨a,n,t,r⟩:Kp)).2=[⟨a,n,t,r⟩]:=by
     show roomK most []++[_]=_;unfold roomK
     split<;>rfl
   rw [e2] at h1;exact h1
 have HZ:Hid (c < w.heap.size∧b < w.heap.size∧N0≤c∧N0≤b∧N0≤w.heap.size):=⟨hcl,hbw,hcN,hbN,hNw⟩;clear hE hc hb hq hcN hbN hbw hLN hNw hEL hA oA ncL
 go_enter Tryz.func31,Tryz.ntmps31
 go_wp2_with (go_at_call 55;go_must (refine HL.out.mono ?_);rintro e w1 ⟨rfl,ho⟩;have H1:Hid (Only [] ((w.alloc (.cells #[.pointer (some ⟨c,0,none⟩)] 94)).alloc (.cells #[.int .i64 n,.string t] 72)) w1):=ho;obtain ⟨b0,b1,b2⟩:=HB.out w1 ho w1 (Only.refl _ _);clear ho)
 have HW1:Hid (Only [] w w1):=HA.out.trans H1.out (fun _ hk=>by cases hk);clear b0 b1 b2;refine (HN.out w1 HW1.out).mono ?_;rintro e w2 ⟨rfl,ha,ho⟩;obtain ⟨b0,b1,b2⟩:=HB.out w1 H1.out w2 ho;have H2:Hid (AftR w1.heap.size w1.heap.size R w2):=ha;have HW2:Hid (Only L w w2):=(HW1.out.mono (L':=L) (fun _ hk=>by cases hk)).trans ho (fun k hk=>Or.inl hk);clear ha ho
 go_wp2_with (go_at_call 56;go_must (refine (HK.out w2 HW2.out).mono ?_);rintro e w3 ⟨rfl,hv,ho⟩;have H3:Hid (∃ v',CaAt w3 base c b v' most [⟨a,n,t,r⟩]):=hv;have HO3:Hid (Only [c,b] w2 w3):=ho;clear hv ho)
 go_ret3
 have hz:=HZ.out;have hs:=HW1.out.size;refine ⟨rfl,H3.out,(((H2.out.weak (B':=N0) (Y:=w.heap.size) (by omega) hs)).only HO3.out (fun k hk=>?_)),?_⟩
 · simp at hk
   rcases hk with rfl | rfl<;>omega
 · refine (HW2.out.mono (L':=c::b::L) (fun k hk=>Or.inl (List.mem_cons_of_mem _ (List.mem_cons_of_mem _ hk)))).trans HO3.out (fun k hk=>Or.inl ?_)
   simp at hk;rcases hk with rfl | rfl
   · exact List.mem_cons_self
   · exact List.mem_cons_of_mem _ List.mem_cons_self
end
end Go.Proofs.YtmfcfkomdflhlaaGreatDoor
