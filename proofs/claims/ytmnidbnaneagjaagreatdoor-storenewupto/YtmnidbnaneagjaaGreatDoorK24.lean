import Derived.Test.YtmnidbnaneagjaaGreatDoorK23
set_option maxRecDepth 100000
set_option maxHeartbeats 8000000
namespace Go.Proofs.YtmnidbnaneagjaaGreatDoor
section
open Go Go.RowKit Go.Deep
def gL (nums:List Nmb)(i:Nat):Nat:=match nums[i]? with | some x=>x.g | none=>0
def cL (nums:List Nmb)(i:Nat):Option Nmb:=match nums[i]? with | some x=>if x.k=0 then none else some x | none=>none
def NdIs (B:Nat)(nums:List Nmb)(nd:Nat→Option Nod):Prop:=∀ i,match cL nums i with | none=>nd i=none | some x=>∃ b,nd i=some (resNod b x)∧B≤b
theorem gL_app (l:List Nmb)(x:Nmb):gL (l++[x])=setN (gL l) l.length x.g:=by
 funext i;unfold gL setN
 by_cases h:i=l.length
 · rw [if_pos h,h]
   simp
 · rw [if_neg h]
   by_cases hi:i < l.length
   · rw [List.getElem?_append_left hi]
   · have e1:(l++[x])[i]?=none:=List.getElem?_eq_none (by simp;omega)
     have e2:l[i]?=none:=List.getElem?_eq_none (by omega);simp only [e1,e2]
theorem cL_app_same (l:List Nmb)(x:Nmb):cL (l++[x]) l.length=if x.k=0 then none else some x:=by
 unfold cL;simp
theorem cL_app_other (l:List Nmb)(x:Nmb){i:Nat}(h:i≠l.length):cL (l++[x]) i=cL l i:=by
 unfold cL
 by_cases hi:i < l.length
 · rw [List.getElem?_append_left hi]
 · rw [List.getElem?_eq_none (by simp;omega),List.getElem?_eq_none (by omega)]
theorem NdIs.nil (B:Nat):NdIs B [] (fun _=>none):=fun i=>by simp [cL]
theorem NdIs.app {B b:Nat}{l:List Nmb}{nd:Nat→Option Nod}(h:NdIs B l nd)(x:Nmb)(hb:B≤b):NdIs B (l++[x]) (setN nd l.length (placeN x b)):=fun i=>by
 by_cases e:i=l.length
 · subst e
   rw [cL_app_same,setN_same];unfold placeN
   by_cases hk:x.k=0
   · rw [if_pos hk,if_pos hk]
   · rw [if_neg hk,if_neg hk]
     exact ⟨b,rfl,hb⟩
 · rw [cL_app_other _ _ e,setN_other _ _ e]
   exact h i
def cntN (nums:List Nmb):Nat:=countTo (fun i=>(cL nums i).map (resNod 0)) nums.length
theorem countTo_some {nd nd':Nat→Option Nod}(h:∀ i,(nd i).isSome=(nd' i).isSome)(N:Nat):countTo nd N=countTo nd' N:=by
 induction N with
 | zero=>rfl
 | succ N ih =>
  rw [countTo_succ,countTo_succ,ih,h N]
theorem NdIs.count {B:Nat}{l:List Nmb}{nd:Nat→Option Nod}(h:NdIs B l nd):countTo nd l.length=cntN l:=countTo_some (fun i=>by
 have:=h i
 cases e:cL l i with
 | none=>rw [e] at this;simp only at this;rw [this];rfl
 | some x=>rw [e] at this;simp only at this;obtain ⟨b,hb,_⟩:=this;rw [hb];rfl) _
def ResOk (nums:List Nmb)(most:Nat):Prop:=(∀ x∈nums,¬ x.bad)∧cntN nums≤most
def RestR (A:Nat→Addr)(w w':World)(nums:List Nmb)(most:Nat)(e:Ending):Prop :=
 (¬ ResOk nums most∧(∃ k,e = .returned (.tuple #[.pointer none,eV A k]))∧Only [] w w') ∨
 (ResOk nums most∧∃ t p nd,e = .returned (.tuple #[.pointer (some ⟨t,0,none⟩),.nilIface])∧TabAt w' t p most (gL nums) nd∧p.N=nums.length∧NdIs w.heap.size nums nd∧Only [] w w'∧w.heap.size≤t∧∀ b,p.a=some b→w.heap.size≤b)
theorem two_one (x:Nat)(pa:Option Addr):∀ u∈[Value.int .i64 (x:Nat),Value.pointer pa],u.oneCell'=true:=by intro u hu;simp at hu;rcases hu with rfl | rfl<;>rfl
theorem restore_any (A:Nat→Addr)(w:World)(base:Nat)(v:Value)(nums:List Nmb)(most:Nat)(hE:Errs w A)(hR:Nrs w base v nums)(hn:nums.length≤300)(hk:∀ x∈nums,x.k≤2)(h1:1≤most)(h2:most≤300):
  Calls Tryz.prog 131 #[v,.int .i64 (most:Nat)] w fun e w'=>RestR A w w' nums most e:=by
 have hnew:=tnew w most h1 h2;obtain ⟨n,hnn⟩:∃ n,nums.length=n:=⟨_,rfl⟩;have HNN:Hid (nums.length=n):=hnn
 obtain ⟨ad,cap,hv⟩:∃ ad cap,v = .slice ad n cap:=by
  rcases hR.2 with ⟨e,e2⟩ | ⟨g,cap,cur,e,_⟩
  · exact ⟨none,0,by rw [e,← hnn,e2]⟩
  · exact ⟨_,cap,by rw [e,hnn]⟩
 have HR:Hid (∀ W,Only [] w W→Nrs W base v nums):=fun W ho=>hR.only ho (fun _ _=>by simp);have HE:Hid (∀ W,Only [] w W→Errs W A):=fun W ho=>hE.only ho (fun _ _=>⟨by simp,by simp⟩) (by simp)
 have HCELL:Hid (∀ W j x,Only [] w W→nums[j]?=some x→∃ g,ad=some ⟨g,0,none⟩∧g < W.heap.size∧W.cell? ⟨g,j*3,none⟩=some (.int .i64 (x.g:Nat))∧W.cell? ⟨g,j*3+1,none⟩=some (.int .i64 (x.k:Nat))∧W.cell? ⟨g,j*3+2,none⟩=some (.int .i64 (x.c:Nat))):=fun W j x ho hx=>by
  have hr:=HR.out W ho;have hlt:j < nums.length:=(List.getElem?_eq_some_iff.1 hx).1;rw [hv] at hr
  cases ad with
  | none =>
    rcases hr.2 with ⟨_,e2⟩ | ⟨g,cap',cur,e,_⟩
    · omega
    · simp at e
  | some a =>
    rcases hr.2 with ⟨e,_⟩ | ⟨g,cap',cur,e,_,hh,_⟩
    · simp at e
    · simp only [Value.slice.injEq,Option.some.injEq] at e
      obtain ⟨rfl,_,rfl⟩:=e;exact ⟨g,rfl,(Array.getElem?_eq_some_iff.1 hh).1,hr.cells HNN.out hx⟩
 have HK:Hid (∀ (j:Nat) (x:Nmb),nums[j]?=some x→x.k≤2):=fun j x hx=>hk x (List.mem_of_getElem? hx)
 have hn3:n≤300:=by omega
 rw [hv];clear hE hR hk hn hv hnn
 go_enter Tryz.func131,Tryz.ntmps131
 go_wp2_with (go_at_call 89;refine hnew.mono ?_;rintro e w1 ⟨t,rfl,hT,ho,ht⟩;have HT1:Hid (∃ p nd,TabAt w1 t p most (gL (nums.take 0)) nd∧p.N=0∧NdIs w.heap.size (nums.take 0) nd∧(∀ b,p.a=some b→w.heap.size≤b)):=⟨noRow,fun _=>none,hT,rfl,NdIs.nil _,fun b hb=>by cases hb⟩;have HO1:Hid (Only [] w w1):=ho;have HTT:Hid (w.heap.size≤t):=ht;clear hnew hT ho ht)
 go_loopw [21] (fun q wr=>∃ j:Nat,q = .int .i64 (j:Nat)∧j≤n∧(∃ p nd,TabAt wr t p most (gL (nums.take j)) nd∧p.N=j∧NdIs w.heap.size (nums.take j) nd∧(∀ b,p.a=some b→w.heap.size≤b))∧Only [] w wr∧∀ x∈nums.take j,¬ x.bad) (fun q _=>n - (intOf q).toNat)
 case atStart=>exact ⟨0,rfl,Nat.zero_le _,HT1.out,HO1.out,fun x hx=>by simp at hx⟩
 case round =>
  obtain ⟨j,rfl,hj,⟨p,nd,hT,hpN,hND,hpa⟩,hO,hbad⟩:=hrel;have HT:Hid (TabAt wr t p most (gL (nums.take j)) nd):=hT;have HPN:Hid (p.N=j):=hpN;have HND:Hid (NdIs w.heap.size (nums.take j) nd):=hND;have HPA:Hid (∀ b,p.a=some b→w.heap.size≤b):=hpa;have HO:Hid (Only [] w wr):=hO;have HBAD:Hid (∀ x∈nums.take j,¬ x.bad):=hbad;clear hT hpN hND hpa hO hbad HT1 HO1
  by_cases hlt:j < n
  · obtain ⟨x,hx⟩:∃ x,nums[j]?=some x:=⟨nums[j]'(by have:=HNN.out;omega),List.getElem?_eq_getElem _⟩
    have HX:Hid (nums[j]?=some x):=hx
    have HTK:Hid (nums.take (j+1)=nums.take j++[x]):=by show _=_;rw [List.take_add_one,hx];rfl
    have HTL:Hid ((nums.take j).length=j):=by show _=_;rw [List.length_take,HNN.out];omega
    obtain ⟨g,rfl,hgl,y0,y1,y2⟩:=HCELL.out wr j x HO.out hx;clear hx
    go_upto_region 7 with fail
    have oA:Only [] wr (wr.alloc (.cells #[.int .i64 (x.g:Nat),.int .i64 (x.k:Nat),.int .i64 (x.c:Nat)] 233)):=(Only.refl [] wr).alloc _;have HWA:Hid (Only [] w (wr.alloc (.cells #[.int .i64 (x.g:Nat),.int .i64 (x.k:Nat),.int .i64 (x.c:Nat)] 233))):=HO.out.trans oA (fun _ hk=>by cases hk);have HBX:Hid ((wr.alloc (.cells #[.int .i64 (x.g:Nat),.int .i64 (x.k:Nat),.int .i64 (x.c:Nat)] 233)).heap[wr.heap.size]?=some (.cells #[.int .i64 (x.g:Nat),.int .i64 (x.k:Nat),.int .i64 (x.c:Nat)] 233 (0,0))):=heap_alloc_last wr _;have HTA:Hid (TabAt (wr.alloc (.cells #[.int .i64 (x.g:Nat),.int .i64 (x.k:Nat),.int .i64 (x.c:Nat)] 233)) t p most (gL (nums.take j)) nd):=HT.out.kept oA (fun _ _=>by simp);have HBT:Hid (t≠wr.heap.size∧∀ b,p.a=some b→b≠wr.heap.size):=⟨Nat.ne_of_lt HT.out.tlt,fun b hb=>Nat.ne_of_lt (HT.out.plt hb)⟩;clear y0 y1 y2 oA hgl;generalize wr.alloc (.cells #[.int .i64 (x.g:Nat),.int .i64 (x.k:Nat),.int .i64 (x.c:Nat)] 233)=wb at HWA HBX HTA ⊢;generalize wr.heap.size=bx at HBX HBT ⊢
    have HBC:Hid (∀ W,Only [] wb W→W.cell? ⟨bx,0,none⟩=some (.int .i64 (x.g:Nat))∧W.cell? ⟨bx,1,none⟩=some (.int .i64 (x.k:Nat))∧W.cell? ⟨bx,2,none⟩=some (.int .i64 (x.c:Nat))):=fun W ho=>by
      have hb:=(ho.block bx (Array.getElem?_eq_some_iff.1 HBX.out).1 (by simp)).trans HBX.out;exact ⟨cell_of_row _ _ 0 _ _ _ hb,cell_of_row _ _ 1 _ _ _ hb,cell_of_row _ _ 2 _ _ _ hb⟩
    obtain ⟨x0,x1,x2⟩:=HBC.out wb (Only.refl _ _);have hck:=numCheck_any A wb x (HE.out wb HWA.out) (HK.out j x HX.out)
    go_wp2_with fail
    refine hck.mono ?_;rintro e w2 ⟨⟨hb,rfl⟩ | ⟨hb,rfl⟩,o2⟩
    · have HF:Hid (RestR A w w2 nums most (.returned (.tuple #[.pointer none,eV A 2]))):=Or.inl ⟨fun hk=>hk.1 x (List.mem_of_getElem? HX.out) hb,⟨2,rfl⟩,HWA.out.trans o2 (fun _ hk=>by cases hk)⟩
      clear hck hb o2 x0 x1 x2
      go_wp2
      go_ret2
      exact HF.out
    · have HNB:Hid (¬ x.bad):=hb
      have HO2:Hid (Only [] wb w2):=o2;have HW2:Hid (Only [] w w2):=HWA.out.trans o2 (fun _ hk=>by cases hk);have HT2:Hid (TabAt w2 t p most (gL (nums.take j)) nd):=HTA.out.kept o2 (fun _ _=>by simp);clear hck hb o2 x0 x1 x2
      go_upto_region 10 with fail
      obtain ⟨ad2,cap2,hpv⟩:∃ ad cap,p.v = .slice ad j cap:=⟨_,_,by unfold Row.v;rw [HPN.out]⟩;have HPV:Hid (p.v = .slice ad2 j cap2):=hpv;obtain ⟨i0,hi0,hz⟩:=Option.map_eq_some_iff.1 placeInfo;simp only [Prod.mk.injEq] at hz;obtain ⟨hz0,hz1,hz2⟩:=hz;have hpl:=numPlace_any w2.drew x
      have HC2:Hid (∀ W,Only [] w2 W→W.cell? ⟨t,1,none⟩=some (.slice ad2 j cap2)∧W.cell? ⟨bx,0,none⟩=some (.int .i64 (x.g:Nat))∧W.cell? ⟨bx,1,none⟩=some (.int .i64 (x.k:Nat))∧W.cell? ⟨bx,2,none⟩=some (.int .i64 (x.c:Nat))∧t < W.heap.size):=fun W ho=>by
       have hT:=HT2.out.kept ho (fun _ _=>by simp);have hc:=hT.tab;rw [HPV.out] at hc;exact ⟨hc,(HBC.out W (HO2.out.trans ho (fun _ hk=>by cases hk))).1,(HBC.out W (HO2.out.trans ho (fun _ hk=>by cases hk))).2.1,(HBC.out W (HO2.out.trans ho (fun _ hk=>by cases hk))).2.2,hT.tlt⟩
      obtain ⟨a1,a2,a3,a4,a5⟩:=HC2.out w2 (Only.refl _ _)
      have HAP:Hid (∀ (w3:World) (b:Nat) (pa:Option Addr) (w5:World) (g5 c5:Nat),Only [] w2 w3→w.heap.size≤b→pa=(placeN x b).map (fun n=>(⟨n.b,0,none⟩:Addr))→(∀ n,placeN x b=some n→NodAt w3 n∧n=resNod b x)→w2.heap.size≤b→(w3.alloc (.cells #[.int .i64 (x.g:Nat),.pointer pa] 180)).grownBy w5 (Value.slice ad2 j cap2).ownBlock→w5.ownsRow 0 180 2 (.slice (some ⟨g5,0,none⟩) (j+1) c5) (j+1) (rowOf placeCells (places j (gL (nums.take j)) nd)++[.int .i64 (x.g:Nat),.pointer pa])→((Value.slice ad2 j cap2).ownBlock=some g5∨g5=(w3.alloc (.cells #[.int .i64 (x.g:Nat),.pointer pa] 180)).heap.size) →
         w5.cell? ⟨t,1,none⟩=some (.slice ad2 j cap2)∧w5.frozen? ⟨t,1,none⟩=false∧t < w5.heap.size∧(∃ p' nd',TabAt (w5.setCell ⟨t,1,none⟩ (.slice (some ⟨g5,0,none⟩) (j+1) c5)) t p' most (gL (nums.take (j+1))) nd'∧p'.N=j+1∧NdIs w.heap.size (nums.take (j+1)) nd'∧(∀ b,p'.a=some b→w.heap.size≤b))∧Only [] w (w5.setCell ⟨t,1,none⟩ (.slice (some ⟨g5,0,none⟩) (j+1) c5))):=fun w3 b pa w5 g5 c5 o3 hb hpa hnod hb2 hgr hrow hat=>by
       have hob:(Value.slice ad2 j cap2).ownBlock=p.a:=by rw [← HPV.out,p.own]
       rw [hob] at hgr hat;have oA:Only [] w2 (w3.alloc (.cells #[.int .i64 (x.g:Nat),.pointer pa] 180)):=o3.alloc _;have o5:Only p.a.toList w2 w5:=(oA.mono (fun _ hk=>by cases hk)).grown hgr (fun k hk=>Or.inl (by rw [hk];simp));have hTl:=HT2.out.tlt;have htp:t∉p.a.toList:=fun hm=>HT2.out.pt (by simpa using hm);have hc:=HT2.out.tab;rw [HPV.out] at hc
       have hg5:p.a=some g5∨w2.heap.size≤g5:=by
         rcases hat with e | e
         · exact Or.inl e
         · exact Or.inr (by rw [e];exact oA.size)
       have hrow':w5.ownsRow 0 180 2 (.slice (some ⟨g5,0,none⟩) (p.N+1) c5) (p.N+1) (rowOf placeCells (places p.N (gL (nums.take j)) nd)++placeCells (x.g,placeN x b)):=by
         rw [HPN.out];unfold placeCells;rw [← hpa];exact hrow
       have hnn:∀ n,placeN x b=some n→NodAt w5 n∧∀ k∈n.foot,w2.heap.size≤k∧k≠g5:=fun n hn=>by
         obtain ⟨hN,rfl⟩:=hnod n hn;have hf:(resNod b x).foot=[b]:=rfl;have hbl:b < w3.heap.size:=hN.foot_lt b (by rw [hf];simp);have o35:Only p.a.toList w3 w5:=(((Only.refl [] w3).alloc _).mono (fun _ hk=>by cases hk)).grown hgr (fun k hk=>Or.inl (by rw [hk];simp))
         have hbp:b∉p.a.toList:=fun hm=>by
           have:p.a=some b:=by simpa using hm
           have:=HT2.out.plt this;omega
         refine ⟨hN.kept o35 (fun k hk=>by rw [hf] at hk;rw [List.mem_singleton.1 hk];exact hbp),fun k hk=>?_⟩;rw [hf] at hk;rw [List.mem_singleton.1 hk];refine ⟨hb2,fun e=>?_⟩;rcases hat with e2 | e2
         · exact hbp (by rw [e2,e];simp)
         · rw [World.size_alloc] at e2
           omega
       obtain ⟨hT6,o6⟩:=HT2.out.app o5 hrow' hg5 hnn;refine ⟨(o5.cell (p:=⟨t,1,none⟩) hTl htp).trans hc,(o5.frozen (p:=⟨t,1,none⟩) hTl htp).trans (HT2.out.tfz 1),Nat.lt_of_lt_of_le hTl o5.size,⟨⟨some g5,p.N+1,c5⟩,setN nd p.N (placeN x b),?_,by rw [HPN.out],?_,fun b' hb'=>?_⟩,?_⟩
       · rw [HTK.out,gL_app,HTL.out]
         rw [HPN.out] at hT6 ⊢;exact hT6
       · rw [HTK.out,HPN.out]
         have:=HND.out.app x hb;rw [HTL.out] at this;exact this
       · simp only [Option.some.injEq] at hb'
         rw [← hb'];rcases hg5 with e | e
         · exact HPA.out g5 e
         · exact Nat.le_trans HW2.out.size e
       · rw [HPN.out] at o6
         refine HW2.out.trans o6 (fun k hk=>Or.inr ?_);rcases List.mem_cons.1 hk with e | e
         · rw [e];exact HTT.out
         · exact HPA.out k (by simpa using e)
      have HROW:Hid (∀ W,Only [] w2 W→W.ownsRow 0 180 2 (.slice ad2 j cap2) j (rowOf placeCells (places j (gL (nums.take j)) nd))):=fun W ho=>by
       have hT:=(HT2.out.kept ho (fun _ _=>by simp)).row;rw [HPV.out,HPN.out] at hT;exact hT
      have mixed:Tryz.prog.follows Departure.mixedOrders=true:=by kernel_rfl
      clear hpv
      go_region_law_o (first
       | (refine step_append_lies _ (by rfl) (.tmp 34) (.tmp 37) 175 (by rfl) 0 180 i0 _ 2 16 placesUnd hi0 hz0 hz1 hz2 (by rfl) (by decide) (.slice ad2 j cap2) j (rowOf placeCells (places j (gL (nums.take j)) nd)) (by rfl) (HROW.out _ (HO3.out.alloc _)) ⟨w3.heap.size,0,none⟩ 1 1 [.int .i64 (x.g:Nat),.pointer pa] (by rfl) (by rfl) (two_news w3 _ _ _) (two_one _ _) (by decide) (by unfold maxLen;omega) (by omega) (Nat.zero_le _) (w3.heap.size+1) (by simp) ?_;intro g5 c5 w5 hown5 hgr5 hat5 hlt5;obtain ⟨k0,k1,k2,hR⟩:=HAP.out w3 b pa w5 g5 c5 HO3.out (Nat.le_trans HW2.out.size HP3.out.2.1) HP3.out.1 HP3.out.2.2 HP3.out.2.1 hgr5 hown5 (by rw [World.size_alloc];exact hat5);have HRR:Hid ((∃ p' nd',TabAt (w5.setCell ⟨t,1,none⟩ (.slice (some ⟨g5,0,none⟩) (j+1) c5)) t p' most (gL (nums.take (j+1))) nd'∧p'.N=j+1∧NdIs w.heap.size (nums.take (j+1)) nd'∧(∀ b,p'.a=some b→w.heap.size≤b))∧Only [] w (w5.setCell ⟨t,1,none⟩ (.slice (some ⟨g5,0,none⟩) (j+1) c5))):=hR;clear hown5 hgr5 hat5 hlt5 hR a1)
       | (go_simp;refine hpl.mono ?_;rintro e w3 ⟨b,rfl,o3,hb3,hnod⟩;obtain ⟨pa,hpa⟩:∃ pa,(placeN x b).map (fun n=>(⟨n.b,0,none⟩:Addr))=pa:=⟨_,rfl⟩;rw [hpa];have HP3:Hid (pa=(placeN x b).map (fun n=>(⟨n.b,0,none⟩:Addr))∧w2.heap.size≤b∧∀ n,placeN x b=some n→NodAt w3 n∧n=resNod b x):=⟨hpa.symm,hb3,hnod⟩;have HO3:Hid (Only [] w2 w3):=(Only.refl [] w2).drew.trans o3 (fun _ hk=>by cases hk);clear a1 a2 a3 a4 a5;obtain ⟨a1,a2,a3,a4,a5⟩:=HC2.out w3 HO3.out;clear hpl o3 hb3 hnod hpa))
      all_goals go_wp2
      all_goals go_roundw
      all_goals first
       | (exact ⟨j+1,by go_num,by omega,HRR.out.1,HRR.out.2,fun y hy=>by rw [HTK.out] at hy;rcases List.mem_append.1 hy with e | e;exact HBAD.out y e;rw [List.mem_singleton.1 e];exact HNB.out⟩)
       | (simp [intOf];omega)
  · obtain rfl:n=j:=by omega
    have hj2:decide ((n:Int) < n)=false:=decide_eq_false (by omega)
    have HALL:Hid (nums.take n=nums):=by show _=_;rw [← HNN.out,List.take_length]
    rw [HALL.out] at HT HND HBAD;have hct:=tcount wr t p most (gL nums) nd HT.out (by rw [HPN.out];omega);rw [HPN.out,← HNN.out,HND.out.count] at hct
    have hcl:cntN nums≤n:=by
      have:=countTo_le (fun i=>(cL nums i).map (resNod 0)) nums.length;rw [HNN.out] at this;unfold cntN;rw [HNN.out];exact this
    by_cases hm:most < cntN nums
    · have d1:decide ((most:Int) < (cntN nums:Int))=true:=decide_eq_true (by omega)
      have HNR:Hid (¬ ResOk nums most):=fun h=>by have:=h.2;omega
      clear hcl;generalize cntN nums=cn at hct d1 hm;have d2:decide (most < cn)=true:=decide_eq_true hm;clear d1;have HEE:Hid (∀ W,Only [] w W→W.cell? ⟨9,0,none⟩=some (eV A 8)):=fun W ho=>(HE.out W ho).cell 8 (by decide)
      go_wp2_with (go_at_call 36;refine hct.mono ?_;rintro e w2 ⟨rfl,o2⟩;have HW2:Hid (Only [] w w2):=HO.out.trans o2 (fun _ hk=>by cases hk);have cE:=HEE.out w2 HW2.out;clear hct o2)
      go_region
      all_goals go_wp2
      all_goals go_ret2
      all_goals exact Or.inl ⟨HNR.out,⟨8,rfl⟩,HW2.out.drew⟩
    · have d1:decide ((most:Int) < (cntN nums:Int))=false:=decide_eq_false (by omega)
      have HRK:Hid (ResOk nums most):=⟨HBAD.out,by omega⟩;clear hcl;generalize cntN nums=cn at hct d1 hm;have d2:decide (most < cn)=false:=decide_eq_false hm;clear d1
      go_wp2_with (go_at_call 36;refine hct.mono ?_;rintro e w2 ⟨rfl,o2⟩;have HW2:Hid (Only [] w w2):=HO.out.trans o2 (fun _ hk=>by cases hk);have HT2:Hid (TabAt w2 t p most (gL nums) nd):=HT.out.kept o2 (fun _ _=>by simp);clear hct o2)
      go_ret2
      exact Or.inr ⟨HRK.out,t,p,nd,rfl,HT2.out,by rw [HPN.out,HNN.out],HND.out,HW2.out,HTT.out,HPA.out⟩
def pHead (l:List Nmb):Bool:=match l[0]? with | some x=>decide (x.k=2)&&decide (x.g=0) | none=>false
def pGood (l:List Nmb)(most:Nat):Bool:=l.all (fun x=>!(decide (x.k=0)&&decide (x.g=0)))&&decide (cntN l≤most)
theorem pGood_iff (l:List Nmb)(most:Nat):pGood l most=true↔ResOk l most:=by
 unfold pGood ResOk Nmb.bad;simp only [Bool.and_eq_true,List.all_eq_true,decide_eq_true_eq,Bool.not_eq_true',Bool.and_eq_false_iff,decide_eq_false_iff_not]
 constructor
 · rintro ⟨h1,h2⟩
   exact ⟨fun x hx hb=>by rcases h1 x hx with h | h;exact h hb.1;exact h hb.2,h2⟩
 · rintro ⟨h1,h2⟩
   refine ⟨fun x hx=>?_,h2⟩
   by_cases h:x.k=0
   · exact Or.inr (fun hg=>h1 x hx ⟨h,hg⟩)
   · exact Or.inl h
def pTab (most:Nat):Par (List Nmb):=bindP (pNum 300) fun n=>bindP (pTimes pGiven n) fun l=>if (pHead l&&pGood l most)=true then retP l else fun _=>none
theorem pTimes_more {α:Type}{p:Par α}{n m:Nat}{t1 tj t':ByteArray}{l:List α}{x:α}(h:pTimes p n t1=(pTimes p (m+1) tj).map (fun y=>(l++y.1,y.2)))(hx:p tj=some (x,t')):pTimes p n t1=(pTimes p m t').map (fun y=>((l++[x])++y.1,y.2)):=by
 rw [h,show pTimes p (m+1)=bindP p (fun a=>bindP (pTimes p m) fun l=>retP (a::l)) from rfl,bindP_some hx]
 unfold bindP
 cases pTimes p m t' with
 | none=>rfl
 | some y=>simp [retP]
theorem pTimes_stop {α:Type}{p:Par α}{n m:Nat}{t1 tj:ByteArray}{l:List α}(h:pTimes p n t1=(pTimes p (m+1) tj).map (fun y=>(l++y.1,y.2)))(hx:p tj=none):pTimes p n t1=none:=by
 rw [h,show pTimes p (m+1)=bindP p (fun a=>bindP (pTimes p m) fun l=>retP (a::l)) from rfl,bindP_none hx]
 rfl
theorem pTimes_done {α:Type}{p:Par α}{n:Nat}{t1 tj:ByteArray}{l:List α}(h:pTimes p n t1=(pTimes p 0 tj).map (fun y=>(l++y.1,y.2))):pTimes p n t1=some (l,tj):=by
 rw [h];simp [pTimes,retP]
theorem pGiven_le {t t':ByteArray}{x:Nmb}(h:pGiven t=some (x,t')):x.k≤2∧x.g≤4611686018427387903∧x.c≤4611686018427387903∧t'.size≤t.size:=by
 unfold pGiven at h
 cases h1:pNum 2 t with
 | none=>rw [bindP_none h1] at h;cases h
 | some y =>
  obtain ⟨k,t1⟩:=y;rw [bindP_some h1] at h;have g1:=pNum_le h1
  cases h2:pNum manyT t1 with
  | none=>rw [bindP_none h2] at h;cases h
  | some y =>
   obtain ⟨g,t2⟩:=y;rw [bindP_some h2] at h;have g2:=pNum_le h2;unfold manyT at g2
   by_cases hk:k=0
   · rw [if_pos hk] at h
     simp only [retP,Option.some.injEq,Prod.mk.injEq] at h;obtain ⟨rfl,rfl⟩:=h;exact ⟨by show 0≤2;omega,by show g≤_;omega,by show 0≤_;omega,by omega⟩
   · rw [if_neg hk] at h
     cases h3:pNum manyT t2 with
     | none=>rw [bindP_none h3] at h;cases h
     | some y =>
      obtain ⟨c,t3⟩:=y;rw [bindP_some h3] at h;have g3:=pNum_le h3;unfold manyT at g3;simp only [retP,Option.some.injEq,Prod.mk.injEq] at h;obtain ⟨rfl,rfl⟩:=h;exact ⟨by show k≤2;omega,by show g≤_;omega,by show c≤_;omega,by omega⟩
def Low (A:Nat→Addr)(B:Nat):Prop:=(∀ k,k < 15→gOf k < B∧(A k).block < B)∧15 < B
theorem Low.mono {A:Nat→Addr}{B B':Nat}(h:Low A B)(hb:B≤B'):Low A B':=⟨fun k hk=>⟨by have:=(h.1 k hk).1;omega,by have:=(h.1 k hk).2;omega⟩,by have:=h.2;omega⟩
section
variable {w w':World}{A:Nat→Addr}{lb xb B:Nat}{tp v:Value}{t:ByteArray}
theorem LdR.kept {L:List Nat}(h:LdR w A lb xb tp v t)(ho:Only L w w')(hl:lb∉L)(hx:xb∉L)(he:Low A B)(hL:∀ k∈L,B≤k):LdR w' A lb xb tp v t :=
 ⟨(ho.block lb h.lt hl).trans h.blk,(ho.block xb h.ltx hx).trans h.rd,h.err.only ho (fun k hk=>⟨fun hm=>by have:=hL _ hm;have:=(he.1 k hk).1;omega,fun hm=>by have:=hL _ hm;have:=(he.1 k hk).2;omega⟩) (fun hm=>by have:=hL _ hm;have:=he.2;omega),h.le,h.old,h.typ⟩
theorem LdR.only_lb (h:LdR w A lb xb tp v t)(k:Nat)(u:Value):Errs (w.setCell ⟨lb,k,none⟩ u) A:=h.err.only ((Only.refl [lb] w).setCell (p:=⟨lb,k,none⟩) (Or.inl (by simp)) _) (fun k hk=>⟨by simpa using (h.old k hk).2.1,by simpa using (h.old k hk).2.2.2⟩) (by simpa using h.typ.2)
theorem LdR.put2 (h:LdR w A lb xb tp v t)(u:Value):LdR (w.setCell ⟨lb,2,none⟩ u) A lb xb tp u t :=
 ⟨heap_setCell_same w lb 2 _ _ _ h.blk,(Below.heap_setCell w ⟨lb,2,none⟩ u xb (Ne.symm h.ne)).trans h.rd,h.only_lb 2 u,h.le,h.old,h.typ⟩
theorem LdR.put1 (h:LdR w A lb xb tp v t)(u:Value):LdR (w.setCell ⟨lb,1,none⟩ u) A lb xb u v t :=
 ⟨heap_setCell_same w lb 1 _ _ _ h.blk,(Below.heap_setCell w ⟨lb,1,none⟩ u xb (Ne.symm h.ne)).trans h.rd,h.only_lb 1 u,h.le,h.old,h.typ⟩
theorem LdR.row_ne {l:List Nmb}{b:Nat}(h:LdR w A lb xb tp v t){u:Value}(hr:Nrs w b u l){k:Nat}(hk:u.ownBlock=some k):b≤k∧k < w.heap.size∧k≠lb∧k≠xb:=by
 rcases hr.2 with ⟨h1,_⟩ | ⟨g',cap',cur,h1,hb,hh,_⟩
 · rw [h1] at hk;cases hk
 · rw [h1] at hk
   obtain rfl:g'=k:=by simpa [Value.ownBlock] using hk
   refine ⟨hb,(Array.getElem?_eq_some_iff.1 hh).1,fun e=>?_,fun e=>?_⟩
   · rw [e,h.blk] at hh
     simp at hh
   · rw [e,h.rd] at hh
     simp at hh
end
theorem nmsUnd:Tryz.prog.underlying 198=some (.slice 233):=by kernel_rfl
theorem nm_one (x:Nmb):∀ u∈nmC x,u.oneCell'=true:=by
 intro u hu;simp [nmC] at hu;rcases hu with rfl | rfl | rfl<;>rfl
theorem num_more {w w3 w5:World}{A:Nat→Addr}{lb xb B g5 c5:Nat}{tp v:Value}{t:ByteArray}{l:List Nmb}{x:Nmb}{o:Obj}(h:LdR w3 A lb xb tp v t)(hr:Nrs w3 B v l)(he:Low A B)(hB:B=w.heap.size)(ho:Only [lb,xb] w w3)(hgr:(w3.alloc o).grownBy w5 v.ownBlock)(hown:w5.ownsRow B 233 3 (.slice (some ⟨g5,0,none⟩) (l.length+1) c5) (l.length+1) (rowOf nmC l++nmC x)):
   w5.cell? ⟨lb,2,none⟩=some v∧w5.frozen? ⟨lb,2,none⟩=false∧lb < w5.heap.size∧LdR (w5.setCell ⟨lb,2,none⟩ (.slice (some ⟨g5,0,none⟩) (l.length+1) c5)) A lb xb tp (.slice (some ⟨g5,0,none⟩) (l.length+1) c5) t∧Nrs (w5.setCell ⟨lb,2,none⟩ (.slice (some ⟨g5,0,none⟩) (l.length+1) c5)) B (.slice (some ⟨g5,0,none⟩) (l.length+1) c5) (l++[x])∧Only [lb,xb] w (w5.setCell ⟨lb,2,none⟩ (.slice (some ⟨g5,0,none⟩) (l.length+1) c5)):=by
 have o5:Only v.ownBlock.toList w3 w5:=(((Only.refl [] w3).alloc o).mono (L':=v.ownBlock.toList) (fun _ hk=>by cases hk)).grown hgr (fun k hk=>Or.inl (by rw [hk];simp));have hrow:∀ k∈v.ownBlock.toList,B≤k∧k < w3.heap.size∧k≠lb∧k≠xb:=fun k hk=>h.row_ne hr (by simpa using hk);have h5:LdR w5 A lb xb tp v t:=h.kept o5 (fun hm=>(hrow lb hm).2.2.1 rfl) (fun hm=>(hrow xb hm).2.2.2 rfl) he (fun k hk=>(hrow k hk).1)
 have hn5:Nrs w5 B (.slice (some ⟨g5,0,none⟩) (l.length+1) c5) (l++[x]):=by
   unfold Nrs;rw [List.length_append,rowOf_append]
   simpa [rowOf] using hown
 refine ⟨h5.c2,h5.fz 2,h5.lt,h5.put2 _,?_,?_⟩
 · refine hn5.only ((Only.refl [lb] w5).setCell (p:=⟨lb,2,none⟩) (Or.inl (by simp)) _) (fun k hk=>?_)
   have:=(h5.row_ne hn5 hk).2.2.1
   simpa using this
 · have o6:Only [lb,xb] w w5:=ho.trans o5 (fun k hk=>Or.inr (by rw [← hB];exact (hrow k hk).1))
   exact o6.setCell (p:=⟨lb,2,none⟩) (Or.inl (by simp)) _
theorem lhandle_ok (w:World)(A:Nat→Addr)(lb xb:Nat)(tp v:Value)(t:ByteArray)(base:Nat)(l:List Nmb)(i:Nat)(x:Nmb)(hL:LdR w A lb xb tp v t)(hR:Nrs w base v l)(hx:l[i]?=some x):
   Calls Tryz.prog 133 #[.pointer (some ⟨lb,0,none⟩),.int .i64 (i:Nat)] w fun e w'=>e = .returned (.agg #[.int .i64 (i:Nat),.int .i64 (x.g:Nat)])∧Only [] w w':=by
 have hlt:i < l.length:=(List.getElem?_eq_some_iff.1 hx).1;rcases hR.2 with ⟨e,e2⟩ | ⟨g,cap,cur,e,_,hh,_⟩
 · omega
 · obtain ⟨n,hn⟩:∃ n,l.length=n:=⟨_,rfl⟩
   rw [hn] at e hlt;rw [e] at hR hL;have hlb:=hL.lt;have c2:=hL.c2;have hgl:=(Array.getElem?_eq_some_iff.1 hh).1;obtain ⟨y0,y1,y2⟩:=hR.cells hn hx;have hz:=heap_alloc_last w (.cells #[.int .i64 0,.int .i64 0] 94);have HZ:Hid ((w.alloc (.cells #[.int .i64 0,.int .i64 0] 94)).heap[w.heap.size]?=some (.cells #[.int .i64 0,.int .i64 0] 94 (0,0))):=hz;have hho:=handleOf_any (w.alloc (.cells #[.int .i64 0,.int .i64 0] 94)) i x;have hi1:decide ((i:Int) < 0)=false:=decide_eq_false (by omega);have hi2:decide (i < n)=true:=decide_eq_true hlt;clear hz hL hR hx hh e hn
   go_enter Tryz.func133,Tryz.ntmps133
   go_wp2_with (go_at_call 102;refine hho.mono ?_;rintro e w1 ⟨rfl,o1⟩;have hb:=(o1.block w.heap.size (Array.getElem?_eq_some_iff.1 HZ.out).1 (by simp)).trans HZ.out;have q0:w1.cell? ⟨w.heap.size,0,none⟩=some (.int .i64 0):=cell_of_row _ _ 0 _ _ _ hb;have q1:w1.cell? ⟨w.heap.size,1,none⟩=some (.int .i64 0):=cell_of_row _ _ 1 _ _ _ hb;have f0:w1.frozen? ⟨w.heap.size,0,none⟩=false:=frozen_of_row _ _ _ _ _ hb;have f1:w1.frozen? ⟨w.heap.size,1,none⟩=false:=frozen_of_row _ _ _ _ _ hb;have hbl:=(Array.getElem?_eq_some_iff.1 hb).1;have HO:Hid (Only [] w w1):=((Only.refl [] w).alloc _).trans o1 (fun _ hk=>by cases hk);clear hho o1 hb)
   refine bodyPost_ret (v := .agg #[.int .i64 (i:Nat),.int .i64 (x.g:Nat)]) (by simp [results,Tryz.results133,go_sem,q0,q1]) rfl ⟨rfl,?_⟩;exact (HO.out.setCell (p:=⟨w.heap.size,0,none⟩) (Or.inr (Nat.le_refl _)) _).setCell (p:=⟨w.heap.size,1,none⟩) (Or.inr (Nat.le_refl _)) _
structure Lc where
 N:Nat
 g:Nat→Nat
 nd:Nat→Option Nod
 ds:Nat→Option (List Ent)
def bareN (n:Nod):Nod:={ n with b:=0,m:=none }
def absT (T:Tr):Lc:=⟨T.p.N,T.g,fun i=>(T.nd i).map bareN,fun i=>(T.ds i).map (·.l)⟩
def tabC (l:List Nmb)(j:Nat):Lc:=⟨l.length,gL l,fun i=>(cL l i).map (fun x=>if x.k=2∧i < j then { resNod 0 x with Z:=0,L:=2 } else resNod 0 x),fun i=>(cL l i).bind (fun x=>if x.k=2∧i < j then some [] else none)⟩
theorem Lc.ext' {a b:Lc}(h1:a.N=b.N)(h2:a.g=b.g)(h3:∀ i,a.nd i=b.nd i)(h4:∀ i,a.ds i=b.ds i):a=b:=by
 obtain ⟨a1,a2,a3,a4⟩:=a;obtain ⟨b1,b2,b3,b4⟩:=b;simp only at h1 h2 h3 h4;rw [h1,h2,funext h3,funext h4]
theorem absT_bare {B t most db pb:Nat}{p:Row}{l:List Nmb}{nd:Nat→Option Nod}(h:NdIs B l nd)(hN:p.N=l.length):absT (Tr.bare t p most (gL l) nd db pb)=tabC l 0:=by
 refine Lc.ext' hN rfl (fun i=>?_) (fun i=>?_)
 · have:=h i
   show (nd i).map bareN=(cL l i).map _
   cases e:cL l i with
   | none=>rw [e] at this;simp only at this;rw [this];rfl
   | some x =>
    rw [e] at this;simp only at this;obtain ⟨b,hb,_⟩:=this;rw [hb];simp [bareN,resNod,newNod]
 · show (none:Option DirM).map (·.l)=(cL l i).bind _
   cases cL l i<;>simp
theorem tabC_same {l:List Nmb}{j:Nat}(h:∀ x,cL l j=some x→x.k≠2):tabC l (j+1)=tabC l j:=by
 refine Lc.ext' rfl rfl (fun i=>?_) (fun i=>?_)
 all_goals
  show _=_;unfold tabC;simp only
  cases e:cL l i with
  | none=>rfl
  | some x =>
   by_cases hi:i=j
   · subst hi
     have:=h x e;simp [this]
   · have:(i < j+1)=(i < j):=by rw [eq_iff_iff];omega
     simp only [this]
theorem absT_open {T:Tr}{l:List Nmb}{j B:Nat}{n:Nod}{x:Nmb}(h:absT T=tabC l j)(hx:cL l j=some x)(hk:x.k=2)(hn:T.nd j=some n):absT { T.opened j B with nd:=setN T.nd j (some { n with Z:=0,L:=2 }) }=tabC l (j+1):=by
 have hN:T.p.N=l.length:=congrArg Lc.N h;have hg:T.g=gL l:=congrArg Lc.g h;have hnd:∀ i,(T.nd i).map bareN=(tabC l j).nd i:=fun i=>congrFun (congrArg Lc.nd h) i;have hds:∀ i,(T.ds i).map (·.l)=(tabC l j).ds i:=fun i=>congrFun (congrArg Lc.ds h) i;refine Lc.ext' hN hg (fun i=>?_) (fun i=>?_)
 · show (setN T.nd j (some { n with Z:=0,L:=2 }) i).map bareN=(cL l i).map _
   by_cases hi:i=j
   · subst hi
     have:=hnd i;rw [hn] at this;simp only [tabC,hx,Option.map_some,Option.some.injEq,Nat.lt_irrefl,and_false,if_false] at this;rw [setN_same,hx];simp only [Option.map_some,Option.some.injEq,hk,Nat.lt_succ_self,and_self,if_true,← this];rfl
   · rw [setN_other _ _ hi,hnd i]
     show (cL l i).map _=_
     have:(i < j+1)=(i < j):=by rw [eq_iff_iff];omega
     simp only [this]
 · show (setN T.ds j (some ⟨B,[]⟩) i).map (·.l)=(cL l i).bind _
   by_cases hi:i=j
   · subst hi
     rw [setN_same,hx];simp [hk]
   · rw [setN_other _ _ hi,hds i]
     show (cL l i).bind _=_
     have:(i < j+1)=(i < j):=by rw [eq_iff_iff];omega
     simp only [this]
structure Ld (w:World)(A:Nat→Addr)(R B lb xb tr:Nat)(T:Tr)(v:Value)(l:List Nmb)(t:ByteArray):Prop where
 ld:LdR w A lb xb (.pointer (some ⟨tr,0,none⟩)) v t
 row:Nrs w R v l
 tree:TreeAt w tr T
 fresh:∀ k,FootT tr T k→B≤k
 low:lb < B∧xb < B∧∀ k,v.ownBlock=some k→k < B
 err:Low A B
 pn:T.pn=fun _=>0
theorem Ld.blt {w:World}{A:Nat→Addr}{R B lb xb tr:Nat}{T:Tr}{v:Value}{l:List Nmb}{t:ByteArray}(h:Ld w A R B lb xb tr T v l t):B≤w.heap.size:=Nat.le_trans (h.fresh tr (Or.inl rfl)) (Nat.le_of_lt (lt_of_cell h.tree.c0))
theorem Ld.step {w w':World}{A:Nat→Addr}{R B lb xb tr:Nat}{T T':Tr}{v:Value}{l:List Nmb}{t:ByteArray}{L:List Nat}(h:Ld w A R B lb xb tr T v l t)(o:Only L w w')(hL:∀ k∈L,B≤k)(hT:TreeAt w' tr T')(hf:∀ k,FootT tr T' k→FootT tr T k∨w.heap.size≤k)(hp:T'.pn=T.pn):Ld w' A R B lb xb tr T' v l t:=by
 obtain ⟨l1,l2,l3⟩:=h.low;refine ⟨h.ld.kept o (fun hm=>by have:=hL _ hm;omega) (fun hm=>by have:=hL _ hm;omega) h.err hL,h.row.only o (fun k hk hm=>by have:=hL _ hm;have:=l3 k hk;omega),hT,fun k hk=>?_,h.low,h.err,hp.trans h.pn⟩;rcases hf k hk with e | e
 · exact h.fresh k e
 · exact Nat.le_trans h.blt e
theorem Ld.only {w w':World}{A:Nat→Addr}{R B lb xb tr:Nat}{T:Tr}{v:Value}{l:List Nmb}{t:ByteArray}(h:Ld w A R B lb xb tr T v l t)(o:Only [] w w'):Ld w' A R B lb xb tr T v l t:=h.step o (fun _ hk=>by cases hk) (h.tree.only o) (fun _ hk=>Or.inl hk) rfl
theorem foot_opened {tr j Bn:Nat}{T:Tr}{n:Nod}(hn:T.nd j=some n){k:Nat}(hk:FootT tr { T.opened j Bn with nd:=setN T.nd j (some { n with Z:=0,L:=2 }) } k):FootT tr T k∨k=Bn:=by
 rcases hk with e | e | e | ⟨i,d,hd,e⟩ | e | e | ⟨i,m,hm,hf⟩
 · exact Or.inl (Or.inl e)
 · exact Or.inl (Or.inr (Or.inl e))
 · exact Or.inl (Or.inr (Or.inr (Or.inl e)))
 · by_cases hi:i=j
   · subst hi
     have hd':setN T.ds i (some ⟨Bn,[]⟩) i=some d:=hd;rw [setN_same] at hd';obtain rfl:=Option.some.inj hd';exact Or.inr e
   · have hd':setN T.ds j (some ⟨Bn,[]⟩) i=some d:=hd
     rw [setN_other _ _ hi] at hd';exact Or.inl (Or.inr (Or.inr (Or.inr (Or.inl ⟨i,d,hd',e⟩))))
 · exact Or.inl (Or.inr (Or.inr (Or.inr (Or.inr (Or.inl e)))))
 · exact Or.inl (Or.inr (Or.inr (Or.inr (Or.inr (Or.inr (Or.inl e))))))
 · refine Or.inl (Or.inr (Or.inr (Or.inr (Or.inr ?_))))
   have hm':setN T.nd j (some { n with Z:=0,L:=2 }) i=some m:=hm
   by_cases hi:i=j
   · subst hi
     rw [setN_same] at hm';obtain rfl:=Option.some.inj hm';exact InFoot.node hn hf
   · rw [setN_other _ _ hi] at hm'
     exact InFoot.node hm' hf
theorem Ld.opened {w w7 w0:World}{A:Nat→Addr}{R B lb xb tr j Bn:Nat}{T:Tr}{v:Value}{l:List Nmb}{t:ByteArray}{n:Nod}{L:List Nat}(h:Ld w A R B lb xb tr T v l t)(hn:T.nd j=some n)(hT:TreeAt w7 tr { T.opened j Bn with nd:=setN T.nd j (some { n with Z:=0,L:=2 }) })(o:Only [n.b,T.db] w w7)(hB:w.heap.size≤Bn)(o0:Only L w0 w)(h0:w0.heap.size≤B):Ld w7 A R B lb xb tr { T.opened j Bn with nd:=setN T.nd j (some { n with Z:=0,L:=2 }) } v l t∧Only L w0 w7:=by
 have hL:∀ k∈[n.b,T.db],B≤k:=fun k hk=>by
   rcases List.mem_cons.1 hk with e | e
   · rw [e]
     exact h.fresh _ (Or.inr (Or.inr (Or.inr (Or.inr (InFoot.node hn (List.mem_cons_self ..))))))
   · rw [List.mem_singleton.1 e]
     exact h.fresh _ (Or.inr (Or.inl rfl))
 refine ⟨h.step o hL hT (fun k hk=>?_) rfl,o0.trans o (fun k hk=>Or.inr (Nat.le_trans h0 (hL k hk)))⟩;rcases foot_opened hn hk with e | e
 · exact Or.inl e
 · exact Or.inr (by rw [e];exact hB)
theorem NdIs.foot {B:Nat}{l:List Nmb}{nd:Nat→Option Nod}(h:NdIs B l nd){i k:Nat}{m:Nod}(hm:nd i=some m)(hf:k∈m.foot):B≤k:=by
 have:=h i
 cases e:cL l i with
 | none=>rw [e] at this;simp only at this;rw [this] at hm;cases hm
 | some x =>
  rw [e] at this;simp only at this;obtain ⟨b,hb,hB⟩:=this;rw [hb] at hm;obtain rfl:=Option.some.inj hm;have hf':(resNod b x).foot=[b]:=rfl;rw [hf'] at hf;rw [List.mem_singleton.1 hf];exact hB
def TabEnd (A:Nat→Addr)(w:World)(lb xb most:Nat)(t:ByteArray)(e:Ending)(w':World):Prop :=
 (∃ l t' R B tr T v,pTab most t=some (l,t')∧e = .returned (.tuple #[])∧Ld w' A R B lb xb tr T v l t'∧absT T=tabC l l.length∧T.most=most∧Only [lb,xb] w w'∧w.heap.size≤B∧l.length≤300∧(∀ x∈l,x.k≤2∧x.g≤4611686018427387903∧x.c≤4611686018427387903))∨(pTab most t=none∧e = .panicked (thr A)∧Only [lb,xb] w w')
theorem table_ends (A:Nat→Addr)(w:World)(lb xb most:Nat)(t:ByteArray)(h:LdR w A lb xb (.pointer none) (.slice none 0 0) t)(he:Low A w.heap.size)(h1:1≤most)(h2:most≤300):
  Calls Tryz.prog 75 #[.pointer (some ⟨lb,0,none⟩),.int .i64 (most:Nat)] w (TabEnd A w lb xb most t):=by
 have hnum:=number_ends A lb xb _ _ t 300 w h;have HLOW:Hid (Low A w.heap.size):=he;have HLB:Hid (lb < w.heap.size∧xb < w.heap.size):=⟨h.lt,h.ltx⟩;have HP:Hid (∀ W,Only [lb,xb] w W→pTab most t=none→TabEnd A w lb xb most t (.panicked (thr A)) W):=fun W ho hp=>Or.inr ⟨hp,rfl,ho⟩;have HGV:Hid (∀ W tj tp v,LdR W A lb xb tp v tj→Calls Tryz.prog 130 #[.pointer (some ⟨lb,0,none⟩)] W (REnd A lb xb tp v W tj pGiven nmV)):=fun W tj tp v hl=>given_ends A lb xb tp v tj W hl;clear h he
 go_enter Tryz.func75,Tryz.ntmps75
 go_wp2_with fail
 refine hnum.mono ?_;rintro e w1 (⟨n,t1,hp,rfl,o1,hl1⟩ | ⟨hp,rfl,o1⟩)
 case inr=>exact ⟨rfl,HP.out w1 (o1.mono (fun _ hk=>by simp at hk;simp [hk])) (bindP_none hp)⟩
 have HN:Hid (pNum 300 t=some (n,t1)):=hp
 have hn3:n≤300:=by have:=(pNum_le hp).1;omega
 have HO1:Hid (Only [lb,xb] w w1):=o1.mono (fun _ hk=>by simp at hk;simp [hk]);have HL1:Hid (LdR w1 A lb xb (.pointer none) (.slice none 0 0) t1):=hl1;clear hnum hp o1 hl1
 go_wp2
 go_loopw [10] (fun q wr=>∃ (j:Nat) (l:List Nmb) (tj:ByteArray) (ad:Option Addr) (cap:Nat),q = .int .i64 (j:Nat)∧j≤n∧l.length=j∧LdR wr A lb xb (.pointer none) (.slice ad j cap) tj∧Nrs wr w.heap.size (.slice ad j cap) l∧Only [lb,xb] w wr∧pTimes pGiven n t1=(pTimes pGiven (n - j) tj).map (fun y=>(l++y.1,y.2))∧(∀ x∈l,x.k≤2∧x.g≤4611686018427387903∧x.c≤4611686018427387903)) (fun q _=>n - (intOf q).toNat)
 case atStart =>
  refine ⟨0,[],t1,none,0,rfl,Nat.zero_le _,rfl,HL1.out,World.ownsRow_nil _ _ _ _,HO1.out,?_,fun x hx=>by cases hx⟩;show _=_
  cases pTimes pGiven (n - 0) t1<;>simp_all
 case round =>
  obtain ⟨j,l,tj,ad,cap,rfl,hj,hlj,hL,hR,hO,hT,hG⟩:=hrel;have HL:Hid (LdR wr A lb xb (.pointer none) (.slice ad j cap) tj):=hL;have HR:Hid (Nrs wr w.heap.size (.slice ad j cap) l):=hR;have HO:Hid (Only [lb,xb] w wr):=hO;have HT:Hid (pTimes pGiven n t1=(pTimes pGiven (n - j) tj).map (fun y=>(l++y.1,y.2))):=hT;have HG:Hid (∀ x∈l,x.k≤2∧x.g≤4611686018427387903∧x.c≤4611686018427387903):=hG;have HLJ:Hid (l.length=j):=hlj;clear hL hR hO hT hG hlj HL1 HO1
  by_cases hlt:j < n
  · have HNM:Hid (n - j=(n - j - 1)+1):=by show _=_;omega
    go_upto_region 2 with fail
    obtain ⟨i0,hi0,hz0,hz1,hz2⟩:=nmInfo';have hgv:=HGV.out wr.drew tj _ _ (HL.out.only (Only.refl [] wr).drew)
    have mixed:Tryz.prog.follows Departure.mixedOrders=true:=by kernel_rfl
    have a1:=HL.out.c2;have a5:=HL.out.lt
    go_region_law_o (first
     | (refine step_append_lies _ (by rfl) (.tmp 16) (.tmp 19) 198 (by rfl) w.heap.size 233 i0 _ 3 24 nmsUnd hi0 hz0 hz1 hz2 (by rfl) (by decide) (.slice ad j cap) j (rowOf nmC l) (by rfl) (HR3.out.alloc _) ⟨w3.heap.size,0,none⟩ 1 1 (nmC x) (by rfl) (by rfl) (World.news_of_block (heap_alloc_last w3 _)) (nm_one x) (by decide) (by unfold maxLen;omega) (by omega) HSZ.out (w3.heap.size+1) (by simp) ?_;intro g5 c5 w5 hown5 hgr5 hat5 hlt5;obtain ⟨k0,k1,k2,hR⟩:=HAP.out w5 g5 c5 hgr5 hown5;have HRR:Hid (LdR (w5.setCell ⟨lb,2,none⟩ (.slice (some ⟨g5,0,none⟩) (j+1) c5)) A lb xb (.pointer none) (.slice (some ⟨g5,0,none⟩) (j+1) c5) t'∧Nrs (w5.setCell ⟨lb,2,none⟩ (.slice (some ⟨g5,0,none⟩) (j+1) c5)) w.heap.size (.slice (some ⟨g5,0,none⟩) (j+1) c5) (l++[x])∧Only [lb,xb] w (w5.setCell ⟨lb,2,none⟩ (.slice (some ⟨g5,0,none⟩) (j+1) c5))):=hR;clear hown5 hgr5 hat5 hlt5 hR a1)
     | (go_simp;refine hgv.mono ?_;rintro e w3 (⟨x,t',hp,rfl,o3,h3⟩ | ⟨hp,rfl,o3⟩);rotate_left;exact ⟨rfl,HP.out w3 (HO.out.drew.trans o3 (fun k hk=>by simp at hk;simp [hk])) (by unfold pTab;rw [bindP_some HN.out,bindP_none (pTimes_stop (m:=n - j - 1) (by rw [← HNM.out];exact HT.out) hp)])⟩;have HX:Hid (pGiven tj=some (x,t')):=hp;have HO3:Hid (Only [lb,xb] w w3):=HO.out.drew.trans o3 (fun k hk=>by simp at hk;simp [hk]);have HL3:Hid (LdR w3 A lb xb (.pointer none) (.slice ad j cap) t'):=h3;have HN3:Hid (Nrs w3 w.heap.size (.slice ad j cap) l):=(show Nrs w3 w.heap.size (.slice ad j cap) l from (HR.out.only (Only.refl [] wr).drew (fun _ _=>by simp)).only o3 (fun k hk=>by have:=(HL.out.row_ne HR.out hk).2.2.2;simpa using this));have HR3:Hid (w3.ownsRow w.heap.size 233 3 (.slice ad j cap) j (rowOf nmC l)):=(show w3.ownsRow w.heap.size 233 3 (.slice ad j cap) j (rowOf nmC l) from by have:=HN3.out;unfold Nrs at this;rw [HLJ.out] at this;exact this);have HSZ:Hid (w.heap.size≤(w3.alloc (.cells #[.int .i64 (x.g:Nat),.int .i64 (x.k:Nat),.int .i64 (x.c:Nat)] 233)).heap.size):=(show w.heap.size≤_ from by rw [World.size_alloc];have:=HO3.out.size;omega);have HAP:Hid (∀ w5 g5 c5,(w3.alloc (.cells #[.int .i64 (x.g:Nat),.int .i64 (x.k:Nat),.int .i64 (x.c:Nat)] 233)).grownBy w5 (Value.slice ad j cap).ownBlock→w5.ownsRow w.heap.size 233 3 (.slice (some ⟨g5,0,none⟩) (j+1) c5) (j+1) (rowOf nmC l++nmC x)→w5.cell? ⟨lb,2,none⟩=some (.slice ad j cap)∧w5.frozen? ⟨lb,2,none⟩=false∧lb < w5.heap.size∧LdR (w5.setCell ⟨lb,2,none⟩ (.slice (some ⟨g5,0,none⟩) (j+1) c5)) A lb xb (.pointer none) (.slice (some ⟨g5,0,none⟩) (j+1) c5) t'∧Nrs (w5.setCell ⟨lb,2,none⟩ (.slice (some ⟨g5,0,none⟩) (j+1) c5)) w.heap.size (.slice (some ⟨g5,0,none⟩) (j+1) c5) (l++[x])∧Only [lb,xb] w (w5.setCell ⟨lb,2,none⟩ (.slice (some ⟨g5,0,none⟩) (j+1) c5))):=(fun w5 g5 c5 hg ho=>by have hm:=num_more (w:=w) (g5:=g5) (c5:=c5) HL3.out HN3.out HLOW.out rfl HO3.out hg (by rw [HLJ.out];exact ho);rw [HLJ.out] at hm;exact hm);clear a1 a5;have a1:=h3.c2;have a5:=h3.lt;clear hgv hp o3 h3))
    all_goals go_wp2
    all_goals go_roundw
    all_goals first
     | (refine ⟨j+1,l++[x],t',_,_,by go_num,by omega,by rw [List.length_append,HLJ.out];rfl,HRR.out.1,HRR.out.2.1,HRR.out.2.2,?_,fun y hy=>?_⟩
        · have:=pTimes_more (m:=n - j - 1) (by rw [← HNM.out];exact HT.out) HX.out
          rw [show n - (j+1)=n - j - 1 by omega];exact this
        · rcases List.mem_append.1 hy with e | e
          · exact HG.out y e
          · rw [List.mem_singleton.1 e]
            exact ⟨(pGiven_le HX.out).1,(pGiven_le HX.out).2.1,(pGiven_le HX.out).2.2.1⟩)
     | (simp [intOf];omega)
  · obtain rfl:n=j:=by omega
    have hj2:decide ((n:Int) < n)=false:=decide_eq_false (by omega);have HPT:Hid (pTimes pGiven n t1=some (l,tj)):=pTimes_done (by have:=HT.out;rw [Nat.sub_self] at this;exact this)
    have HTAB:Hid (pTab most t=if (pHead l&&pGood l most)=true then some (l,tj) else none):=by
     show _=_;unfold pTab;rw [bindP_some HN.out,bindP_some HPT.out]
     split<;>rfl
    have c2:=HL.out.c2;have hlb:=HL.out.lt;have hEr:=HL.out.err;have HER:Hid (Errs wr A):=hEr
    cases hx0:l[0]? with
    | none =>
     obtain rfl:n=0:=by have:=List.getElem?_eq_none_iff.1 hx0;have:=HLJ.out;omega
     have HF:Hid (pTab most t=none):=by show _=_;rw [HTAB.out,if_neg];simp [pHead,hx0]
     have hmu:=must_no A lb wr hEr;clear hx0 hEr
     go_wp2_with (go_at_call 78;refine hmu.mono ?_;rintro e w2 ⟨rfl,rfl⟩)
     exact ⟨rfl,HP.out _ HO.out HF.out⟩
    | some x0 =>
     have hpos:0 < n:=by have:=(List.getElem?_eq_some_iff.1 hx0).1;have:=HLJ.out;omega
     obtain ⟨g,rfl⟩:∃ g,ad=some ⟨g,0,none⟩:=by
       rcases HR.out.2 with ⟨e,_⟩ | ⟨g,cap',cur,e,_⟩
       · simp only [Value.slice.injEq] at e;omega
       · simp only [Value.slice.injEq] at e;exact ⟨g,e.1⟩
     obtain ⟨y0,y1,y2⟩:=HR.out.cells HLJ.out hx0;have hmn:=must_no A lb wr hEr
     by_cases hk:x0.k=2
     · by_cases hg:x0.g=0
       · have HH:Hid (pHead l=true):=by show _=_;simp [pHead,hx0,hk,hg]
         have z0:wr.cell? ⟨g,0,none⟩=some (.int .i64 0):=by have:=y0;rw [hg] at this;simpa using this
         have z1:wr.cell? ⟨g,1,none⟩=some (.int .i64 2):=by have:=y1;rw [hk] at this;simpa using this
         have hres:=restore_any A wr w.heap.size _ l most hEr HR.out (by rw [HLJ.out];omega) (fun x hx=>(HG.out x hx).1) h1 h2
         have HGL:Hid (∀ i,gL l i≤5000000000000000000):=fun i=>by
           unfold gL
           cases e:l[i]? with
           | none=>simp
           | some x=>have:=(HG.out x (List.mem_of_getElem? e)).2.1;simp only;omega
         clear y0 y1 y2 hmn hEr hx0 hk hg
         go_wp2_with (go_at_call 78;refine (must_yes _ _).mono ?_;rintro e w2 ⟨rfl,rfl⟩)
         refine hres.mono ?_;rintro e w2 (⟨hno,⟨k,rfl⟩,o2⟩ | ⟨hok,tb,p,nd,rfl,hTb,hN,hND,o2,htb,hpa⟩)
         · have HF:Hid (pTab most t=none):=by show _=_;rw [HTAB.out,if_neg];intro hc;simp only [Bool.and_eq_true] at hc;exact hno ((pGood_iff l most).1 hc.2)
           have hmu:=must_no A lb w2 (HL.out.only o2).err;have HO2:Hid (Only [lb,xb] w w2):=HO.out.trans o2 (fun _ hk=>by cases hk);clear hres hno o2 z0 z1 c2 hlb
           go_wp2_with (go_at_call 78;refine hmu.mono ?_;rintro e w3 ⟨rfl,rfl⟩)
           exact ⟨rfl,HP.out _ HO2.out HF.out⟩
         · have HF:Hid (pTab most t=some (l,tj)):=by show _=_;rw [HTAB.out,if_pos];simp only [Bool.and_eq_true];exact ⟨HH.out,(pGood_iff l most).2 hok⟩
           have hov:=over_ok w2 tb p most (gL l) nd hTb (by rw [hN,HLJ.out];omega) HGL.out;have HO2:Hid (Only [] wr w2):=o2;have HND:Hid (NdIs wr.heap.size l nd):=hND;have HPN:Hid (p.N=l.length):=hN;have HTB:Hid (wr.heap.size≤tb∧∀ b,p.a=some b→wr.heap.size≤b):=⟨htb,hpa⟩;clear hres hok hTb hN hND o2 htb hpa z0 z1 c2 hlb
           go_upto_region 8 with (first
             | (go_at_call 78;refine (must_yes _ _).mono ?_;rintro e w3 ⟨rfl,rfl⟩)
             | (go_at_call 90;refine hov.mono ?_;rintro e w3 ⟨tr,db,pb,rfl,hT3,o3,htr,hdb,hpb⟩;have HO3:Hid (Only [] wr w3):=HO2.out.trans o3 (fun _ hk=>by cases hk);have HT3:Hid (TreeAt w3 tr (Tr.bare tb p most (gL l) nd db pb)):=hT3;have HTR:Hid (wr.heap.size≤tr∧wr.heap.size≤db∧wr.heap.size≤pb):=(show wr.heap.size≤tr∧wr.heap.size≤db∧wr.heap.size≤pb from by have:=HO2.out.size;omega);have c1:=(HL.out.only HO3.out).c1;have f1:=(HL.out.only HO3.out).fz 1;have hl3:=(HL.out.only HO3.out).lt;clear hov hT3 o3 htr hdb hpb))
           have HD4:Hid (Ld (w3.setCell ⟨lb,1,none⟩ (.pointer (some ⟨tr,0,none⟩))) A w.heap.size wr.heap.size lb xb tr (Tr.bare tb p most (gL l) nd db pb) (.slice (some ⟨g,0,none⟩) n cap) l tj):=by
             have hfr:∀ k,FootT tr (Tr.bare tb p most (gL l) nd db pb) k→wr.heap.size≤k:=by
               rintro k (e | e | e | ⟨i,d,hd,e⟩ | e | e | ⟨i,m,hm,hf⟩)
               · rw [e];exact HTR.out.1
               · rw [e];exact HTR.out.2.1
               · rw [e];exact HTR.out.2.2
               · cases hd
               · rw [e];exact HTB.out.1
               · exact HTB.out.2 k e
               · exact HND.out.foot hm hf
             have hL3:=HL.out.only HO3.out;have hlr:=HL.out.lt;have o4:Only [lb] w3 (w3.setCell ⟨lb,1,none⟩ (.pointer (some ⟨tr,0,none⟩))):=(Only.refl [lb] w3).setCell (p:=⟨lb,1,none⟩) (Or.inl (by simp)) _;refine ⟨hL3.put1 _,(HR.out.only HO3.out (fun _ _=>by simp)).only o4 (fun k hk=>by have:=(HL.out.row_ne HR.out hk).2.2.1;simpa using this),HT3.out.kept o4 (fun k hk hm=>by have:=hfr k hk;have:=List.mem_singleton.1 hm;omega),hfr,⟨HL.out.lt,HL.out.ltx,fun k hk=>(HL.out.row_ne HR.out hk).2.1⟩,HLOW.out.mono HO.out.size,rfl⟩
           have HO4:Hid (Only [lb,xb] w (w3.setCell ⟨lb,1,none⟩ (.pointer (some ⟨tr,0,none⟩)))):=(HO.out.trans HO3.out (fun _ hk=>by cases hk)).setCell (p:=⟨lb,1,none⟩) (Or.inl (by simp)) _;have HA4:Hid (absT (Tr.bare tb p most (gL l) nd db pb)=tabC l 0):=absT_bare HND.out HPN.out;have HBB:Hid (w.heap.size≤wr.heap.size):=HO.out.size;clear c1 f1 hl3 HT3 HTR HTB HND HPN HO3 HO2 HL HR HER HO;generalize wr.heap.size=B at HD4 HBB;have HD5:Hid (∃ T,Ld (w3.setCell ⟨lb,1,none⟩ (.pointer (some ⟨tr,0,none⟩))) A w.heap.size B lb xb tr T (.slice (some ⟨g,0,none⟩) n cap) l tj∧absT T=tabC l 0∧T.most=most):=⟨_,HD4.out,HA4.out,rfl⟩;clear HD4 HA4;generalize w3.setCell ⟨lb,1,none⟩ (.pointer (some ⟨tr,0,none⟩))=w4 at HD5 HO4 ⊢
           have c2:w4.cell? ⟨lb,2,none⟩=some (.slice (some ⟨g,0,none⟩) n cap):=by obtain ⟨T,hd,_⟩:=HD5.out;exact hd.ld.c2
           have hl4:lb < w4.heap.size:=by obtain ⟨T,hd,_⟩:=HD5.out;exact hd.ld.lt
           go_wp2
           clear c2 hl4
           go_loopw [75] (fun q wq=>∃ (j:Nat) (T:Tr),q = .int .i64 (j:Nat)∧j≤n∧Ld wq A w.heap.size B lb xb tr T (.slice (some ⟨g,0,none⟩) n cap) l tj∧absT T=tabC l j∧T.most=most∧Only [lb,xb] w wq) (fun q _=>n - (intOf q).toNat)
           case atStart=>obtain ⟨T,d1,d2,d3⟩:=HD5.out;exact ⟨0,T,rfl,Nat.zero_le _,d1,d2,d3,HO4.out⟩
           case round =>
             obtain ⟨j,T,rfl,hj,hD,hA,hM,hO⟩:=hrel;have HD:Hid (Ld wr A w.heap.size B lb xb tr T (.slice (some ⟨g,0,none⟩) n cap) l tj):=hD;have HA:Hid (absT T=tabC l j):=hA;have HM:Hid (T.most=most):=hM;have HO:Hid (Only [lb,xb] w wr):=hO;clear hD hA hM hO HD5 HO4
             by_cases hlt:j < n
             · obtain ⟨x,hx⟩:∃ x,l[j]?=some x:=⟨l[j]'(by have:=HLJ.out;omega),List.getElem?_eq_getElem _⟩
               have HX:Hid (l[j]?=some x):=hx;obtain ⟨y0,y1,y2⟩:=HD.out.row.cells HLJ.out hx;have hgl:g < wr.heap.size:=lt_of_cell y0;clear hx
               go_upto_region 11 with fail
               have HDA:Hid (Ld (wr.alloc (.cells #[.int .i64 (x.g:Nat),.int .i64 (x.k:Nat),.int .i64 (x.c:Nat)] 233)) A w.heap.size B lb xb tr T (.slice (some ⟨g,0,none⟩) n cap) l tj):=HD.out.only ((Only.refl [] wr).alloc _);have HOA:Hid (Only [lb,xb] w (wr.alloc (.cells #[.int .i64 (x.g:Nat),.int .i64 (x.k:Nat),.int .i64 (x.c:Nat)] 233))):=HO.out.alloc _;have HBX:=heap_alloc_last wr (.cells #[.int .i64 (x.g:Nat),.int .i64 (x.k:Nat),.int .i64 (x.c:Nat)] 233);have x1:(wr.alloc (.cells #[.int .i64 (x.g:Nat),.int .i64 (x.k:Nat),.int .i64 (x.c:Nat)] 233)).cell? ⟨wr.heap.size,1,none⟩=some (.int .i64 (x.k:Nat)):=cell_of_row _ _ 1 _ _ _ HBX;clear y0 y1 y2 hgl HBX HD HO;generalize wr.alloc (.cells #[.int .i64 (x.g:Nat),.int .i64 (x.k:Nat),.int .i64 (x.c:Nat)] 233)=wb at HDA HOA x1 ⊢;generalize wr.heap.size=bx at x1 ⊢
               by_cases hk:x.k=2
               · have z1:wb.cell? ⟨bx,1,none⟩=some (.int .i64 2):=by have:=x1;rw [hk] at this;simpa using this
                 have HCL:Hid (cL l j=some x):=by show _=_;unfold cL;rw [HX.out];simp only;rw [if_neg (by omega)]
                 have HK:Hid (x.k=2):=hk
                 obtain ⟨nn,hnn⟩:∃ nn,T.nd j=some nn:=by
                   have:=congrFun (congrArg Lc.nd HA.out) j;simp only [absT,tabC,HCL.out,Option.map_some] at this
                   cases e:T.nd j with
                   | none=>rw [e] at this;cases this
                   | some nn=>exact ⟨nn,rfl⟩
                 have HNN:Hid (T.nd j=some nn∧nn.K=2):=by
                   refine ⟨hnn,?_⟩;have:=congrFun (congrArg Lc.nd HA.out) j;simp only [absT,tabC,HCL.out,hnn,Option.map_some,Nat.lt_irrefl,and_false,if_false,Option.some.injEq] at this;have h2:=congrArg Nod.K this;have h3:nn.K=(x.k:Int):=h2;rw [h3,hk];rfl
                 have HDS:Hid (T.ds j=none):=by
                   have:=congrFun (congrArg Lc.ds HA.out) j;simp only [absT,tabC,HCL.out,Option.bind_some,Nat.lt_irrefl,and_false,if_false] at this
                   have h2:∀ o:Option DirM,o.map (·.l)=none→o=none:=fun o ho=>by cases o;rfl;cases ho
                   exact h2 _ this
                 have HGJ:Hid (T.g j=x.g):=by
                   have:T.g=gL l:=congrArg Lc.g HA.out;show T.g j=x.g;rw [this];unfold gL;rw [HX.out]
                 clear hk x1 hnn
                 go_upto_region 12 with fail
                 clear z1;have c1:=HDA.out.ld.c1;have hlb:=HDA.out.ld.lt;have hhd:=lhandle_ok wb.drew A lb xb _ _ tj w.heap.size l j x (HDA.out.only (Only.refl [] wb).drew).ld (HDA.out.only (Only.refl [] wb).drew).row HX.out
                 go_region_with (first
                   | (go_at_call 133;refine hhd.mono ?_;rintro e w6 ⟨rfl,o6⟩;have HD6:Hid (Ld w6 A w.heap.size B lb xb tr T (.slice (some ⟨g,0,none⟩) n cap) l tj):=(HDA.out.only (Only.refl [] wb).drew).only o6;have HO6:Hid (Only [lb,xb] w w6):=HOA.out.drew.trans o6 (fun _ hk=>by cases hk);have hop:=open_ok w6 tr T j nn HD6.out.tree HNN.out.1 HNN.out.2 HDS.out;rw [HGJ.out] at hop;clear hhd o6 c1 hlb;have c1:=HD6.out.ld.c1;have hlb:=HD6.out.ld.lt)
                   | (go_at_call 132;refine hop.mono ?_;rintro e w7 ⟨rfl,Bn,hT7,o7,hBn⟩;have HD7:Hid (Ld w7 A w.heap.size B lb xb tr { T.opened j Bn with nd:=setN T.nd j (some { nn with Z:=0,L:=2 }) } (.slice (some ⟨g,0,none⟩) n cap) l tj∧Only [lb,xb] w w7):=(HD6.out.opened HNN.out.1 hT7 o7 hBn HO6.out HBB.out);clear hop hT7 o7 hBn c1 hlb))
                 all_goals go_wp2
                 all_goals go_roundw
                 all_goals first
                   | exact ⟨j+1,_,by go_num,by omega,HD7.out.1,absT_open HA.out HCL.out HK.out HNN.out.1,HM.out,HD7.out.2⟩
                   | (simp [intOf];omega)
               · have d1:((x.k:Int)==2)=false:=by simp;omega
                 have HSM:Hid (tabC l (j+1)=tabC l j):=tabC_same (fun y hy=>by
                   unfold cL at hy;rw [HX.out] at hy;simp only at hy
                   split at hy
                   · cases hy
                   · obtain rfl:=Option.some.inj hy
                     exact hk)
                 clear hk
                 go_wp2
                 go_roundw
                 · exact ⟨j+1,T,by go_num,by omega,HDA.out,by rw [HSM.out];exact HA.out,HM.out,HOA.out⟩
                 · simp [intOf];omega
             · obtain rfl:n=j:=by omega
               go_wp2
               go_end0
               exact Or.inl ⟨l,tj,_,B,tr,T,_,HF.out,rfl,HD.out,by rw [HLJ.out];exact HA.out,HM.out,HO.out,HBB.out,by rw [HLJ.out];exact hn3,HG.out⟩
       · have HF:Hid (pTab most t=none):=by show _=_;rw [HTAB.out,if_neg];simp [pHead,hx0,hg]
         have z0:wr.cell? ⟨g,0,none⟩=some (.int .i64 (x0.g:Nat)):=by simpa using y0
         have z1:wr.cell? ⟨g,1,none⟩=some (.int .i64 2):=by have:=y1;rw [hk] at this;simpa using this
         have d0:((x0.g:Int)==0)=false:=by simp;omega
         clear y0 y1 y2 hEr hx0 hk hg
         go_wp2_with (go_at_call 78;refine hmn.mono ?_;rintro e w2 ⟨rfl,rfl⟩)
         exact ⟨rfl,HP.out _ HO.out HF.out⟩
     · have HF:Hid (pTab most t=none):=by show _=_;rw [HTAB.out,if_neg];simp [pHead,hx0,hk]
       have z1:wr.cell? ⟨g,1,none⟩=some (.int .i64 (x0.k:Nat)):=by simpa using y1
       have d0:((x0.k:Int)==2)=false:=by simp;omega
       clear y0 y1 y2 hEr hx0 hk
       go_wp2_with (go_at_call 78;refine hmn.mono ?_;rintro e w2 ⟨rfl,rfl⟩)
       exact ⟨rfl,HP.out _ HO.out HF.out⟩
end
end Go.Proofs.YtmnidbnaneagjaaGreatDoor
