import Derived.Test.YtooblpbmcnmicaaGreatDoorK51
import Derived.Test.YtooblpbmcnmicaaGreatDoorK52
import Derived.Test.YtooblpbmcnmicaaGreatDoorTie
import Derived.Test.YtooblpbmcnmicaaGreatDoorCards
set_option maxRecDepth 100000
namespace Go.Proofs.YtooblpbmcnmicaaGreatDoor
section
open Go.ChangeShapes Go.WideShapes Go.ChangeAt Go.RowKit
open Go.ChangeMaps (open_string shut_string)
theorem own:ownKnob Tryz.prog.godebug=none:=by kernel_rfl
theorem treeBack_door (os:Os)(args:Array Value):laidMetH Tryz.prog Rows.treeBackRow.laid ((World.doorLaid Tryz.prog 301 os).forCall (fun _ _=>0) ⟨#[],args,[]⟩).memory :=
 laidMetH_of_parts3 (fuel:=8) (laidMet_of_run' 8 (by kernel_rfl) (by kernel_rfl)) (by kernel_rfl) (by kernel_rfl)
theorem treeBack_lifted (os:Os)(started:os.Started)(H:Type)(enc:TypeId×Value→H):
  ReturnsInHanded {} Tryz.checked os 6 .any (fun w args=>(Rows.treeBackSpec.pre enc Tryz.prog Tryz.f6 [] false w args∧laidMetH Tryz.prog Rows.treeBackRow.laid w)∧sizedMet enc Tryz.prog Tryz.f6 (OpenSpec.ofChange Rows.treeBackSpec) false w args)
   (Rows.treeBackSpec.post enc Tryz.prog Tryz.f6 false true false false):=by
 refine frame_shaped (C:=Tryz.checked) (X:=fun w _=>laidMetH Tryz.prog Rows.treeBackRow.laid w) (fun _ _ _ hh h=>h.of_heap hh) own started (by kernel_rfl) Tryz.func6
  (ChangeSpec.witness_shaped (enc:=enc) (C:=Tryz.checked) (os:=os) (X:=fun w _=>laidMetH Tryz.prog Rows.treeBackRow.laid w) false (World.doorLaid Tryz.prog 301 os) #[.slice none 0 0,zI 0,.string ⟨#[]⟩,zI 0,.string ⟨#[]⟩] 8 rfl (World.shaped_of_RefB (by kernel_rfl) (by kernel_rfl)) (by kernel_rfl) (by kernel_rfl) (by kernel_rfl) (treeBack_door os _)) ?_
 intro W base args ds gs before hval0 hW hL hsh hsz0;have hval:∀ (j:Nat) t v,Tryz.f6.params[j]?=some t→args[j]?=some v→Value.okWide Tryz.prog W .any base t v:=hval0;have hW':=hW;obtain ⟨p,q,hA0,hV,rfl,hfz,hnd⟩:=hW;have hA:DataW.TrodAll enc Tryz.prog W 0 (fun _=>true) true Tryz.f6.params.toList args.toList ds p:=hA0;rw [Tryz.params6] at hA hval;obtain ⟨v0,vs0,d0,ds0,p0,q0,hargs,rfl,rfl,h0,r0⟩:=trodAll_cons hA;obtain ⟨v1,vs1,d1,ds1,p1,q1,rfl,rfl,rfl,h1,r1⟩:=trodAll_cons r0;obtain ⟨v2,vs2,d2,ds2,p2,q2,rfl,rfl,rfl,h2,r2⟩:=trodAll_cons r1;obtain ⟨v3,vs3,d3,ds3,p3,q3,rfl,rfl,rfl,h3,r3⟩:=trodAll_cons r2;obtain ⟨v4,vs4,d4,ds4,p4,q4,rfl,rfl,rfl,h4,r4⟩:=trodAll_cons r3;obtain ⟨rfl,rfl,rfl⟩:=trodAll_nil r4
 obtain rfl:args=#[v0,v1,v2,v3,v4]:=by cases args;simp_all
 obtain ⟨rfl,rfl⟩:=trodVars_none hV;obtain ⟨a0,len0,cap0,rfl⟩:=okWide_slice Tryz.underlying22 (hval 0 22 v0 rfl rfl);have k0:=h0
 have lt0:∀ x∈p0,x.block < W.heap.size:=by obtain ⟨m,hm⟩:=k0;exact DataW.trod_lt m _ _ _ hm
 have hw0:∀ q∈d0.weights Tryz.prog 22,q≤reachBytes:=fun q hq=>by
  have:=List.all_eq_true.1 hsz0 _ (DataW.weights_mem_each (j:=0) (t:=22) (d:=d0) rfl rfl q hq)
  simpa using this
 have w0:IsTActs6 W a0 len0:=by obtain ⟨fuel,hf⟩:=h0;exact isTActs6_of hf hw0
 obtain ⟨n1,rfl,rfl,rfl,wx1⟩:=open_int Tryz.underlying3 (hval 1 3 v1 rfl rfl) h1;obtain ⟨s2,rfl,rfl,rfl,hs2⟩:=open_string Tryz.underlying9 (hval 2 9 v2 rfl rfl) h2;obtain ⟨n3,rfl,rfl,rfl,wx3⟩:=open_int Tryz.underlying3 (hval 3 3 v3 rfl rfl) h3;obtain ⟨s4,rfl,rfl,rfl,hs4⟩:=open_string Tryz.underlying9 (hval 4 9 v4 rfl rfl) h4
 have z2:s2.size≤reachBytes:=by
  have:=List.all_eq_true.1 hsz0 _ (DataW.weights_mem_each (j:=2) (t:=9) (d := .lit (.string s2.data.toList)) rfl rfl s2.data.toList.length (by simp [DataW.weights]));exact (of_decide_eq_true this:s2.data.toList.length≤reachBytes)
 have z4:s4.size≤reachBytes:=by
  have:=List.all_eq_true.1 hsz0 _ (DataW.weights_mem_each (j:=4) (t:=9) (d := .lit (.string s4.data.toList)) rfl rfl s4.data.toList.length (by simp [DataW.weights]));exact (of_decide_eq_true this:s4.data.toList.length≤reachBytes)
 have hL1:laidMet Tryz.prog (errNames.map (sent "*errors.errorString")) W∧handlesMet Tryz.prog [("errors.errorType",Rows.laid_errors_errorType)] W:=hL;obtain ⟨A,hE⟩:=errs_of_met hL1.1 hL1.2;clear hA0 hval0 hsz0;refine (treeBack_walk a0 len0 cap0 n1 s2 n3 s4 A W w0 hE (Nat.lt_of_le_of_lt z2 (by decide)) (Nat.lt_of_le_of_lt z4 (by decide))).mono fun e W' ⟨he,bel⟩=>?_;subst he;exact ⟨_,rfl,_,_,_,[],_,[],hW',trodAll_mk1 (shut_bool Tryz.underlying4 _),(trodAll_cons_mk (Below.trod laidOut (by kernel_rfl) (of_decide_eq_true (by kernel_rfl)) k0 bel lt0) (trodAll_cons_mk (shut_int Tryz.underlying3 wx1) (trodAll_cons_mk (shut_string Tryz.underlying9 hs2) (trodAll_cons_mk (shut_int Tryz.underlying3 wx3) (trodAll_cons_mk (shut_string Tryz.underlying9 hs4) trodAll_mk0))))),rfl,bel.frame _,fun h=>by cases h⟩
theorem treeBack_row:Rows.TreeBackSaid :=
 OpenClaim.holds_of_wide 6 Tryz.f6 rfl rfl rfl rfl rfl rfl rfl ⟨rfl,rfl,rfl,rfl,rfl⟩ rfl rfl rfl rfl rfl (by kernel_rfl) Tryz.func6 (by kernel_rfl)
  (of_decide_eq_true (by kernel_rfl)) (by unfold Func.isWrapper;first | (rw [if_pos (by decide +kernel)];kernel_rfl) | (rw [if_neg (by decide +kernel)];exact ⟨rfl,rfl⟩))
  (fun os started H enc _=>treeBack_lifted os started H enc)
theorem treeBack_holds:Rows.TreeBackCardSaid :=
 Claim7.holds_tied_plain_at .later [] Rows.treeBackCard.laidKinds true Rows.treeBackCard.stood.harness Rows.treeBackCard.stood.looks
  treeBack_row (fun _ h=>by cases h) (by kernel_rfl) (fun _ h=>by cases h) treeBack_row_tie rfl ⟨rfl,rfl⟩ (by kernel_rfl) rfl
  (fun f fn hf hfn=>by
   obtain rfl:f=6:=Option.some.inj ((show Tryz.prog.funcNamed "pigeonholes/pigeonholeslaw1.TreeBack" = some 6 by kernel_rfl).symm.trans hf) |>.symm;obtain rfl:fn=Tryz.f6:=(Option.some.inj (Tryz.func6.symm.trans hfn)).symm
   exact ⟨by kernel_rfl,fun j t ht=>by
    rw [Tryz.params6] at ht
    have hm:t∈[22,3,9,3,9]:=by simpa using Array.mem_of_getElem? ht
    have hall:([22,3,9,3,9].all fun u=>!Tryz.prog.wantsStandIn u)=true:=by kernel_rfl
    exact (show Tryz.prog.wantsStandIn t=false by simpa using List.all_eq_true.1 hall t hm)⟩)
  (by kernel_rfl)
#print axioms treeBack_holds
end
end Go.Proofs.YtooblpbmcnmicaaGreatDoor
