/- TreeLoads: for every text and every number the law answers true: a text is a tree, which is kept as a text that loads to the same, or an error. The row, and the tied card. -/
import Derived.Test.YtbdfjbmocifhmaaGreatDoorK51
import Derived.Test.YtbdfjbmocifhmaaGreatDoorK52
import Derived.Test.YtbdfjbmocifhmaaGreatDoorTie
import Derived.Test.YtbdfjbmocifhmaaGreatDoorCards
import Derived.Deep.Strs
import Derived.Deep.Slices
import Derived.OpenShut
set_option maxRecDepth 100000
namespace Go.Proofs.YtbdfjbmocifhmaaGreatDoor
section
open Go.ChangeShapes Go.WideShapes Go.ChangeAt Go.RowKit
open Go.ChangeMaps (open_string shut_string)
theorem own:ownKnob Tryz.prog.godebug=none:=by kernel_rfl
theorem treeLoads_door (os:Os)(args:Array Value):laidMetH Tryz.prog Rows.treeLoadsRow.laid ((World.doorLaid Tryz.prog 301 os).forCall (fun _ _=>0) ⟨#[],args,[]⟩).memory :=
 laidMetH_of_parts3 (fuel:=8) (laidMet_of_run' 8 (by kernel_rfl) (by kernel_rfl)) (by kernel_rfl) (by kernel_rfl)
theorem treeLoads_lifted (os:Os)(started:os.Started)(H:Type)(enc:TypeId×Value→H):
  ReturnsInHanded {} Tryz.checked os 4 .any (fun w args=>(Rows.treeLoadsSpec.pre enc Tryz.prog Tryz.f4 [] false w args∧laidMetH Tryz.prog Rows.treeLoadsRow.laid w)∧sizedMet enc Tryz.prog Tryz.f4 (OpenSpec.ofChange Rows.treeLoadsSpec) false w args)
   (Rows.treeLoadsSpec.post enc Tryz.prog Tryz.f4 false true false false):=by
 refine frame_shaped (C:=Tryz.checked) (X:=fun w _=>laidMetH Tryz.prog Rows.treeLoadsRow.laid w) (fun _ _ _ hh h=>h.of_heap hh) own started (by kernel_rfl) Tryz.func4
  (ChangeSpec.witness_shaped (enc:=enc) (C:=Tryz.checked) (os:=os) (X:=fun w _=>laidMetH Tryz.prog Rows.treeLoadsRow.laid w) false (World.doorLaid Tryz.prog 301 os) #[.string ⟨#[]⟩,.int .i64 0] 8 rfl (World.shaped_of_RefB (by kernel_rfl) (by kernel_rfl)) (by kernel_rfl) (by kernel_rfl) (by kernel_rfl) (treeLoads_door os _)) ?_
 intro W base args ds gs before hval0 hW hL hsh hsz0;have hval:∀ (j:Nat) t v,Tryz.f4.params[j]?=some t→args[j]?=some v→Value.okWide Tryz.prog W .any base t v:=hval0;have hW':=hW;obtain ⟨p,q,hA0,hV,rfl,hfz,hnd⟩:=hW;have hA:DataW.TrodAll enc Tryz.prog W 0 (fun _=>true) true Tryz.f4.params.toList args.toList ds p:=hA0;rw [Tryz.params4] at hA hval;obtain ⟨v0,vs0,d0,ds0,p0,q0,hargs,rfl,rfl,h0,r0⟩:=trodAll_cons hA;obtain ⟨v1,vs1,d1,ds1,p1,q1,rfl,rfl,rfl,h1,r1⟩:=trodAll_cons r0;obtain ⟨rfl,rfl,rfl⟩:=trodAll_nil r1
 obtain rfl:args=#[v0,v1]:=by cases args;simp_all
 obtain ⟨rfl,rfl⟩:=trodVars_none hV;obtain ⟨s0,rfl,rfl,rfl,hs0⟩:=open_string Tryz.underlying9 (hval 0 9 v0 rfl rfl) h0;obtain ⟨n1,rfl,rfl,rfl,wx1⟩:=open_int Tryz.underlying3 (hval 1 3 v1 rfl rfl) h1;have hL1:laidMet Tryz.prog (errNames.map (sent "*errors.errorString")) W∧handlesMet Tryz.prog [("errors.errorType",Rows.laid_errors_errorType)] W:=hL;obtain ⟨A,hE⟩:=errs_of_met hL1.1 hL1.2;clear hA0 hval0 hsz0;refine (loads_all s0 n1 A W hE).mono fun e W' ⟨he,bel⟩=>?_;subst he;exact ⟨_,rfl,_,_,_,[],_,[],hW',trodAll_mk1 (shut_bool Tryz.underlying4 _),(trodAll_cons_mk (shut_string Tryz.underlying9 hs0) (trodAll_cons_mk (shut_int Tryz.underlying3 wx1) trodAll_mk0)),rfl,bel.frame _,fun h=>by cases h⟩
theorem treeLoads_row:Rows.TreeLoadsSaid :=
 OpenClaim.holds_of_wide 4 Tryz.f4 rfl rfl rfl rfl rfl rfl rfl ⟨rfl,rfl,rfl,rfl,rfl⟩ rfl rfl rfl rfl rfl (by kernel_rfl) Tryz.func4 (by kernel_rfl)
  (of_decide_eq_true (by kernel_rfl)) (by unfold Func.isWrapper;first | (rw [if_pos (by decide +kernel)];kernel_rfl) | (rw [if_neg (by decide +kernel)];exact ⟨rfl,rfl⟩))
  (fun os started H enc _=>treeLoads_lifted os started H enc)
theorem treeLoads_holds:Rows.TreeLoadsCardSaid :=
 Claim7.holds_tied_plain_at .later [] Rows.treeLoadsCard.laidKinds true Rows.treeLoadsCard.stood.harness Rows.treeLoadsCard.stood.looks
  treeLoads_row (fun _ h=>by cases h) (by kernel_rfl) (fun _ h=>by cases h) treeLoads_row_tie rfl ⟨rfl,rfl⟩ (by kernel_rfl) rfl
  (fun f fn hf hfn=>by
   obtain rfl:f=4:=Option.some.inj ((show Tryz.prog.funcNamed "pigeonholes/pigeonholeslaw1.TreeLoads" = some 4 by kernel_rfl).symm.trans hf) |>.symm;obtain rfl:fn=Tryz.f4:=(Option.some.inj (Tryz.func4.symm.trans hfn)).symm
   exact ⟨by kernel_rfl,fun j t ht=>by
    rw [Tryz.params4] at ht
    have hm:t∈[9,3]:=by simpa using Array.mem_of_getElem? ht
    have hall:([9,3].all fun u=>!Tryz.prog.wantsStandIn u)=true:=by kernel_rfl
    exact (show Tryz.prog.wantsStandIn t=false by simpa using List.all_eq_true.1 hall t hm)⟩)
  (by kernel_rfl)
#print axioms treeLoads_holds
end
end Go.Proofs.YtbdfjbmocifhmaaGreatDoor
