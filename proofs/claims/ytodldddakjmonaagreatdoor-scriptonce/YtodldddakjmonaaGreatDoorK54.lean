/- ScriptOnce: for every number of doublings and every order of hearing the law answers true: what a script sends once, however often doubled and heard, is done once. The row, and the tied card. -/
import Derived.Test.YtodldddakjmonaaGreatDoorK52
import Derived.Test.YtodldddakjmonaaGreatDoorK51
import Derived.Test.YtodldddakjmonaaGreatDoorK53
namespace Go.Proofs.YtodldddakjmonaaGreatDoor
section
open Go.ChangeShapes Go.WideShapes Go.ChangeAt Go.RowKit
open Go.ChangeMaps (open_string shut_string)
theorem scriptOnce_inst:Tryz.f3.isInstance Tryz.prog Rows.scriptOnceRow.origin Rows.scriptOnceRow.targs:=of_decide_eq_true (by kernel_rfl)
theorem scriptOnce_wrap:Tryz.f3.isWrapper Tryz.prog Rows.scriptOnceRow.wrapper Rows.scriptOnceRow.mainSum:=by unfold Func.isWrapper;first | (rw [if_pos (by decide +kernel)];kernel_rfl) | (rw [if_neg (by decide +kernel)];exact ⟨rfl,rfl⟩)
theorem scriptOnce_row:Rows.ScriptOnceSaid :=
 OpenClaim.holds_of_wide 3 Tryz.f3 rfl rfl rfl rfl rfl rfl rfl ⟨rfl,rfl,rfl,rfl,rfl⟩ rfl rfl rfl rfl rfl scriptOnce_named Tryz.func3 scriptOnce_closed
  scriptOnce_inst scriptOnce_wrap
  (fun os started H enc _=>scriptOnce_lifted os started H enc)
theorem scriptOnce_wf:Rows.scriptOnceRow.wfByText (OpenSpec.ofChange Rows.scriptOnceSpec)=true:=by kernel_rfl
theorem scriptOnce_main:Tryz.pinned.checked.prog.mainIs=some (Rows.scriptOnceCard.stood.harness.1,Rows.scriptOnceCard.stood.harness.2.toList):=by kernel_rfl
theorem scriptOnce_looks:Rows.scriptOnceCard.stood.looks=Tryz.pinned.checked.prog.looks []:=by kernel_rfl
theorem scriptOnce_goes:false=Rows.scriptOnceRow.goesBy Tryz.pinned.checked.prog:=by
 show false=((Tryz.prog.funcNamed Rows.scriptOnceRow.func).any Tryz.prog.goes || false)
 cases h:Tryz.prog.funcNamed Rows.scriptOnceRow.func with
 | none=>rfl
 | some f=>simp only [Option.any_some,Bool.or_false];exact (prog_goes f).symm
theorem scriptOnce_holds:Rows.ScriptOnceCardSaid :=
 Claim7.holds_tied_plain_at .later [] Rows.scriptOnceCard.laidKinds true Rows.scriptOnceCard.stood.harness Rows.scriptOnceCard.stood.looks
  scriptOnce_row (fun _ h=>by cases h) scriptOnce_wf (fun _ h=>by cases h) scriptOnce_row_tie rfl ⟨rfl,rfl⟩ scriptOnce_main rfl
  (fun f fn hf hfn=>by
   obtain rfl:f=3:=Option.some.inj (scriptOnce_named.symm.trans hf) |>.symm;obtain rfl:fn=Tryz.f3:=(Option.some.inj (Tryz.func3.symm.trans hfn)).symm
   exact ⟨scriptOnce_looks,fun j t ht=>by
    rw [Tryz.params3] at ht
    have hm:t∈[3,22]:=by simpa using Array.mem_of_getElem? ht
    exact (show Tryz.prog.wantsStandIn t=false by simpa using List.all_eq_true.1 scriptOnce_stand t hm)⟩)
  scriptOnce_goes
#print axioms scriptOnce_holds
end
end Go.Proofs.YtodldddakjmonaaGreatDoor
