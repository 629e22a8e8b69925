/- StoreNew, up to so much: for every number of sectors, every number of nodes and every list of acts on a disk that holds together at most 1048576 values and letters, the law answers true: on any disk a store can be begun, or the error is the one that the document asks; what is written over it leaves a store or ErrText. The row, and the tied card. -/
import Derived.Test.YtmnidbnaneagjaaGreatDoorK51
import Derived.Test.YtmnidbnaneagjaaGreatDoorK52
import Derived.Test.YtmnidbnaneagjaaGreatDoorK53
namespace Go.Proofs.YtmnidbnaneagjaaGreatDoor
section
open Go.ChangeShapes Go.WideShapes Go.ChangeAt Go.RowKit
theorem storeNew_r1:Rows.storeNewUptoRow.program=Tryz.pinned.name:=rfl
theorem storeNew_r2:Rows.storeNewUptoRow.sum=Tryz.pinned.sum:=rfl
theorem storeNew_r3:Rows.storeNewUptoRow.spec=(Rows.OpenSpec.upto Rows.storeNewSpec).name:=rfl
theorem storeNew_r4:Rows.storeNewUptoRow.start = .entering:=rfl
theorem storeNew_r5:Rows.storeNewUptoRow.narrowed=(Rows.OpenSpec.upto Rows.storeNewSpec).cond.isSome:=rfl
theorem storeNew_r6:Tryz.pinned.checked.prog.funcNamed Rows.storeNewUptoRow.func=some 3:=storeNew_named
theorem storeNew_r7:Tryz.pinned.checked.prog.funcs[(3:Nat)]?=some Tryz.f3:=Tryz.func3
theorem storeNew_r8:joinedFacts Tryz.pinned.checked.prog 3 Tryz.f3 (Rows.OpenSpec.upto Rows.storeNewSpec).bare Rows.storeNewUptoRow=true:=storeNew_closed
theorem storeNew_inst:Tryz.f3.isInstance Tryz.prog Rows.storeNewUptoRow.origin Rows.storeNewUptoRow.targs:=of_decide_eq_true (by kernel_rfl)
theorem storeNew_wrap:Tryz.f3.isWrapper Tryz.prog Rows.storeNewUptoRow.wrapper Rows.storeNewUptoRow.mainSum:=by unfold Func.isWrapper;first | (rw [if_pos (by decide +kernel)];kernel_rfl) | (rw [if_neg (by decide +kernel)];exact ⟨rfl,rfl⟩)
theorem storeNew_h (os:Os)(started:os.Started)(H:Type)(enc:TypeId×Value→H)(F:Stop.Interp):ReturnsInHanded Rows.storeNewUptoRow.assume Tryz.pinned.checked os 3 .any (Rows.storeNewUptoRow.pre enc Tryz.pinned.checked.prog Tryz.f3 (Rows.OpenSpec.upto Rows.storeNewSpec)) (((Rows.OpenSpec.upto Rows.storeNewSpec).at F).post enc Tryz.pinned.checked.prog Tryz.f3 Rows.storeNewUptoRow.apart Rows.storeNewUptoRow.fresh Rows.storeNewUptoRow.handsOn Rows.storeNewUptoRow.again):=by
 rw [OpenClaim.pre_eq_preRow];exact storeNew_lifted os started H enc F
theorem storeNew_row:Rows.StoreNewUptoSaid :=
 OpenClaim.holds_of_cond 3 Tryz.f3 storeNew_r1 storeNew_r2 storeNew_r3 storeNew_r4 rfl rfl rfl ⟨rfl,rfl,rfl,rfl,rfl⟩ rfl rfl rfl storeNew_r5 rfl storeNew_r6 storeNew_r7 storeNew_r8 storeNew_inst storeNew_wrap
  (fun os started H enc _ F=>storeNew_h os started H enc F)
theorem storeNew_wf:Rows.storeNewUptoRow.wfByText (Rows.OpenSpec.upto Rows.storeNewSpec)=true:=by kernel_rfl
theorem storeNew_nb:Rows.storeNewUptoRow.noBlocks=false∧Rows.storeNewUptoRow.again=false:=⟨rfl,rfl⟩
theorem storeNew_main:Tryz.pinned.checked.prog.mainIs=some (Rows.storeNewUptoCard.stood.harness.1,Rows.storeNewUptoCard.stood.harness.2.toList):=by kernel_rfl
theorem storeNew_harn:(!Rows.storeNewUptoCard.stood.harness.1&&Rows.storeNewUptoCard.stood.harness.2.isEmpty&&!Rows.storeNewUptoCard.stood.looks)=false:=rfl
theorem storeNew_looks:Rows.storeNewUptoCard.stood.looks=Tryz.pinned.checked.prog.looks []:=by kernel_rfl
theorem storeNew_goes:false=Rows.storeNewUptoRow.goesBy Tryz.pinned.checked.prog:=by
 show false=((Tryz.prog.funcNamed Rows.storeNewUptoRow.func).any Tryz.prog.goes || false)
 cases h:Tryz.prog.funcNamed Rows.storeNewUptoRow.func with
 | none=>rfl
 | some f=>simp only [Option.any_some,Bool.or_false];exact (prog_goes f).symm
theorem storeNew_params (f:Nat)(fn:Func)(hf:Tryz.pinned.checked.prog.funcNamed Rows.storeNewUptoRow.func=some f)(hfn:Tryz.pinned.checked.prog.funcs[f]?=some fn):Rows.storeNewUptoCard.stood.looks=Tryz.pinned.checked.prog.looks []∧∀ (j:Nat) t,fn.params[j]?=some t→Tryz.pinned.checked.prog.wantsStandIn t=false:=by
 obtain rfl:f=3:=Option.some.inj (storeNew_r6.symm.trans hf) |>.symm;obtain rfl:fn=Tryz.f3:=(Option.some.inj (storeNew_r7.symm.trans hfn)).symm;refine ⟨storeNew_looks,fun j t ht=>?_⟩;rw [Tryz.params3] at ht
 have hm:t∈[3,3,22]:=by simpa using Array.mem_of_getElem? ht
 exact (show Tryz.prog.wantsStandIn t=false by simpa using List.all_eq_true.1 storeNew_stand t hm)
theorem storeNew_upto:Rows.StoreNewUptoCardSaid :=
 Claim7.holds_tied_plain_at .later [] Rows.storeNewUptoCard.laidKinds true Rows.storeNewUptoCard.stood.harness Rows.storeNewUptoCard.stood.looks
  storeNew_row (fun _ h=>by cases h) storeNew_wf (fun _ h=>by cases h) storeNewUpto_row_tie storeNew_r4 storeNew_nb storeNew_main storeNew_harn storeNew_params storeNew_goes
#print axioms storeNew_upto
end
end Go.Proofs.YtmnidbnaneagjaaGreatDoor
