/- CallOnce: for every name, every number of times and every order of hearing the law answers true: a call that is sent, doubled, and heard as often as it likes, is done once; its reply is heard once. The row, and the tied card. -/
import Derived.Test.YtmfcfkomdflhlaaGreatDoorK51
import Derived.Test.YtmfcfkomdflhlaaGreatDoorK52
namespace Go.Proofs.YtmfcfkomdflhlaaGreatDoor
section
open Go.ChangeShapes Go.WideShapes Go.ChangeAt Go.RowKit
open Go.ChangeMaps (open_string shut_string)
theorem callOnce_row:Rows.CallOnceSaid :=
 OpenClaim.holds_of_wide 3 Tryz.f3 rfl rfl rfl rfl rfl rfl rfl ⟨rfl,rfl,rfl,rfl,rfl⟩ rfl rfl rfl rfl rfl callOnce_named Tryz.func3 callOnce_closed
  (of_decide_eq_true (by kernel_rfl)) (by unfold Func.isWrapper;first | (rw [if_pos (by decide +kernel)];kernel_rfl) | (rw [if_neg (by decide +kernel)];exact ⟨rfl,rfl⟩))
  (fun os started H enc _=>callOnce_lifted os started H enc)
theorem callOnce_holds:Rows.CallOnceCardSaid :=
 Claim7.holds_tied_plain_at .later [] Rows.callOnceCard.laidKinds true Rows.callOnceCard.stood.harness Rows.callOnceCard.stood.looks
  callOnce_row (fun _ h=>by cases h) (by as_aux_lemma=>kernel_rfl) (fun _ h=>by cases h) callOnce_row_tie rfl ⟨rfl,rfl⟩ (by as_aux_lemma=>kernel_rfl) rfl
  (fun f fn hf hfn=>by
   obtain rfl:f=3:=Option.some.inj (callOnce_named.symm.trans hf) |>.symm;obtain rfl:fn=Tryz.f3:=(Option.some.inj (Tryz.func3.symm.trans hfn)).symm
   exact ⟨by as_aux_lemma=>kernel_rfl,fun j t ht=>by
    rw [Tryz.params3] at ht
    have hm:t∈[9,3,22]:=by simpa using Array.mem_of_getElem? ht
    exact (show Tryz.prog.wantsStandIn t=false by simpa using List.all_eq_true.1 callOnce_stand t hm)⟩)
  (by as_aux_lemma=>kernel_rfl)
#print axioms callOnce_holds
end
end Go.Proofs.YtmfcfkomdflhlaaGreatDoor
