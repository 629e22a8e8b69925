import Derived.Test.YtmfcfkomdflhlaaGreatDoorTie
import Derived.Test.YtmfcfkomdflhlaaGreatDoorCards
import Derived.ProofKit
import Derived.Deep.Strs
import Derived.Deep.Slices
import Derived.OpenShut
set_option maxHeartbeats 8000000
namespace Go.Proofs.YtmfcfkomdflhlaaGreatDoor
section
open Go.ChangeShapes Go.WideShapes Go.ChangeAt Go.RowKit
theorem callOnce_closed:joinedFacts Tryz.prog 3 Tryz.f3 Rows.callOnceSpec Rows.callOnceRow=true:=by
 simp only [joinedFacts,Bool.and_eq_true]
 repeat' apply And.intro
 all_goals as_aux_lemma=>kernel_rfl
theorem callOnce_named:Tryz.prog.funcNamed "pigeonholes/pigeonholeslaw3.CallOnce" = some 3:=by kernel_rfl
theorem callOnce_stand:([9,3,22].all fun u=>!Tryz.prog.wantsStandIn u)=true:=by kernel_rfl
end
end Go.Proofs.YtmfcfkomdflhlaaGreatDoor
