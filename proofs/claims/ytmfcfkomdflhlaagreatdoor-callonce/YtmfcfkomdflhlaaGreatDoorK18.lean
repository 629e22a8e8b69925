import Derived.Test.YtmfcfkomdflhlaaGreatDoorK11
import Derived.Deep.CutBlock
namespace Go.Proofs.YtmfcfkomdflhlaaGreatDoor
section
open Go Go.RowKit Go.Deep Go.Maps
theorem only_nilT {a b c:World}(h:Only [] a b)(k:Only [] b c):Only [] a c:=h.trans k (fun _ hk=>by cases hk)
end
end Go.Proofs.YtmfcfkomdflhlaaGreatDoor
