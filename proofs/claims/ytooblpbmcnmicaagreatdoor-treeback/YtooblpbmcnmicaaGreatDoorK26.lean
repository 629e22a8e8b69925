import Derived.Test.YtooblpbmcnmicaaGreatDoorK25
namespace Go.Proofs.YtooblpbmcnmicaaGreatDoor
section
open Go Go.RowKit Go.Deep Go.Maps
end
end Go.Proofs.YtooblpbmcnmicaaGreatDoor
