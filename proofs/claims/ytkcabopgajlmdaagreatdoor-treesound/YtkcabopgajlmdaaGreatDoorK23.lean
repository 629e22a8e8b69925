import Derived.Test.YtkcabopgajlmdaaGreatDoorK22
namespace Go.Proofs.YtkcabopgajlmdaaGreatDoor
section
open Go Go.RowKit Go.Deep Go.Maps
end
end Go.Proofs.YtkcabopgajlmdaaGreatDoor
