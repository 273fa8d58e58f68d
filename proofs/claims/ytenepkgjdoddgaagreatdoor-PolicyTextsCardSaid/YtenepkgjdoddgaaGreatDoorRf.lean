/- policy: the reference's Target. -/
import Derived.Test.YtenepkgjdoddgaaGreatDoorPc
namespace Go.Proofs.YtenepkgjdoddgaaGreatDoor
open Go.RowKit Go.Shelf

end Go.Proofs.YtenepkgjdoddgaaGreatDoor
