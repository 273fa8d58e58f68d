/- The reference's Digit and Parse, by contracts. -/
import Derived.Test.YtenepkgjdoddgaaGreatDoorPb
namespace Go.Proofs.YtenepkgjdoddgaaGreatDoor
open Go.RowKit
attribute [local go_sem] ix0 ix1 ix2 ix3
end Go.Proofs.YtenepkgjdoddgaaGreatDoor
