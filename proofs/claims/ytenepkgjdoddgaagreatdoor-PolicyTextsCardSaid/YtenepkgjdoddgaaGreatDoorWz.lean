/- The reference of layer word: Order, by a contract. -/
import Derived.Test.YtenepkgjdoddgaaGreatDoorPb
import Derived.Deep.RegionHeld3
import Derived.Deep.QuietTactic
import Derived.BigQuiet
namespace Go.Proofs.YtenepkgjdoddgaaGreatDoor
open Go.RowKit
attribute [local go_sem] ix0 ix1 ix2 ix3
end Go.Proofs.YtenepkgjdoddgaaGreatDoor
