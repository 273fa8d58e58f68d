/- Texts laid into one: Pi. -/
import Derived.Test.YtenepkgjdoddgaaGreatDoorPh
import Derived.Test.YtenepkgjdoddgaaGreatDoorVe
import Derived.Test.YtenepkgjdoddgaaGreatDoorPf
import Derived.Test.YtenepkgjdoddgaaGreatDoorSy
import Derived.Test.YtenepkgjdoddgaaGreatDoorPr
/- policy's laws: the reference's Address. -/
namespace Go.Proofs.YtenepkgjdoddgaaGreatDoor
open Go.RowKit Go.Shelf
attribute [local irreducible] lb
/-- The first k of twenty numbers, noughts behind. -/
def gtC (f : Nat → Nat) (k : Nat) : Array Value := ((List.range 20).map fun p => Value.int .u8 (if p < k then ((f p : Nat) : Int) else 0)).toArray
attribute [irreducible] gtC
/-- What two digits make. -/
def prD (T : List UInt8) (i : Nat) : Nat := 16 * dv (T.getD (2 * i) 0) + dv (T.getD (2 * i + 1) 0)
end Go.Proofs.YtenepkgjdoddgaaGreatDoor

/- policy's laws: texts that are no address's. -/
namespace Go.Proofs.YtenepkgjdoddgaaGreatDoor
open Go.RowKit Go.Shelf
attribute [local irreducible] lb
end Go.Proofs.YtenepkgjdoddgaaGreatDoor

/- policy's laws: forty bytes that are not all digits. -/
namespace Go.Proofs.YtenepkgjdoddgaaGreatDoor
open Go.RowKit Go.Shelf
attribute [local irreducible] lb
end Go.Proofs.YtenepkgjdoddgaaGreatDoor

/- policy's laws: Address of any text, the program's and the reference's. -/
namespace Go.Proofs.YtenepkgjdoddgaaGreatDoor
open Go.RowKit Go.Shelf
attribute [local irreducible] lb
end Go.Proofs.YtenepkgjdoddgaaGreatDoor

