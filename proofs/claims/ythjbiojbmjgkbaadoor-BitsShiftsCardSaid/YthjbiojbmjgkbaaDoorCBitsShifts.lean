/- For every two words n, a the function exciselaw03.BitsShifts returns true, and each argument reads behind the call as it read before. Conditions: the table of the library that the row lists holds what the program's text lays (tied by the card). -/
import Derived.Test.YthjbiojbmjgkbaaDoorBz
import Derived.Test.YthjbiojbmjgkbaaDoorBv
namespace Go.Proofs.YthjbiojbmjgkbaaDoor.lawBitsShifts
open Go.ChangeShapes Go.WideShapes Go.ChangeAt Go.RowKit

end Go.Proofs.YthjbiojbmjgkbaaDoor.lawBitsShifts
