/- The library's functions on strings that the layer word calls: TrimLeft at one byte, CutPrefix, IndexByte (after the kit's own contracts on them, here at this program). -/
import Derived.Test.YtfknfopdinkmkaaRows
import Derived.WalkKit
import Derived.WalkSpells
import Derived.WalkLawsBesides
import Derived.Lib.Strings
import Derived.Lib.Slices
import Derived.Lib.Walk
import Derived.Lib.TrimByte
import Derived.Lib.Small
import Derived.Lib.Bytealg
import Derived.Laws.Strings3
namespace Go.Proofs.Ytfknfopdinkmkaa
open Go.RowKit

end Go.Proofs.Ytfknfopdinkmkaa
