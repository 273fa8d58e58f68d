/- bits: a word's bits moved so many places (moved). -/
import Derived.Test.YtidpekcegocjfaaDoorBf
import Derived.ScopeJumps
namespace Go.Proofs.YtidpekcegocjfaaDoor
open Go.RowKit
attribute [local go_sem] ix0 ix1 ix2 ix3
attribute [local irreducible] lb numI
end Go.Proofs.YtidpekcegocjfaaDoor
