/- bits: fold, And, Or, Xor, Not. -/
import Derived.Test.YtidpekcegocjfaaDoorPc
import Derived.Test.YtidpekcegocjfaaDoorPb
import Derived.Test.YtidpekcegocjfaaDoorBa
namespace Go.Proofs.YtidpekcegocjfaaDoor
open Go.RowKit
attribute [local go_sem] ix0 ix1 ix2 ix3
theorem W_all : W (MM - 1) = .agg #[.int .u64 18446744073709551615, .int .u64 18446744073709551615, .int .u64 18446744073709551615, .int .u64 18446744073709551615] := by
  unfold W; rw [lb_all 0 (by omega), lb_all 1 (by omega), lb_all 2 (by omega), lb_all 3 (by omega)]

section
variable (b o n cap : Nat) (f : Nat → Nat) (w : World) (hn : n ≤ 9223372036854775807) (hb : b < w.heap.size) (hf : WordsAt w b o n f)
include hn hb hf
end
end Go.Proofs.YtidpekcegocjfaaDoor
