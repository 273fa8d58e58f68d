/- digest: the first bytes of a state. -/
import Derived.Test.YtjmfnafbjfceoaaDoorKi
import Derived.Test.YtjmfnafbjfceoaaDoorPb
namespace Go.Proofs.YtjmfnafbjfceoaaDoor
open Go.RowKit
attribute [local irreducible] ln rot
/-- The i-th byte of numbers, each the lowest byte first. -/
def dgB (f : Nat → Ln) (i : Nat) : Nat := (f (i / 8)).toNat / 2 ^ (8 * (i % 8)) % 256
theorem dgB_lt (f : Nat → Ln) (i : Nat) : dgB f i < 256 := Nat.mod_lt _ (by omega)
theorem dgB_wrap (f : Nat → Ln) (i : Nat) : IntKind.u8.wrap (ln (f (i / 8)) / 2 ^ (i % 8 * 8)) = ((dgB f i : Nat) : Int) := by
  unfold ln dgB
  rw [IntKind.wrap_u8, Nat.mul_comm 8]
  simp
end Go.Proofs.YtjmfnafbjfceoaaDoor
