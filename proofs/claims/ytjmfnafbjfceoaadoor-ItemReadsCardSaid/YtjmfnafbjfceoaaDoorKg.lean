/- digest: turn, Turn. -/
import Derived.Test.YtjmfnafbjfceoaaDoorKf
import Derived.Test.YtjmfnafbjfceoaaDoorPb
import Derived.Laws.EntriesVeiled
import Derived.Deep.WholeRow
namespace Go.Proofs.YtjmfnafbjfceoaaDoor
open Go.RowKit
attribute [local irreducible] ln rot
/-- The state behind r rounds, as the program keeps it. -/
def tnP (f : Nat → Ln) : Nat → Nat → Ln
  | 0 => f
  | r + 1 => rdP (upd (tnP f r) 25 (rcv r))
theorem tnP_on (f : Nat → Ln) : ∀ r, EqOn (tnP f r) (rnds f r)
  | 0 => EqOn.refl f
  | r + 1 => by
    have h : EqOn (upd (tnP f r) 25 (rcv r)) (rnds f r) := fun i hi => by unfold upd; rw [if_neg (by omega)]; exact tnP_on f r i hi
    exact (rdP_on r _ (by unfold upd; rw [if_pos rfl])).trans (rnd_on r h)
end Go.Proofs.YtjmfnafbjfceoaaDoor
