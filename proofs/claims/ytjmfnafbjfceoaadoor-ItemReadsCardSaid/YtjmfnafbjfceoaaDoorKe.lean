/- digest: rows. -/
import Derived.Test.YtjmfnafbjfceoaaDoorKd
import Derived.Deep.RegionHeld3
import Derived.Deep.CutRange
import Derived.Deep.DeepCutAuto
namespace Go.Proofs.YtjmfnafbjfceoaaDoor
open Go.RowKit
attribute [local go_sem] uv_xor uv_and uv_or uv_not
attribute [local irreducible] ln rot
theorem uv_not' (x : Ln) : bits .xor .u64 (if IntKind.u64.signed = true then -1 else IntKind.u64.max) (ln x) = ln (~~~ x) := by
  rw [← uv_not]; rfl
attribute [local go_sem] uv_not'
def chF (f : Nat → Ln) (k : Nat) : Nat → Ln := fun i => if i < k then chi f i else f i
/-- A row's numbers, the first two behind again. -/
def rdF (f : Nat → Ln) (y : Nat) : Nat → Ln := fun k => f (5 * y + k % 5)
theorem chF_zero (f : Nat → Ln) : chF f 0 = f := by funext p; unfold chF; rw [if_neg (by omega)]
theorem chF_step (f : Nat → Ln) (y x : Nat) (hx : x < 5) : upd (chF f (5 * y + x)) (5 * y + x) (f (5 * y + x) ^^^ (~~~ rdF f y (x + 1) &&& rdF f y (x + 2))) = chF f (5 * y + x + 1) := by
  funext p; unfold upd chF
  by_cases e : p = 5 * y + x
  · subst e; rw [if_pos rfl, if_pos (by omega)]
    unfold chi rdF
    rw [show (5 * y + x) / 5 * 5 = 5 * y by omega, show (5 * y + x + 1) % 5 = (x + 1) % 5 by omega, show (5 * y + x + 2) % 5 = (x + 2) % 5 by omega]
  · rw [if_neg e]
    by_cases h : p < 5 * y + x
    · rw [if_pos h, if_pos (by omega)]
    · rw [if_neg h, if_neg (by omega)]

end Go.Proofs.YtjmfnafbjfceoaaDoor
