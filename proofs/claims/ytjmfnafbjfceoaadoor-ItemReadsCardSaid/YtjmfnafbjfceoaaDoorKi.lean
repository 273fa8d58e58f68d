/- digest: Constants. -/
import Derived.Test.YtjmfnafbjfceoaaDoorKh
namespace Go.Proofs.YtjmfnafbjfceoaaDoor
open Go.RowKit
attribute [local irreducible] ln rot
def cnF (r j : Nat) : Nat → Ln := fun i => if i < r then rcv i else if i = r then BitVec.ofNat 64 (rcP r j) else 0#64
theorem cnF_next (r : Nat) : cnF r 7 = cnF (r + 1) 0 := by
  funext i; unfold cnF
  by_cases h : i < r
  · rw [if_pos h, if_pos (by omega)]
  · rw [if_neg h]
    by_cases e : i = r
    · subst e; rw [if_pos rfl, if_pos (by omega)]; rfl
    · rw [if_neg e, if_neg (by omega)]
      split <;> rfl
theorem cnF_set (r j : Nat) : upd (cnF r j) r (BitVec.ofNat 64 (rcP r (j + 1))) = cnF r (j + 1) := by
  funext i; unfold upd cnF
  by_cases e : i = r
  · subst e; rw [if_pos rfl, if_neg (by omega), if_pos rfl]
  · rw [if_neg e]
    by_cases h : i < r
    · rw [if_pos h, if_pos h]
    · rw [if_neg h, if_neg h, if_neg e, if_neg e]
theorem cnF_all : Fc 24 (cnF 24 0) = Fc 24 rcv := Fc_congr fun p hp => by unfold cnF; rw [if_pos hp]
theorem cnF_zero : cnF 0 0 = fun _ => 0#64 := by
  funext i; unfold cnF
  rw [if_neg (by omega)]
  split <;> rfl
theorem z24 : Fc 24 (fun _ => 0#64) = #[.int .u64 0, .int .u64 0, .int .u64 0, .int .u64 0, .int .u64 0, .int .u64 0, .int .u64 0, .int .u64 0, .int .u64 0, .int .u64 0, .int .u64 0, .int .u64 0, .int .u64 0, .int .u64 0, .int .u64 0, .int .u64 0, .int .u64 0, .int .u64 0, .int .u64 0, .int .u64 0, .int .u64 0, .int .u64 0, .int .u64 0, .int .u64 0] := by kernel_rfl
theorem lfs_next (i : Nat) : lfs (i + 1) = if 255 < 2 * lfs i then (2 * lfs i) ^^^ 369 else 2 * lfs i := rfl

end Go.Proofs.YtjmfnafbjfceoaaDoor
