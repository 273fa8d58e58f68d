/- digest: a round, all rounds. -/
import Derived.Test.YtjmfnafbjfceoaaDoorKe
namespace Go.Proofs.YtjmfnafbjfceoaaDoor
open Go.RowKit
attribute [local irreducible] ln rot
/-- A round as the program does it, the mark lying behind the state. -/
def rdP (f : Nat → Ln) : Nat → Ln := upd (chF (plF (thF f 5) 24) 25) 0 (chF (plF (thF f 5) 24) 25 0 ^^^ chF (plF (thF f 5) 24) 25 25)
theorem rdP_mark (f : Nat → Ln) : rdP f 25 = f 25 := by
  unfold rdP upd
  rw [if_neg (by omega)]
  unfold chF
  rw [if_neg (by omega), plF_mark]
  unfold thF
  rw [if_neg (by omega)]
theorem thF_on (f : Nat → Ln) : EqOn (thF f 5) (theta f) := fun i hi => by unfold thF; rw [if_pos (by omega)]
theorem chF_on (f : Nat → Ln) : EqOn (chF f 25) (chi f) := fun i hi => by unfold chF; rw [if_pos hi]
theorem rdP_on (r : Nat) (f : Nat → Ln) (h : f 25 = rcv r) : EqOn (rdP f) (rnd r f) := by
  have h1 : EqOn (chF (plF (thF f 5) 24) 25) (chi (rhopi (theta f))) := (chF_on _).trans (chi_on ((plF_all _).trans (rhopi_on (thF_on f))))
  have h2 : chF (plF (thF f 5) 24) 25 25 = rcv r := by
    unfold chF; rw [if_neg (by omega), plF_mark]; unfold thF; rw [if_neg (by omega), h]
  intro i hi
  unfold rdP rnd iota upd
  rw [h2]
  by_cases e : i = 0
  · subst e; rw [if_pos rfl, if_pos rfl, h1 0 (by omega)]
  · rw [if_neg e, if_neg e, h1 i hi]

end Go.Proofs.YtjmfnafbjfceoaaDoor
