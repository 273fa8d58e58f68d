/- digest: columns, places, rows, marked. -/
import Derived.Test.YtjmfnafbjfceoaaDoorKb
namespace Go.Proofs.YtjmfnafbjfceoaaDoor
open Go.RowKit
attribute [local go_sem] uv_xor uv_and uv_or uv_not
attribute [local irreducible] rot ln
theorem wr1 : IntKind.i64.wrap 1 = 1 := IntWalk.i64_in _ (by omega)
theorem wr2 : IntKind.i64.wrap 2 = 2 := IntWalk.i64_in _ (by omega)
theorem wr3 : IntKind.i64.wrap 3 = 3 := IntWalk.i64_in _ (by omega)
theorem wr4 : IntKind.i64.wrap 4 = 4 := IntWalk.i64_in _ (by omega)
theorem wr5 : IntKind.i64.wrap 5 = 5 := IntWalk.i64_in _ (by omega)
theorem wr6 : IntKind.i64.wrap 6 = 6 := IntWalk.i64_in _ (by omega)
theorem wr7 : IntKind.i64.wrap 7 = 7 := IntWalk.i64_in _ (by omega)
theorem wr8 : IntKind.i64.wrap 8 = 8 := IntWalk.i64_in _ (by omega)
theorem wr9 : IntKind.i64.wrap 9 = 9 := IntWalk.i64_in _ (by omega)
theorem wr10 : IntKind.i64.wrap 10 = 10 := IntWalk.i64_in _ (by omega)
theorem wr11 : IntKind.i64.wrap 11 = 11 := IntWalk.i64_in _ (by omega)
attribute [local go_sem] wr1 wr2 wr3 wr4 wr5 wr6 wr7 wr8 wr9 wr10 wr11
/-- Theta's parities, row by row; the two columns beside. -/
def parR (f : Nat → Ln) : Nat → Nat → Ln
  | 0, x => f x
  | y + 1, x => parR f y x ^^^ f (5 * (y + 1) + x)
theorem parR_par (f : Nat → Ln) (x : Nat) : parR f 4 x = par f x := by
  unfold par
  show (((f x ^^^ f (5 * (0 + 1) + x)) ^^^ f (5 * (1 + 1) + x)) ^^^ f (5 * (2 + 1) + x)) ^^^ f (5 * (3 + 1) + x) = _
  rw [show 5 * (0 + 1) + x = x + 5 by omega, show 5 * (1 + 1) + x = x + 10 by omega, show 5 * (2 + 1) + x = x + 15 by omega, show 5 * (3 + 1) + x = x + 20 by omega]
def bothF (f : Nat → Ln) (k : Nat) : Nat → Ln := fun x => if x < k then par f ((x + 4) % 5) ^^^ rot (par f ((x + 1) % 5)) 1 else 0#64
def thF (f : Nat → Ln) (k : Nat) : Nat → Ln := fun i => if i < 5 * k then theta f i else f i

theorem Fc5 (h : Nat → Ln) : Fc 5 h = #[uv (h 0), uv (h 1), uv (h 2), uv (h 3), uv (h 4)] := rfl
theorem parR_step (f : Nat → Ln) (y : Nat) : Fc 5 (layF (parR f y) f 0 (5 * (y + 1)) 5) = Fc 5 (parR f (y + 1)) := Fc_congr fun p hp => by
  unfold layF
  rw [if_pos (by omega), show p - 0 + 5 * (y + 1) = 5 * (y + 1) + p by omega]
  rfl
theorem bothF_step (f : Nat → Ln) (k : Nat) : upd (bothF f k) k (par f ((k + 4) % 5) ^^^ rot (par f ((k + 1) % 5)) 1) = bothF f (k + 1) := by
  funext p; unfold upd bothF
  by_cases e : p = k
  · subst e; rw [if_pos rfl, if_pos (by omega)]
  · rw [if_neg e]
    by_cases h : p < k
    · rw [if_pos h, if_pos (by omega)]
    · rw [if_neg h, if_neg (by omega)]
theorem thF_step (f : Nat → Ln) (y : Nat) : layF (thF f y) (bothF f 5) (5 * y) 0 5 = thF f (y + 1) := by
  funext p; unfold layF thF
  by_cases h : 5 * y ≤ p ∧ p < 5 * y + 5
  · rw [if_pos h, if_neg (by omega), if_pos (by omega)]
    unfold bothF theta
    rw [if_pos (by omega), show (p - 5 * y + 0 + 4) % 5 = (p + 4) % 5 by omega, show (p - 5 * y + 0 + 1) % 5 = (p + 1) % 5 by omega]
  · rw [if_neg h]
    by_cases h2 : p < 5 * y
    · rw [if_pos h2, if_pos (by omega)]
    · rw [if_neg h2, if_neg (by omega)]
theorem thF_zero (f : Nat → Ln) : thF f 0 = f := by funext p; unfold thF; rw [if_neg (by omega)]
theorem bothF_zero (f : Nat → Ln) : Fc 5 (bothF f 0) = #[.int .u64 0, .int .u64 0, .int .u64 0, .int .u64 0, .int .u64 0] := by
  rw [Fc5]
  show #[uv 0#64, uv 0#64, uv 0#64, uv 0#64, uv 0#64] = _
  unfold uv; rw [ln_zero]
end Go.Proofs.YtjmfnafbjfceoaaDoor
