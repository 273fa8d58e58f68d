/- digest: places, rows, marked. -/
import Derived.Test.YtjmfnafbjfceoaaDoorKc
namespace Go.Proofs.YtjmfnafbjfceoaaDoor
open Go.RowKit
attribute [local go_sem] uv_xor uv_and uv_or uv_not
attribute [local irreducible] ln
/-- The way of the numbers from place to place. -/
def pxy : Nat → Nat × Nat
  | 0 => (1, 0)
  | t + 1 => ((pxy t).2, (2 * (pxy t).1 + 3 * (pxy t).2) % 5)
def pix (t : Nat) : Nat := (pxy t).1 + 5 * (pxy t).2
def plF (f : Nat → Ln) : Nat → Nat → Ln
  | 0 => f
  | t + 1 => upd (plF f t) (pix (t + 1)) (rot (f (pix t)) ((t + 1) * (t + 2) / 2 % 64))
theorem pxy_lt : ∀ t, (pxy t).1 < 5 ∧ (pxy t).2 < 5
  | 0 => by decide
  | t + 1 => ⟨(pxy_lt t).2, Nat.mod_lt _ (by omega)⟩
theorem pix_un : ∀ t, t < 24 → ∀ r, r < t → pix (r + 1) ≠ pix (t + 1) := by decide +kernel
theorem plF_far (f : Nat → Ln) (p : Nat) : ∀ s, (∀ r, r < s → pix (r + 1) ≠ p) → plF f s p = f p
  | 0, _ => rfl
  | s + 1, h => by
    rw [plF, upd, if_neg (fun e => h s (by omega) e.symm)]
    exact plF_far f p s (fun r hr => h r (by omega))
theorem plF_next (f : Nat → Ln) (t : Nat) (ht : t < 24) : plF f t (pix (t + 1)) = f (pix (t + 1)) := plF_far f _ t (pix_un t ht)
theorem plF_all (f : Nat → Ln) : EqOn (plF f 24) (rhopi f) := fun i hi => by
  have h0 : plF f 24 0 = rhopi f 0 := by show f 0 = rot (f 0) 0; rw [rot_zero]
  rcases (show i = 0 ∨ i = 1 ∨ i = 2 ∨ i = 3 ∨ i = 4 ∨ i = 5 ∨ i = 6 ∨ i = 7 ∨ i = 8 ∨ i = 9 ∨ i = 10 ∨ i = 11 ∨ i = 12 ∨ i = 13 ∨ i = 14 ∨ i = 15 ∨ i = 16 ∨ i = 17 ∨ i = 18 ∨ i = 19 ∨ i = 20 ∨ i = 21 ∨ i = 22 ∨ i = 23 ∨ i = 24 by omega) with rfl | rfl | rfl | rfl | rfl | rfl | rfl | rfl | rfl | rfl | rfl | rfl | rfl | rfl | rfl | rfl | rfl | rfl | rfl | rfl | rfl | rfl | rfl | rfl | rfl
  · exact h0
  all_goals rfl
theorem pix_25 : ∀ r, r < 24 → pix (r + 1) ≠ 25 := by decide
theorem plF_mark (f : Nat → Ln) : plF f 24 25 = f 25 := plF_far f 25 24 pix_25
attribute [local irreducible] rot
end Go.Proofs.YtjmfnafbjfceoaaDoor
