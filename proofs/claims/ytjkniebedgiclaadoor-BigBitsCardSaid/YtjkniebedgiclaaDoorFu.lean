/- big: begun. -/
import Derived.Test.YtjkniebedgiclaaDoorFt
namespace Go.Proofs.YtjkniebedgiclaaDoor
open Go.RowKit Go.Shelf

/-- A number whose highest digit is moved up to the brim fits. -/
theorem up_fits (f : Nat → Nat) (m u : Nat) (hf : ∀ i, i < m → f i < B64) (hu : u ≤ 63) (h : f m * 2 ^ u < 2 ^ 64) : dv f (m + 1) * 2 ^ u < B64 ^ (m + 1) := by
  have h1 := dv_lt m hf
  have hp : 2 ^ u * 2 ^ (64 - u) = 2 ^ 64 := by rw [← Nat.pow_add]; congr 1; omega
  have h2 : f m < 2 ^ (64 - u) := by
    rw [← hp, Nat.mul_comm] at h
    exact Nat.lt_of_mul_lt_mul_left h
  have h3 : (f m + 1) * 2 ^ u ≤ 2 ^ (64 - u) * 2 ^ u := Nat.mul_le_mul_right _ h2
  rw [Nat.mul_comm (2 ^ (64 - u)), hp] at h3
  have h4 : dv f (m + 1) < (f m + 1) * B64 ^ m := by rw [dv, Nat.add_mul]; omega
  have h5 : dv f (m + 1) * 2 ^ u < (f m + 1) * B64 ^ m * 2 ^ u := Nat.mul_lt_mul_of_pos_right h4 (Nat.pow_pos (by omega))
  have h6 : (f m + 1) * B64 ^ m * 2 ^ u = ((f m + 1) * 2 ^ u) * B64 ^ m := by rw [Nat.mul_assoc, Nat.mul_comm (B64 ^ m), ← Nat.mul_assoc]
  have h7 : ((f m + 1) * 2 ^ u) * B64 ^ m ≤ B64 * B64 ^ m := Nat.mul_le_mul_right _ (by unfold B64; omega)
  rw [Nat.pow_succ, Nat.mul_comm (B64 ^ m)]
  omega
theorem up_top (f F : Nat → Nat) (m u : Nat) (hF : ∀ i, i < m + 1 → F i < B64) (h : 2 ^ 63 ≤ f m * 2 ^ u) (e : dv F (m + 1) = dv f (m + 1) * 2 ^ u) : 9223372036854775808 ≤ F m := by
  have hp : 0 < B64 ^ m := Nat.pow_pos B64_pos
  have h1 : f m * B64 ^ m ≤ dv f (m + 1) := by rw [dv]; omega
  have h2 : f m * B64 ^ m * 2 ^ u ≤ dv f (m + 1) * 2 ^ u := Nat.mul_le_mul_right _ h1
  have h3 : f m * B64 ^ m * 2 ^ u = (f m * 2 ^ u) * B64 ^ m := by rw [Nat.mul_assoc, Nat.mul_comm (B64 ^ m), ← Nat.mul_assoc]
  have h4 : 2 ^ 63 * B64 ^ m ≤ (f m * 2 ^ u) * B64 ^ m := Nat.mul_le_mul_right _ h
  have h5 := dv_lt m fun i hi => hF i (by omega)
  rw [dv] at e
  have h6 : 2 ^ 63 * B64 ^ m < (F m + 1) * B64 ^ m := by rw [Nat.add_mul]; omega
  have h7 := Nat.lt_of_mul_lt_mul_right h6
  have h8 : (2 : Nat) ^ 63 = 9223372036854775808 := by decide
  omega
/-- One digit of what a number lacks. -/
theorem lack_step (L F : Nat → Nat) (i b c y : Nat) (hy : y < B64) (hb : b ≤ 1) (h : dv L i + dv F i = b * B64 ^ i) (hF : F i = y) (hL : L i = (0 + 18446744073709551616 - y - b) % 18446744073709551616) (hc : c = if 0 < y + b then 1 else 0) :
    c ≤ 1 ∧ dv L (i + 1) + dv F (i + 1) = c * B64 ^ (i + 1) := by
  have e : L i + y + b = c * B64 := by
    subst hc
    unfold B64 at *
    split <;> omega
  refine ⟨by subst hc; split <;> omega, ?_⟩
  rw [dv, dv, hF, Nat.pow_succ, Nat.mul_comm (B64 ^ i) B64, ← Nat.mul_assoc, ← e, Nat.add_mul, Nat.add_mul]
  omega
theorem dgs_len (V n : Nat) : (dgs V n).length = many n := by unfold dgs; simp
theorem dgs_get (V n i : Nat) (h : i < many n) : (dgs V n).getD i 0 = dg V i := by
  unfold dgs
  rw [getD_at _ _ (by simpa using h)]
  simp
theorem many_le (n : Nat) (h : n ≤ 128) : many n ≤ 16 := by unfold many; omega
end Go.Proofs.YtjkniebedgiclaaDoor
