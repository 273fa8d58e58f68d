/- The reference of layer word: From, by a contract. -/
import Derived.Test.YtcfnhilcpfiocaaWs
import Derived.Deep.RegionLaw
import Derived.IntWalk
namespace Go.Proofs.Ytcfnhilcpfiocaa
open Go.RowKit
attribute [local go_sem] ix0 ix1 ix2 ix3
theorem p256_split (k : Nat) : 256 ^ k = B64 ^ (k / 8) * 256 ^ (k % 8) := by
  rw [B64_256, ← Nat.pow_mul, ← Nat.pow_add, Nat.div_add_mod]
theorem low_lt (a k : Nat) : a % 256 ^ k / B64 ^ (k / 8) < 256 ^ (k % 8) := by
  apply Nat.div_lt_of_lt_mul
  rw [← p256_split]
  exact Nat.mod_lt _ (p256_pos k)
theorem p256_le (k : Nat) : 256 ^ (k % 8) * 256 ≤ B64 := by
  rw [← Nat.pow_succ, B64_256]
  exact Nat.pow_le_pow_right (by omega) (by have := Nat.mod_lt k (show 0 < 8 by omega); omega)
theorem low_succ (a k : Nat) : a % 256 ^ (k + 1) / B64 ^ (k / 8) = a % 256 ^ k / B64 ^ (k / 8) + 256 ^ (k % 8) * byA a k := by
  rw [mod_succ256]
  conv => lhs; rw [show 256 ^ k * (a / 256 ^ k % 256) = B64 ^ (k / 8) * (256 ^ (k % 8) * (a / 256 ^ k % 256)) by rw [← Nat.mul_assoc, ← p256_split]]
  rw [Nat.add_mul_div_left _ _ (pow_pos' _)]; rfl
/-- The limb that byte k goes into. -/
theorem lb_low (a k : Nat) : lb (a % 256 ^ k) (k / 8) = ((a % 256 ^ k / B64 ^ (k / 8) : Nat) : Int) := by
  unfold lb
  rw [Nat.mod_eq_of_lt]
  have h1 := low_lt a k
  have h2 := p256_le k
  have h3 := p256_pos (k % 8)
  omega
theorem lb_low_succ (a k : Nat) : lb (a % 256 ^ (k + 1)) (k / 8) = ((a % 256 ^ k / B64 ^ (k / 8) + 256 ^ (k % 8) * byA a k : Nat) : Int) := by
  unfold lb
  rw [low_succ, Nat.mod_eq_of_lt]
  have h1 := low_lt a k
  have h2 := p256_le k
  have h4 := byA_lt a k
  have h5 : 256 ^ (k % 8) * byA a k ≤ 256 ^ (k % 8) * 255 := Nat.mul_le_mul_left _ (by omega)
  omega
/-- The other limbs stay. -/
theorem lb_other (a k j : Nat) (h : j ≠ k / 8) : lb (a % 256 ^ (k + 1)) j = lb (a % 256 ^ k) j := by
  unfold lb
  congr 1
  rcases Nat.lt_or_gt_of_ne h with h | h
  · -- below: whole already
    rw [mod_succ256]
    generalize a / 256 ^ k % 256 = d
    have e : 256 ^ k * d = B64 ^ j * (B64 * (B64 ^ (k / 8 - j - 1) * 256 ^ (k % 8) * d)) := by
      have e1 : B64 ^ (k / 8) = B64 ^ j * B64 * B64 ^ (k / 8 - j - 1) := by
        rw [← Nat.pow_succ, ← Nat.pow_add]; congr 1; omega
      rw [p256_split k, e1]
      have e2 : ∀ x y z u v : Nat, x * y * z * u * v = x * (y * (z * u * v)) := fun x y z u v => by simp only [Nat.mul_assoc]
      exact e2 _ _ _ _ _
    rw [e, Nat.add_mul_div_left _ _ (pow_pos' j), Nat.add_mul_mod_self_left]
  · -- above: nought
    have h1 : a % 256 ^ (k + 1) < B64 ^ j := by
      refine Nat.lt_of_lt_of_le (Nat.mod_lt _ (p256_pos _)) ?_
      rw [B64_256, ← Nat.pow_mul]
      exact Nat.pow_le_pow_right (by omega) (by omega)
    have h2 : a % 256 ^ k < B64 ^ j := by
      refine Nat.lt_of_lt_of_le (Nat.mod_lt _ (p256_pos _)) ?_
      rw [B64_256, ← Nat.pow_mul]
      exact Nat.pow_le_pow_right (by omega) (by omega)
    rw [Nat.div_eq_of_lt h1, Nat.div_eq_of_lt h2]

theorem p256_two (r : Nat) : 256 ^ r = 2 ^ (8 * r) := by rw [Nat.pow_mul]
theorem or_low (a k : Nat) : bits .or .u64 (lb (a % 256 ^ k) (k / 8)) (IntKind.u64.wrap (IntKind.u64.wrap ((byA a k : Nat) : Int) * 2 ^ (8 * (k % 8)))) = lb (a % 256 ^ (k + 1)) (k / 8) := by
  have h1 := low_lt a k
  have h2 := p256_le k
  have h3 := p256_pos (k % 8)
  have h4 := byA_lt a k
  have h5 : 256 ^ (k % 8) * byA a k ≤ 256 ^ (k % 8) * 255 := Nat.mul_le_mul_left _ (by omega)
  have hB : B64 = 18446744073709551616 := rfl
  have e0 : IntKind.u64.wrap ((byA a k : Nat) : Int) = ((byA a k : Nat) : Int) := IntWalk.u64_in _ (by omega)
  rw [e0]
  have e : ((byA a k : Nat) : Int) * 2 ^ (8 * (k % 8)) = ((256 ^ (k % 8) * byA a k : Nat) : Int) := by
    rw [p256_two, Nat.mul_comm (2 ^ (8 * (k % 8)))]; simp
  rw [e, IntWalk.u64_in _ (by omega), lb_low, lb_low_succ, u64_or_nat _ _ (by omega) (by omega), Nat.or_comm]
  rw [p256_two (k % 8)] at h1 ⊢
  rw [← Nat.two_pow_add_eq_or_of_lt h1, Nat.add_comm]
theorem wc_set (a k : Nat) (hk : k < 32) : (Wc (a % 256 ^ k)).setIfInBounds (k / 8) (.int .u64 (lb (a % 256 ^ (k + 1)) (k / 8))) = Wc (a % 256 ^ (k + 1)) := by
  have o := lb_other a k
  have h4 : k / 8 = 0 ∨ k / 8 = 1 ∨ k / 8 = 2 ∨ k / 8 = 3 := by omega
  unfold Wc
  rcases h4 with h | h | h | h <;> rw [h] at o ⊢
  · rw [o 1 (by omega), o 2 (by omega), o 3 (by omega)]; rfl
  · rw [o 0 (by omega), o 2 (by omega), o 3 (by omega)]; rfl
  · rw [o 0 (by omega), o 1 (by omega), o 3 (by omega)]; rfl
  · rw [o 0 (by omega), o 1 (by omega), o 2 (by omega)]; rfl
theorem MM_256 : MM = 256 ^ 32 := by unfold MM; rw [B64_256, ← Nat.pow_mul]
theorem wc_get (a k : Nat) (hk : k < 4) : (Wc a)[k]? = some (.int .u64 (lb a k)) := by
  match k, hk with
  | 0, _ | 1, _ | 2, _ | 3, _ => rfl

end Go.Proofs.Ytcfnhilcpfiocaa
