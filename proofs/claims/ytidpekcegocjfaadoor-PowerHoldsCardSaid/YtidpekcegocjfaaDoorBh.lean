/- bits: Shl, Shr, Sar. -/
import Derived.Test.YtidpekcegocjfaaDoorBg
namespace Go.Proofs.YtidpekcegocjfaaDoor
open Go.RowKit
attribute [local go_sem] ix0 ix1 ix2 ix3
/-- Moved up, down, down with the sign. -/
def shlN (n a : Nat) : Nat := if n < 256 then a * 2 ^ n % MM else 0
def shrN (n a : Nat) : Nat := if n < 256 then a / 2 ^ n else 0
def sgN (a : Nat) : Nat := if ngN a then MM - 1 else 0
def sarN (n a : Nat) : Nat := if n < 256 then (a + MM * sgN a) / 2 ^ n % MM else sgN a

theorem lb_nat (n i : Nat) : lb n i = ((n / B64 ^ i % B64 : Nat) : Int) := rfl
theorem lb_high (a i : Nat) (ha : a < MM) (hi : 4 ≤ i) : lb a i = 0 := by
  rw [lb_nat, Nat.div_eq_of_lt (Nat.lt_of_lt_of_le ha (Nat.pow_le_pow_right B64_pos hi))]; rfl
/-- What is told of a number moved by p, part by part. -/
theorem part_down (A p i : Nat) : bits .or .u64 (lb A (p / 64 + i) / 2 ^ (p % 64)) (IntKind.u64.wrap (lb A (p / 64 + i + 1) * 2 ^ (64 - p % 64))) = lb (A / 2 ^ p) i := by
  have h := limb_down A p i
  rw [lb_nat, lb_nat, lb_nat, ← h]
  have hx := limb_lt A (p / 64 + i)
  generalize A / B64 ^ (p / 64 + i) % B64 = x at *
  generalize A / B64 ^ (p / 64 + i + 1) % B64 = y at *
  generalize p % 64 = r at *
  have e1 : (x : Int) / 2 ^ r = ((x / 2 ^ r : Nat) : Int) := by rw [Int.natCast_ediv, Int.natCast_pow]; rfl
  have e2 : IntKind.u64.wrap ((y : Int) * 2 ^ (64 - r)) = ((y * 2 ^ (64 - r) % B64 : Nat) : Int) := by
    rw [IntKind.wrap_u64, Int.natCast_emod, Int.natCast_mul, Int.natCast_pow]; rfl
  rw [e1, e2]
  have hy : y * 2 ^ (64 - r) % B64 < 18446744073709551616 := Nat.mod_lt _ B64_pos
  have hx2 : x / 2 ^ r < 18446744073709551616 := Nat.lt_of_le_of_lt (Nat.div_le_self _ _) hx
  exact bits_or_u64_nat _ _ hx2 hy
theorem num_up (a : Nat) (ha : a < MM) (k : Nat) (p : Int) (h : p = (k : Int) - 4) : numI a 0 p = lb (a * B64 ^ 4) k := by
  unfold numI
  by_cases hk : k < 4
  · rw [if_neg (by omega), lb_nat]
    have e : a * B64 ^ 4 / B64 ^ k % B64 = 0 := by
      rw [show B64 ^ 4 = B64 ^ k * (B64 * B64 ^ (3 - k)) by rw [← Nat.pow_succ', ← Nat.pow_add]; congr 1; omega, ← Nat.mul_assoc, Nat.mul_comm a, Nat.mul_assoc, Nat.mul_div_cancel_left _ (pow_pos' k), ← Nat.mul_assoc, Nat.mul_comm a, Nat.mul_assoc, Nat.mul_mod_right]
    rw [e]; rfl
  · have e : lb (a * B64 ^ 4) k = lb a (k - 4) := by
      rw [lb_nat, lb_nat, show B64 ^ k = B64 ^ 4 * B64 ^ (k - 4) by rw [← Nat.pow_add]; congr 1; omega, ← Nat.div_div_eq_div_mul, Nat.mul_div_cancel _ (pow_pos' 4)]
    rw [e]
    by_cases h8 : k < 8
    · rw [if_pos (by omega), show p.toNat = k - 4 by omega]
    · rw [if_neg (by omega), lb_high a _ ha (by omega)]
theorem num_down (a : Nat) (ha : a < MM) (s : Bool) (k : Nat) (hk : k < 8) : numI a (sgI s) (k : Int) = lb (a + MM * (if s then MM - 1 else 0)) k := by
  unfold numI
  by_cases h4 : k < 4
  · rw [if_pos (by omega), show ((k : Nat) : Int).toNat = k by omega]
    exact lb_congr (by rw [Nat.add_mul_mod_self_left]) k h4
  · rw [if_neg (by omega)]
    have e : lb (a + MM * (if s then MM - 1 else 0)) k = lb (if s then MM - 1 else 0) (k - 4) := by
      rw [lb_nat, lb_nat, show B64 ^ k = MM * B64 ^ (k - 4) by unfold MM; rw [← Nat.pow_add]; congr 1; omega, ← Nat.div_div_eq_div_mul, Nat.add_mul_div_left _ _ MM_pos, Nat.div_eq_of_lt ha, Nat.zero_add]
    rw [e]
    cases s
    · simp only [Bool.false_eq_true, if_false]; rw [lb_zero]; rfl
    · simp only [if_true]; rw [lb_all _ (by omega)]; rfl
theorem up_parts (a n : Nat) (ha : a < MM) (hn : n < 256) : ∃ q : Int, ∃ r : Nat, (-1) * (n : Int) = 64 * q + r ∧ (-4 ≤ q ∧ q ≤ 3) ∧ r < 64 ∧
    ∀ i : Nat, i < 4 → bits .or .u64 (numI a 0 (q + i) / 2 ^ r) (IntKind.u64.wrap (numI a 0 (q + i + 1) * 2 ^ (64 - r))) = lb (shlN n a) i := by
  refine ⟨((256 - n) / 64 : Nat) - 4, (256 - n) % 64, by omega, by omega, by omega, fun i hi => ?_⟩
  rw [num_up a ha ((256 - n) / 64 + i) _ (by omega), num_up a ha ((256 - n) / 64 + i + 1) _ (by omega), part_down]
  unfold shlN
  rw [if_pos hn, lb_mod _ i hi]
  have e : a * B64 ^ 4 / 2 ^ (256 - n) = a * 2 ^ n := by
    rw [B64_two, ← Nat.pow_mul, show 64 * 4 = n + (256 - n) by omega, Nat.pow_add, ← Nat.mul_assoc, Nat.mul_div_cancel _ (Nat.two_pow_pos _)]
  rw [e]
theorem down_parts (a n : Nat) (ha : a < MM) (hn : n < 256) (s : Bool) : ∃ q : Int, ∃ r : Nat, 1 * (n : Int) = 64 * q + r ∧ (-4 ≤ q ∧ q ≤ 3) ∧ r < 64 ∧
    ∀ i : Nat, i < 4 → bits .or .u64 (numI a (sgI s) (q + i) / 2 ^ r) (IntKind.u64.wrap (numI a (sgI s) (q + i + 1) * 2 ^ (64 - r))) = lb ((a + MM * (if s then MM - 1 else 0)) / 2 ^ n % MM) i := by
  refine ⟨(n / 64 : Nat), n % 64, by omega, by omega, by omega, fun i hi => ?_⟩
  rw [show ((n / 64 : Nat) : Int) + (i : Int) = ((n / 64 + i : Nat) : Int) by omega, show ((n / 64 + i : Nat) : Int) + 1 = ((n / 64 + i + 1 : Nat) : Int) by omega, num_down a ha s _ (by omega), num_down a ha s _ (by omega), part_down, lb_mod _ i hi]
end Go.Proofs.YtidpekcegocjfaaDoor
