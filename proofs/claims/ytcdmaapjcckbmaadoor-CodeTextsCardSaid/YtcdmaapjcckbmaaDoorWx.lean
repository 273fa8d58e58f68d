/- The reference of layer word: Mul, by a contract. -/
import Derived.Test.YtcdmaapjcckbmaaDoorWw
import Derived.Deep.QuietTactic
import Derived.BigQuiet
namespace Go.Proofs.YtcdmaapjcckbmaaDoor
open Go.RowKit
attribute [local go_sem] ix0 ix1 ix2 ix3
/-! One row of the product: S + 256^i * (d * b), byte by byte. -/
def cyM (S d b i k : Nat) : Nat := (S % 256 ^ (i + k) + 256 ^ i * (d * (b % 256 ^ k))) / 256 ^ (i + k)
theorem cyM_zero (S d b i : Nat) : cyM S d b i 0 = 0 := by
  unfold cyM
  rw [Nat.pow_zero, Nat.mod_one, Nat.mul_zero, Nat.mul_zero, Nat.add_zero, Nat.add_zero]
  exact Nat.div_eq_of_lt (Nat.mod_lt _ (p256_pos i))
theorem mul_mid (Q d x y : Nat) : Q * (d * (x + y)) = Q * (d * x) + Q * (d * y) := by rw [Nat.mul_add, Nat.mul_add]
theorem row_next (S d b i k : Nat) : S % 256 ^ (i + (k + 1)) + 256 ^ i * (d * (b % 256 ^ (k + 1))) = (S % 256 ^ (i + k) + 256 ^ i * (d * (b % 256 ^ k))) + 256 ^ (i + k) * (byA S (i + k) + d * byA b k) := by
  unfold byA
  rw [← Nat.add_assoc i k 1, mod_succ256 S (i + k), mod_succ256 b k, mul_mid, Nat.mul_add (256 ^ (i + k))]
  have e : 256 ^ i * (d * (256 ^ k * (b / 256 ^ k % 256))) = 256 ^ (i + k) * (d * (b / 256 ^ k % 256)) := by
    rw [Nat.pow_add, Nat.mul_assoc, Nat.mul_left_comm d]
  rw [e]; omega
theorem cyM_succ (S d b i k : Nat) : (cyM S d b i k + byA S (i + k) + d * byA b k) / 256 = cyM S d b i (k + 1) := by
  unfold cyM
  rw [row_next, ← Nat.add_assoc i k 1, Nat.pow_succ 256 (i + k), ← Nat.div_div_eq_div_mul, Nat.add_mul_div_left _ _ (p256_pos _), Nat.add_assoc]
theorem byA_row (S d b i k : Nat) : (cyM S d b i k + byA S (i + k) + d * byA b k) % 256 = byA (S + 256 ^ i * (d * b)) (i + k) := by
  have hS := Nat.div_add_mod S (256 ^ (i + (k + 1)))
  have hb := Nat.div_add_mod b (256 ^ (k + 1))
  generalize S / 256 ^ (i + (k + 1)) = q at hS
  generalize b / 256 ^ (k + 1) = q2 at hb
  have e : S + 256 ^ i * (d * b) = (S % 256 ^ (i + k) + 256 ^ i * (d * (b % 256 ^ k))) + 256 ^ (i + k) * (byA S (i + k) + d * byA b k + 256 * (q + d * q2)) := by
    have h1 := row_next S d b i k
    have h2 : 256 ^ i * (d * b) = 256 ^ i * (d * (b % 256 ^ (k + 1))) + 256 ^ (i + k) * (256 * (d * q2)) := by
      conv => lhs; rw [← hb]
      rw [Nat.add_comm, mul_mid]
      congr 1
      rw [Nat.pow_succ, Nat.pow_add, Nat.mul_assoc (256 ^ k), Nat.mul_left_comm d, Nat.mul_left_comm d, Nat.mul_assoc]
    have h3 : 256 ^ (i + (k + 1)) * q = 256 ^ (i + k) * (256 * q) := by
      rw [← Nat.add_assoc, Nat.pow_succ, Nat.mul_assoc]
    have h4 := Nat.mul_add (256 ^ (i + k)) (byA S (i + k) + d * byA b k) (256 * (q + d * q2))
    have h5 : 256 ^ (i + k) * (256 * (q + d * q2)) = 256 ^ (i + k) * (256 * q) + 256 ^ (i + k) * (256 * (d * q2)) := by rw [Nat.mul_add 256, Nat.mul_add]
    rw [h4, h5, h2]
    omega
  unfold byA cyM at *
  rw [e, Nat.add_mul_div_left _ _ (p256_pos _)]
  omega
theorem cyM_lt (S d b i k : Nat) (hd : d < 256) : cyM S d b i k < 256 := by
  unfold cyM
  apply Nat.div_lt_of_lt_mul
  have h1 := Nat.mod_lt S (p256_pos (i + k))
  have h2 := Nat.mod_lt b (p256_pos k)
  have h3 : d * (b % 256 ^ k) ≤ 255 * 256 ^ k := Nat.mul_le_mul (by omega) (by omega)
  have h4 : 256 ^ i * (d * (b % 256 ^ k)) ≤ 256 ^ i * (255 * 256 ^ k) := Nat.mul_le_mul_left _ h3
  have h5 : 256 ^ i * (255 * 256 ^ k) = 255 * 256 ^ (i + k) := by rw [Nat.mul_left_comm, ← Nat.pow_add]
  omega
/-- The bytes below the row's place stay. -/
theorem byA_low (S T i q : Nat) (hq : q < i) : byA (S + 256 ^ i * T) q = byA S q := by
  unfold byA
  have e : 256 ^ i * T = 256 ^ q * (256 * (256 ^ (i - q - 1) * T)) := by
    rw [← Nat.mul_assoc, ← Nat.mul_assoc, ← Nat.pow_succ, ← Nat.pow_add]; congr 2; omega
  rw [e, Nat.add_mul_div_left _ _ (p256_pos _)]; omega
theorem adW_low (S T i : Nat) : adW S (256 ^ i * T) i = byC S 32 := by
  apply Array.ext_getElem?
  intro p
  by_cases hp : p < 32
  · rw [adW_get _ _ _ _ hp, byC_get _ _ _ hp, if_pos (by omega : 31 - p < 32)]
    by_cases h : 31 - p < i
    · rw [if_pos h, byA_low _ _ _ _ h]
    · rw [if_neg h]
  · rw [Array.getElem?_eq_none (by rw [adW_size]; omega), Array.getElem?_eq_none (by rw [byC_size]; omega)]
/-- The rows: what a's low bytes come to. -/
theorem rows_next (a b i : Nat) : a % 256 ^ i * b + 256 ^ i * (byA a i * b) = a % 256 ^ (i + 1) * b := by
  unfold byA
  rw [mod_succ256, Nat.add_mul, Nat.mul_assoc]
theorem rows_all (a b : Nat) : a % 256 ^ 32 * b % MM = a * b % MM := by
  rw [← MM_256, Nat.mod_mul_mod]
theorem byC_nought : byC 0 32 = byC 0 0 := by
  apply Array.ext_getElem?
  intro p
  by_cases hp : p < 32
  · rw [byC_get _ _ _ hp, byC_get _ _ _ hp, if_neg (by omega : ¬ 31 - p < 0)]
    split <;> simp [byA]
  · rw [Array.getElem?_eq_none (by rw [byC_size]; omega), Array.getElem?_eq_none (by rw [byC_size]; omega)]
theorem byA_mod (a k : Nat) (h : k < 32) : byA (a % MM) k = byA a k := by
  unfold byA
  have e : MM = 256 ^ k * (256 * 256 ^ (31 - k)) := by
    rw [MM_256, ← Nat.mul_assoc, ← Nat.pow_succ, ← Nat.pow_add]; congr 1; omega
  rw [e, Nat.mod_mul_right_div_self, Nat.mod_mul_right_mod]
theorem byC_congr {a b : Nat} (h : a % MM = b % MM) : byC a 32 = byC b 32 := by
  apply Array.ext_getElem?
  intro p
  by_cases hp : p < 32
  · rw [byC_get _ _ _ hp, byC_get _ _ _ hp, ← byA_mod a _ (by omega), ← byA_mod b _ (by omega), h]
  · rw [Array.getElem?_eq_none (by rw [byC_size]; omega), Array.getElem?_eq_none (by rw [byC_size]; omega)]

end Go.Proofs.YtcdmaapjcckbmaaDoor
