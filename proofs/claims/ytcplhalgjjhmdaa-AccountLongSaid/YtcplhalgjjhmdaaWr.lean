/- The reference's words, in plain numbers: sums byte by byte, all bits turned. -/
import Derived.Test.YtcplhalgjjhmdaaWmath
namespace Go.Proofs.Ytcplhalgjjhmdaa

/-- The carry of the byte sum ahead of byte k. -/
def cyB (a b k : Nat) : Nat := (a % 256 ^ k + b % 256 ^ k) / 256 ^ k
theorem p256_pos (k : Nat) : 0 < 256 ^ k := Nat.pow_pos (by omega)
theorem cyB_zero (a b : Nat) : cyB a b 0 = 0 := by simp [cyB, Nat.mod_one]
theorem cyB_le (a b k : Nat) : cyB a b k ≤ 1 := by
  have ha := Nat.mod_lt a (p256_pos k)
  have hb := Nat.mod_lt b (p256_pos k)
  have : cyB a b k < 2 := Nat.div_lt_of_lt_mul (by omega)
  omega
theorem byA_add (a b k : Nat) : (cyB a b k + byA a k + byA b k) % 256 = byA (a + b) k := by
  unfold byA cyB
  rw [add_div_split a b _ (p256_pos k), show (a % 256 ^ k + b % 256 ^ k) / 256 ^ k + a / 256 ^ k % 256 + b / 256 ^ k % 256 = a / 256 ^ k % 256 + b / 256 ^ k % 256 + (a % 256 ^ k + b % 256 ^ k) / 256 ^ k by omega]
  omega
theorem mod_succ256 (a k : Nat) : a % 256 ^ (k + 1) = a % 256 ^ k + 256 ^ k * (a / 256 ^ k % 256) := by
  rw [Nat.pow_succ, Nat.mod_mul]
theorem cyB_succ (a b k : Nat) : (cyB a b k + byA a k + byA b k) / 256 = cyB a b (k + 1) := by
  unfold byA cyB
  rw [mod_succ256 a k, mod_succ256 b k, Nat.pow_succ, ← Nat.div_div_eq_div_mul]
  have e : a % 256 ^ k + 256 ^ k * (a / 256 ^ k % 256) + (b % 256 ^ k + 256 ^ k * (b / 256 ^ k % 256)) = (a % 256 ^ k + b % 256 ^ k) + 256 ^ k * (a / 256 ^ k % 256 + b / 256 ^ k % 256) := by rw [Nat.mul_add]; omega
  rw [e, Nat.add_mul_div_left _ _ (p256_pos k)]
  congr 1; omega

/-- All bits turned. -/
def ntN (b : Nat) : Nat := MM - 1 - b % MM
theorem ntN_vl (b : Nat) : ntN b = vl (18446744073709551615 - b % MM / B64 ^ 0 % B64) (18446744073709551615 - b % MM / B64 ^ 1 % B64) (18446744073709551615 - b % MM / B64 ^ 2 % B64) (18446744073709551615 - b % MM / B64 ^ 3 % B64) := by
  have h := vl_lb (b % MM) (Nat.mod_lt _ MM_pos)
  have h0 := Nat.mod_lt (b % MM / B64 ^ 0) B64_pos
  have h1 := Nat.mod_lt (b % MM / B64 ^ 1) B64_pos
  have h2 := Nat.mod_lt (b % MM / B64 ^ 2) B64_pos
  have h3 := Nat.mod_lt (b % MM / B64 ^ 3) B64_pos
  generalize b % MM / B64 ^ 0 % B64 = x0 at *
  generalize b % MM / B64 ^ 1 % B64 = x1 at *
  generalize b % MM / B64 ^ 2 % B64 = x2 at *
  generalize b % MM / B64 ^ 3 % B64 = x3 at *
  unfold ntN
  rw [← h, MM_eq]
  unfold vl at *
  unfold B64 at *
  omega
theorem lb_not (b i : Nat) (hi : i < 4) : lb (ntN b) i = 18446744073709551615 - lb b i := by
  have e := ntN_vl b
  have s : ∀ j, 18446744073709551615 - b % MM / B64 ^ j % B64 < B64 := fun j => by unfold B64; omega
  have g : ∀ j, j < 4 → ((18446744073709551615 - b % MM / B64 ^ j % B64 : Nat) : Int) = 18446744073709551615 - lb b j := fun j hj => by
    have h1 : lb (b % MM) j = lb b j := lb_mod b j hj
    have h2 : b % MM / B64 ^ j % B64 < B64 := Nat.mod_lt _ B64_pos
    rw [← h1]; unfold lb
    unfold B64 at h2 ⊢
    omega
  rw [e]
  match i, hi with
  | 0, _ => rw [vl_0 _ _ _ (s 0)]; exact g 0 (by omega)
  | 1, _ => rw [vl_1 _ _ (s 0) (s 1)]; exact g 1 (by omega)
  | 2, _ => rw [vl_2 _ (s 0) (s 1) (s 2)]; exact g 2 (by omega)
  | 3, _ => rw [vl_3 (s 0) (s 1) (s 2) (s 3)]; exact g 3 (by omega)
/-- The difference by turning and one more. -/
theorem sb_nt (a b : Nat) : a + ntN b + 1 = sb a b := by
  have := Nat.mod_lt b MM_pos
  unfold ntN sb; omega
end Go.Proofs.Ytcplhalgjjhmdaa
