/- bits: words bit by bit, in plain numbers. No program. -/
import Derived.Test.YtidpekcegocjfaaDoorPa
import Derived.Laws.Bits64
import Derived.Laws.Bits64b
namespace Go.Proofs.YtidpekcegocjfaaDoor

theorem B64_two : B64 = 2 ^ 64 := by unfold B64; decide
theorem MM_two256 : MM = 2 ^ 256 := by unfold MM; rw [B64_two, ← Nat.pow_mul]
theorem limb_bit (a i j : Nat) (hj : j < 64) : (a / B64 ^ i % B64).testBit j = a.testBit (64 * i + j) := by
  rw [B64_two, ← Nat.pow_mul, Nat.testBit_mod_two_pow, Nat.testBit_div_two_pow, Nat.add_comm j]; simp [hj]
theorem limb_bit_ge (a i j : Nat) (hj : ¬ j < 64) : (a / B64 ^ i % B64).testBit j = false := by
  rw [B64_two, ← Nat.pow_mul, Nat.testBit_mod_two_pow]; simp [hj]
theorem limb_lt (a i : Nat) : a / B64 ^ i % B64 < 18446744073709551616 := Nat.mod_lt _ B64_pos

theorem limb_and (a b i : Nat) : (a / B64 ^ i % B64) &&& (b / B64 ^ i % B64) = (a &&& b) / B64 ^ i % B64 := by
  apply Nat.eq_of_testBit_eq; intro j
  by_cases h : j < 64
  · simp only [Nat.testBit_and, limb_bit _ _ _ h]
  · simp only [Nat.testBit_and, limb_bit_ge _ _ _ h, Bool.false_and]
theorem limb_or (a b i : Nat) : (a / B64 ^ i % B64) ||| (b / B64 ^ i % B64) = (a ||| b) / B64 ^ i % B64 := by
  apply Nat.eq_of_testBit_eq; intro j
  by_cases h : j < 64
  · simp only [Nat.testBit_or, limb_bit _ _ _ h]
  · simp only [Nat.testBit_or, limb_bit_ge _ _ _ h, Bool.false_or]
theorem limb_xor (a b i : Nat) : (a / B64 ^ i % B64) ^^^ (b / B64 ^ i % B64) = (a ^^^ b) / B64 ^ i % B64 := by
  apply Nat.eq_of_testBit_eq; intro j
  by_cases h : j < 64
  · simp only [Nat.testBit_xor, limb_bit _ _ _ h]
  · simp only [Nat.testBit_xor, limb_bit_ge _ _ _ h, Bool.false_xor]
theorem lb_and (a b i : Nat) : bits .and .u64 (lb a i) (lb b i) = lb (a &&& b) i := by
  unfold lb; rw [bits_and_u64_nat _ _ (limb_lt _ _) (limb_lt _ _), limb_and]
theorem lb_or (a b i : Nat) : bits .or .u64 (lb a i) (lb b i) = lb (a ||| b) i := by
  unfold lb; rw [bits_or_u64_nat _ _ (limb_lt _ _) (limb_lt _ _), limb_or]
theorem lb_xor (a b i : Nat) : bits .xor .u64 (lb a i) (lb b i) = lb (a ^^^ b) i := by
  unfold lb; rw [bits_xor_u64_nat _ _ (limb_lt _ _) (limb_lt _ _), limb_xor]

/-- Words laid on a first one, one behind the other. -/
def foN (op : Nat → Nat → Nat) (a : Nat) (f : Nat → Nat) : Nat → Nat
  | 0 => a
  | k + 1 => op (foN op a f k) (f k)
/-- How many of the first k have bit j. -/
def cntN (f : Nat → Nat) (j : Nat) : Nat → Nat
  | 0 => 0
  | k + 1 => cntN f j k + (if (f k).testBit j then 1 else 0)
theorem cntN_le (f : Nat → Nat) (j k : Nat) : cntN f j k ≤ k := by
  induction k with
  | zero => exact Nat.le_refl _
  | succ k ih => rw [cntN]; split <;> omega

/-- The word of the bits below n for which f holds. -/
def upto (f : Nat → Bool) : Nat → Nat
  | 0 => 0
  | n + 1 => if f n then upto f n ||| 2 ^ n else upto f n
theorem testBit_upto (f : Nat → Bool) (n j : Nat) : (upto f n).testBit j = (decide (j < n) && f j) := by
  induction n with
  | zero => simp [upto]
  | succ n ih =>
    rw [upto]
    by_cases h : f n
    · rw [if_pos h, Nat.testBit_or, ih, Nat.testBit_two_pow]
      by_cases e : n = j
      · subst e; simp [h]
      · have e1 : decide (j < n + 1) = decide (j < n) := by rw [Bool.eq_iff_iff]; simp; omega
        simp [e, e1]
    · rw [if_neg h, ih]
      by_cases e : n = j
      · subst e; simp [h]
      · have e1 : decide (j < n + 1) = decide (j < n) := by rw [Bool.eq_iff_iff]; simp; omega
        rw [e1]
theorem upto_lt (f : Nat → Bool) (n : Nat) : upto f n < 2 ^ n := by
  induction n with
  | zero => simp [upto]
  | succ n ih =>
    have h1 : 2 ^ n < 2 ^ (n + 1) := Nat.pow_lt_pow_right (by omega) (by omega)
    rw [upto]
    split
    · exact Nat.or_lt_two_pow (by omega) h1
    · omega
theorem bit_high (x : Nat) (hx : x < MM) (j : Nat) (hj : 256 ≤ j) : x.testBit j = false :=
  Nat.testBit_lt_two_pow (Nat.lt_of_lt_of_le (by rw [← MM_two256]; exact hx) (Nat.pow_le_pow_right (by omega) hj))
/-- A word is told by its 256 bits. -/
theorem upto_eq (f : Nat → Bool) (x : Nat) (hx : x < MM) (h : ∀ j, j < 256 → f j = x.testBit j) : upto f 256 = x := by
  apply Nat.eq_of_testBit_eq; intro j
  rw [testBit_upto]
  by_cases e : j < 256
  · simp [e, h j e]
  · rw [bit_high x hx j (by omega)]; simp [e]
theorem word_eq (x y : Nat) (hx : x < MM) (hy : y < MM) (h : ∀ j, j < 256 → x.testBit j = y.testBit j) : x = y := by
  apply Nat.eq_of_testBit_eq; intro j
  by_cases e : j < 256
  · exact h j e
  · rw [bit_high x hx j (by omega), bit_high y hy j (by omega)]
theorem bit_mod (x j : Nat) (hj : j < 256) : (x % MM).testBit j = x.testBit j := by rw [MM_two256, Nat.testBit_mod_two_pow]; simp [hj]
/-- A bit, as the reference asks for it. -/
theorem bit_ref (a p : Nat) : (a / 2 ^ p % 2 == 1) = a.testBit p := by
  rw [Nat.testBit_eq_decide_div_mod_eq]; rw [Bool.eq_iff_iff]; simp
/-- A word's numbers once a bit has been laid into it. -/
theorem limb_with (a p i : Nat) : (a ||| 2 ^ p) / B64 ^ i % B64 = if p / 64 = i then a / B64 ^ i % B64 ||| 2 ^ (p % 64) else a / B64 ^ i % B64 := by
  apply Nat.eq_of_testBit_eq; intro j
  by_cases h : j < 64
  · rw [limb_bit _ _ _ h, Nat.testBit_or, Nat.testBit_two_pow]
    split
    · rename_i e
      rw [Nat.testBit_or, limb_bit _ _ _ h, Nat.testBit_two_pow]
      congr 1; rw [Bool.eq_iff_iff]; simp; omega
    · rename_i e
      rw [limb_bit _ _ _ h]
      have : ¬ p = 64 * i + j := by omega
      simp [this]
  · rw [limb_bit_ge _ _ _ h]
    split
    · rw [Nat.testBit_or, limb_bit_ge _ _ _ h, Nat.testBit_two_pow]
      have : ¬ p % 64 = j := by omega
      simp [this]
    · rw [limb_bit_ge _ _ _ h]
/-- A word's numbers once it is moved down by p. -/
theorem limb_down (A p i : Nat) : (A / B64 ^ (p / 64 + i) % B64) / 2 ^ (p % 64) ||| (A / B64 ^ (p / 64 + i + 1) % B64) * 2 ^ (64 - p % 64) % B64 = (A / 2 ^ p) / B64 ^ i % B64 := by
  have x1 := fun k (hk : k < 64) => limb_bit A (p / 64 + i) k hk
  have x2 := fun k (hk : ¬ k < 64) => limb_bit_ge A (p / 64 + i) k hk
  have y1 := fun k (hk : k < 64) => limb_bit A (p / 64 + i + 1) k hk
  generalize A / B64 ^ (p / 64 + i) % B64 = x at *
  generalize A / B64 ^ (p / 64 + i + 1) % B64 = y at *
  apply Nat.eq_of_testBit_eq; intro j
  by_cases h : j < 64
  · rw [limb_bit _ _ _ h, Nat.testBit_or, Nat.testBit_div_two_pow, Nat.testBit_div_two_pow, B64_two, Nat.testBit_mod_two_pow, Nat.testBit_mul_two_pow]
    by_cases e : j + p % 64 < 64
    · rw [x1 _ e]
      have e2 : ¬ 64 - p % 64 ≤ j := by omega
      have e3 : 64 * (p / 64 + i) + (j + p % 64) = 64 * i + j + p := by omega
      simp [e2, e3]
    · rw [x2 _ e, y1 _ (by omega)]
      have e2 : 64 - p % 64 ≤ j := by omega
      have e3 : 64 * (p / 64 + i + 1) + (j - (64 - p % 64)) = 64 * i + j + p := by omega
      simp [e2, e3, h]
  · rw [limb_bit_ge _ _ _ h, Nat.testBit_or, Nat.testBit_div_two_pow, x2 _ (by omega), B64_two, Nat.testBit_mod_two_pow]
    simp [h]

theorem foN_and (a : Nat) (f : Nat → Nat) (j k : Nat) : (foN (· &&& ·) a f k).testBit j = (a.testBit j && (cntN f j k == k)) := by
  induction k with
  | zero => simp [foN, cntN]
  | succ k ih =>
    have hle := cntN_le f j k
    rw [foN, Nat.testBit_and, ih, cntN]
    by_cases h : (f k).testBit j
    · simp [h]
    · simp only [h]
      have : (cntN f j k + 0 == k + 1) = false := by simp; omega
      simp only [Bool.false_eq_true, if_false, this]; simp
theorem foN_or (a : Nat) (f : Nat → Nat) (j k : Nat) : (foN (· ||| ·) a f k).testBit j = (a.testBit j || decide (0 < cntN f j k)) := by
  induction k with
  | zero => simp [foN, cntN]
  | succ k ih =>
    rw [foN, Nat.testBit_or, ih, cntN]
    by_cases h : (f k).testBit j
    · simp [h]
    · simp [h]
theorem foN_xor (a : Nat) (f : Nat → Nat) (j k : Nat) : (foN (· ^^^ ·) a f k).testBit j = (a.testBit j ^^ (cntN f j k % 2 == 1)) := by
  induction k with
  | zero => simp [foN, cntN]
  | succ k ih =>
    rw [foN, Nat.testBit_xor, ih, cntN]
    by_cases h : (f k).testBit j
    · simp only [h, if_true]
      have : ((cntN f j k + 1) % 2 == 1) = !(cntN f j k % 2 == 1) := by
        rw [Bool.eq_iff_iff]; simp; omega
      rw [this]
      cases a.testBit j <;> cases (cntN f j k % 2 == 1) <;> rfl
    · simp [h]
/-- All bits. -/
theorem all_bit (j : Nat) (hj : j < 256) : (MM - 1).testBit j = true := by rw [MM_two256, Nat.testBit_two_pow_sub_one]; simp [hj]
theorem lb_all (i : Nat) (hi : i < 4) : lb (MM - 1) i = 18446744073709551615 := by
  unfold lb
  have : (MM - 1) / B64 ^ i % B64 = 2 ^ 64 - 1 := by
    apply Nat.eq_of_testBit_eq; intro j
    rw [Nat.testBit_two_pow_sub_one]
    by_cases h : j < 64
    · rw [limb_bit _ _ _ h, all_bit _ (by omega)]; simp [h]
    · rw [limb_bit_ge _ _ _ h]; simp [h]
  rw [this]; decide
/-- Words are as numbers modulo 2^256. -/
theorem foN_lt (op : Nat → Nat → Nat) (hop : ∀ x y, x < MM → y < MM → op x y < MM) (a : Nat) (ha : a < MM) (f : Nat → Nat) (k : Nat) (hf : ∀ i, i < k → f i < MM) : foN op a f k < MM := by
  induction k with
  | zero => exact ha
  | succ k ih => exact hop _ _ (ih (fun i hi => hf i (by omega))) (hf k (by omega))
theorem and_lt (x y : Nat) (hx : x < MM) (_ : y < MM) : x &&& y < MM := Nat.lt_of_le_of_lt Nat.and_le_left hx
theorem or_lt (x y : Nat) (hx : x < MM) (hy : y < MM) : x ||| y < MM := by rw [MM_two256] at *; exact Nat.or_lt_two_pow hx hy
theorem xor_lt (x y : Nat) (hx : x < MM) (hy : y < MM) : x ^^^ y < MM := by rw [MM_two256] at *; exact Nat.xor_lt_two_pow hx hy
end Go.Proofs.YtidpekcegocjfaaDoor
