/- bits: what follows (BitsHolds), in plain numbers. -/
import Derived.Test.YthjbiojbmjgkbaaDoorDa
namespace Go.Proofs.YthjbiojbmjgkbaaDoor

theorem bit_shl (n a j : Nat) (hj : j < 256) : (shlN n a).testBit j = (decide (n ≤ j) && a.testBit (j - n)) := by
  unfold shlN
  by_cases h : n < 256
  · rw [if_pos h, bit_mod _ _ hj, Nat.testBit_mul_two_pow]
  · rw [if_neg h, Nat.zero_testBit]; have : ¬ n ≤ j := by omega
    simp [this]
theorem bit_shr (n a j : Nat) (ha : a < MM) : (shrN n a).testBit j = a.testBit (j + n) := by
  unfold shrN
  by_cases h : n < 256
  · rw [if_pos h, Nat.testBit_div_two_pow]
  · rw [if_neg h, Nat.zero_testBit, bit_high a ha _ (by omega)]
theorem bit_sar (n a j : Nat) (hj : j < 256) (ha : a < MM) : (sarN n a).testBit j = a.testBit (min (j + n) 255) := by
  unfold sarN sgN
  by_cases h : n < 256
  · rw [if_pos h, bit_mod _ _ hj, Nat.testBit_div_two_pow, bit_tall _ _ ha _ (by omega), ng_bit]
    by_cases h2 : j + n < 256
    · rw [if_pos h2]; congr 1; omega
    · rw [if_neg h2]; congr 1; omega
  · rw [if_neg h, show min (j + n) 255 = 255 by omega, ← ng_bit]
    cases ngN a
    · simp
    · rw [if_pos rfl, all_bit j hj]
theorem shl_shl (x y a : Nat) : shlN y (shlN x a) = shlN (x + y) a := by
  refine word_eq _ _ (shl_lt _ _) (shl_lt _ _) (fun j hj => ?_)
  rw [bit_shl _ _ _ hj, bit_shl _ _ _ hj]
  by_cases h : y ≤ j
  · rw [bit_shl _ _ _ (by omega)]
    by_cases h2 : x + y ≤ j
    · have h3 : x ≤ j - y := by omega
      simp only [h, h2, h3, decide_true, Bool.true_and]
      congr 1; omega
    · have h3 : ¬ x ≤ j - y := by omega
      simp [h2, h3]
  · have h2 : ¬ x + y ≤ j := by omega
    simp [h, h2]
theorem shr_shr (x y a : Nat) (ha : a < MM) : shrN y (shrN x a) = shrN (x + y) a := by
  refine word_eq _ _ (shr_lt _ _ (shr_lt _ _ ha)) (shr_lt _ _ ha) (fun j _ => ?_)
  rw [bit_shr _ _ _ (shr_lt _ _ ha), bit_shr _ _ _ ha, bit_shr _ _ _ ha]
  congr 1; omega
theorem sar_sar (x y a : Nat) (ha : a < MM) : sarN y (sarN x a) = sarN (x + y) a := by
  refine word_eq _ _ (sar_lt _ _) (sar_lt _ _) (fun j hj => ?_)
  rw [bit_sar _ _ _ hj (sar_lt _ _), bit_sar _ _ _ (by omega) ha, bit_sar _ _ _ hj ha]
  congr 1; omega
theorem not_and (a b : Nat) (ha : a < MM) (hb : b < MM) : (a &&& b) ^^^ (MM - 1) = (a ^^^ (MM - 1)) ||| (b ^^^ (MM - 1)) := by
  have hm : MM - 1 < MM := by have := MM_pos; omega
  refine word_eq _ _ (xor_lt _ _ (and_lt _ _ ha hb) hm) (or_lt _ _ (xor_lt _ _ ha hm) (xor_lt _ _ hb hm)) (fun j hj => ?_)
  rw [Nat.testBit_xor, Nat.testBit_or, Nat.testBit_xor, Nat.testBit_xor, Nat.testBit_and, all_bit j hj]
  cases a.testBit j <;> cases b.testBit j <;> rfl
theorem bit_ext (n a j : Nat) (hj : j < 256) (h : n < 31) : (extN n a).testBit j = a.testBit (min j (8 * n + 7)) := by
  rw [← extF_eq n a h, testBit_upto]; simp [hj, extF]
theorem ext_ext (n a : Nat) (ha : a < MM) : extN n (extN n a) = extN n a := by
  by_cases h : n < 31
  · refine word_eq _ _ (ext_lt _ _ (ext_lt _ _ ha)) (ext_lt _ _ ha) (fun j hj => ?_)
    rw [bit_ext _ _ _ hj h, bit_ext _ _ _ (by omega) h, bit_ext _ _ _ hj h]
    congr 1; omega
  · unfold extN; rw [if_neg h]
theorem xor_xor (a b : Nat) : (a ^^^ b) ^^^ b = a := by rw [Nat.xor_assoc, Nat.xor_self, Nat.xor_zero]
theorem shl_one (x : Nat) (hx : x < 256) : shlN x 1 = 2 ^ x := by
  unfold shlN; rw [if_pos hx, Nat.one_mul, Nat.mod_eq_of_lt (by rw [MM_two256]; exact Nat.pow_lt_pow_right (by omega) hx)]
theorem W_mod (m n : Nat) (h : m % MM = n % MM) : W m = W n := by
  unfold W; rw [lb_congr h 0 (by omega), lb_congr h 1 (by omega), lb_congr h 2 (by omega), lb_congr h 3 (by omega)]
theorem shl_mul (x a : Nat) (hx : x < 256) : W (a * shlN x 1) = W (shlN x a) := by
  rw [shl_one x hx]
  refine W_mod _ _ ?_
  unfold shlN; rw [if_pos hx, Nat.mod_mod]
theorem shr_div (x a : Nat) (hx : x < 256) : a / shlN x 1 = shrN x a := by
  rw [shl_one x hx]; unfold shrN; rw [if_pos hx]
end Go.Proofs.YthjbiojbmjgkbaaDoor
