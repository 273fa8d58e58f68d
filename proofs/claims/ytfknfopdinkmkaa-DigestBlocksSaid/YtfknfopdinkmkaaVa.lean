/- The reference's Read, by a contract. -/
import Derived.Test.YtfknfopdinkmkaaWx
namespace Go.Proofs.Ytfknfopdinkmkaa
open Go.RowKit
attribute [local go_sem] ix0 ix1 ix2 ix3
theorem byA_num (f : Nat → Nat) : ∀ n q, (∀ k, k < n → f k < 256) → byA (numB f n) q = if q < n then f (n - 1 - q) else 0
  | 0, q, _ => by rw [if_neg (by omega)]; simp [numB, byA]
  | n + 1, 0, h => by
    have := h n (by omega)
    rw [if_pos (by omega), show n + 1 - 1 - 0 = n by omega]
    unfold numB byA
    rw [Nat.pow_zero, Nat.div_one]; omega
  | n + 1, q + 1, h => by
    have h1 := h n (by omega)
    have ih := byA_num f n q (fun k hk => h k (by omega))
    have e : byA (numB f (n + 1)) (q + 1) = byA (numB f n) q := by
      unfold byA
      rw [Nat.pow_succ', ← Nat.div_div_eq_div_mul, show numB f (n + 1) = numB f n * 256 + f n from rfl, show (numB f n * 256 + f n) / 256 = numB f n by omega]
    rw [e, ih]
    by_cases hq : q < n
    · rw [if_pos hq, if_pos (by omega), show n + 1 - 1 - (q + 1) = n - 1 - q by omega]
    · rw [if_neg hq, if_neg (by omega)]
/-- 32 cells: the first k of n bytes, at the end. -/
def rdC (f : Nat → Nat) (n k : Nat) : Array Value := ((List.range 32).map fun p => Value.int .u8 (if 32 - n ≤ p ∧ p < 32 - n + k then ((f (p + n - 32) : Nat) : Int) else 0)).toArray
theorem rdC_get (f : Nat → Nat) (n k p : Nat) (hp : p < 32) : (rdC f n k)[p]? = some (.int .u8 (if 32 - n ≤ p ∧ p < 32 - n + k then ((f (p + n - 32) : Nat) : Int) else 0)) := by
  unfold rdC; simp [hp]
theorem rdC_size (f : Nat → Nat) (n k : Nat) : (rdC f n k).size = 32 := by unfold rdC; simp
theorem rdC_zero (f : Nat → Nat) (n : Nat) : rdC f n 0 = byC 0 0 := by
  apply Array.ext_getElem?
  intro p
  by_cases hp : p < 32
  · rw [rdC_get _ _ _ _ hp, byC_get _ _ _ hp, if_neg (by omega), if_neg (by omega)]
  · rw [Array.getElem?_eq_none (by rw [rdC_size]; omega), Array.getElem?_eq_none (by rw [byC_size]; omega)]
theorem rdC_all (f : Nat → Nat) (n : Nat) (hn : n ≤ 32) (hf : ∀ k, k < n → f k < 256) : rdC f n n = byC (numB f n) 32 := by
  apply Array.ext_getElem?
  intro p
  by_cases hp : p < 32
  · rw [rdC_get _ _ _ _ hp, byC_get _ _ _ hp, if_pos (by omega : 31 - p < 32), byA_num f n _ hf]
    by_cases h : 32 - n ≤ p
    · rw [if_pos ⟨h, by omega⟩, if_pos (by omega), show n - 1 - (31 - p) = p + n - 32 by omega]
    · rw [if_neg (by omega), if_neg (by omega)]; rfl
  · rw [Array.getElem?_eq_none (by rw [rdC_size]; omega), Array.getElem?_eq_none (by rw [byC_size]; omega)]
theorem rdC_set (f : Nat → Nat) (n k : Nat) (hn : n ≤ 32) (hk : k < n) : (rdC f n k).setIfInBounds (32 - n + k) (.int .u8 (f k : Nat)) = rdC f n (k + 1) := by
  apply Array.ext_getElem?
  intro p
  by_cases hp : p < 32
  · rw [Array.getElem?_setIfInBounds, rdC_size, rdC_get _ _ _ _ hp, rdC_get _ _ _ _ hp]
    by_cases h : 32 - n + k = p
    · subst h
      rw [if_pos rfl, if_pos (by omega), if_pos (by omega), show 32 - n + k + n - 32 = k by omega]
    · rw [if_neg h]
      by_cases g : 32 - n ≤ p ∧ p < 32 - n + k
      · rw [if_pos g, if_pos (by omega)]
      · rw [if_neg g, if_neg (by omega)]
  · rw [Array.getElem?_eq_none (by rw [Array.size_setIfInBounds, rdC_size]; omega), Array.getElem?_eq_none (by rw [rdC_size]; omega)]

end Go.Proofs.Ytfknfopdinkmkaa
