/- The reference of layer word: Add, the cells of the loop (the walk is not written yet). -/
import Derived.Test.YtfknfopdinkmkaaWt
namespace Go.Proofs.Ytfknfopdinkmkaa
open Go.RowKit

/-- 32 cells: the lowest k bytes of the sum, above them a's. -/
def adC (a b k : Nat) : Array Value := ((List.range 32).map fun p => Value.int .u8 (if 31 - p < k then ((byA (a + b) (31 - p) : Nat) : Int) else ((byA a (31 - p) : Nat) : Int))).toArray
theorem adC_get (a b k p : Nat) (hp : p < 32) : (adC a b k)[p]? = some (.int .u8 (if 31 - p < k then ((byA (a + b) (31 - p) : Nat) : Int) else ((byA a (31 - p) : Nat) : Int))) := by
  unfold adC; simp [hp]
theorem adC_size (a b k : Nat) : (adC a b k).size = 32 := by unfold adC; simp
theorem adC_zero (a b : Nat) : adC a b 0 = byC a 32 := by
  apply Array.ext_getElem?
  intro p
  by_cases hp : p < 32
  · rw [adC_get _ _ _ _ hp, byC_get _ _ _ hp, if_neg (by omega), if_pos (by omega)]
  · rw [Array.getElem?_eq_none (by rw [adC_size]; omega), Array.getElem?_eq_none (by rw [byC_size]; omega)]
theorem adC_all (a b : Nat) : adC a b 32 = byC (a + b) 32 := by
  apply Array.ext_getElem?
  intro p
  by_cases hp : p < 32
  · rw [adC_get _ _ _ _ hp, byC_get _ _ _ hp, if_pos (by omega), if_pos (by omega)]
  · rw [Array.getElem?_eq_none (by rw [adC_size]; omega), Array.getElem?_eq_none (by rw [byC_size]; omega)]
theorem adC_set (a b k : Nat) (hk : k < 32) : (adC a b k).setIfInBounds (31 - k) (.int .u8 (byA (a + b) k : Nat)) = adC a b (k + 1) := by
  apply Array.ext_getElem?
  intro p
  by_cases hp : p < 32
  · rw [Array.getElem?_setIfInBounds, adC_size, adC_get _ _ _ _ hp, adC_get _ _ _ _ hp]
    by_cases h : 31 - k = p
    · subst h
      rw [if_pos rfl, if_pos (by omega), if_pos (by omega), show 31 - (31 - k) = k from by omega]
    · rw [if_neg h]
      by_cases g : 31 - p < k
      · rw [if_pos g, if_pos (by omega)]
      · rw [if_neg g, if_neg (by omega)]
  · rw [Array.getElem?_eq_none (by rw [Array.size_setIfInBounds, adC_size]; omega), Array.getElem?_eq_none (by rw [adC_size]; omega)]

end Go.Proofs.Ytfknfopdinkmkaa
