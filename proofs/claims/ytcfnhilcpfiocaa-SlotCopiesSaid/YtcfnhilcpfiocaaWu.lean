/- The reference of layer word: Add, the cells of the loop (the walk is not written yet). -/
import Derived.Test.YtcfnhilcpfiocaaWt
namespace Go.Proofs.Ytcfnhilcpfiocaa
open Go.RowKit

/-- 32 cells: the lowest k bytes of the sum, above them a's. -/
def adW (a b k : Nat) : Array Value := ((List.range 32).map fun p => Value.int .u8 (if 31 - p < k then ((byA (a + b) (31 - p) : Nat) : Int) else ((byA a (31 - p) : Nat) : Int))).toArray
theorem adW_get (a b k p : Nat) (hp : p < 32) : (adW a b k)[p]? = some (.int .u8 (if 31 - p < k then ((byA (a + b) (31 - p) : Nat) : Int) else ((byA a (31 - p) : Nat) : Int))) := by
  unfold adW; simp [hp]
theorem adW_size (a b k : Nat) : (adW a b k).size = 32 := by unfold adW; simp
theorem adW_zero (a b : Nat) : adW a b 0 = byC a 32 := by
  apply Array.ext_getElem?
  intro p
  by_cases hp : p < 32
  · rw [adW_get _ _ _ _ hp, byC_get _ _ _ hp, if_neg (by omega), if_pos (by omega)]
  · rw [Array.getElem?_eq_none (by rw [adW_size]; omega), Array.getElem?_eq_none (by rw [byC_size]; omega)]
theorem adW_all (a b : Nat) : adW a b 32 = byC (a + b) 32 := by
  apply Array.ext_getElem?
  intro p
  by_cases hp : p < 32
  · rw [adW_get _ _ _ _ hp, byC_get _ _ _ hp, if_pos (by omega), if_pos (by omega)]
  · rw [Array.getElem?_eq_none (by rw [adW_size]; omega), Array.getElem?_eq_none (by rw [byC_size]; omega)]
theorem adW_set (a b k : Nat) (hk : k < 32) : (adW a b k).setIfInBounds (31 - k) (.int .u8 (byA (a + b) k : Nat)) = adW a b (k + 1) := by
  apply Array.ext_getElem?
  intro p
  by_cases hp : p < 32
  · rw [Array.getElem?_setIfInBounds, adW_size, adW_get _ _ _ _ hp, adW_get _ _ _ _ hp]
    by_cases h : 31 - k = p
    · subst h
      rw [if_pos rfl, if_pos (by omega), if_pos (by omega), show 31 - (31 - k) = k from by omega]
    · rw [if_neg h]
      by_cases g : 31 - p < k
      · rw [if_pos g, if_pos (by omega)]
      · rw [if_neg g, if_neg (by omega)]
  · rw [Array.getElem?_eq_none (by rw [Array.size_setIfInBounds, adW_size]; omega), Array.getElem?_eq_none (by rw [adW_size]; omega)]

end Go.Proofs.Ytcfnhilcpfiocaa
