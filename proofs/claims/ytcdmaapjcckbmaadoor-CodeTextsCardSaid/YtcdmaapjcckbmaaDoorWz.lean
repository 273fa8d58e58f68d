/- The reference of layer word: Order, by a contract. -/
import Derived.Test.YtcdmaapjcckbmaaDoorWw
import Derived.Deep.RegionHeld3
import Derived.Deep.QuietTactic
import Derived.BigQuiet
namespace Go.Proofs.YtcdmaapjcckbmaaDoor
open Go.RowKit
attribute [local go_sem] ix0 ix1 ix2 ix3
theorem cmpI_of {x y : Int} (h : x < y) : cmpI x y = -1 := by unfold cmpI; rw [if_pos h]
theorem cmp_at {a b : Nat} (ha : a < MM) (hb : b < MM) : ∀ i, i < 4 → (∀ j, i < j → j < 4 → lb a j = lb b j) → lb a i < lb b i → cmpN a b = -1
  | 0, _, h, g => by rw [← cmp_fu ha hb, fuN_0 (h 3 (by omega) (by omega)) (h 2 (by omega) (by omega)) (h 1 (by omega) (by omega)) (by omega), fuN_0 (h 3 (by omega) (by omega)).symm (h 2 (by omega) (by omega)).symm (h 1 (by omega) (by omega)).symm (by omega), cmpI_of g]
  | 1, _, h, g => by rw [← cmp_fu ha hb, fuN_1 (h 3 (by omega) (by omega)) (h 2 (by omega) (by omega)) (by omega), fuN_1 (h 3 (by omega) (by omega)).symm (h 2 (by omega) (by omega)).symm (by omega), cmpI_of g]
  | 2, _, h, g => by rw [← cmp_fu ha hb, fuN_2 (h 3 (by omega) (by omega)) (by omega), fuN_2 (h 3 (by omega) (by omega)).symm (by omega), cmpI_of g]
  | 3, _, _, g => by rw [← cmp_fu ha hb, fuN_3 (by omega), fuN_3 (by omega), cmpI_of g]

end Go.Proofs.YtcdmaapjcckbmaaDoor
