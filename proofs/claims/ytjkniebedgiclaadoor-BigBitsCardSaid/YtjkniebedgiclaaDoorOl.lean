/- big: works. -/
import Derived.Test.YtjkniebedgiclaaDoorOk
namespace Go.Proofs.YtjkniebedgiclaaDoor
open Go.RowKit Go.Shelf
set_option maxHeartbeats 200000

theorem tx_a : toS (tb (pwV [3] [5] [7]) 1) = ⟨#[5]⟩ := by rw [show tb (pwV [3] [5] [7]) 1 = [5] by decide]; rfl
theorem tx_b : toS (tb (pwV [2] [0] [1]) 1) = ⟨#[0]⟩ := by rw [show tb (pwV [2] [0] [1]) 1 = [0] by decide]; rfl
theorem tx_d : toS (tb (pwV [2] [9] [1, 0]) 2) = ⟨#[0, 0]⟩ := by rw [show tb (pwV [2] [9] [1, 0]) 2 = [0, 0] by decide]; rfl
theorem row_a (w : World) :
    Calls Tryd.prog 20 #[.slice (some ⟨w.heap.size, 0, none⟩) 1 1, .slice (some ⟨w.heap.size + 1, 0, none⟩) 1 1, .slice (some ⟨w.heap.size + 1 + 1, 0, none⟩) 1 1]
      (((w.alloc (.cells #[.int .u8 3] 5)).alloc (.cells #[.int .u8 5] 5)).alloc (.cells #[.int .u8 7] 5)) fun e w' => e = .returned (.tuple #[.string ⟨#[5]⟩, .bool true]) ∧ Below w.heap.size w w' := by
  have h := row_111 w 3 5 7 (by omega) (by omega) (by omega)
  rw [tx_a] at h
  exact h
theorem row_b (w : World) :
    Calls Tryd.prog 20 #[.slice (some ⟨w.heap.size, 0, none⟩) 1 1, .slice (some ⟨w.heap.size + 1, 0, none⟩) 1 1, .slice (some ⟨w.heap.size + 1 + 1, 0, none⟩) 1 1]
      (((w.alloc (.cells #[.int .u8 2] 5)).alloc (.cells #[.int .u8 0] 5)).alloc (.cells #[.int .u8 1] 5)) fun e w' => e = .returned (.tuple #[.string ⟨#[0]⟩, .bool true]) ∧ Below w.heap.size w w' := by
  have h := row_111 w 2 0 1 (by omega) (by omega) (by omega)
  rw [tx_b] at h
  exact h
theorem row_c (w : World) :
    Calls Tryd.prog 20 #[.slice (some ⟨w.heap.size, 0, none⟩) 1 1, .slice (some ⟨w.heap.size + 1, 0, none⟩) 1 1, .slice none 0 0]
      ((w.alloc (.cells #[.int .u8 2] 5)).alloc (.cells #[.int .u8 3] 5)) fun e w' => e = .returned (.tuple #[.string ⟨#[]⟩, .bool true]) ∧ Below w.heap.size w w' := row_11n w 2 3 (by omega) (by omega)
theorem row_d (w : World) :
    Calls Tryd.prog 20 #[.slice (some ⟨w.heap.size, 0, none⟩) 1 1, .slice (some ⟨w.heap.size + 1, 0, none⟩) 1 1, .slice (some ⟨w.heap.size + 1 + 1, 0, none⟩) 2 2]
      (((w.alloc (.cells #[.int .u8 2] 5)).alloc (.cells #[.int .u8 9] 5)).alloc (.cells #[.int .u8 1, .int .u8 0] 5)) fun e w' => e = .returned (.tuple #[.string ⟨#[0, 0]⟩, .bool true]) ∧ Below w.heap.size w w' := by
  have h := row_112 w 2 9 1 0 (by omega) (by omega) (by omega) (by omega)
  rw [tx_d] at h
  exact h
theorem row_long (w : World) (cs : Array Value) :
    Calls Tryd.prog 9 #[.slice (some ⟨w.heap.size, 0, none⟩) 129 129, .slice none 0 0, .slice none 0 0] (w.alloc (.cells cs 5)) fun e w' => e = .returned (.tuple #[.slice none 0 0, .int .i64 3]) ∧ Below w.heap.size w w' := by
  refine (power_long _ _ _ 129 129 0 0 0 0 _ (by decide)).mono ?_
  rintro e w1 ⟨rfl, hb⟩
  exact ⟨rfl, (balloc (Below.refl w.heap.size w) _).trans (hb.mono (by rw [World.size_alloc]; omega))⟩
end Go.Proofs.YtjkniebedgiclaaDoor
