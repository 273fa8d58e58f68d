/- split: told with each of its two methods. -/
import Derived.Test.YthdapmceafnhgaaSe
import Derived.Test.YthdapmceafnhgaaWx
namespace Go.Proofs.Ythdapmceafnhgaa
open Go.RowKit
attribute [local go_sem] ix0 ix1 ix2 ix3
abbrev Z4 : Array Value := #[.int .u64 0, .int .u64 0, .int .u64 0, .int .u64 0]

theorem told_quot (q r : Nat) (w : World) :
    Calls Try.prog 23 #[WL q r, .func (.func 25) #[] #[]] w fun e w' => e = .returned (W q) ∧ Below w.heap.size w w' := by
  have HR := Lib.hid (Blk.newS w (.cells #[.int .u64 (lb q 0), .int .u64 (lb q 1), .int .u64 (lb q 2), .int .u64 (lb q 3), .int .u64 (lb r 0), .int .u64 (lb r 1), .int .u64 (lb r 2), .int .u64 (lb r 3)] 51) 24 Z4)
  go_enter Try.func23, Try.ntmps23
  go_wp2_with (first | (go_at_call 25; refine (quot_any q r _).mono ?_; rintro e w1 ⟨rfl, hk⟩; have hr2 := HR.out.keep hk; have hB2 := bstep (balloc (balloc (Below.refl _ _) _) _) hk; have r0 := cell_of_row w1 _ 0 _ _ _ hr2; have f0 := frozen_of_row w1 _ 0 _ _ hr2; have r1 := cell_of_row w1 _ 1 _ _ _ hr2; have f1 := frozen_of_row w1 _ 1 _ _ hr2; have r2 := cell_of_row w1 _ 2 _ _ _ hr2; have f2 := frozen_of_row w1 _ 2 _ _ hr2; have r3 := cell_of_row w1 _ 3 _ _ _ hr2; have f3 := frozen_of_row w1 _ 3 _ _ hr2; clear hr2) | fail)
  exact bodyPost_ret (v := W q) (by simp [results, Try.results23, go_sem, r0, r1, r2, r3]) rfl ⟨rfl, (((hB2.setCell (p := ⟨w.heap.size + 1, 0, none⟩) (by simp) _).setCell (p := ⟨w.heap.size + 1, 1, none⟩) (by simp) _).setCell (p := ⟨w.heap.size + 1, 2, none⟩) (by simp) _).setCell (p := ⟨w.heap.size + 1, 3, none⟩) (by simp) _⟩

theorem told_rest (q r : Nat) (w : World) :
    Calls Try.prog 23 #[WL q r, .func (.func 26) #[] #[]] w fun e w' => e = .returned (W r) ∧ Below w.heap.size w w' := by
  have HR := Lib.hid (Blk.newS w (.cells #[.int .u64 (lb q 0), .int .u64 (lb q 1), .int .u64 (lb q 2), .int .u64 (lb q 3), .int .u64 (lb r 0), .int .u64 (lb r 1), .int .u64 (lb r 2), .int .u64 (lb r 3)] 51) 24 Z4)
  go_enter Try.func23, Try.ntmps23
  go_wp2_with (first | (go_at_call 26; refine (rest_any q r _).mono ?_; rintro e w1 ⟨rfl, hk⟩; have hr2 := HR.out.keep hk; have hB2 := bstep (balloc (balloc (Below.refl _ _) _) _) hk; have r0 := cell_of_row w1 _ 0 _ _ _ hr2; have f0 := frozen_of_row w1 _ 0 _ _ hr2; have r1 := cell_of_row w1 _ 1 _ _ _ hr2; have f1 := frozen_of_row w1 _ 1 _ _ hr2; have r2 := cell_of_row w1 _ 2 _ _ _ hr2; have f2 := frozen_of_row w1 _ 2 _ _ hr2; have r3 := cell_of_row w1 _ 3 _ _ _ hr2; have f3 := frozen_of_row w1 _ 3 _ _ hr2; clear hr2) | fail)
  exact bodyPost_ret (v := W r) (by simp [results, Try.results23, go_sem, r0, r1, r2, r3]) rfl ⟨rfl, (((hB2.setCell (p := ⟨w.heap.size + 1, 0, none⟩) (by simp) _).setCell (p := ⟨w.heap.size + 1, 1, none⟩) (by simp) _).setCell (p := ⟨w.heap.size + 1, 2, none⟩) (by simp) _).setCell (p := ⟨w.heap.size + 1, 3, none⟩) (by simp) _⟩
end Go.Proofs.Ythdapmceafnhgaa
